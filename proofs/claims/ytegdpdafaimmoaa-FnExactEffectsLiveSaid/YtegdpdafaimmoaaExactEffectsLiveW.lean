/- The law FnExactEffectsLive, walked: true at whatever effects lie in memory. -/
import Derived.Test.YtegdpdafaimmoaaEff14
namespace Go.Proofs.Ytegdpdafaimmoaa
open Go.Joins Go.ChangeShapes Go.WideShapes Go.ChangeAt Go.RowKit Go.Deep
set_option linter.unusedVariables false
set_option linter.unusedSimpArgs false

theorem szEfs_all {xs : List Ef} {b : Int} (h : szEfs xs ≤ b) : ∀ x ∈ xs, (x.pl.length : Int) ≤ b := fun x hx => by
  have := szEfs_mem hx
  unfold szE at this
  omega
theorem totEs_le : ∀ xs : List Ef, (totEs xs : Int) = xs.length + 2 * szEfs xs
  | [] => rfl
  | x :: xs => by
    have := totEs_le xs
    simp only [totEs, szEfs, wE, szE, List.length_cons]
    omega
theorem totPs_le : ∀ {ps : List (List Sl)}, (∀ p ∈ ps, p.length ≤ 20) → totPs ps ≤ 40 * ps.length
  | [], _ => by simp [totPs]
  | p :: ps, h => by
    have h1 := totPs_le (ps := ps) (fun q hq => h q (List.mem_cons_of_mem _ hq))
    have h2 := h p (List.mem_cons_self ..)
    simp only [totPs, List.length_cons]
    omega
theorem markPs_mem : ∀ {xss : List (List Sl)} {k : Nat}, ∀ y ∈ markPs xss k, ∃ z ∈ xss, y.length = z.length
  | [], _, y, h => by cases h
  | x :: xs, k, y, h => by
    simp only [markPs] at h
    rcases List.mem_cons.1 h with rfl | h
    · exact ⟨x, by simp, markSl_len _ _⟩
    · obtain ⟨z, hz, e⟩ := markPs_mem y h
      exact ⟨z, List.mem_cons_of_mem _ hz, e⟩
theorem live_ok : ∀ {xs : List Ef} {k : Nat} {ps qs : List (List Sl)}, LvOk k ps → runLv ps xs = some qs → LvOk (k + xs.length) qs
  | [], k, ps, qs, h, e => by simp only [runLv] at e; injection e with e; subst e; exact h
  | x :: xs, k, ps, qs, h, e => by
    simp only [runLv] at e
    split at e
    · cases e
    · rename_i rs hs
      have := live_ok (h.step hs) e
      rw [List.length_cons, show k + (xs.length + 1) = k + 1 + xs.length by omega]
      exact this
set_option maxRecDepth 100000 in
set_option maxHeartbeats 4000000 in
theorem effects_walk (A : Option Addr) (c n : Nat) (xs : List Ef) (w : World) (hx : EfL w A xs) (hn : xs.length = n) (hl : n ≤ maxLen) :
    Calls Try.prog 3 #[.slice A n c] w fun e w' => e = .returned (.bool true) ∧ Below w.heap.size w w' := by
  have kz0 := szEffects_any A c n xs 1048576 w hx hn hl (by omega) (by omega)
  have hpos := szEfs_pos xs
  by_cases hbig : 1048576 < n + szEfs xs
  · rw [leftV_neg hbig] at kz0
    have KZ := Lib.hid kz0
    clear kz0 hx hn hl hbig hpos
    go_enter Try.func3, Try.ntmps3
    go_wp2_with fail
    refine KZ.out.mono ?_
    rintro e w1 ⟨rfl, hb⟩
    have HB1 := Lib.hid hb
    clear hb
    go_wp2_with fail
    go_ret
    exact ⟨rfl, HB1.out⟩
  rw [leftV_pos (by omega)] at kz0
  obtain ⟨z, hz'⟩ : ∃ z, (1048576 : Int) - (n + szEfs xs) = z := ⟨_, rfl⟩
  have hz0 : 0 ≤ z := by omega
  have hznn : decide (z < 0) = false := by simp; omega
  rw [hz'] at kz0
  have KZ := Lib.hid kz0
  have hn1 : n ≤ 1048576 := by omega
  have hsx : ∀ x ∈ xs, x.pl.length ≤ 1048576 := fun x hx => by have := szEfs_all (b := 1048576) (by omega) x hx; omega
  have hse : SmE xs := ⟨by omega, hsx⟩
  have htx : 1 + totEs xs ≤ 50000000 := by have := totEs_le xs; omega
  obtain ⟨ps, ok, hps, hpl, hpn⟩ : ∃ (ps : List (List Sl)) (ok : Bool), ((liveV xs = none ∧ ps = [] ∧ ok = false) ∨ (liveV xs = some ps ∧ ok = true)) ∧ (∀ p ∈ ps, p.length ≤ 20) ∧ ps.length ≤ 1048576 := by
    cases h : liveV xs with
    | none => exact ⟨[], false, .inl ⟨rfl, rfl, rfl⟩, fun p hp => by simp at hp, by simp⟩
    | some ps =>
      have h2 : runLv [] xs = some ps := by
        unfold liveV at h
        split at h
        · cases h
        · exact h
      have h3 := live_ok LvOk.nil h2
      exact ⟨ps, true, .inr ⟨rfl, rfl⟩, fun p hp => placeB_len (h3.2.2 p hp), by have := h3.2.1; omega⟩
  have hp40 := totPs_le hpl
  obtain ⟨m, hm⟩ : ∃ m, ps.length = m := ⟨_, rfl⟩
  have hty : 1 + totPs ps ≤ 50000000 := by omega
  obtain ⟨v9, hv9⟩ : ∃ v, 1 + totEs xs = v := ⟨_, rfl⟩
  obtain ⟨y9, hy9⟩ : ∃ v, 1 + totPs ps = v := ⟨_, rfl⟩
  have hp6 : ∀ p ∈ ps, p.length ≤ 1048576 := fun p hp => by have := hpl p hp; omega
  have hpx : ∀ p ∈ ps, p.length ≤ maxLen := fun p hp => by have := hpl p hp; unfold maxLen; omega
  have HSE := Lib.hid hse
  have KT := Lib.hid (fun w1 (hb : Below w.heap.size w w1) => toEffects_own A c n xs w1 (hx.below hb) hn hn1 hsx)
  have KS := Lib.hid (fun A w (h : EfN w A xs) => show Calls Try.prog 9 #[.slice A n n] w (fun e w' => ∃ B d, e = .returned (.tuple #[.slice B m d, .bool ok]) ∧ PsL w' B ps ∧ Below w.heap.size w w') from (sLive_any A n n xs w h hn hn1).mono fun e w' h => by
    obtain ⟨hb, h⟩ := h
    rcases h with ⟨h1, he⟩ | ⟨qs, b, c, L, h1, he, ho, hl, _⟩
    · rcases hps with ⟨_, e1, e2⟩ | ⟨h2, _⟩
      · exact ⟨none, 0, by rw [he, ← hm, e1, e2]; rfl, (fun h0 => by rw [e1] at h0; simp at h0), hb⟩
      · rw [h1] at h2; cases h2
    · rcases hps with ⟨h2, _, _⟩ | ⟨h2, e2⟩
      · rw [h1] at h2; cases h2
      · rw [h1] at h2
        injection h2 with h2
        subst h2
        exact ⟨_, c, by rw [he, hm, e2], hl.lies ho, hb⟩)
  have KI := Lib.hid (fun A w (h : EfN w A xs) => show Calls Try.prog 11 #[.slice A n n] w (fun e w' => ∃ B d, e = .returned (.tuple #[.slice B m d, .bool ok]) ∧ PssO w' w.heap.size w'.heap.size B d ps ∧ Below w.heap.size w w') from (iLive_any A n n xs w h hn hn1).mono fun e w' h => by
    obtain ⟨hb, h⟩ := h
    rcases h with ⟨h1, he⟩ | ⟨qs, A, c, h1, he, ho, _⟩
    · rcases hps with ⟨_, e1, e2⟩ | ⟨h2, _⟩
      · exact ⟨none, 0, by rw [he, ← hm, e1, e2]; rfl, (fun h0 => by rw [e1] at h0; simp at h0), hb⟩
      · rw [h1] at h2; cases h2
    · rcases hps with ⟨h2, _, _⟩ | ⟨h2, e2⟩
      · rw [h1] at h2; cases h2
      · rw [h1] at h2
        injection h2 with h2
        subst h2
        exact ⟨A, c, by rw [he, hm, e2], ho, hb⟩)
  have KEP := Lib.hid (fun A A' c c' w h h' => eqPlaces_same A A' c c' m ps w h h' hm (by unfold maxLen; omega) hpx)
  have KEE := Lib.hid (fun A A' c c' w h h' => eqEffects_same A A' c c' n xs w h h' hn hl)
  have KME := Lib.hid (fun lo hi A w h => show Calls Try.prog 14 #[.slice A n n, .int .i64 1] w (fun e w' => e = .returned (.int .i64 v9) ∧ EfsO w' lo hi A n (markEs xs 1) ∧ Turn lo hi w w') from by have k := markEs_own lo hi n 1 n A xs w h hn hn1 hsx htx (by omega); rw [hv9] at k; exact k)
  have KMP := Lib.hid (fun lo hi A c w h => show Calls Try.prog 15 #[.slice A m c, .int .i64 1] w (fun e w' => e = .returned (.int .i64 y9) ∧ PssO w' lo hi A c (markPs ps 1) ∧ Turn lo hi w w') from by have k := markPs_own lo hi c 1 m A ps w h hm (by omega) hp6 hty (by omega); rw [hy9] at k; exact k)
  have KHP := Lib.hid (fun A c w h => show Calls Try.prog 16 #[.slice A m c, .int .i64 1] w (fun e w' => e = .returned (.int .i64 y9) ∧ Below w.heap.size w w') from heldPs_any A c 1 m y9 ps w h hm (by omega) hp6 hty (by omega) hy9)
  clear kz0 hx hn hl hbig hpos hz' hn1 hsx hse htx hps hpl hpn hp40 hm hty hv9 hy9 hp6 hpx
  go_enter Try.func3, Try.ntmps3
  go_wp2_with fail
  refine (KZ.out).mono ?_
  rintro e w1 ⟨rfl, hb⟩
  have HX := Lib.hid hb
  clear hb
  go_wp2_with fail
  refine (KT.out w1 HX.out).mono ?_
  rintro e w2 ⟨rfl, ho, hb⟩
  replace HX := Lib.hid (more HX.out (Nat.le_refl _) hb)
  have HN1 := Lib.hid ho
  clear ho
  clear hb
  go_wp2_with fail
  refine (KS.out _ w2 (EfsO.liesN HN1.out HSE.out)).mono ?_
  rintro e w3 ⟨B, d, rfl, hp, hb⟩
  replace HX := Lib.hid (more HX.out (Nat.le_refl _) hb)
  have PW := Lib.hid hp
  have HW := Lib.hid (Below.refl w3.heap.size w3)
  have hs3 : w.heap.size ≤ w3.heap.size := HX.out.size
  clear hp HN1
  clear hb
  go_wp2_with fail
  refine (KT.out w3 HX.out).mono ?_
  rintro e w4 ⟨rfl, ho, hb⟩
  replace HX := Lib.hid (more HX.out (Nat.le_refl _) hb)
  replace HW := Lib.hid (more HW.out (Nat.le_refl _) hb)
  have HO := Lib.hid ho
  have hs4 := hb.size
  clear ho
  clear hb
  go_wp2_with fail
  refine (KI.out _ w4 (EfsO.liesN HO.out HSE.out)).mono ?_
  rintro e w5 ⟨C, f, rfl, hp, hb⟩
  replace HX := Lib.hid (more HX.out (Nat.le_refl _) hb)
  replace HW := Lib.hid (more HW.out (Nat.le_refl _) hb)
  replace HO := Lib.hid (ApR.below EfV.turn HO.out hb)
  have HG := Lib.hid hp
  have hs5 := hb.size
  clear hp
  clear hb
  go_wp2_with fail
  refine (KEP.out C B f d w5 (PssO.lies HG.out) (PW.out.below HW.out)).mono ?_
  rintro e w6 ⟨rfl, hb⟩
  replace HX := Lib.hid (more HX.out (Nat.le_refl _) hb)
  replace HW := Lib.hid (more HW.out (Nat.le_refl _) hb)
  replace HO := Lib.hid (ApR.below EfV.turn HO.out hb)
  replace HG := Lib.hid (ApR.below PlV.turn HG.out hb)
  clear hb
  go_wp2_with fail
  refine (KT.out w6 HX.out).mono ?_
  rintro e w7 ⟨rfl, ho, hb⟩
  replace HX := Lib.hid (more HX.out (Nat.le_refl _) hb)
  replace HW := Lib.hid (more HW.out (Nat.le_refl _) hb)
  replace HO := Lib.hid (ApR.below EfV.turn HO.out hb)
  replace HG := Lib.hid (ApR.below PlV.turn HG.out hb)
  have HN1 := Lib.hid ho
  clear ho
  clear hb
  go_wp2_with fail
  refine (KEE.out _ _ n n w7 (EfsO.lies HO.out HSE.out) (EfsO.lies HN1.out HSE.out)).mono ?_
  rintro e w8 ⟨rfl, hb⟩
  replace HX := Lib.hid (more HX.out (Nat.le_refl _) hb)
  replace HW := Lib.hid (more HW.out (Nat.le_refl _) hb)
  replace HO := Lib.hid (ApR.below EfV.turn HO.out hb)
  replace HG := Lib.hid (ApR.below PlV.turn HG.out hb)
  clear HN1
  clear hb
  go_wp2_with fail
  have hneg : decide ((v9 : Int) < 0) = false := by simp
  have hneg2 : decide ((y9 : Int) < 0) = false := by simp
  refine (KME.out _ _ _ w8 HO.out).mono ?_
  rintro e w9 ⟨rfl, _, ht⟩
  replace HX := Lib.hid (HX.out.trans (ht.below (by omega) HX.out.size))
  replace HW := Lib.hid (HW.out.trans (ht.below (Nat.le_refl _) HW.out.size))
  replace HG := Lib.hid (ApR.turn PlV.turn HG.out ht (.inr (Nat.le_refl _)))
  clear ht HO
  go_wp2_with fail
  refine (KEP.out C B f d w9 (PssO.lies HG.out) (PW.out.below HW.out)).mono ?_
  rintro e w10 ⟨rfl, hb⟩
  replace HX := Lib.hid (more HX.out (Nat.le_refl _) hb)
  replace HW := Lib.hid (more HW.out (Nat.le_refl _) hb)
  replace HG := Lib.hid (ApR.below PlV.turn HG.out hb)
  clear hb
  go_wp2_with fail
  refine (KMP.out _ _ C f w10 HG.out).mono ?_
  rintro e w11 ⟨rfl, hm, ht⟩
  replace HX := Lib.hid (HX.out.trans (ht.below (by omega) HX.out.size))
  replace HW := Lib.hid (HW.out.trans (ht.below (by omega) HW.out.size))
  have HM := Lib.hid hm
  clear ht HG hm
  go_wp2_with fail
  refine (KHP.out C f w11 (PssO.lies HM.out)).mono ?_
  rintro e w12 ⟨rfl, hb⟩
  replace HX := Lib.hid (more HX.out (Nat.le_refl _) hb)
  replace HW := Lib.hid (more HW.out (Nat.le_refl _) hb)
  replace HM := Lib.hid (ApR.below PlV.turn HM.out hb)
  clear hb
  go_wp2_with fail
  refine (KT.out w12 HX.out).mono ?_
  rintro e w13 ⟨rfl, ho, hb⟩
  replace HX := Lib.hid (more HX.out (Nat.le_refl _) hb)
  replace HW := Lib.hid (more HW.out (Nat.le_refl _) hb)
  replace HM := Lib.hid (ApR.below PlV.turn HM.out hb)
  have HN1 := Lib.hid ho
  clear ho
  clear hb
  go_wp2_with fail
  refine (KI.out _ w13 (EfsO.liesN HN1.out HSE.out)).mono ?_
  rintro e w14 ⟨C2, f2, rfl, hp, hb⟩
  replace HX := Lib.hid (more HX.out (Nat.le_refl _) hb)
  replace HW := Lib.hid (more HW.out (Nat.le_refl _) hb)
  replace HM := Lib.hid (ApR.below PlV.turn HM.out hb)
  have HH := Lib.hid hp
  clear hp HN1
  clear hb
  go_wp2_with fail
  refine (KEP.out C2 B f2 d w14 (PssO.lies HH.out) (PW.out.below HW.out)).mono ?_
  rintro e w15 ⟨rfl, hb⟩
  replace HX := Lib.hid (more HX.out (Nat.le_refl _) hb)
  replace HW := Lib.hid (more HW.out (Nat.le_refl _) hb)
  replace HM := Lib.hid (ApR.below PlV.turn HM.out hb)
  clear hb
  go_wp2_with fail
  refine (KHP.out C f w15 (PssO.lies HM.out)).mono ?_
  rintro e w16 ⟨rfl, hb⟩
  replace HX := Lib.hid (more HX.out (Nat.le_refl _) hb)
  clear hb
  go_wp2_with fail
  go_ret
  exact ⟨rfl, HX.out⟩
end Go.Proofs.Ytegdpdafaimmoaa
