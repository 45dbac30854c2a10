/- The document's EffectsLive. -/
import Derived.Test.YtegdpdafaimmoaaEff6
namespace Go.Proofs.Ytegdpdafaimmoaa
open Go.Joins Go.ChangeShapes Go.WideShapes Go.ChangeAt Go.RowKit Go.Deep
set_option linter.unusedVariables false
set_option linter.unusedSimpArgs false

theorem runLv_none {ps : List (List Sl)} {x : Ef} {xs : List Ef} (h : stepLv ps x = none) : runLv ps (x :: xs) = none := by simp [runLv, h]
theorem runLv_some {ps qs : List (List Sl)} {x : Ef} {xs : List Ef} (h : stepLv ps x = some qs) : runLv ps (x :: xs) = runLv qs xs := by simp [runLv, h]
theorem lie_cellsA {w : World} {ad : Addr} {p : List Sl} (h : SlL w (some ad) p) : ∀ w', Below w.heap.size w w' → ∀ j u, (p.flatMap Sl.cells)[j]? = some u → w'.cell? (ad.add j) = some u := fun w' hb j u hu => by
  cases p with
  | nil => simp at hu
  | cons y ys =>
    obtain ⟨a2, e, hc⟩ := lie_cells (by omega : 0 < 2) (fun x => (rfl : (Sl.cells x).length = 2)) h (by simp)
    injection e with e
    subst e
    exact hc w' hb j u hu
theorem LvW.ones {w : World} {lo : Nat} {L : List Value} {ps : List (List Sl)} (h : LvW w lo L ps) : ∀ u ∈ L, u.oneCell' = true := fun u hu => by
  obtain ⟨i, hi⟩ := List.getElem?_of_mem hu
  obtain ⟨p, hp⟩ := at_some (show i < ps.length by rw [← h.1]; exact (List.getElem?_eq_some_iff.1 hi).1)
  obtain ⟨b, c, e, _⟩ := h.2 i p hp
  rw [hi] at e
  injection e with e
  subst e
  rfl
/-- What EffectsLive answers. -/
def LvX (r : Option (List (List Sl))) (w : World) (e : Ending) (w' : World) : Prop :=
  Below w.heap.size w w' ∧ ((r = none ∧ e = .returned (.tuple #[.slice none 0 0, .bool false])) ∨ ∃ ps b c L, r = some ps ∧ e = .returned (.tuple #[.slice (some ⟨b, 0, none⟩) ps.length c, .bool true]) ∧ OwnP w' w.heap.size b c ps.length L ∧ LvW w' w.heap.size L ps ∧ LvOk 400 ps)
theorem LvX.none_ {r : Option (List (List Sl))} {w w' : World} (h : r = none) (hb : Below w.heap.size w w') : LvX r w (.returned (.tuple #[.slice none 0 0, .bool false])) w' := ⟨hb, .inl ⟨h, rfl⟩⟩
set_option maxRecDepth 100000 in
set_option maxHeartbeats 2000000 in
theorem sLive_any (A : Option Addr) (c n : Nat) (xs : List Ef) (w : World) (hx : EfN w A xs) (hn : xs.length = n) (hl : n ≤ 1048576) :
    Calls Try.prog 9 #[.slice A n c] w (LvX (liveV xs) w) := by
  obtain ⟨r, hr⟩ : ∃ r, liveV xs = r := ⟨_, rfl⟩
  have HN := Lib.hid hn
  have HX := Lib.hid hx
  rw [hr]
  by_cases h4 : 400 < n
  · have hd : decide (400 < (n : Int)) = true := by simp; omega
    have HV := Lib.hid (show r = none by rw [← hr]; unfold liveV; rw [if_pos (by rw [hn]; exact h4)])
    clear hx hn hr
    go_enter Try.func9, Try.ntmps9
    go_wp2_with fail
    refine bodyPost_ret (v := .tuple #[.slice none 0 0, .bool false]) (by simp [results, Try.results9, go_sem, *]) rfl (LvX.none_ HV.out (by go_grown))
  · have hd : decide (400 < (n : Int)) = false := by simp; omega
    have HRR := Lib.hid hr
    have HL0 := Lib.hid (show liveV xs = runLv [] xs by unfold liveV; rw [if_neg (by rw [hn]; exact h4)])
    have HE := Lib.hid (OwnP.none_ w (base := w.heap.size) (Nat.le_refl _))
    have HB0 := Lib.hid (Below.alloc (Below.refl w.heap.size w) (Nat.le_refl _) (.cells #[] 37))
    have h400 : n ≤ 400 := by omega
    clear hx hn hr h4
    go_enter Try.func9, Try.ntmps9
    go_wp2_with fail
    go_loopw [4, 5] (fun v i wr => ∃ (k b c m : Nat) (L : List Value) (ps : List (List Sl)), k ≤ n ∧ m ≤ k ∧ v = .slice (some ⟨b, 0, none⟩) m c ∧ i = .int .i64 k ∧ Hid (ps.length = m) ∧ Hid (OwnP wr w.heap.size b c m L) ∧ Hid (LvW wr w.heap.size L ps) ∧ Hid (Below w.heap.size w wr) ∧ Hid (LvOk k ps) ∧ Hid (liveV xs = runLv ps (xs.drop k))) (fun _ i _ => n - (intOf i).toNat)
    case atStart => exact ⟨0, w.heap.size, 0, 0, [], [], by omega, by omega, rfl, rfl, Lib.hid rfl, HE, Lib.hid (LvW.nil _ _), HB0, Lib.hid LvOk.nil, HL0⟩
    case round =>
      obtain ⟨k, b, c2, m, L, ps, hk, hmk, rfl, rfl, HM, HO, HW, HB, HK, HR⟩ := hrel
      by_cases hlt : k < n
      · obtain ⟨b', off, rfl, hblt, hcell⟩ := (HX.out.below HB.out) (by have := HN.out; omega)
        obtain ⟨x, hx⟩ := at_some (show k < xs.length by rw [HN.out]; exact hlt)
        obtain ⟨ad, c0, e0, e1, hat, _, hm0⟩ := hcell k x hx
        have HR2 := Lib.hid (HR.out.trans (congrArg (runLv ps) (drop_cons hx)))
        have hi1 : (0 : Int) ≤ (k : Int) := by omega
        have hi2 : (k : Int) < (n : Int) := by omega
        have hls : ∀ p ∈ ps, p.length ≤ maxLen := fun p hp => by have := placeB_len (HK.out.2.2 p hp); unfold maxLen; omega
        have k1 := slotsAt_any (some ⟨b, 0, none⟩) (some ad) c2 c0 m ps x.pl wr (HW.out.lies HO.out) hat HM.out (by omega) hls hm0
        have k2 := fun w h => vplace_any (some ad) c0 x.pl w h hm0
        have k3 := fun w => inRange_any x.k 0 2 w
        have HAT := Lib.hid hat
        obtain ⟨xk, hxk⟩ : ∃ v, x.k = v := ⟨_, rfl⟩
        obtain ⟨u, hu⟩ : ∃ v, x.pl.length = v := ⟨_, rfl⟩
        obtain ⟨z, hz⟩ : ∃ v, posP x.pl ps 0 = v := ⟨_, rfl⟩
        have HU := Lib.hid hu
        rw [hxk] at e0 k3
        rw [hu] at e1 k1 k2
        rw [hz] at k1
        by_cases hp : placeB x.pl = true
        · rw [hp] at k2
          have hpl := placeB_len hp
          have HPL := Lib.hid (show u ≤ 20 by rw [← hu]; exact hpl)
          by_cases h1 : xk = 1
          · subst h1
            rw [show decide ((0 : Int) ≤ 1 ∧ (1 : Int) ≤ 2) = true from by decide] at k3
            by_cases hmem : x.pl ∈ ps
            · obtain ⟨j, hj1, hjl, hj2⟩ := posP_in (k := 0) hmem HK.out.1
              have hz2 : z = (j : Int) := by rw [← hz, hj1, Nat.zero_add]
              subst hz2
              have hge : decide ((0 : Int) ≤ (j : Int)) = true := by simp
              have HJ2 := Lib.hid hj2
              have hjm : j < m := by rw [← HM.out]; exact hjl
              have HV := Lib.hid (HR2.out.trans (runLv_none (by unfold stepLv; simp [hp, hxk, hmem])))
              have K1 := Lib.hid k1
              have K2 := Lib.hid k2
              have K3 := Lib.hid k3
              clear k1 k2 k3 hx hcell hat hls hm0 HR HR2 hz hp hu hxk hpl hmem hj1 hjl hj2
              go_wp2_with fail
              refine K1.out.mono ?_
              rintro e w2 ⟨rfl, hb⟩
              have HB2 := Lib.hid (more HB.out (Nat.le_refl _) hb)
              replace e0 := (hb.cell (p := ⟨b', _, none⟩) hblt).trans e0
              replace e1 := (hb.cell (p := ⟨b', _, none⟩) hblt).trans e1
              have hblt2 := Nat.lt_of_lt_of_le hblt hb.size
              have HAT2 := Lib.hid (HAT.out.below hb)
              clear hb
              go_wp2_with fail
              refine (K2.out _ HAT2.out).mono ?_
              rintro e w3 ⟨rfl, hb⟩
              have HB3 := Lib.hid (more HB2.out (Nat.le_refl _) hb)
              replace e0 := (hb.cell (p := ⟨b', _, none⟩) hblt2).trans e0
              replace e1 := (hb.cell (p := ⟨b', _, none⟩) hblt2).trans e1
              have hblt3 := Nat.lt_of_lt_of_le hblt2 hb.size
              have HAT3 := Lib.hid (HAT2.out.below hb)
              clear hb
              go_wp2_with fail
              refine (K3.out _).mono ?_
              rintro e w4 ⟨rfl, rfl⟩
              go_wp2_with fail
              refine bodyPost_ret (v := .tuple #[.slice none 0 0, .bool false]) (by simp [results, Try.results9, go_sem, *]) rfl (LvX.none_ (HRR.out.symm.trans HV.out) HB3.out)
            · have hz2 : z = -1 := by rw [← hz]; exact posP_out hmem
              subst hz2
              have HST := Lib.hid (show stepLv ps x = some (ps ++ [x.pl]) by unfold stepLv; simp [hp, hxk, hmem])
              have HV := Lib.hid (HR2.out.trans (runLv_some HST.out))
              have HK2 := Lib.hid (HK.out.step HST.out)
              have K1 := Lib.hid k1
              have K2 := Lib.hid k2
              have K3 := Lib.hid k3
              clear k1 k2 k3 hx hcell hat hls hm0 HR HR2 hz hp hu hxk hpl hmem
              go_wp2_with fail
              refine K1.out.mono ?_
              rintro e w2 ⟨rfl, hb⟩
              have HB2 := Lib.hid (more HB.out (Nat.le_refl _) hb)
              replace e0 := (hb.cell (p := ⟨b', _, none⟩) hblt).trans e0
              replace e1 := (hb.cell (p := ⟨b', _, none⟩) hblt).trans e1
              have hblt2 := Nat.lt_of_lt_of_le hblt hb.size
              have HAT2 := Lib.hid (HAT.out.below hb)
              have HO2 := Lib.hid (ownsRow_below HO.out hb)
              have HW2 := Lib.hid (HW.out.below hb)
              clear hb
              go_wp2_with fail
              refine (K2.out _ HAT2.out).mono ?_
              rintro e w3 ⟨rfl, hb⟩
              have HB3 := Lib.hid (more HB2.out (Nat.le_refl _) hb)
              replace e0 := (hb.cell (p := ⟨b', _, none⟩) hblt2).trans e0
              replace e1 := (hb.cell (p := ⟨b', _, none⟩) hblt2).trans e1
              have hblt3 := Nat.lt_of_lt_of_le hblt2 hb.size
              have HAT3 := Lib.hid (HAT2.out.below hb)
              have HO3 := Lib.hid (ownsRow_below HO2.out hb)
              have HW3 := Lib.hid (HW2.out.below hb)
              clear hb
              go_wp2_with fail
              refine (K3.out _).mono ?_
              rintro e w4 ⟨rfl, rfl⟩
              have HZ3 := Lib.hid (Below.alloc (Below.refl w3.heap.size w3) (Nat.le_refl _) (.cells #[] 65))
              have HOS := Lib.hid (OwnS.none_ w3 (base := w.heap.size) HB3.out.size)
              have HN2 := Lib.hid (lie_cellsA HAT3.out)
              have HFL := Lib.hid (show (x.pl.flatMap Sl.cells).length = u * 2 by rw [flat_lenG (c := Sl.cells) (m := 2) (fun _ => rfl), HU.out])
              go_wp2_with (first | (at_builtin; refine wp_cloneSl rfl (.tmp 59) (.tmp 64) rfl w.heap.size w3.heap.size u c0 rfl HOS.out ad (x.pl.flatMap Sl.cells) rfl HFL.out (HN2.out _ HZ3.out) (sl_one _) (by have := HPL.out; omega) (by have := HZ3.out.size; have := HB3.out.size; omega) ?_; intro b3 c3 w5 ho5 hg5; have HOS5 := Lib.hid ho5; have HB5 := Lib.hid (HZ3.out.grown hg5 HZ3.out.size (fun kk hkk => by injection hkk with hkk; omega)); clear ho5 hg5; have HA5 := Lib.hid (HB5.out.trans ((Below.alloc (Below.refl w5.heap.size w5) (Nat.le_refl _) (.cells #[.slice (some ⟨b3, 0, none⟩) u c3] 37)).mono HB5.out.size)); have HO6 := Lib.hid (ownsRow_below HO3.out HA5.out); have HW6 := Lib.hid (HW3.out.below HA5.out); have HP6 := Lib.hid (show OwnS _ w.heap.size b3 c3 x.pl by unfold OwnS; rw [HU.out]; exact World.ownsRow.alloc HOS5.out (.cells #[.slice (some ⟨b3, 0, none⟩) u c3] 37)); have HB6 := Lib.hid (more HB3.out (Nat.le_refl _) HA5.out); have HNW := Lib.hid (World.news_of_block (cs := #[.slice (some ⟨b3, 0, none⟩) u c3]) (t := 37) (fr := (0, 0)) (heap_alloc_new w5 _))) | (at_builtin; refine wp_append_pls rfl (.tmp 58) (.tmp 66) rfl w.heap.size b c2 m L rfl HO6.out ⟨w5.heap.size, 0, none⟩ 1 1 [.slice (some ⟨b3, 0, none⟩) u c3] rfl rfl HNW.out (fun v hv => by simp at hv; subst hv; rfl) (by omega) HB6.out.size ?_; intro b7 c7 w7 ho7 hg7 HAT7; have HO7 := Lib.hid ho7; have HW7 := Lib.hid ((HW6.out.grown hg7 HO6.out).append (LvW.one (show OwnS w7 w.heap.size b3 c3 x.pl from World.ownsRow.kept HP6.out hg7 (.inr (by simpa [Value.ownBlock] using row_ne HP6.out HO6.out (by decide)))))); have HB7 := Lib.hid (HB6.out.grown hg7 HB6.out.size (fun kk hkk => by injection hkk with hkk; have := (World.ownsRow.lt HO6.out b rfl).1; omega)); clear ho7 hg7))
              go_roundw
              case rel => exact ⟨k + 1, b7, c7, m + 1, _, _, by omega, by omega, rfl, by go_num, Lib.hid (by rw [List.length_append, HM.out]; rfl), HO7, Lib.hid (by have h := HW7.out; rw [HU.out] at h; exact h), HB7, HK2, HV⟩
              case measure => simp [intOf]; omega
          · by_cases h0 : xk = 0
            · subst h0
              rw [show decide ((0 : Int) ≤ 0 ∧ (0 : Int) ≤ 2) = true from by decide] at k3
              by_cases hmem : x.pl ∈ ps
              · obtain ⟨j, hj1, hjl, hj2⟩ := posP_in (k := 0) hmem HK.out.1
                have hz2 : z = (j : Int) := by rw [← hz, hj1, Nat.zero_add]
                subst hz2
                have hge : decide ((0 : Int) ≤ (j : Int)) = true := by simp
                have HJ2 := Lib.hid hj2
                have hjm : j < m := by rw [← HM.out]; exact hjl
                have HST := Lib.hid (show stepLv ps x = some (outV x.pl ps) by unfold stepLv; simp [hp, hxk, hmem])
                have HV := Lib.hid (HR2.out.trans (runLv_some HST.out))
                have HK2 := Lib.hid (HK.out.step HST.out)
                have K1 := Lib.hid k1
                have K2 := Lib.hid k2
                have K3 := Lib.hid k3
                clear k1 k2 k3 hx hcell hat hls hm0 HR HR2 hz hp hu hxk hpl hmem hj1 hjl hj2
                go_wp2_with fail
                refine K1.out.mono ?_
                rintro e w2 ⟨rfl, hb⟩
                have HB2 := Lib.hid (more HB.out (Nat.le_refl _) hb)
                replace e0 := (hb.cell (p := ⟨b', _, none⟩) hblt).trans e0
                replace e1 := (hb.cell (p := ⟨b', _, none⟩) hblt).trans e1
                have hblt2 := Nat.lt_of_lt_of_le hblt hb.size
                have HAT2 := Lib.hid (HAT.out.below hb)
                have HO2 := Lib.hid (ownsRow_below HO.out hb)
                have HW2 := Lib.hid (HW.out.below hb)
                clear hb
                go_wp2_with fail
                refine (K2.out _ HAT2.out).mono ?_
                rintro e w3 ⟨rfl, hb⟩
                have HB3 := Lib.hid (more HB2.out (Nat.le_refl _) hb)
                replace e0 := (hb.cell (p := ⟨b', _, none⟩) hblt2).trans e0
                replace e1 := (hb.cell (p := ⟨b', _, none⟩) hblt2).trans e1
                have hblt3 := Nat.lt_of_lt_of_le hblt2 hb.size
                have HAT3 := Lib.hid (HAT2.out.below hb)
                have HO3 := Lib.hid (ownsRow_below HO2.out hb)
                have HW3 := Lib.hid (HW2.out.below hb)
                clear hb
                go_wp2_with fail
                refine (K3.out _).mono ?_
                rintro e w4 ⟨rfl, rfl⟩
                go_wp2_with fail
                obtain ⟨wd, hwd⟩ : ∃ wd, w3.drew = wd := ⟨_, rfl⟩
                have hbd : Below w3.heap.size w3 wd := by rw [← hwd]; exact Below.drew (Below.refl _ _)
                have HOD := Lib.hid (ownsRow_below HO3.out hbd)
                have HWD := Lib.hid (HW3.out.below hbd)
                have HBD := Lib.hid (more HB3.out (Nat.le_refl _) hbd)
                have hcap := row_cap HO3.out
                have hjc : j ≤ c2 := by omega
                have hw1 : IntKind.i64.wrap ((j : Int) + 1) = (j : Int) + 1 := IntWalk.i64_in _ (by omega)
                have ht1 : ((j : Int) + 1).toNat = j + 1 := by omega
                obtain ⟨ad2, hAD, hAD2⟩ : ∃ ad2 : Addr, (if c2 = j + 1 then some (⟨b, 0, none⟩ : Addr) else some ⟨b, j + 1, none⟩) = some ad2 ∧ (c2 ≠ j + 1 → ad2 = ⟨b, j + 1, none⟩) := by
                  by_cases hc : c2 = j + 1
                  · exact ⟨_, if_pos hc, fun h => absurd hc h⟩
                  · exact ⟨_, if_neg hc, fun _ => rfl⟩
                have HAD2 := Lib.hid hAD2
                have hbl : b < wd.heap.size := (World.ownsRow.lt HOD.out b rfl).2
                have HLm := Lib.hid (show L.length = m by have h : L.length = m * 1 := HOD.out.1; omega)
                have HONE := Lib.hid HW3.out.ones
                clear hbd hAD2
                refine wp_region_held_drew (S := fun w' => ∀ (jj : Nat) (v : Value), L[jj]? = some v → w'.cell? ⟨b, jj, none⟩ = some v) (by kernel_rfl) ?_ (fun hHeld => ?_)
                · rw [hwd]
                  intro jj v hv
                  exact (HOD.out.cellAt jj (by have h : L.length = m * 1 := HO3.out.1; have h5 := (List.getElem?_eq_some_iff.1 hv).1; omega)).trans hv
                rw [hwd] at hHeld ⊢
                clear hwd
                refine wpAnyH_take (i := 1) (oi := _) (v := ?_) rfl (by kernel_rfl) (by kernel_rfl) (by kernel_rfl) (fun _ _ _ h => h) (Or.inl ⟨by kernel_rfl, ?_⟩) (by assumption) ?_
                rotate_left
                · (intro w hSw; (try dsimp only at hSw); go_simp)
                  try with_reducible rfl
                (try simp only [Act.put, List.getElem_toArray, List.getElem_cons_zero, List.getElem_cons_succ, List.setIfInBounds_toArray, List.set_cons_zero, List.set_cons_succ])
                refine wpAnyH_take (i := 2) (oi := _) (v := ?_) rfl (by kernel_rfl) (by kernel_rfl) (by kernel_rfl) (fun _ _ _ h => h) (Or.inl ⟨by kernel_rfl, ?_⟩) (by assumption) ?_
                rotate_left
                · (intro w hSw; (try dsimp only at hSw); go_simp)
                  try with_reducible rfl
                (try simp only [Act.put, List.getElem_toArray, List.getElem_cons_zero, List.getElem_cons_succ, List.setIfInBounds_toArray, List.set_cons_zero, List.set_cons_succ])
                refine wpAnyH_take (i := 3) (oi := _) (v := ?_) rfl (by kernel_rfl) (by kernel_rfl) (by kernel_rfl) (fun _ _ _ h => h) (Or.inl ⟨by kernel_rfl, ?_⟩) (by assumption) ?_
                rotate_left
                · (intro w hSw; (try dsimp only at hSw); go_simp)
                  try rfl
                (try simp only [Act.put, List.getElem_toArray, List.getElem_cons_zero, List.getElem_cons_succ, List.setIfInBounds_toArray, List.set_cons_zero, List.set_cons_succ])
                refine wpAnyH_take (i := 5) (oi := _) (v := ?_) rfl (by kernel_rfl) (by kernel_rfl) (by kernel_rfl) (fun _ _ _ h => h) (Or.inl ⟨by kernel_rfl, ?_⟩) (by assumption) ?_
                rotate_left
                · (intro w hSw; (try dsimp only at hSw); go_simp)
                  try with_reducible rfl
                (try simp only [Act.put, List.getElem_toArray, List.getElem_cons_zero, List.getElem_cons_succ, List.setIfInBounds_toArray, List.set_cons_zero, List.set_cons_succ])
                refine wpAnyH_take (i := 6) (oi := _) (v := ?_) rfl (by kernel_rfl) (by kernel_rfl) (by kernel_rfl) (fun _ _ _ h => h) (Or.inl ⟨by kernel_rfl, ?_⟩) (by assumption) ?_
                rotate_left
                · (intro w hSw; (try dsimp only at hSw); go_simp)
                  try with_reducible rfl
                (try simp only [Act.put, List.getElem_toArray, List.getElem_cons_zero, List.getElem_cons_succ, List.setIfInBounds_toArray, List.set_cons_zero, List.set_cons_succ])
                refine wpAnyH_take (i := 7) (oi := _) (v := ?_) rfl (by kernel_rfl) (by kernel_rfl) (by kernel_rfl) (fun _ _ _ h => h) (Or.inl ⟨by kernel_rfl, ?_⟩) (by assumption) ?_
                rotate_left
                · (intro w hSw; (try dsimp only at hSw); go_simp)
                  try with_reducible rfl
                (try simp only [Act.put, List.getElem_toArray, List.getElem_cons_zero, List.getElem_cons_succ, List.setIfInBounds_toArray, List.set_cons_zero, List.set_cons_succ])
                refine wpAnyH_take (i := 8) (oi := _) (v := ?_) rfl (by kernel_rfl) (by kernel_rfl) (by kernel_rfl) (fun _ _ _ h => h) (Or.inl ⟨by kernel_rfl, ?_⟩) (by assumption) ?_
                rotate_left
                · (intro w hSw; (try dsimp only at hSw); go_simp)
                  rw [if_pos (by omega)]
                (try simp only [Act.put, List.getElem_toArray, List.getElem_cons_zero, List.getElem_cons_succ, List.setIfInBounds_toArray, List.set_cons_zero, List.set_cons_succ])
                refine wpAnyH_ready (rs := [0]) (by kernel_rfl) (by simp) ?_
                refine AllReadyH.cons (o := _) rfl (fun K hK => ?_) AllReadyH.nil
                go_simp
                have hba := Below.alloc (Below.refl wd.heap.size wd) (Nat.le_refl _) (.cells #[] 37)
                refine hK.out _ _ (fun jj v hv => (hba.cell (p := ⟨b, jj, none⟩) hbl).trans (hHeld jj v hv)) (fun hHeld2 => ?_)
                have r0 := OwnP.none_ wd (base := w.heap.size) HBD.out.size
                obtain ⟨v1, hv1⟩ : ∃ v, wd.alloc (.cells #[] 37) = v := ⟨_, rfl⟩
                rw [hv1] at hba r0 hHeld2 ⊢
                have R0 := Lib.hid r0
                have HW1 := Lib.hid (HWD.out.below hba)
                have HB1 := Lib.hid hba
                have hs1 := hba.size
                clear hba r0 hv1
                clear hK K hHeld
                have hHeld := hHeld2
                clear hHeld2
                (try simp only [Act.put, List.getElem_toArray, List.getElem_cons_zero, List.getElem_cons_succ, List.setIfInBounds_toArray, List.set_cons_zero, List.set_cons_succ])
                refine wpAnyH_ready (rs := [4]) (by kernel_rfl) (by simp) ?_
                refine AllReadyH.cons (o := _) rfl (fun K hK => ?_) AllReadyH.nil
                refine step_append_pls (by rfl) (.tmp 70) (.tmp 73) (by rfl) w.heap.size wd.heap.size 0 0 [] (by rfl) R0.out ⟨b, 0, none⟩ c2 j (L.take j) (by rfl) (by rw [List.length_take]; have := HLm.out; omega) (fun i v hv => ?_) (fun v hv => HONE.out v (List.mem_of_mem_take hv)) (by omega) (by have := HBD.out.size; omega) ?_
                · rw [Addr.add_lit, Nat.zero_add]
                  rw [List.getElem?_take] at hv
                  split at hv
                  · exact hHeld i v hv
                  · cases hv
                intro b5 c5 v2 ho5 hg5 hat5
                have hb2 : Below wd.heap.size v1 v2 := (Below.refl wd.heap.size v1).grown hg5 hs1 (fun kk hkk => by injection hkk with hkk; omega)
                rw [Nat.zero_add, List.nil_append] at ho5
                refine hK.out _ _ (fun jj v hv => (hb2.cell (p := ⟨b, jj, none⟩) hbl).trans (hHeld jj v hv)) (fun hHeld2 => ?_)
                have R5 := Lib.hid ho5
                have hb5 : wd.heap.size ≤ b5 := by omega
                have HW2b := Lib.hid (HW1.out.grown hg5 R0.out)
                have HB2b := Lib.hid (HB1.out.trans hb2)
                have hs2 := hb2.size
                rw [Nat.zero_add] at *
                clear hb2 ho5 hg5 hat5
                clear hK K hHeld
                have hHeld := hHeld2
                clear hHeld2
                (try simp only [Act.put, List.getElem_toArray, List.getElem_cons_zero, List.getElem_cons_succ, List.setIfInBounds_toArray, List.set_cons_zero, List.set_cons_succ])
                refine wpAnyH_ready (rs := [9]) (by kernel_rfl) (by simp) ?_
                refine AllReadyH.cons (o := _) rfl (fun K hK => ?_) AllReadyH.nil
                refine step_append_pls (by rfl) (.tmp 74) (.tmp 78) (by rfl) w.heap.size b5 c5 j (L.take j) (by rfl) R5.out ad2 (c2 - (j + 1)) (m - (j + 1)) (L.drop (j + 1)) (by rfl) (by rw [List.length_drop]; have := HLm.out; omega) (fun i v hv => ?_) (fun v hv => HONE.out v (List.mem_of_mem_drop hv)) (by omega) (by have := HBD.out.size; omega) ?_
                · rw [List.getElem?_drop] at hv
                  have := (List.getElem?_eq_some_iff.1 hv).1
                  rw [HAD2.out (by have := HLm.out; omega), Addr.add_lit]
                  exact hHeld _ v hv
                intro b6 c6 v3 ho6 hg6 hat6
                have hb3 : Below wd.heap.size v2 v3 := (Below.refl wd.heap.size v2).grown hg6 (by omega) (fun kk hkk => by injection hkk with hkk; omega)
                refine hK.out _ _ (fun jj v hv => (hb3.cell (p := ⟨b, jj, none⟩) hbl).trans (hHeld jj v hv)) (fun hHeld2 => ?_)
                have R6 := Lib.hid ho6
                have HW6 := Lib.hid (HW2b.out.grown hg6 R5.out)
                have HB6 := Lib.hid (more HBD.out (Nat.le_refl _) (HB2b.out.trans hb3))
                clear hb3 ho6 hg6 hat6
                clear hK K hHeld
                have hHeld := hHeld2
                clear hHeld2
                (try simp only [Act.put, List.getElem_toArray, List.getElem_cons_zero, List.getElem_cons_succ, List.setIfInBounds_toArray, List.set_cons_zero, List.set_cons_succ])
                refine wpAnyH_take (i := 10) (oi := _) (v := ?_) rfl (by kernel_rfl) (by kernel_rfl) (by kernel_rfl) (fun _ _ _ h => h) (Or.inl ⟨by kernel_rfl, ?_⟩) (by assumption) ?_
                rotate_left
                · (intro w hSw; (try dsimp only at hSw); go_simp)
                  try with_reducible rfl
                (try simp only [Act.put, List.getElem_toArray, List.getElem_cons_zero, List.getElem_cons_succ, List.setIfInBounds_toArray, List.set_cons_zero, List.set_cons_succ])
                refine wpAnyH_done (by kernel_rfl) ?_ _
                clear hHeld
                go_wp2_with fail
                go_roundw
                case rel => exact ⟨k + 1, b6, c6, j + (m - (j + 1)), _, _, by omega, by omega, rfl, by go_num, Lib.hid (by rw [← HJ2.out, List.length_append, List.length_take, List.length_drop, HM.out]; omega), R6, Lib.hid (by rw [← HJ2.out]; exact (HW6.out.take j).append (HW6.out.drop (j + 1))), HB6, HK2, HV⟩
                case measure => simp [intOf]; omega
              · have hz2 : z = -1 := by rw [← hz]; exact posP_out hmem
                subst hz2
                have HV := Lib.hid (HR2.out.trans (runLv_none (by unfold stepLv; simp [hp, hxk, hmem])))
                have K1 := Lib.hid k1
                have K2 := Lib.hid k2
                have K3 := Lib.hid k3
                clear k1 k2 k3 hx hcell hat hls hm0 HR HR2 hz hp hu hxk hpl hmem
                go_wp2_with fail
                refine K1.out.mono ?_
                rintro e w2 ⟨rfl, hb⟩
                have HB2 := Lib.hid (more HB.out (Nat.le_refl _) hb)
                replace e0 := (hb.cell (p := ⟨b', _, none⟩) hblt).trans e0
                replace e1 := (hb.cell (p := ⟨b', _, none⟩) hblt).trans e1
                have hblt2 := Nat.lt_of_lt_of_le hblt hb.size
                have HAT2 := Lib.hid (HAT.out.below hb)
                clear hb
                go_wp2_with fail
                refine (K2.out _ HAT2.out).mono ?_
                rintro e w3 ⟨rfl, hb⟩
                have HB3 := Lib.hid (more HB2.out (Nat.le_refl _) hb)
                replace e0 := (hb.cell (p := ⟨b', _, none⟩) hblt2).trans e0
                replace e1 := (hb.cell (p := ⟨b', _, none⟩) hblt2).trans e1
                have hblt3 := Nat.lt_of_lt_of_le hblt2 hb.size
                have HAT3 := Lib.hid (HAT2.out.below hb)
                clear hb
                go_wp2_with fail
                refine (K3.out _).mono ?_
                rintro e w4 ⟨rfl, rfl⟩
                go_wp2_with fail
                refine bodyPost_ret (v := .tuple #[.slice none 0 0, .bool false]) (by simp [results, Try.results9, go_sem, *]) rfl (LvX.none_ (HRR.out.symm.trans HV.out) HB3.out)
            · by_cases h2 : xk = 2
              · subst h2
                rw [show decide ((0 : Int) ≤ 2 ∧ (2 : Int) ≤ 2) = true from by decide] at k3
                by_cases hmem : x.pl ∈ ps
                · obtain ⟨j, hj1, hjl, hj2⟩ := posP_in (k := 0) hmem HK.out.1
                  have hz2 : z = (j : Int) := by rw [← hz, hj1, Nat.zero_add]
                  subst hz2
                  have hge : decide ((0 : Int) ≤ (j : Int)) = true := by simp
                  have HJ2 := Lib.hid hj2
                  have hjm : j < m := by rw [← HM.out]; exact hjl
                  have HST := Lib.hid (show stepLv ps x = some (ps) by unfold stepLv; simp [hp, hxk, hmem])
                  have HV := Lib.hid (HR2.out.trans (runLv_some HST.out))
                  have HK2 := Lib.hid (HK.out.step HST.out)
                  have K1 := Lib.hid k1
                  have K2 := Lib.hid k2
                  have K3 := Lib.hid k3
                  clear k1 k2 k3 hx hcell hat hls hm0 HR HR2 hz hp hu hxk hpl hmem hj1 hjl hj2
                  go_wp2_with fail
                  refine K1.out.mono ?_
                  rintro e w2 ⟨rfl, hb⟩
                  have HB2 := Lib.hid (more HB.out (Nat.le_refl _) hb)
                  replace e0 := (hb.cell (p := ⟨b', _, none⟩) hblt).trans e0
                  replace e1 := (hb.cell (p := ⟨b', _, none⟩) hblt).trans e1
                  have hblt2 := Nat.lt_of_lt_of_le hblt hb.size
                  have HAT2 := Lib.hid (HAT.out.below hb)
                  have HO2 := Lib.hid (ownsRow_below HO.out hb)
                  have HW2 := Lib.hid (HW.out.below hb)
                  clear hb
                  go_wp2_with fail
                  refine (K2.out _ HAT2.out).mono ?_
                  rintro e w3 ⟨rfl, hb⟩
                  have HB3 := Lib.hid (more HB2.out (Nat.le_refl _) hb)
                  replace e0 := (hb.cell (p := ⟨b', _, none⟩) hblt2).trans e0
                  replace e1 := (hb.cell (p := ⟨b', _, none⟩) hblt2).trans e1
                  have hblt3 := Nat.lt_of_lt_of_le hblt2 hb.size
                  have HAT3 := Lib.hid (HAT2.out.below hb)
                  have HO3 := Lib.hid (ownsRow_below HO2.out hb)
                  have HW3 := Lib.hid (HW2.out.below hb)
                  clear hb
                  go_wp2_with fail
                  refine (K3.out _).mono ?_
                  rintro e w4 ⟨rfl, rfl⟩
                  go_wp2_with fail
                  go_roundw
                  case rel => exact ⟨k + 1, b, c2, m, L, ps, by omega, by omega, rfl, by go_num, HM, HO3, HW3, HB3, HK2, HV⟩
                  case measure => simp [intOf]; omega
                · have hz2 : z = -1 := by rw [← hz]; exact posP_out hmem
                  subst hz2
                  have HV := Lib.hid (HR2.out.trans (runLv_none (by unfold stepLv; simp [hp, hxk, hmem])))
                  have K1 := Lib.hid k1
                  have K2 := Lib.hid k2
                  have K3 := Lib.hid k3
                  clear k1 k2 k3 hx hcell hat hls hm0 HR HR2 hz hp hu hxk hpl hmem
                  go_wp2_with fail
                  refine K1.out.mono ?_
                  rintro e w2 ⟨rfl, hb⟩
                  have HB2 := Lib.hid (more HB.out (Nat.le_refl _) hb)
                  replace e0 := (hb.cell (p := ⟨b', _, none⟩) hblt).trans e0
                  replace e1 := (hb.cell (p := ⟨b', _, none⟩) hblt).trans e1
                  have hblt2 := Nat.lt_of_lt_of_le hblt hb.size
                  have HAT2 := Lib.hid (HAT.out.below hb)
                  clear hb
                  go_wp2_with fail
                  refine (K2.out _ HAT2.out).mono ?_
                  rintro e w3 ⟨rfl, hb⟩
                  have HB3 := Lib.hid (more HB2.out (Nat.le_refl _) hb)
                  replace e0 := (hb.cell (p := ⟨b', _, none⟩) hblt2).trans e0
                  replace e1 := (hb.cell (p := ⟨b', _, none⟩) hblt2).trans e1
                  have hblt3 := Nat.lt_of_lt_of_le hblt2 hb.size
                  have HAT3 := Lib.hid (HAT2.out.below hb)
                  clear hb
                  go_wp2_with fail
                  refine (K3.out _).mono ?_
                  rintro e w4 ⟨rfl, rfl⟩
                  go_wp2_with fail
                  refine bodyPost_ret (v := .tuple #[.slice none 0 0, .bool false]) (by simp [results, Try.results9, go_sem, *]) rfl (LvX.none_ (HRR.out.symm.trans HV.out) HB3.out)
              · rw [show decide ((0 : Int) ≤ xk ∧ xk ≤ 2) = false from decide_eq_false (by omega)] at k3
                have HV := Lib.hid (HR2.out.trans (runLv_none (by unfold stepLv; simp [hp, hxk, h0, h1, h2])))
                have K1 := Lib.hid k1
                have K2 := Lib.hid k2
                have K3 := Lib.hid k3
                clear k1 k2 k3 hx hcell hat hls hm0 HR HR2 hz hp hu hxk hpl h0 h1 h2
                go_wp2_with fail
                refine K1.out.mono ?_
                rintro e w2 ⟨rfl, hb⟩
                have HB2 := Lib.hid (more HB.out (Nat.le_refl _) hb)
                replace e0 := (hb.cell (p := ⟨b', _, none⟩) hblt).trans e0
                replace e1 := (hb.cell (p := ⟨b', _, none⟩) hblt).trans e1
                have hblt2 := Nat.lt_of_lt_of_le hblt hb.size
                have HAT2 := Lib.hid (HAT.out.below hb)
                clear hb
                go_wp2_with fail
                refine (K2.out _ HAT2.out).mono ?_
                rintro e w3 ⟨rfl, hb⟩
                have HB3 := Lib.hid (more HB2.out (Nat.le_refl _) hb)
                replace e0 := (hb.cell (p := ⟨b', _, none⟩) hblt2).trans e0
                replace e1 := (hb.cell (p := ⟨b', _, none⟩) hblt2).trans e1
                have hblt3 := Nat.lt_of_lt_of_le hblt2 hb.size
                have HAT3 := Lib.hid (HAT2.out.below hb)
                clear hb
                go_wp2_with fail
                refine (K3.out _).mono ?_
                rintro e w4 ⟨rfl, rfl⟩
                go_wp2_with fail
                refine bodyPost_ret (v := .tuple #[.slice none 0 0, .bool false]) (by simp [results, Try.results9, go_sem, *]) rfl (LvX.none_ (HRR.out.symm.trans HV.out) HB3.out)
        · rw [show placeB x.pl = false by simpa using hp] at k2
          have HV := Lib.hid (HR2.out.trans (runLv_none (by unfold stepLv; simp [hp])))
          have K1 := Lib.hid k1
          have K2 := Lib.hid k2
          have K3 := Lib.hid k3
          clear k1 k2 k3 hx hcell hat hls hm0 HR HR2 hz hp hu hxk
          go_wp2_with fail
          refine K1.out.mono ?_
          rintro e w2 ⟨rfl, hb⟩
          have HB2 := Lib.hid (more HB.out (Nat.le_refl _) hb)
          replace e0 := (hb.cell (p := ⟨b', _, none⟩) hblt).trans e0
          replace e1 := (hb.cell (p := ⟨b', _, none⟩) hblt).trans e1
          have hblt2 := Nat.lt_of_lt_of_le hblt hb.size
          have HAT2 := Lib.hid (HAT.out.below hb)
          clear hb
          go_wp2_with fail
          refine (K2.out _ HAT2.out).mono ?_
          rintro e w3 ⟨rfl, hb⟩
          have HB3 := Lib.hid (more HB2.out (Nat.le_refl _) hb)
          replace e0 := (hb.cell (p := ⟨b', _, none⟩) hblt2).trans e0
          replace e1 := (hb.cell (p := ⟨b', _, none⟩) hblt2).trans e1
          have hblt3 := Nat.lt_of_lt_of_le hblt2 hb.size
          have HAT3 := Lib.hid (HAT2.out.below hb)
          clear hb
          go_wp2_with fail
          refine bodyPost_ret (v := .tuple #[.slice none 0 0, .bool false]) (by simp [results, Try.results9, go_sem, *]) rfl (LvX.none_ (HRR.out.symm.trans HV.out) HB3.out)
      · obtain rfl : k = n := by omega
        have HV := Lib.hid (show r = some ps by rw [← HRR.out, HR.out, List.drop_eq_nil_of_le (by rw [HN.out]; exact Nat.le_refl _)]; rfl)
        go_wp2_with fail
        refine bodyPost_ret (v := .tuple #[.slice (some ⟨b, 0, none⟩) m c2, .bool true]) (by simp [results, Try.results9, go_sem, *]) rfl ?_
        refine ⟨HB.out, .inr ⟨ps, b, c2, L, HV.out, by rw [HM.out], by rw [HM.out]; exact HO.out, HW.out, ⟨HK.out.1, Nat.le_trans HK.out.2.1 h400, HK.out.2.2⟩⟩⟩
end Go.Proofs.Ytegdpdafaimmoaa
