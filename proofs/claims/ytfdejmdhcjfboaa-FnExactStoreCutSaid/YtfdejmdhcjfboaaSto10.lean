/- Stores: the states of a place, in the program's own text. -/
import Derived.Test.YtfdejmdhcjfboaaSto9
namespace Go.Proofs.Ytfdejmdhcjfboaa
open Go.Joins Go.ChangeShapes Go.WideShapes Go.ChangeAt Go.RowKit Go.Deep
set_option linter.unusedVariables false
set_option linter.unusedSimpArgs false

set_option maxHeartbeats 400000 in
theorem sEqual2_any (A A' : Option Addr) (c c' n m : Nat) (xs ys : List Sl) (w : World) (hx : SlL w A xs) (hy : SlL w A' ys) (hn : xs.length = n) (hm : ys.length = m) (hl : n ≤ maxLen) (hl' : m ≤ maxLen) :
    Calls Try.prog 63 #[.slice A n c, .slice A' m c'] w fun e w' => e = .returned (.bool (eqSl xs ys)) ∧ Below w.heap.size w w' := by
  by_cases h : n = m
  · subst h
    exact sEqual_any A A' c c' n xs ys w hx hy hn hm hl
  · have HV := Lib.hid (eqSl_len xs ys (by omega))
    unfold maxLen at hl hl'
    have hd : ((n : Int) == (m : Int)) = false := by simp; omega
    have hd2 : ((n : Int) != (m : Int)) = true := by show (!((n : Int) == (m : Int))) = true; rw [hd]; rfl
    clear hx hy hn hm h
    go_enter Try.func63, Try.ntmps63
    go_wp2_with fail
    go_ret
    exact ⟨ret_bool HV.out.symm, by go_grown⟩

set_option maxHeartbeats 400000 in
theorem getFn_any (h : Nat) (A0 A1 A' : Option Addr) (c0 c1 c' n m k : Nat) (xs p : List Sl) (w : World) (hc : w.cell? ⟨h, 0, none⟩ = some (.slice A' m c')) (hx : SlL w A0 xs) (hp : SlL w A' p) (hn : xs.length = n) (hm : p.length = m) (hl : n ≤ maxLen) (hl' : m ≤ maxLen) :
    Calls Try.prog 74 #[.agg #[.slice A0 n c0, .slice A1 k c1], .pointer (some ⟨h, 0, none⟩)] w fun e w' => e = .returned (.bool (eqSl xs p)) ∧ Below w.heap.size w w' := by
  have hW := Below.alloc (Below.refl w.heap.size w) (Nat.le_refl _) (.cells #[.slice A0 n c0, .slice A1 k c1] 60)
  have K := Lib.hid (sEqual2_any A0 A' c0 c' n m xs p _ (hx.below hW) (hp.below hW) hn hm hl hl')
  have HW := Lib.hid hW
  clear hx hp hn hm hl hl' hW
  have hne := World.block_lt_of_cell? w _ hc
  go_enter Try.func74, Try.ntmps74
  go_wp2_with fail
  refine K.out.mono ?_
  rintro e w1 ⟨rfl, hb⟩
  have HB := Lib.hid (HW.out.trans (hb.mono (by simp)))
  clear hb
  go_wp2_with fail
  go_ret
  exact ⟨rfl, HB.out⟩

theorem idxI_step {xs : List Ce} {p : List Sl} {k : Nat} {x : Ce} (hx : xs[k]? = some x) (h : idxI xs p = k + idxI (xs.drop k) p) (hc : eqSl x.pl p = false) : idxI xs p = k + 1 + idxI (xs.drop (k + 1)) p := by
  rw [h, drop_cons hx, idxI, if_neg (by rw [hc]; simp)]; omega
theorem idxI_hit {xs : List Ce} {p : List Sl} {k : Nat} {x : Ce} (hx : xs[k]? = some x) (h : idxI xs p = k + idxI (xs.drop k) p) (hc : eqSl x.pl p = true) : idxI xs p = k := by
  rw [h, drop_cons hx, idxI, if_pos hc]; rfl
/-- The first one's number, or -1. -/
def firstI (xs : List Ce) (p : List Sl) : Int := if idxI xs p < xs.length then (idxI xs p : Int) else -1

set_option maxHeartbeats 2000000 in
theorem indexFn_any (h : Nat) (A A' : Option Addr) (c c' n m : Nat) (xs : List Ce) (p : List Sl) (w : World) (hh : h < w.heap.size) (hc : w.cell? ⟨h, 0, none⟩ = some (.slice A' m c')) (hx : CeL w A xs) (hp : SlL w A' p) (hn : xs.length = n) (hm : p.length = m) (hl : n ≤ maxLen) (hl' : m ≤ maxLen) :
    Calls Try.prog 73 #[.slice A n c, .func (.func 74) #[] #[.pointer (some ⟨h, 0, none⟩)]] w fun e w' => e = .returned (.int .i64 (firstI xs p)) ∧ Below w.heap.size w w' := by
  have HLM := Lib.hid hl'
  unfold maxLen at hl
  have HN := Lib.hid hn
  have HM := Lib.hid hm
  have HX := Lib.hid hx
  have HP := Lib.hid hp
  have HC := Lib.hid hc
  clear hx hn hp hm hc hl'
  go_enter Try.func73, Try.ntmps73
  go_wp2_with fail
  go_loopw [5, 8] (fun _ i w2 => ∃ k : Nat, k ≤ n ∧ i = .int .i64 k ∧ Below w.heap.size w w2 ∧ Hid (idxI xs p = k + idxI (xs.drop k) p)) (fun _ i _ => n - (intOf i).toNat)
  case atStart => exact ⟨0, by omega, rfl, by go_grown, Lib.hid (by simp)⟩
  case round =>
    obtain ⟨k, hk, rfl, hB, HR⟩ := hrel
    have HB := Lib.hid hB
    by_cases hlt : k < n
    · obtain ⟨b, off, rfl, hblt, hcell⟩ := (HX.out.below hB) (by have := HN.out; omega)
      obtain ⟨x, hx⟩ := at_some (show k < xs.length by rw [HN.out]; exact hlt)
      obtain ⟨A0, c0, A1, c1, hat⟩ := hcell k x hx
      have e0 := hat.e0
      have e1 := hat.e1
      have HXK := Lib.hid hx
      have K := getFn_any h A0 A1 A' c0 c1 c' x.pl.length m x.st.length x.pl p wr ((hB.cell (p := ⟨h, 0, none⟩) hh).trans HC.out) hat.pl (HP.out.below hB) rfl HM.out hat.n0 HLM.out
      clear hcell hx hat hB
      cases he : eqSl x.pl p
      · rw [he] at K
        have HV := Lib.hid (idxI_step HXK.out HR.out he)
        have K1 := Lib.hid K
        clear K he
        go_wp2_with fail
        refine K1.out.mono ?_
        rintro e w2 ⟨rfl, hb⟩
        have HB2 := Lib.hid (more HB.out (Nat.le_refl _) hb)
        clear hb
        go_wp2_with fail
        go_roundw
        case rel => exact ⟨k + 1, by omega, by go_num, HB2.out, HV⟩
        case measure => simp [intOf]; omega
      · rw [he] at K
        have HV := Lib.hid (show firstI xs p = k by unfold firstI; rw [idxI_hit HXK.out HR.out he, if_pos (by rw [HN.out]; exact hlt)])
        have K1 := Lib.hid K
        clear K he
        go_wp2_with fail
        refine K1.out.mono ?_
        rintro e w2 ⟨rfl, hb⟩
        have HB2 := Lib.hid (more HB.out (Nat.le_refl _) hb)
        clear hb
        go_wp2_with fail
        go_ret
        exact ⟨ret_int HV.out.symm, HB2.out⟩
    · obtain rfl : k = n := by omega
      have HV := Lib.hid (show firstI xs p = -1 by
        have := HR.out
        rw [drop_none (by rw [HN.out]; exact Nat.le_refl _)] at this
        unfold firstI
        rw [if_neg (by rw [this, HN.out]; simp [idxI])])
      go_wp2_with fail
      go_ret
      exact ⟨ret_int HV.out.symm, HB.out⟩

def CloneX (vs : List Va) (w : World) (e : Ending) (w' : World) : Prop :=
  Below w.heap.size w w' ∧ ∃ b c, e = .returned (.slice (some ⟨b, 0, none⟩) vs.length c) ∧ OwnV w' w.heap.size b c vs
set_option maxHeartbeats 1000000 in
theorem clone_any (b o c n : Nat) (vs : List Va) (w : World) (hx : VaL w (some ⟨b, o, none⟩) vs) (hn : vs.length = n) (hl : n ≤ 2000000) :
    Calls Try.prog 75 #[.slice (some ⟨b, o, none⟩) n c] w (CloneX vs w) := by
  have HN := Lib.hid hn
  have HE := Lib.hid (OwnV.none_ w (base := w.heap.size) (Nat.le_refl _))
  have hB := Below.alloc (Below.refl w.heap.size w) (Nat.le_refl _) (.cells #[] 90)
  have HA := Lib.hid (hx.below hB)
  have HB := Lib.hid hB
  have HL := Lib.hid (show (0 : Nat) + vs.length ≤ 4000000 by omega)
  have kn := fun (w : World) => Lib.run_eql_slice_nil (P := Try.prog) w 43 90 (some ⟨b, o, none⟩) n c 0 0 Try.underlying43
  clear hx hn hB
  go_enter Try.func75, Try.ntmps75
  go_wp2_with (at_builtin; refine wp_append_vals rfl (.tmp 5) (.tmp 6) rfl w.heap.size w.heap.size 0 [] rfl HE.out ⟨b, o, none⟩ c vs n rfl HN.out (VaL.news HA.out) HL.out (by simp) ?_; intro b3 c3 zs w5 HQ ho hgr HAT; have HO := Lib.hid ho; have HB5 := Lib.hid (HB.out.grown hgr (by simp) (fun k hk => by injection hk with hk; omega)); clear ho hgr)
  go_ret
  have hz : zs = vs := HQ.out
  subst hz
  exact ⟨HB5.out, b3, c3, rfl, HO.out⟩

set_option maxHeartbeats 2000000 in
theorem iget_any (A A' : Option Addr) (c c' n m : Nat) (xs : List Ce) (p : List Sl) (w : World) (hx : CeN w A xs) (hp : SlL w A' p) (hn : xs.length = n) (hm : p.length = m) (hl : n ≤ maxLen) (hl' : m ≤ maxLen) (hs : ∀ x ∈ xs, x.st.length ≤ 2000000) :
    Calls Try.prog 35 #[.slice A n c, .slice A' m c'] w (GetX (getV xs p) w) := by
  have HN := Lib.hid hn
  have HM := Lib.hid hm
  have HX := Lib.hid hx
  have HP := Lib.hid hp
  have HL := Lib.hid hl
  have HL' := Lib.hid hl'
  have HS := Lib.hid hs
  have hg : getV xs p = if (storeB xs && placeB p && hasS xs p) = true then (xs[atS xs p]?).map Ce.st else none := rfl
  have k1 := fun w h => istore_any A c n xs w h hn hl
  have k2 := fun w h => iplace_n A' c' m p w h hm hl'
  have HW := Lib.hid (Below.alloc (Below.refl w.heap.size w) (Nat.le_refl _) (.cells #[.slice A' m c'] 25))
  clear hx hp hn hm hl hl' hs
  cases hv : storeB xs
  · rw [hv] at k1 hg
    have K1 := Lib.hid k1
    have HG := Lib.hid hg
    clear k1 k2 hv hg
    go_enter Try.func35, Try.ntmps35
    go_wp2_with (go_at_call 32; ((with_reducible refine (K1.out _ (HX.out.below HW.out).cel).mono ?_); rintro e w1 ⟨rfl, hb⟩); have hc1 := fun b o h => hb.cell (p := ⟨b, o, none⟩) h; (try simp at hc1); have HB := Lib.hid (HW.out.trans (hb.mono (by simp))); have hz1 := hb.size; (try simp at hz1); clear hb)
    go_ret2
    rw [show getV xs p = none from HG.out]
    exact ⟨HB.out, rfl⟩
  have hrun : runS none xs = true := by
    unfold storeB at hv
    simp only [Bool.and_eq_true] at hv
    exact hv.2
  rw [hv] at k1 hg
  have K1 := Lib.hid k1
  clear k1
  cases hq : placeB p
  · rw [hq] at k2 hg
    have K2 := Lib.hid k2
    have HG := Lib.hid hg
    clear k2 hv hq hg
    go_enter Try.func35, Try.ntmps35
    go_wp2_with (first | (go_at_call 32; ((with_reducible refine (K1.out _ (HX.out.below HW.out).cel).mono ?_); rintro e w1 ⟨rfl, hb⟩); have hc1 := fun b o h => hb.cell (p := ⟨b, o, none⟩) h; (try simp at hc1); have HB := Lib.hid (HW.out.trans (hb.mono (by simp))); have hz1 := hb.size; (try simp at hz1); clear hb) | (go_at_call 20; ((with_reducible refine (K2.out _ (HP.out.below HB.out)).mono ?_); rintro e w2 ⟨rfl, hb⟩); have hc2 := fun b o h => hb.cell (p := ⟨b, o, none⟩) h; (try simp at hc2); have HB2 := Lib.hid (HB.out.trans (hb.mono (by omega))); have hz2 := hb.size; clear hb))
    go_ret2
    rw [show getV xs p = none from HG.out]
    exact ⟨HB2.out, rfl⟩
  rw [hq] at k2 hg
  have K2 := Lib.hid k2
  have K3 := Lib.hid (fun h w hh hc h1 h2 => indexFn_any h A A' c c' n m xs p w hh hc h1 h2 HN.out HM.out HL.out HL'.out)
  obtain ⟨i1, i2⟩ := idxI_has xs none p hrun
  clear k2 hv hq
  cases hh : hasS xs p
  · rw [hh] at hg
    have HG := Lib.hid hg
    have hf : firstI xs p = -1 := by unfold firstI; rw [i2 hh, if_neg (by omega)]
    rw [hf] at K3
    clear hh hg hf i1 i2
    go_enter Try.func35, Try.ntmps35
    go_wp2_with (first | (go_at_call 32; ((with_reducible refine (K1.out _ (HX.out.below HW.out).cel).mono ?_); rintro e w1 ⟨rfl, hb⟩); have hc1 := fun b o h => hb.cell (p := ⟨b, o, none⟩) h; (try simp at hc1); have HB := Lib.hid (HW.out.trans (hb.mono (by simp))); have hz1 := hb.size; (try simp at hz1); clear hb) | (go_at_call 20; ((with_reducible refine (K2.out _ (HP.out.below HB.out)).mono ?_); rintro e w2 ⟨rfl, hb⟩); have hc2 := fun b o h => hb.cell (p := ⟨b, o, none⟩) h; (try simp at hc2); have HB2 := Lib.hid (HB.out.trans (hb.mono (by omega))); have hz2 := hb.size; clear hb))
    have hcw : w2.cell? ⟨w.heap.size, 0, none⟩ = some (.slice A' m c') := (hc2 _ _ (by omega)).trans ((hc1 _ _ (by omega)).trans (by go_simp))
    refine (K3.out w.heap.size _ (by omega) hcw (HX.out.below HB2.out).cel (HP.out.below HB2.out)).mono ?_
    rintro e w3 ⟨rfl, hb⟩
    have HB3 := Lib.hid (more HB2.out (Nat.le_refl _) hb)
    clear hb
    go_wp2_with fail
    go_ret2
    rw [show getV xs p = none from HG.out]
    exact ⟨HB3.out, rfl⟩
  · obtain ⟨x, hx⟩ := hasS_at hh
    rw [hh] at hg
    obtain ⟨j1, j2⟩ := i1 hh
    have hf : firstI xs p = atS xs p := by unfold firstI; rw [j1, if_pos j2]
    obtain ⟨i, hi⟩ : ∃ i, atS xs p = i := ⟨_, rfl⟩
    rw [hi] at hg hx hf j2
    rw [hf] at K3
    have HG := Lib.hid (show getV xs p = some x.st by rw [hg, hx]; rfl)
    have HXI := Lib.hid hx
    have hin : i < n := by rw [← HN.out]; exact j2
    have hsz := HS.out x (List.mem_of_getElem? hx)
    have hl := HL.out
    unfold maxLen at hl
    have hi1 : (0 : Int) ≤ (i : Int) := by omega
    have hi2 : (i : Int) < (n : Int) := by omega
    clear hh hg hi hx hf i1 i2 j1 j2
    go_enter Try.func35, Try.ntmps35
    go_wp2_with (first | (go_at_call 32; ((with_reducible refine (K1.out _ (HX.out.below HW.out).cel).mono ?_); rintro e w1 ⟨rfl, hb⟩); have hc1 := fun b o h => hb.cell (p := ⟨b, o, none⟩) h; (try simp at hc1); have HB := Lib.hid (HW.out.trans (hb.mono (by simp))); have hz1 := hb.size; (try simp at hz1); clear hb) | (go_at_call 20; ((with_reducible refine (K2.out _ (HP.out.below HB.out)).mono ?_); rintro e w2 ⟨rfl, hb⟩); have hc2 := fun b o h => hb.cell (p := ⟨b, o, none⟩) h; (try simp at hc2); have HB2 := Lib.hid (HB.out.trans (hb.mono (by omega))); have hz2 := hb.size; clear hb))
    have hcw : w2.cell? ⟨w.heap.size, 0, none⟩ = some (.slice A' m c') := (hc2 _ _ (by omega)).trans ((hc1 _ _ (by omega)).trans (by go_simp))
    refine (K3.out w.heap.size _ (by omega) hcw (HX.out.below HB2.out).cel (HP.out.below HB2.out)).mono ?_
    rintro e w3 ⟨rfl, hb⟩
    have HB3 := Lib.hid (more HB2.out (Nat.le_refl _) hb)
    clear hb hc1 hc2 hcw
    obtain ⟨b, off, rfl, hblt, hcell⟩ := (HX.out.below HB3.out) (by rw [HN.out]; omega)
    obtain ⟨b0, o0, c0, b1, o1, c1, hat⟩ := hcell i x HXI.out
    have e1 := hat.e1
    have HST := Lib.hid hat.st
    clear hcell hat
    go_wp2_with fail
    refine (clone_any b1 o1 c1 x.st.length x.st _ HST.out rfl hsz).mono ?_
    rintro e w4 ⟨hb, b3, c3, rfl, ho⟩
    have HO := Lib.hid (World.ownsRow.mono ho HB3.out.size)
    have HB4 := Lib.hid (more HB3.out (Nat.le_refl _) hb)
    clear hb ho
    go_wp2_with fail
    go_ret2
    rw [show getV xs p = some x.st from HG.out]
    exact ⟨HB4.out, b3, c3, rfl, HO.out⟩
end Go.Proofs.Ytfdejmdhcjfboaa
