/- Two places drawn out of bytes. -/
import Derived.Test.YtamphjmggnnonaaPlcD
namespace Go.Proofs.Ytamphjmggnnonaa
open Go.Joins Go.ChangeShapes Go.WideShapes Go.ChangeAt Go.RowKit Go.Deep
set_option linter.unusedVariables false
set_option linter.unusedSimpArgs false

def PairX (w : World) (e : Ending) (w' : World) : Prop :=
  ∃ A c xs A' c' ys, e = .returned (.tuple #[.slice A xs.length c, .slice A' ys.length c']) ∧ SlL w' A xs ∧ SlL w' A' ys ∧ xs.length ≤ 22 ∧ ys.length ≤ 44 ∧ xs.length ≤ c ∧ ys.length ≤ c' ∧ Below w.heap.size w w'
/-- The cells of a row's beginning. -/
theorem OwnS.newsTake {w : World} {base b c : Nat} {xs : List Sl} (h : OwnS w base b c xs) (k : Nat) : ∀ j u, ((xs.take k).flatMap Sl.cells)[j]? = some u → w.cell? ((⟨b, 0, none⟩ : Addr).add j) = some u := by
  intro j u hu
  refine h.news j u ?_
  have e : xs.flatMap Sl.cells = (xs.take k).flatMap Sl.cells ++ (xs.drop k).flatMap Sl.cells := by rw [← List.flatMap_append, List.take_append_drop]
  rw [e, List.getElem?_append_left (List.getElem?_eq_some_iff.1 hu).1]
  exact hu

set_option maxHeartbeats 2000000 in
theorem DrawPlaceOrder_any (A : Option Addr) (len cap : Nat) (w : World) (hc : Code w w.heap.size A len) (hl : len ≤ maxLen) :
    Calls Try.prog 27 #[.slice A len cap] w (PairX w) := by
  have HS := Lib.hid (St.new (cap := cap) hc hl)
  clear hc
  have HB0 := Lib.hid (Below.alloc (Below.refl w.heap.size w) (Nat.le_refl _) (.cells #[.slice A len cap, .int .i64 0, .int .i64 4000] 112))
  go_enter Try.func27, Try.ntmps27
  go_wp2_with fail
  refine (newSource_any A len cap w).mono ?_
  rintro e w1 ⟨rfl, rfl⟩
  go_wp2_with fail
  refine (slots_any w.heap.size A len cap _ HS.out).mono ?_
  rintro e w2 ⟨b, c, xs, rfl, ho, hn, hs, hk⟩
  have hz2 := hk.size
  simp at hz2
  have HO := Lib.hid ho
  have HS2 := Lib.hid hs
  have HK2 := Lib.hid (hk.mono (B' := w.heap.size + 1) (by simp))
  clear ho hs hk
  go_wp2_with fail
  refine (slots_any w.heap.size A len cap _ HS2.out).mono ?_
  rintro e w3 ⟨b2, c2, ys, rfl, ho2, hm, hs, hk⟩
  have hz3 := hk.size
  have HO1 := Lib.hid (HO.out.keep hk (by simp))
  have HP := Lib.hid ho2
  have HS3 := Lib.hid hs
  have HK3 := Lib.hid (HK2.out.trans (hk.mono (by omega)))
  clear ho2 hs hk
  go_wp2_with fail
  refine (pick_any w.heap.size A len cap 2 _ HS3.out (by omega)).mono ?_
  rintro e w4 ⟨r, rfl, r0, r1, hs, hk⟩
  have hz4 := hk.size
  have HO2 := Lib.hid (HO1.out.keep hk (by simp))
  have HP2 := Lib.hid (HP.out.keep hk (by omega))
  have HS4 := Lib.hid hs
  have HK4 := Lib.hid (HK3.out.trans (hk.mono (by omega)))
  clear hs hk
  by_cases hr : r = 0
  · subst hr
    have HO3 := Lib.hid (HO2.out.alloc (.cells #[] 66))
    have HP3 := Lib.hid (HP2.out.alloc (.cells #[] 66))
    have HS5 := Lib.hid (HS4.out.alloc (.cells #[] 66))
    have HK5 := Lib.hid (HK4.out.alloc (by omega) (.cells #[] 66))
    have HE := Lib.hid (OwnS.none_ w4 (Nat.le_refl _))
    obtain ⟨n, hn1⟩ : ∃ n, xs.length = n := ⟨_, rfl⟩
    obtain ⟨m, hm1⟩ : ∃ m, ys.length = m := ⟨_, rfl⟩
    have HN := Lib.hid hn1
    have HM := Lib.hid hm1
    have HCX := Lib.hid (HO.out.cap)
    have HCY := Lib.hid (HP.out.cap)
    rw [hn1] at hn HCX ⊢
    rw [hm1] at hm HCY ⊢
    have hcx := HCX.out
    have hcy := HCY.out
    clear hn1 hm1
    go_wp2_with fail
    refine (pick_any w.heap.size A len cap _ _ HS5.out (by omega)).mono ?_
    rintro e w5 ⟨z, rfl, z0, z1, hs, hk⟩
    have z2 : z ≤ n := by omega
    obtain ⟨k, rfl⟩ : ∃ k : Nat, z = k := ⟨z.toNat, by omega⟩
    have hz5 := hk.size
    simp at hz5
    have HE2 := Lib.hid (HE.out.keep hk (by omega))
    have HO4 := Lib.hid (HO3.out.keep hk (by simp))
    have HP4 := Lib.hid (HP3.out.keep hk (by omega))
    have HS6 := Lib.hid hs
    have HK6 := Lib.hid (HK5.out.trans (hk.mono (by simp; omega)))
    have HT := Lib.hid (show (xs.take k).length = k by rw [List.length_take, HN.out]; omega)
    have hT2 : (0 : Nat) + (xs.take k).length ≤ 1000 := by rw [HT.out]; omega
    clear hs hk z1
    have hb0 := HO.out.lt
    have hbp := HP.out.lt
    simp at hb0
    go_wp2_with (at_builtin; refine wp_append_slots rfl (.tmp 16) (.tmp 23) rfl (w.heap.size + 1) w4.heap.size 0 [] rfl (HE2.out.mono (by omega)) ⟨b, 0, none⟩ c (xs.take k) k rfl HT.out (HO4.out.newsTake k) hT2 (by omega) ?_; intro b3 c3 zs w6 HQ ho hgr HAT; have HF := Lib.hid ho; have HP5 := Lib.hid (HP4.out.grown hgr (by omega)); have HO5 := Lib.hid (HO4.out.grown hgr (by omega)); have HS7 := Lib.hid (HS6.out.grown hgr (by omega)); have HK7 := Lib.hid (HK6.out.grown hgr (by omega) (by omega)); have hL : zs.length = k := (by rw [HQ.out]; exact HT.out); have HLL := Lib.hid hL; have hz6 := hgr.size; have hlt3 := ho.lt.1; have HZ := Lib.hid HAT.out; clear ho hgr hL)
    refine (pick_any w.heap.size A len cap _ _ HS7.out (by omega)).mono ?_
    rintro e w7 ⟨y, rfl, y0, y1, hs, hk⟩
    have y2 : y ≤ m := by omega
    obtain ⟨l, rfl⟩ : ∃ l : Nat, y = l := ⟨y.toNat, by omega⟩
    have hz7 := hk.size
    have HF2 := Lib.hid (HF.out.keep hk (by omega))
    have HO6 := Lib.hid (HO5.out.keep hk (by simp))
    have HP6 := Lib.hid (HP5.out.keep hk (by omega))
    have HS8 := Lib.hid hs
    have HK8 := Lib.hid (HK7.out.trans (hk.mono (by omega)))
    have HT2 := Lib.hid (show (ys.take l).length = l by rw [List.length_take, HM.out]; omega)
    have hT3 : zs.length + (ys.take l).length ≤ 1000 := by rw [HLL.out, HT2.out]; omega
    have HT3 := Lib.hid hT3
    have hb3 : b ≠ b3 := by rcases HZ.out with h | h <;> omega
    have hb4 := HF2.out.lt
    clear hs hk y1 hT3
    go_wp2_with (at_builtin; refine wp_append_slots rfl (.tmp 24) (.tmp 31) rfl (w.heap.size + 1) b3 c3 zs rfl HF2.out ⟨b2, 0, none⟩ c2 (ys.take l) l rfl HT2.out (HP6.out.newsTake l) HT3.out (by omega) ?_; intro b5 c5 us w8 HQ2 ho hgr HAT2; have HG := Lib.hid ho; have HO7 := Lib.hid (HO6.out.grown hgr hb3); have HK9 := Lib.hid (HK8.out.grown hgr (by omega) (by omega)); have hL : us.length = k + l := (by rw [HQ2.out, List.length_append, HLL.out, HT2.out]); have HL2 := Lib.hid hL; clear ho hgr hL)
    go_ret2
    exact ⟨_, c, xs, _, c5, us, (by rw [HN.out]; rfl), HO7.out.lies, HG.out.lies, by rw [HN.out]; omega, by rw [HL2.out]; omega, HO7.out.cap, HG.out.cap, HB0.out.trans ((HK9.out.mono (Nat.le_succ _)).below (Nat.le_refl _))⟩
  · have hr2 : (r == 0) = false := by simpa using hr
    clear hr
    go_wp2_with fail
    go_ret2
    exact ⟨_, c, xs, _, c2, ys, rfl, HO2.out.lies, HP2.out.lies, hn, by omega, HO2.out.cap, HP2.out.cap, HB0.out.trans ((HK4.out.mono (Nat.le_succ _)).below (Nat.le_refl _))⟩

set_option maxHeartbeats 400000 in
theorem DrawPlaceUnder_any (A : Option Addr) (len cap : Nat) (w : World) (hc : Code w w.heap.size A len) (hl : len ≤ maxLen) :
    Calls Try.prog 28 #[.slice A len cap] w (PairX w) := by
  have HC := Lib.hid hc
  clear hc
  go_enter Try.func28, Try.ntmps28
  go_wp2_with fail
  refine (DrawPlaceOrder_any A len cap w HC.out hl).mono ?_
  rintro e w1 ⟨A1, c1, xs, A2, c2, ys, rfl, hx, hy, h22, h44, hc1, hc2, hB⟩
  have HX := Lib.hid hx
  have HY := Lib.hid hy
  have HB := Lib.hid hB
  clear hx hy hB
  go_wp2_with fail
  go_ret2
  exact ⟨A1, c1, xs, A2, c2, ys, rfl, HX.out, HY.out, h22, h44, hc1, hc2, HB.out⟩
theorem cmpP_three : ∀ xs ys : List Sl, cmpP xs ys = -1 ∨ cmpP xs ys = 0 ∨ cmpP xs ys = 1
  | [], [] => .inr (.inl rfl)
  | [], _ :: _ => .inl rfl
  | _ :: _, [] => .inr (.inr rfl)
  | x :: xs, y :: ys => by
    rcases cmp_ways x y with h | ⟨h, h'⟩ | h | ⟨h, h'⟩ | rfl
    · rw [cmpP_lt _ _ (.inl h)]; exact .inl rfl
    · rw [cmpP_lt _ _ (.inr ⟨h, h'⟩)]; exact .inl rfl
    · rw [cmpP_gt _ _ (.inl h)]; exact .inr (.inr rfl)
    · rw [cmpP_gt _ _ (.inr ⟨h, h'⟩)]; exact .inr (.inr rfl)
    · rw [cmpP_eq]; exact cmpP_three xs ys
theorem orderV_three (xs ys : List Sl) : orderV xs ys = -1 ∨ orderV xs ys = 0 ∨ orderV xs ys = 1 := by
  unfold orderV
  split
  · exact cmpP_three xs ys
  · exact .inr (.inl rfl)
end Go.Proofs.Ytamphjmggnnonaa
