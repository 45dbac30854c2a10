/- What the laws draw of rules: the arguments. -/
import Derived.Test.YtejlhgancbppkaaDrwR
namespace Go.Proofs.Ytejlhgancbppkaa
open Go.Joins Go.ChangeShapes Go.WideShapes Go.ChangeAt Go.RowKit Go.Deep
set_option linter.unusedVariables false
set_option linter.unusedSimpArgs false

theorem RuL.take {w : World} {b c : Nat} {xs : List Ru} (h : RuL w (some ⟨b, 0, none⟩) xs) (k : Nat) : RuL w (some ⟨b, 0, none⟩) (xs.take k) := fun h0 => by
  obtain ⟨b', off, e, hlt, hc⟩ := h (by rw [List.length_take] at h0; omega)
  refine ⟨b', off, e, hlt, fun i x hx j u hu => hc i x ?_ j u hu⟩
  rw [List.getElem?_take] at hx
  split at hx
  · exact hx
  · cases hx
theorem RuL.drop {w : World} {b : Nat} {xs : List Ru} (h : RuL w (some ⟨b, 0, none⟩) xs) (k c : Nat) (hc' : xs.length ≤ c) : RuL w (if c = k then some ⟨b, 0, none⟩ else some ⟨b, k * 8, none⟩) (xs.drop k) := fun h0 => by
  have hl : k < xs.length := by rw [List.length_drop] at h0; omega
  obtain ⟨b', off, e, hlt, hc⟩ := h (by omega)
  rw [if_neg (by omega)]
  injection e with e; injection e with e1 e2; subst e1; subst e2
  refine ⟨b, k * 8, rfl, hlt, fun i x hx j u hu => ?_⟩
  rw [List.getElem?_drop] at hx
  have := hc (k + i) x hx j u hu
  rw [show 0 + (k + i) * 8 + j = k * 8 + i * 8 + j by omega] at this
  exact this
def RulX (m : Nat) (w : World) (e : Ending) (w' : World) : Prop :=
  ∃ b c xs, e = .returned (.slice (some ⟨b, 0, none⟩) xs.length c) ∧ RuL w' (some ⟨b, 0, none⟩) xs ∧ xs.length ≤ m ∧ xs.length ≤ c ∧ Below w.heap.size w w'
set_option maxHeartbeats 400000 in
theorem DrawRulesOk_any (A : Option Addr) (len cap : Nat) (w : World) (hc : Code w w.heap.size A len) (hl : len ≤ maxLen) :
    Calls Try.prog 16 #[.slice A len cap] w (RulX 9 w) := by
  have HS := Lib.hid (St.new (cap := cap) hc hl)
  clear hc
  go_enter Try.func16, Try.ntmps16
  go_wp2_with fail
  refine (newSource_any A len cap w).mono ?_
  rintro e w1 ⟨rfl, rfl⟩
  go_wp2_with fail
  refine (rules_any w.heap.size A len cap _ HS.out).mono ?_
  rintro e w2 ⟨b, c, xs, rfl, ho, hn, hs, hk⟩
  have HO := Lib.hid ho
  have hB : Below w.heap.size w w2 := (Below.alloc (Below.refl _ _) (Nat.le_refl _) _).trans ((hk.mono (by simp)).below (Nat.le_refl _))
  clear ho hs hk
  go_wp2_with fail
  go_ret
  exact ⟨b, c, xs, rfl, HO.out.lies, hn, HO.out.cap, hB⟩

def RulesY (w : World) (e : Ending) (w' : World) : Prop :=
  ∃ x : Ru, e = .returned (.agg #[.int .i64 x.t, .int .i64 x.a, .int .i64 x.nm, .int .i64 x.v.k, .int .i64 x.v.n, .string x.v.s, .int .i64 x.l, .int .i64 x.g]) ∧ Below w.heap.size w w'
set_option maxHeartbeats 4000000 in
theorem DrawRuleWeight_any (A : Option Addr) (len cap : Nat) (w : World) (hc : Code w w.heap.size A len) (hl : len ≤ maxLen) :
    Calls Try.prog 17 #[.slice A len cap] w (RulesY w) := by
  have hb0 : Below w.heap.size w (w.alloc (.cells #[.int .i64 0, .int .i64 0, .int .i64 0, .int .i64 0, .int .i64 0, .string ⟨#[]⟩, .int .i64 0, .int .i64 0] 37)) := by go_grown
  have hlt0 : w.heap.size < (w.alloc (.cells #[.int .i64 0, .int .i64 0, .int .i64 0, .int .i64 0, .int .i64 0, .string ⟨#[]⟩, .int .i64 0, .int .i64 0] 37)).heap.size := by simp
  have HB := Lib.hid hb0
  have HX := Lib.hid (BoxR.new w ⟨0, 0, 0, ⟨0, 0, ⟨#[]⟩⟩, 0, 0⟩)
  have HCD := Lib.hid (hc.more hb0)
  clear hc hb0
  go_enter Try.func17, Try.ntmps17
  go_wp2_with fail
  have hX : BoxR (w.alloc (.cells #[.int .i64 0, .int .i64 0, .int .i64 0, .int .i64 0, .int .i64 0, .string ⟨#[]⟩, .int .i64 0, .int .i64 0] 37)) w.heap.size ⟨0, 0, 0, ⟨0, 0, ⟨#[]⟩⟩, 0, 0⟩ := HX.out
  obtain ⟨wz, hwz⟩ : ∃ wz, w.alloc (.cells #[.int .i64 0, .int .i64 0, .int .i64 0, .int .i64 0, .int .i64 0, .string ⟨#[]⟩, .int .i64 0, .int .i64 0] 37) = wz := ⟨_, rfl⟩
  rw [hwz] at HB HCD hlt0 hX ⊢
  replace HX := Lib.hid hX
  clear hwz hX
  refine (newSource_any A len cap wz).mono ?_
  rintro e w1 ⟨rfl, rfl⟩
  have HS := Lib.hid (St.new (cap := cap) HCD.out hl)
  obtain ⟨g, hg⟩ : ∃ g, wz.heap.size = g := ⟨_, rfl⟩
  have HXs := HX.out.alloc (.cells #[.slice A len cap, .int .i64 0, .int .i64 4000] 61)
  have HBs := (HB.out.alloc HB.out.size (.cells #[.slice A len cap, .int .i64 0, .int .i64 4000] 61))
  rw [hg] at HS
  have hgs : g < (wz.alloc (.cells #[.slice A len cap, .int .i64 0, .int .i64 4000] 61)).heap.size := by simp; omega
  obtain ⟨w1, hw1⟩ : ∃ w1, wz.alloc (.cells #[.slice A len cap, .int .i64 0, .int .i64 4000] 61) = w1 := ⟨_, rfl⟩
  rw [hw1] at HS HXs HBs hgs
  rw [hw1]
  rw [hg] at hlt0 ⊢
  have hbx := hlt0
  replace HX := Lib.hid HXs
  replace HB := Lib.hid HBs
  clear HXs HBs hw1 HCD
  go_wp2_with fail
  refine (rules_any g A len cap _ HS.out).mono ?_
  rintro e w2 ⟨b, c, xs, rfl, ho, hn, hs, hk⟩
  have hb2 := ho.lt
  have HO := Lib.hid ho
  replace HX := Lib.hid (HX.out.keep hk (by omega))
  replace HB := Lib.hid (HB.out.trans ((hk.mono (by omega)).below (by omega)))
  replace HS := Lib.hid hs
  clear ho hs hk
  have hz2 : w1.heap.size ≤ b := hb2.1
  have hne : w2.heap.size ≠ g := by have := HS.out.lt; omega
  have HSM := Lib.hid (smallr_e w2)
  replace HS := Lib.hid (HS.out.alloc (.cells #[.int .i64 (-2), .int .i64 (-1), .int .i64 4, .int .i64 5] 3))
  replace HB := Lib.hid (HB.out.alloc HB.out.size (.cells #[.int .i64 (-2), .int .i64 (-1), .int .i64 4, .int .i64 5] 3))
  replace HO := Lib.hid (HO.out.alloc (.cells #[.int .i64 (-2), .int .i64 (-1), .int .i64 4, .int .i64 5] 3))
  replace HX := Lib.hid (HX.out.alloc (.cells #[.int .i64 (-2), .int .i64 (-1), .int .i64 4, .int .i64 5] 3))
  go_wp2_with fail
  refine (one_any g A len cap w2.heap.size 4 4 (-2) 5 _ HS.out (by simp) hne HSM.out (by omega) (by omega)).mono ?_
  rintro e w3 ⟨z, rfl, z0, z1, hs, hk⟩
  have hz3 := hk.size
  simp at hz3
  replace HO := Lib.hid (HO.out.keep hk (by omega))
  replace HX := Lib.hid (HX.out.keep hk (by omega))
  replace HB := Lib.hid (HB.out.trans ((hk.mono (by simp; omega)).below (by omega)))
  replace HS := Lib.hid hs
  clear hs hk HSM hne
  have HNx := Lib.hid (OwnR.lit w3 ⟨z, -1, -1, ⟨0, 0, ⟨#[]⟩⟩, 0, 0⟩ (Nat.le_refl _)).news
  replace HS := Lib.hid (HS.out.alloc (.cells #[.int .i64 z, .int .i64 (-1), .int .i64 (-1), .int .i64 0, .int .i64 0, .string ⟨#[]⟩, .int .i64 0, .int .i64 0] 37))
  replace HB := Lib.hid (HB.out.alloc HB.out.size (.cells #[.int .i64 z, .int .i64 (-1), .int .i64 (-1), .int .i64 0, .int .i64 0, .string ⟨#[]⟩, .int .i64 0, .int .i64 0] 37))
  replace HO := Lib.hid (HO.out.alloc (.cells #[.int .i64 z, .int .i64 (-1), .int .i64 (-1), .int .i64 0, .int .i64 0, .string ⟨#[]⟩, .int .i64 0, .int .i64 0] 37))
  replace HX := Lib.hid (HX.out.alloc (.cells #[.int .i64 z, .int .i64 (-1), .int .i64 (-1), .int .i64 0, .int .i64 0, .string ⟨#[]⟩, .int .i64 0, .int .i64 0] 37))
  have hlx : xs.length + ([⟨z, -1, -1, ⟨0, 0, ⟨#[]⟩⟩, 0, 0⟩] : List Ru).length ≤ 1000 := by simp; omega
  have hbs : w1.heap.size ≤ (w3.alloc (.cells #[.int .i64 z, .int .i64 (-1), .int .i64 (-1), .int .i64 0, .int .i64 0, .string ⟨#[]⟩, .int .i64 0, .int .i64 0] 37)).heap.size := by simp; omega
  have HBS := Lib.hid hbs
  clear hbs
  go_wp2_with (at_builtin; refine wp_append_rules rfl (.tmp 8) (.tmp 13) rfl w1.heap.size b c xs rfl HO.out ⟨w3.heap.size, 0, none⟩ 1 [⟨z, -1, -1, ⟨0, 0, ⟨#[]⟩⟩, 0, 0⟩] 1 rfl rfl HNx.out hlx HBS.out ?_; intro b2 c2 zs wx HQ ho hgr HAT; have hzx := hgr.size; have HS2 := Lib.hid (HS.out.grown hgr (by omega)); have HX2 := Lib.hid (HX.out.grown hgr (by omega)); have HB2 := Lib.hid (HB.out.grown hgr HB.out.size (fun i hi => by injection hi with hi; omega)); have HO2 := Lib.hid ho; have hbb := ho.lt; have hL : zs.length = xs.length + 1 := (by rw [HQ.out, List.length_append]; rfl); have HLL := Lib.hid hL; obtain ⟨q, hq⟩ : ∃ q, zs.length = q := ⟨_, rfl⟩; have HQL := Lib.hid hq; rw [hq]; clear ho hgr hL hq)
  have hq1 : 1 ≤ q := by have := HLL.out; rw [HQL.out] at this; omega
  have hq2 : q ≤ 10 := by have := HLL.out; rw [HQL.out] at this; omega
  refine (pick_any g A len cap q _ HS2.out (by omega)).mono ?_
  rintro e w4 ⟨r, rfl, r0, r1, hs, hk⟩
  obtain ⟨k, rfl⟩ : ∃ k : Nat, r = k := ⟨r.toNat, by omega⟩
  have hkq : k < q := by omega
  have hkq2 : (k : Int) < q := by omega
  obtain ⟨y, hy⟩ := at_some (show k < zs.length by rw [HQL.out]; exact hkq)
  have hlie := (HO2.out.keep hk (by omega)).lies
  obtain ⟨b', off, e, hlt, hcell⟩ := RuL.at_ hlie (by rw [HQL.out]; omega)
  injection e with e; injection e with e1 e2; subst e1; subst e2
  obtain ⟨c0, c1, c2', c3, c4, c5, c6, c7⟩ := hcell k y hy
  simp only [Nat.zero_add] at c0 c1 c2' c3 c4 c5 c6 c7
  obtain ⟨x0, xf, xl⟩ := HX2.out.keep hk (by omega)
  have d0 := x0 0 _ rfl
  have d1 := x0 1 _ rfl
  have d2 := x0 2 _ rfl
  have d3 := x0 3 _ rfl
  have d4 := x0 4 _ rfl
  have d5 := x0 5 _ rfl
  have d6 := x0 6 _ rfl
  have d7 := x0 7 _ rfl
  dsimp only at d0 d1 d2 d3 d4 d5 d6 d7
  have HB4 := Lib.hid (HB2.out.trans ((hk.mono (by omega)).below (by omega)))
  clear hs hk hlie hcell x0 hy
  obtain ⟨t, a, nm, ⟨vk, vn, vs⟩, l, gv⟩ := y
  dsimp only at c0 c1 c2' c3 c4 c5 c6 c7
  have hnb : b2 ≠ w.heap.size := by omega
  go_wp2_with fail
  refine bodyPost_ret (v := .agg #[.int .i64 t, .int .i64 a, .int .i64 nm, .int .i64 vk, .int .i64 vn, .string vs, .int .i64 l, .int .i64 gv]) (by simp [results, Try.results17, go_sem, d0, d1, d2, d3, d4, d5, d6, d7, xf]) rfl ⟨⟨t, a, nm, ⟨vk, vn, vs⟩, l, gv⟩, rfl, ?_⟩
  exact ((((((((HB4.out.setCell (by first | omega | (simp <;> omega)) _).setCell (by first | omega | (simp <;> omega)) _).setCell (by first | omega | (simp <;> omega)) _).setCell (by first | omega | (simp <;> omega)) _).setCell (by first | omega | (simp <;> omega)) _).setCell (by first | omega | (simp <;> omega)) _).setCell (by first | omega | (simp <;> omega)) _).setCell (by first | omega | (simp <;> omega)) _)
end Go.Proofs.Ytejlhgancbppkaa
