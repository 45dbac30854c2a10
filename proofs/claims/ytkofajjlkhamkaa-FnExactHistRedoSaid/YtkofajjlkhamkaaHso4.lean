/- Histories: the laws' own marks, written and found again. -/
import Derived.Test.YtkofajjlkhamkaaHso3
namespace Go.Proofs.Ytkofajjlkhamkaa
open Go.Joins Go.ChangeShapes Go.WideShapes Go.ChangeAt Go.RowKit Go.Deep
set_option linter.unusedVariables false
set_option linter.unusedSimpArgs false

def totH (x : Hi) : Nat := totC x.now + (totSs x.back + totSs x.ahead)
def markHi (x : Hi) (k : Nat) : Hi := ⟨markCs x.now k, markSs x.back (k + totC x.now), markSs x.ahead (k + totC x.now + totSs x.back)⟩
set_option maxRecDepth 100000 in
set_option maxHeartbeats 2000000 in
theorem markHist_own (lo hi k n m q r c0 c1 c2 : Nat) (A0 A1 A2 : Option Addr) (x : Hi) (w : World) (h : HiO w lo hi x A0 c0 A1 c1 A2 c2) (hsm : SmH x) (hn : x.now.length = n) (hm : x.back.length = m) (hq : x.ahead.length = q) (hhi : hi ≤ w.heap.size) (hkb : k + totH x ≤ 50000000) (hk0 : 0 < k) (hr : k + totH x = r) :
    Calls Try.prog 10 #[.agg #[.slice A0 n c0, .slice A1 m c1, .slice A2 q c2], .int .i64 k] w fun e w' => e = .returned (.int .i64 r) ∧ HiO w' lo hi (markHi x k) A0 c0 A1 c1 A2 c2 ∧ Turn lo hi w w' := by
  subst hr
  unfold totH at hkb ⊢
  obtain ⟨s0, ⟨l1, s1⟩, l2, s2⟩ := hsm
  have hb0 := Below.alloc (Below.refl w.heap.size w) (Nat.le_refl _) (.cells #[.slice A0 n c0, .slice A1 m c1, .slice A2 q c2] 30)
  have hz : w.heap.size < (w.alloc (.cells #[.slice A0 n c0, .slice A1 m c1, .slice A2 q c2] 30)).heap.size := by simp
  have o0 : (w.alloc (.cells #[.slice A0 n c0, .slice A1 m c1, .slice A2 q c2] 30)).cell? ⟨w.heap.size, 0, none⟩ = some (.slice A0 n c0) := by go_simp
  have o1 : (w.alloc (.cells #[.slice A0 n c0, .slice A1 m c1, .slice A2 q c2] 30)).cell? ⟨w.heap.size, 1, none⟩ = some (.slice A1 m c1) := by go_simp
  have o2 : (w.alloc (.cells #[.slice A0 n c0, .slice A1 m c1, .slice A2 q c2] 30)).cell? ⟨w.heap.size, 2, none⟩ = some (.slice A2 q c2) := by go_simp
  obtain ⟨a0, a1, a2, m1, m2, d1, d2, d3, h1, h2, h3⟩ := h
  have H1 := Lib.hid (h1.below hb0)
  have H2 := Lib.hid (h2.below hb0)
  have H3 := Lib.hid (h3.below hb0)
  have HT0 := Lib.hid (Turn.of_below (lo := lo) (hi := hi) hb0)
  have HE := Lib.hid (show (markHi x k).now.length = n ∧ (markHi x k).back.length = m ∧ (markHi x k).ahead.length = q from ⟨(markCs_len _ _).trans hn, (markSs_len _ _).trans hm, (markSs_len _ _).trans hq⟩)
  have HAA := Lib.hid (show n ≤ c0 ∧ m ≤ c1 ∧ q ≤ c2 from ⟨hn ▸ a0, hm ▸ a1, hq ▸ a2⟩)
  have k1 := fun w h => markSt_own lo m1 c0 k n (k + totC x.now) A0 x.now w h hn (by have := s0.1; omega) s0.2 (by omega) hk0 rfl
  have k2 := fun w h => markSs_own m1 m2 c1 (k + totC x.now) m A1 x.back w h hm (by omega) s1 (by omega) (by omega)
  have k3 := fun w h => markSs_own m2 hi c2 (k + totC x.now + totSs x.back) q A2 x.ahead w h hq (by omega) s2 (by omega) (by omega)
  have HM := Lib.hid (show markHi x k = ⟨markCs x.now k, markSs x.back (k + totC x.now), markSs x.ahead (k + totC x.now + totSs x.back)⟩ from rfl)
  rw [show k + (totC x.now + (totSs x.back + totSs x.ahead)) = k + totC x.now + totSs x.back + totSs x.ahead by omega]
  obtain ⟨y, hy⟩ : ∃ y, markHi x k = y := ⟨_, rfl⟩
  rw [hy] at HM HE ⊢
  clear hy
  obtain ⟨r1, hr1⟩ : ∃ u, k + totC x.now = u := ⟨_, rfl⟩
  rw [hr1] at k1 k2 k3 HM ⊢
  obtain ⟨r2, hr2⟩ : ∃ u, r1 + totSs x.back = u := ⟨_, rfl⟩
  rw [hr2] at k2 k3 HM ⊢
  obtain ⟨r3, hr3⟩ : ∃ u, r2 + totSs x.ahead = u := ⟨_, rfl⟩
  rw [hr3] at k3 ⊢
  have K1 := Lib.hid k1
  have K2 := Lib.hid k2
  have K3 := Lib.hid k3
  clear h1 h2 h3 k1 k2 k3 hr1 hr2 hr3 hkb s0 s1 s2 hn hm hq a0 a1 a2 hb0
  obtain ⟨w1, hw1⟩ : ∃ v, w.alloc (.cells #[.slice A0 n c0, .slice A1 m c1, .slice A2 q c2] 30) = v := ⟨_, rfl⟩
  obtain ⟨b, hb⟩ : ∃ v, w.heap.size = v := ⟨_, rfl⟩
  rw [hw1] at o0 o1 o2 hz H1 H2 H3 HT0
  rw [hb] at o0 o1 o2 hz hhi
  go_enter Try.func10, Try.ntmps10
  go_wp2_with fail
  (try rw [hw1])
  (try rw [hb])
  refine (K1.out _ H1.out).mono ?_
  rintro e w2 ⟨rfl, hz2, ht⟩
  clear hw1 hb
  replace o1 := (ht.cell (o := 1) hz (by omega)).trans o1
  replace o2 := (ht.cell (o := 2) hz (by omega)).trans o2
  have G1 := Lib.hid hz2
  have H22 := Lib.hid (H2.out.turn ht (.inr (Nat.le_refl _)))
  have H32 := Lib.hid (H3.out.turn ht (.inr d2))
  have hzz := Nat.lt_of_lt_of_le hz ht.size
  have HT2 := Lib.hid (HT0.out.trans (ht.mono (Nat.le_refl _) (by omega)))
  clear hz2 ht o0 hz
  go_wp2_with fail
  refine (K2.out _ H22.out).mono ?_
  rintro e w3 ⟨rfl, hz2, ht⟩
  replace o2 := (ht.cell (o := 2) hzz (by omega)).trans o2
  have G13 := Lib.hid (G1.out.turn ht (.inl (Nat.le_refl _)))
  have G2 := Lib.hid hz2
  have H33 := Lib.hid (H32.out.turn ht (.inr (Nat.le_refl _)))
  have HT3 := Lib.hid (HT2.out.trans (ht.mono d1 d3))
  clear hz2 ht o1
  go_wp2_with fail
  refine (K3.out _ H33.out).mono ?_
  rintro e w4 ⟨rfl, hz2, ht⟩
  have G14 := Lib.hid (G13.out.turn ht (.inl d2))
  have G24 := Lib.hid (G2.out.turn ht (.inl (Nat.le_refl _)))
  have G3 := Lib.hid hz2
  have HT4 := Lib.hid (HT3.out.trans (ht.mono (by omega) (Nat.le_refl _)))
  clear hz2 ht o2
  go_wp2_with fail
  go_ret
  obtain ⟨b0, b1, b2⟩ := HE.out
  obtain ⟨e0, e1, e2⟩ := HAA.out
  have he := HM.out
  subst he
  exact ⟨rfl, ⟨by rw [b0]; exact e0, by rw [b1]; exact e1, by rw [b2]; exact e2, m1, m2, d1, d2, d3, G14.out, G24.out, G3.out⟩, HT4.out⟩
set_option maxRecDepth 100000 in
set_option maxHeartbeats 2000000 in
theorem heldHist_any (k n m q r c0 c1 c2 : Nat) (A0 A1 A2 : Option Addr) (x : Hi) (w : World) (h : CeL w A0 (markHi x k).now ∧ StL w A1 (markHi x k).back ∧ StL w A2 (markHi x k).ahead) (hsm : SmH x) (hn : x.now.length = n) (hm : x.back.length = m) (hq : x.ahead.length = q) (hkb : k + totH x ≤ 50000000) (hk0 : 0 < k) (hr : k + totH x = r) :
    Calls Try.prog 11 #[.agg #[.slice A0 n c0, .slice A1 m c1, .slice A2 q c2], .int .i64 k] w fun e w' => e = .returned (.int .i64 r) ∧ Below w.heap.size w w' := by
  subst hr
  unfold totH at hkb ⊢
  obtain ⟨s0, ⟨l1, s1⟩, l2, s2⟩ := hsm
  have hb0 := Below.alloc (Below.refl w.heap.size w) (Nat.le_refl _) (.cells #[.slice A0 n c0, .slice A1 m c1, .slice A2 q c2] 30)
  have hz : w.heap.size < (w.alloc (.cells #[.slice A0 n c0, .slice A1 m c1, .slice A2 q c2] 30)).heap.size := by simp
  have o0 : (w.alloc (.cells #[.slice A0 n c0, .slice A1 m c1, .slice A2 q c2] 30)).cell? ⟨w.heap.size, 0, none⟩ = some (.slice A0 n c0) := by go_simp
  have o1 : (w.alloc (.cells #[.slice A0 n c0, .slice A1 m c1, .slice A2 q c2] 30)).cell? ⟨w.heap.size, 1, none⟩ = some (.slice A1 m c1) := by go_simp
  have o2 : (w.alloc (.cells #[.slice A0 n c0, .slice A1 m c1, .slice A2 q c2] 30)).cell? ⟨w.heap.size, 2, none⟩ = some (.slice A2 q c2) := by go_simp
  obtain ⟨h1, h2, h3⟩ := h
  have H1 := Lib.hid (h1.below hb0)
  have H2 := Lib.hid (h2.below hb0)
  have H3 := Lib.hid (h3.below hb0)
  have HB := Lib.hid hb0
  have k1 := fun w h => heldCells_any A0 c0 k n (k + totC x.now) x.now w h hn (by have := s0.1; omega) s0.2 (by omega) hk0 rfl
  have k2 := fun w h => heldSs_any A1 c1 (k + totC x.now) m (k + totC x.now + totSs x.back) x.back w h hm (by omega) s1 (by omega) (by omega) rfl
  have k3 := fun w h => heldSs_any A2 c2 (k + totC x.now + totSs x.back) q (k + totC x.now + totSs x.back + totSs x.ahead) x.ahead w h hq (by omega) s2 (by omega) (by omega) rfl
  rw [show k + (totC x.now + (totSs x.back + totSs x.ahead)) = k + totC x.now + totSs x.back + totSs x.ahead by omega]
  have e1 : (markHi x k).now = markCs x.now k := rfl
  have e2 : (markHi x k).back = markSs x.back (k + totC x.now) := rfl
  have e3 : (markHi x k).ahead = markSs x.ahead (k + totC x.now + totSs x.back) := rfl
  rw [e1] at H1
  rw [e2] at H2
  rw [e3] at H3
  clear e1 e2 e3
  obtain ⟨r1, hr1⟩ : ∃ u, k + totC x.now = u := ⟨_, rfl⟩
  rw [hr1] at k1 k2 k3 H2 H3 ⊢
  obtain ⟨r2, hr2⟩ : ∃ u, r1 + totSs x.back = u := ⟨_, rfl⟩
  rw [hr2] at k2 k3 H3 ⊢
  obtain ⟨r3, hr3⟩ : ∃ u, r2 + totSs x.ahead = u := ⟨_, rfl⟩
  rw [hr3] at k3 ⊢
  have K1 := Lib.hid k1
  have K2 := Lib.hid k2
  have K3 := Lib.hid k3
  have n1 : decide ((r1 : Int) < 0) = false := by simp
  have n2 : decide ((r2 : Int) < 0) = false := by simp
  have n3 : decide ((r3 : Int) < 0) = false := by simp
  clear h1 h2 h3 k1 k2 k3 hr1 hr2 hr3 hkb s0 s1 s2 hn hm hq hb0
  obtain ⟨w1, hw1⟩ : ∃ v, w.alloc (.cells #[.slice A0 n c0, .slice A1 m c1, .slice A2 q c2] 30) = v := ⟨_, rfl⟩
  rw [hw1] at o0 o1 o2 hz H1 H2 H3 HB
  go_enter Try.func11, Try.ntmps11
  go_wp2_with fail
  (try rw [hw1])
  refine (K1.out _ H1.out).mono ?_
  rintro e w2 ⟨rfl, hb⟩
  clear hw1
  replace o1 := (hb.cell (p := ⟨w.heap.size, 1, none⟩) hz).trans o1
  replace o2 := (hb.cell (p := ⟨w.heap.size, 2, none⟩) hz).trans o2
  have H22 := Lib.hid (H2.out.below hb)
  have H32 := Lib.hid (H3.out.below hb)
  have hzz := Nat.lt_of_lt_of_le hz hb.size
  have HB2 := Lib.hid (more HB.out (Nat.le_refl _) hb)
  clear hb o0 hz
  go_wp2_with fail
  refine (K2.out _ H22.out).mono ?_
  rintro e w3 ⟨rfl, hb⟩
  replace o2 := (hb.cell (p := ⟨w.heap.size, 2, none⟩) hzz).trans o2
  have H33 := Lib.hid (H32.out.below hb)
  have HB3 := Lib.hid (more HB2.out (Nat.le_refl _) hb)
  clear hb o1
  go_wp2_with fail
  refine (K3.out _ H33.out).mono ?_
  rintro e w4 ⟨rfl, hb⟩
  have HB4 := Lib.hid (more HB3.out (Nat.le_refl _) hb)
  clear hb o2
  go_wp2_with fail
  go_ret
  exact ⟨rfl, HB4.out⟩
end Go.Proofs.Ytkofajjlkhamkaa
