/- What the laws draw of steps and formulas. -/
import Derived.Test.YtgejhjhjdepmmaaForm2
import Derived.Test.YtgejhjhjdepmmaaSrc
namespace Go.Proofs.Ytgejhjhjdepmmaa
open Go.Joins Go.ChangeShapes Go.WideShapes Go.ChangeAt Go.RowKit Go.Deep
set_option linter.unusedVariables false
set_option linter.unusedSimpArgs false

/-- What is drawn of valid values. -/
def GoodV (g : Nat) (A : Option Addr) (len cap : Nat) (w : World) (e : Ending) (w' : World) : Prop :=
  ∃ (k n : Int) (s : ByteArray), e = .returned (.agg #[.int .i64 k, .int .i64 n, .string s]) ∧ validB k n s = true ∧ St g A len cap w' ∧ Keep g w.heap.size w w'

theorem empty_isEmpty : (⟨#[]⟩ : ByteArray).toList.isEmpty = true := by rw [Lib.toList_data]; rfl
theorem valid_two : validB 1 2 ⟨#[]⟩ = true := by unfold validB; rw [empty_isEmpty]; rfl
theorem zeroB_zero : zeroB 0 0 ⟨#[]⟩ = true := by unfold zeroB; rw [empty_isEmpty]; rfl
/-- A box of a call's own, behind a draw. -/
theorem own_more {g b : Nat} {W w w2 : World} (hk : Keep g w.heap.size w w2) (hlt : b < w.heap.size) (hn : ¬ b = g)
    (o1 : ∀ o, w.cell? ⟨b, o, none⟩ = W.cell? ⟨b, o, none⟩) (p1 : ∀ o, w.frozen? ⟨b, o, none⟩ = W.frozen? ⟨b, o, none⟩) :
    (∀ o, w2.cell? ⟨b, o, none⟩ = W.cell? ⟨b, o, none⟩) ∧ (∀ o, w2.frozen? ⟨b, o, none⟩ = W.frozen? ⟨b, o, none⟩) :=
  ⟨fun o => (hk.cell.1 b o hlt hn).trans (o1 o), fun o => (hk.cell.2 b o hlt hn).trans (p1 o)⟩

set_option maxHeartbeats 400000 in
theorem good_any (g : Nat) (A : Option Addr) (len cap : Nat) (w : World) (hs : St g A len cap w) :
    Calls Try.prog 55 #[.pointer (some ⟨g, 0, none⟩)] w (GoodV g A len cap w) := by
  have HG := Lib.hid hs.lt
  have HN : ¬ w.heap.size = g := by have := hs.lt; omega
  have HA := Lib.hid (hs.alloc (.cells #[.int .i64 0, .int .i64 0, .string ⟨#[]⟩] 38))
  have HK := Lib.hid ((Keep.refl g w.heap.size w).alloc (Nat.le_refl _) (.cells #[.int .i64 0, .int .i64 0, .string ⟨#[]⟩] 38))
  clear hs
  go_enter Try.func55, Try.ntmps55
  go_wp2_with fail
  refine (value_any g A len cap _ HA.out).mono ?_
  rintro e w1 ⟨k, n, s, rfl, hd, hs1, hk1⟩
  have hc := hk1.cell.1 w.heap.size
  have hf := hk1.cell.2 w.heap.size
  simp only [show w.heap.size < (w.alloc (.cells #[.int .i64 0, .int .i64 0, .string ⟨#[]⟩] 38)).heap.size by simp, HN, not_false_eq_true, ne_eq, forall_const] at hc hf
  have HS1 := Lib.hid hs1
  have HK1 := Lib.hid (HK.out.more (Nat.le_refl _) (hk1.mono (by simp)))
  have HW1 : w.heap.size < w1.heap.size := by have := hk1.size; simp at this; omega
  have HZ1 : ¬ w1.heap.size = g := by have := hs1.lt; omega
  have HV := valid_spec k n s
  clear hs1 hk1
  have hV3 := HS1.out.alloc (.cells #[.int .i64 k, .int .i64 n, .string s] 38)
  have hK3 := HK1.out.alloc (by omega) (.cells #[.int .i64 k, .int .i64 n, .string s] 38)
  have HV3 := Lib.hid hV3
  have HK3 := Lib.hid hK3
  clear hV3 hK3
  cases hv : validB k n s
  all_goals
    rw [hv] at HV
    have HV1 := Lib.hid HV
    have HVV := Lib.hid hv
    clear HV hv
    go_wp2_with fail
    refine (HV1.out _).mono ?_
    rintro e w2 ⟨rfl, hb⟩
    have HS2 := Lib.hid (HV3.out.below hb)
    have HK2 := Lib.hid (HK3.out.trans ((Keep.of_below hb).mono (by simp; omega)))
    have hz2 := hb.size
    simp at hz2
    have o2 : ∀ o, w2.cell? ⟨w.heap.size, o, none⟩ = (w.alloc (.cells #[.int .i64 0, .int .i64 0, .string ⟨#[]⟩] 38)).cell? ⟨w.heap.size, o, none⟩ := fun o => (hb.cell (p := ⟨w.heap.size, o, none⟩) (by simp; omega)).trans ((World.cell?_alloc_lt w1 _ _ HW1).trans (hc o))
    have p2 : ∀ o, w2.frozen? ⟨w.heap.size, o, none⟩ = (w.alloc (.cells #[.int .i64 0, .int .i64 0, .string ⟨#[]⟩] 38)).frozen? ⟨w.heap.size, o, none⟩ := fun o => (hb.frozen (p := ⟨w.heap.size, o, none⟩) (by simp; omega)).trans ((World.frozen?_of_block (a := ⟨w.heap.size, o, none⟩) (Below.heap_alloc w1 _ _ HW1)).trans (hf o))
    have o3 : ∀ o, w2.cell? ⟨w1.heap.size, o, none⟩ = (w1.alloc (.cells #[.int .i64 k, .int .i64 n, .string s] 38)).cell? ⟨w1.heap.size, o, none⟩ := fun o => hb.cell (p := ⟨w1.heap.size, o, none⟩) (by simp)
    have q2 : w.heap.size < w2.heap.size := by omega
    clear hc hf
    clear hb
    go_wp2_with fail
  · refine bodyPost_ret (v := .agg #[.int .i64 1, .int .i64 2, .string ⟨#[]⟩]) (by simp [results, Try.results55, go_sem, o2]) rfl ⟨1, 2, ⟨#[]⟩, rfl, valid_two, ?_, ?_⟩
    · exact ((HS2.out.set_ HG.out _).set_ HG.out _).set_ HG.out _
    · exact ((HK2.out.set_ (.inr (Nat.le_refl _)) _).set_ (.inr (Nat.le_refl _)) _).set_ (.inr (Nat.le_refl _)) _
  · refine bodyPost_ret (v := .agg #[.int .i64 k, .int .i64 n, .string s]) (by simp [results, Try.results55, go_sem, o2]) rfl ⟨k, n, s, rfl, HVV.out, ?_, ?_⟩
    · exact ((HS2.out.set_ HG.out _).set_ HG.out _).set_ HG.out _
    · exact ((HK2.out.set_ (.inr (Nat.le_refl _)) _).set_ (.inr (Nat.le_refl _)) _).set_ (.inr (Nat.le_refl _)) _

/-- What is drawn of steps that take nothing. -/
def GoodL (g : Nat) (A : Option Addr) (len cap : Nat) (p st t : Int) (w : World) (e : Ending) (w' : World) : Prop :=
  ∃ x : Stp, e = .returned (.agg #[.int .i64 x.k, .int .i64 x.a, .int .i64 x.vk, .int .i64 x.vn, .string x.vs]) ∧ stepB opS x p st t = true ∧ takesV x.k = 0 ∧ St g A len cap w' ∧ Keep g w.heap.size w w'

set_option maxHeartbeats 1000000 in
theorem leaf_any (g : Nat) (A : Option Addr) (len cap : Nat) (p st t : Int) (w : World) (hs : St g A len cap w) (hp : 0 ≤ p ∧ p ≤ 3) (hst : 0 ≤ st ∧ st ≤ 3) (ht : 0 ≤ t ∧ t ≤ 4) :
    Calls Try.prog 44 #[.pointer (some ⟨g, 0, none⟩), .int .i64 p, .int .i64 st, .int .i64 t] w (GoodL g A len cap p st t w) := by
  have HG := Lib.hid hs.lt
  have HN : ¬ w.heap.size = g := by have := hs.lt; omega
  have HA := Lib.hid (hs.alloc (.cells #[.int .i64 0, .int .i64 0, .int .i64 0, .int .i64 0, .string ⟨#[]⟩] 52))
  have HK := Lib.hid ((Keep.refl g w.heap.size w).alloc (Nat.le_refl _) (.cells #[.int .i64 0, .int .i64 0, .int .i64 0, .int .i64 0, .string ⟨#[]⟩] 52))
  clear hs
  obtain ⟨p0, p1⟩ := hp
  obtain ⟨s0, s1⟩ := hst
  obtain ⟨t0, t1⟩ := ht
  go_enter Try.func44, Try.ntmps44
  go_wp2_with fail
  refine (pick_any g A len cap 7 _ HA.out (by omega)).mono ?_
  rintro e w1 ⟨r, rfl, r0, r1, hs1, hk1⟩
  have r2 : r < 7 := by omega
  clear r1
  obtain ⟨o1, q1⟩ := own_more (b := w.heap.size) hk1 (by simp) HN (fun _ => rfl) (fun _ => rfl)
  have HW1 : w.heap.size < w1.heap.size := by have := hk1.size; simp at this; omega
  have HS1 := Lib.hid hs1
  have HK1 := Lib.hid (HK.out.more (Nat.le_refl _) (hk1.mono (by simp)))
  have HGD := Lib.hid (good_any g A len cap w1 hs1)
  have HP := Lib.hid (fun n h => pick_any g A len cap n w1 hs1 h)
  clear hs1 hk1
  rcases (by omega : (r = 0 ∧ 0 < st) ∨ (r = 1 ∧ 0 < st) ∨ (r = 2 ∧ 0 < p) ∨ (r = 3 ∧ 0 < t) ∨ r = 4 ∨ (r = 0 ∧ st = 0) ∨ (r = 1 ∧ st = 0) ∨ (r = 2 ∧ p = 0) ∨ (r = 3 ∧ t = 0) ∨ 5 ≤ r) with ⟨rfl, hpos⟩ | ⟨rfl, hpos⟩ | ⟨rfl, hpos⟩ | ⟨rfl, hpos⟩ | rfl | ⟨rfl, rfl⟩ | ⟨rfl, rfl⟩ | ⟨rfl, rfl⟩ | ⟨rfl, rfl⟩ | r5
  · go_wp2_with fail
    refine (HP.out st (by omega)).mono ?_
    rintro e w2 ⟨z, rfl, z0, z1, hs2, hk2⟩
    have z2 : 0 ≤ z ∧ z < st := by omega
    clear z1
    have HX := Lib.hid (show stepB opS ⟨2, z, 0, 0, ⟨#[]⟩⟩ p st t = true by simp [stepB, zeroB_zero]; omega)
    obtain ⟨o2, q2⟩ := own_more (b := w.heap.size) hk2 HW1 HN o1 q1
    have HS2 := Lib.hid hs2
    have HK2 := Lib.hid (HK1.out.more (Nat.le_refl _) hk2)
    clear hs2 hk2 o1 q1 z2
    go_wp2_with fail
    refine bodyPost_ret (v := .agg #[.int .i64 2, .int .i64 z, .int .i64 0, .int .i64 0, .string ⟨#[]⟩]) (by simp [results, Try.results44, go_sem, o2]) rfl ⟨⟨2, z, 0, 0, ⟨#[]⟩⟩, rfl, HX.out, (by decide : takesV 2 = 0), ?_, ?_⟩
    · exact ((((HS2.out.set_ HG.out _).set_ HG.out _).set_ HG.out _).set_ HG.out _).set_ HG.out _
    · exact ((((HK2.out.set_ (.inr (Nat.le_refl _)) _).set_ (.inr (Nat.le_refl _)) _).set_ (.inr (Nat.le_refl _)) _).set_ (.inr (Nat.le_refl _)) _).set_ (.inr (Nat.le_refl _)) _
  · go_wp2_with fail
    refine (HP.out st (by omega)).mono ?_
    rintro e w2 ⟨z, rfl, z0, z1, hs2, hk2⟩
    have z2 : 0 ≤ z ∧ z < st := by omega
    clear z1
    have HX := Lib.hid (show stepB opS ⟨2, z, 0, 0, ⟨#[]⟩⟩ p st t = true by simp [stepB, zeroB_zero]; omega)
    obtain ⟨o2, q2⟩ := own_more (b := w.heap.size) hk2 HW1 HN o1 q1
    have HS2 := Lib.hid hs2
    have HK2 := Lib.hid (HK1.out.more (Nat.le_refl _) hk2)
    clear hs2 hk2 o1 q1 z2
    go_wp2_with fail
    refine bodyPost_ret (v := .agg #[.int .i64 2, .int .i64 z, .int .i64 0, .int .i64 0, .string ⟨#[]⟩]) (by simp [results, Try.results44, go_sem, o2]) rfl ⟨⟨2, z, 0, 0, ⟨#[]⟩⟩, rfl, HX.out, (by decide : takesV 2 = 0), ?_, ?_⟩
    · exact ((((HS2.out.set_ HG.out _).set_ HG.out _).set_ HG.out _).set_ HG.out _).set_ HG.out _
    · exact ((((HK2.out.set_ (.inr (Nat.le_refl _)) _).set_ (.inr (Nat.le_refl _)) _).set_ (.inr (Nat.le_refl _)) _).set_ (.inr (Nat.le_refl _)) _).set_ (.inr (Nat.le_refl _)) _
  · go_wp2_with fail
    refine (HP.out p (by omega)).mono ?_
    rintro e w2 ⟨z, rfl, z0, z1, hs2, hk2⟩
    have z2 : 0 ≤ z ∧ z < p := by omega
    clear z1
    have HX := Lib.hid (show stepB opS ⟨1, z, 0, 0, ⟨#[]⟩⟩ p st t = true by simp [stepB, zeroB_zero]; omega)
    obtain ⟨o2, q2⟩ := own_more (b := w.heap.size) hk2 HW1 HN o1 q1
    have HS2 := Lib.hid hs2
    have HK2 := Lib.hid (HK1.out.more (Nat.le_refl _) hk2)
    clear hs2 hk2 o1 q1 z2
    go_wp2_with fail
    refine bodyPost_ret (v := .agg #[.int .i64 1, .int .i64 z, .int .i64 0, .int .i64 0, .string ⟨#[]⟩]) (by simp [results, Try.results44, go_sem, o2]) rfl ⟨⟨1, z, 0, 0, ⟨#[]⟩⟩, rfl, HX.out, (by decide : takesV 1 = 0), ?_, ?_⟩
    · exact ((((HS2.out.set_ HG.out _).set_ HG.out _).set_ HG.out _).set_ HG.out _).set_ HG.out _
    · exact ((((HK2.out.set_ (.inr (Nat.le_refl _)) _).set_ (.inr (Nat.le_refl _)) _).set_ (.inr (Nat.le_refl _)) _).set_ (.inr (Nat.le_refl _)) _).set_ (.inr (Nat.le_refl _)) _
  · go_wp2_with fail
    refine (HP.out t (by omega)).mono ?_
    rintro e w2 ⟨z, rfl, z0, z1, hs2, hk2⟩
    have z2 : 0 ≤ z ∧ z < t := by omega
    clear z1
    have HX := Lib.hid (show stepB opS ⟨3, z, 0, 0, ⟨#[]⟩⟩ p st t = true by simp [stepB, zeroB_zero]; omega)
    obtain ⟨o2, q2⟩ := own_more (b := w.heap.size) hk2 HW1 HN o1 q1
    have HS2 := Lib.hid hs2
    have HK2 := Lib.hid (HK1.out.more (Nat.le_refl _) hk2)
    clear hs2 hk2 o1 q1 z2
    go_wp2_with fail
    refine bodyPost_ret (v := .agg #[.int .i64 3, .int .i64 z, .int .i64 0, .int .i64 0, .string ⟨#[]⟩]) (by simp [results, Try.results44, go_sem, o2]) rfl ⟨⟨3, z, 0, 0, ⟨#[]⟩⟩, rfl, HX.out, (by decide : takesV 3 = 0), ?_, ?_⟩
    · exact ((((HS2.out.set_ HG.out _).set_ HG.out _).set_ HG.out _).set_ HG.out _).set_ HG.out _
    · exact ((((HK2.out.set_ (.inr (Nat.le_refl _)) _).set_ (.inr (Nat.le_refl _)) _).set_ (.inr (Nat.le_refl _)) _).set_ (.inr (Nat.le_refl _)) _).set_ (.inr (Nat.le_refl _)) _
  · go_wp2_with fail
    refine (HP.out 2 (by omega)).mono ?_
    rintro e w2 ⟨z, rfl, z0, z1, hs2, hk2⟩
    have z2 : 0 ≤ z ∧ z < 2 := by omega
    clear z1
    have HX := Lib.hid (show stepB opS ⟨4, z, 0, 0, ⟨#[]⟩⟩ p st t = true by simp [stepB, zeroB_zero]; omega)
    obtain ⟨o2, q2⟩ := own_more (b := w.heap.size) hk2 HW1 HN o1 q1
    have HS2 := Lib.hid hs2
    have HK2 := Lib.hid (HK1.out.more (Nat.le_refl _) hk2)
    clear hs2 hk2 o1 q1 z2
    go_wp2_with fail
    refine bodyPost_ret (v := .agg #[.int .i64 4, .int .i64 z, .int .i64 0, .int .i64 0, .string ⟨#[]⟩]) (by simp [results, Try.results44, go_sem, o2]) rfl ⟨⟨4, z, 0, 0, ⟨#[]⟩⟩, rfl, HX.out, (by decide : takesV 4 = 0), ?_, ?_⟩
    · exact ((((HS2.out.set_ HG.out _).set_ HG.out _).set_ HG.out _).set_ HG.out _).set_ HG.out _
    · exact ((((HK2.out.set_ (.inr (Nat.le_refl _)) _).set_ (.inr (Nat.le_refl _)) _).set_ (.inr (Nat.le_refl _)) _).set_ (.inr (Nat.le_refl _)) _).set_ (.inr (Nat.le_refl _)) _
  case inr.inr.inr.inr.inr.inr.inr.inr.inr =>
    have e0 : (r == 0) = false := by simp; omega
    have e1 : (r == 1) = false := by simp; omega
    have e2 : (r == 2) = false := by simp; omega
    have e3 : (r == 3) = false := by simp; omega
    have e4 : (r == 4) = false := by simp; omega
    clear r5
    go_wp2_with fail
    refine HGD.out.mono ?_
    rintro e w2 ⟨k, n, s, rfl, hv, hs2, hk2⟩
    have HV := Lib.hid hv
    obtain ⟨o2, q2⟩ := own_more (b := w.heap.size) hk2 HW1 HN o1 q1
    have HS2 := Lib.hid hs2
    have HK2 := Lib.hid (HK1.out.more (Nat.le_refl _) hk2)
    clear hs2 hk2 o1 q1 hv
    go_wp2_with fail
    refine bodyPost_ret (v := .agg #[.int .i64 0, .int .i64 0, .int .i64 k, .int .i64 n, .string s]) (by simp [results, Try.results44, go_sem, o2]) rfl ⟨⟨0, 0, k, n, s⟩, rfl, (by simp [stepB, HV.out]), (by decide : takesV 0 = 0), ?_, ?_⟩
    · exact ((((HS2.out.set_ HG.out _).set_ HG.out _).set_ HG.out _).set_ HG.out _).set_ HG.out _
    · exact ((((HK2.out.set_ (.inr (Nat.le_refl _)) _).set_ (.inr (Nat.le_refl _)) _).set_ (.inr (Nat.le_refl _)) _).set_ (.inr (Nat.le_refl _)) _).set_ (.inr (Nat.le_refl _)) _
  all_goals
    go_wp2_with fail
    refine HGD.out.mono ?_
    rintro e w2 ⟨k, n, s, rfl, hv, hs2, hk2⟩
    have HV := Lib.hid hv
    obtain ⟨o2, q2⟩ := own_more (b := w.heap.size) hk2 HW1 HN o1 q1
    have HS2 := Lib.hid hs2
    have HK2 := Lib.hid (HK1.out.more (Nat.le_refl _) hk2)
    clear hs2 hk2 o1 q1 hv
    go_wp2_with fail
    refine bodyPost_ret (v := .agg #[.int .i64 0, .int .i64 0, .int .i64 k, .int .i64 n, .string s]) (by simp [results, Try.results44, go_sem, o2]) rfl ⟨⟨0, 0, k, n, s⟩, rfl, (by simp [stepB, HV.out]), (by decide : takesV 0 = 0), ?_, ?_⟩
    · exact ((((HS2.out.set_ HG.out _).set_ HG.out _).set_ HG.out _).set_ HG.out _).set_ HG.out _
    · exact ((((HK2.out.set_ (.inr (Nat.le_refl _)) _).set_ (.inr (Nat.le_refl _)) _).set_ (.inr (Nat.le_refl _)) _).set_ (.inr (Nat.le_refl _)) _).set_ (.inr (Nat.le_refl _)) _

end Go.Proofs.Ytgejhjhjdepmmaa
