/- What the laws draw of valid values. -/
import Derived.Test.YtcpfjlbicofkeaaDoorSrc
namespace Go.Proofs.YtcpfjlbicofkeaaDoor
open Go.Joins Go.ChangeShapes Go.WideShapes Go.ChangeAt Go.RowKit Go.Deep
set_option linter.unusedVariables false
set_option linter.unusedSimpArgs false

/-- What is drawn of valid values. -/
def GoodV (g : Nat) (A : Option Addr) (len cap : Nat) (w : World) (e : Ending) (w' : World) : Prop :=
  ∃ (k n : Int) (s : ByteArray), e = .returned (.agg #[.int .i64 k, .int .i64 n, .string s]) ∧ validB k n s = true ∧ St g A len cap w' ∧ Keep g w.heap.size w w'

theorem empty_isEmpty : (⟨#[]⟩ : ByteArray).toList.isEmpty = true := by rw [Lib.toList_data]; rfl
theorem valid_two : validB 1 2 ⟨#[]⟩ = true := by unfold validB; rw [empty_isEmpty]; rfl
/-- A box of a call's own, behind a draw. -/
theorem own_more {g b : Nat} {W w w2 : World} (hk : Keep g w.heap.size w w2) (hlt : b < w.heap.size) (hn : ¬ b = g)
    (o1 : ∀ o, w.cell? ⟨b, o, none⟩ = W.cell? ⟨b, o, none⟩) (p1 : ∀ o, w.frozen? ⟨b, o, none⟩ = W.frozen? ⟨b, o, none⟩) :
    (∀ o, w2.cell? ⟨b, o, none⟩ = W.cell? ⟨b, o, none⟩) ∧ (∀ o, w2.frozen? ⟨b, o, none⟩ = W.frozen? ⟨b, o, none⟩) :=
  ⟨fun o => (hk.cell.1 b o hlt hn).trans (o1 o), fun o => (hk.cell.2 b o hlt hn).trans (p1 o)⟩

set_option maxHeartbeats 400000 in
theorem good_any (g : Nat) (A : Option Addr) (len cap : Nat) (w : World) (hs : St g A len cap w) :
    Calls Tryd.prog 65 #[.pointer (some ⟨g, 0, none⟩)] w (GoodV g A len cap w) := by
  have HG := Lib.hid hs.lt
  have HN : ¬ w.heap.size = g := by have := hs.lt; omega
  have HA := Lib.hid (hs.alloc (.cells #[.int .i64 0, .int .i64 0, .string ⟨#[]⟩] 74))
  have HK := Lib.hid ((Keep.refl g w.heap.size w).alloc (Nat.le_refl _) (.cells #[.int .i64 0, .int .i64 0, .string ⟨#[]⟩] 74))
  clear hs
  go_enter Tryd.func65, Tryd.ntmps65
  go_wp2_with fail
  refine (value_any g A len cap _ HA.out).mono ?_
  rintro e w1 ⟨k, n, s, rfl, hd, hs1, hk1⟩
  have hc := hk1.cell.1 w.heap.size
  have hf := hk1.cell.2 w.heap.size
  simp only [show w.heap.size < (w.alloc (.cells #[.int .i64 0, .int .i64 0, .string ⟨#[]⟩] 74)).heap.size by simp, HN, not_false_eq_true, ne_eq, forall_const] at hc hf
  have HS1 := Lib.hid hs1
  have HK1 := Lib.hid (HK.out.more (Nat.le_refl _) (hk1.mono (by simp)))
  have HW1 : w.heap.size < w1.heap.size := by have := hk1.size; simp at this; omega
  have HZ1 : ¬ w1.heap.size = g := by have := hs1.lt; omega
  have HV := valid_spec k n s
  clear hs1 hk1
  have hV3 := HS1.out.alloc (.cells #[.int .i64 k, .int .i64 n, .string s] 74)
  have hK3 := HK1.out.alloc (by omega) (.cells #[.int .i64 k, .int .i64 n, .string s] 74)
  have HV3 := Lib.hid hV3
  have HK3 := Lib.hid hK3
  clear hV3 hK3
  cases hv : validB k n s
  all_goals
    rw [hv] at HV
    have HV1 := Lib.hid HV
    have HVV := Lib.hid hv
    clear HV hv
    go_wp2_with fail
    refine (HV1.out _).mono ?_
    rintro e w2 ⟨rfl, hb⟩
    have HS2 := Lib.hid (HV3.out.below hb)
    have HK2 := Lib.hid (HK3.out.trans ((Keep.of_below hb).mono (by simp; omega)))
    have hz2 := hb.size
    simp at hz2
    have o2 : ∀ o, w2.cell? ⟨w.heap.size, o, none⟩ = (w.alloc (.cells #[.int .i64 0, .int .i64 0, .string ⟨#[]⟩] 74)).cell? ⟨w.heap.size, o, none⟩ := fun o => (hb.cell (p := ⟨w.heap.size, o, none⟩) (by simp; omega)).trans ((World.cell?_alloc_lt w1 _ _ HW1).trans (hc o))
    have p2 : ∀ o, w2.frozen? ⟨w.heap.size, o, none⟩ = (w.alloc (.cells #[.int .i64 0, .int .i64 0, .string ⟨#[]⟩] 74)).frozen? ⟨w.heap.size, o, none⟩ := fun o => (hb.frozen (p := ⟨w.heap.size, o, none⟩) (by simp; omega)).trans ((World.frozen?_of_block (a := ⟨w.heap.size, o, none⟩) (Below.heap_alloc w1 _ _ HW1)).trans (hf o))
    have o3 : ∀ o, w2.cell? ⟨w1.heap.size, o, none⟩ = (w1.alloc (.cells #[.int .i64 k, .int .i64 n, .string s] 74)).cell? ⟨w1.heap.size, o, none⟩ := fun o => hb.cell (p := ⟨w1.heap.size, o, none⟩) (by simp)
    have q2 : w.heap.size < w2.heap.size := by omega
    clear hc hf
    clear hb
    go_wp2_with fail
  · refine bodyPost_ret (v := .agg #[.int .i64 1, .int .i64 2, .string ⟨#[]⟩]) (by simp [results, Tryd.results65, go_sem, o2]) rfl ⟨1, 2, ⟨#[]⟩, rfl, valid_two, ?_, ?_⟩
    · exact ((HS2.out.set_ HG.out _).set_ HG.out _).set_ HG.out _
    · exact ((HK2.out.set_ (.inr (Nat.le_refl _)) _).set_ (.inr (Nat.le_refl _)) _).set_ (.inr (Nat.le_refl _)) _
  · refine bodyPost_ret (v := .agg #[.int .i64 k, .int .i64 n, .string s]) (by simp [results, Tryd.results65, go_sem, o2]) rfl ⟨k, n, s, rfl, HVV.out, ?_, ?_⟩
    · exact ((HS2.out.set_ HG.out _).set_ HG.out _).set_ HG.out _
    · exact ((HK2.out.set_ (.inr (Nat.le_refl _)) _).set_ (.inr (Nat.le_refl _)) _).set_ (.inr (Nat.le_refl _)) _

theorem Keep.grown {g B : Nat} {a b c : World} {row : Nat} (h : Keep g B a b) (hg : b.grownBy c (some row)) (hB : B ≤ b.heap.size) (hr : B ≤ row) : Keep g B a c :=
  h.trans ⟨hg.os, hg.tape, hg.output, hg.size, fun k hk hn => hg.block k (by omega) (by simp; omega)⟩
theorem St.grown {w w' : World} {g : Nat} {A : Option Addr} {len cap : Nat} {row : Nat} (h : St g A len cap w) (hg : w.grownBy w' (some row)) (hr : g < row) : St g A len cap w' :=
  h.of_block fun k hk => hg.block k (by have := h.lt; omega) (by simp; omega)
end Go.Proofs.YtcpfjlbicofkeaaDoor
