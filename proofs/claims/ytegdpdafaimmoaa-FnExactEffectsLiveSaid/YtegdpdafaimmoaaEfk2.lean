/- The key of a place: a text of two bytes a slot. -/
import Derived.Test.YtegdpdafaimmoaaEfk1
import Derived.Test.YtegdpdafaimmoaaShelf
namespace Go.Proofs.Ytegdpdafaimmoaa
open Go.Joins Go.ChangeShapes Go.WideShapes Go.ChangeAt Go.RowKit Go.Deep
set_option linter.unusedVariables false
set_option linter.unusedSimpArgs false

def Sl.bytes (x : Sl) : List UInt8 := [UInt8.ofNat x.p.toNat, UInt8.ofNat x.s.toNat]
def keyB (xs : List Sl) : List UInt8 := xs.flatMap Sl.bytes
def Fits (xs : List Sl) : Prop := ∀ x ∈ xs, 0 ≤ x.p ∧ x.p ≤ 255 ∧ 0 ≤ x.s ∧ x.s ≤ 255
theorem keyB_len (xs : List Sl) : (keyB xs).length = xs.length * 2 := by
  induction xs with
  | nil => rfl
  | cons x xs ih => rw [keyB, List.flatMap_cons, List.length_append]; rw [keyB] at ih; rw [ih]; simp [Sl.bytes]; omega
theorem byte_of {p : Int} (h0 : 0 ≤ p) (h1 : p ≤ 255) : Lib.byteCells [UInt8.ofNat p.toNat] = [.int .u8 p] := by
  unfold Lib.byteCells
  have : ((UInt8.ofNat p.toNat).toNat : Int) = p := by
    rw [UInt8.toNat_ofNat']
    omega
  simp only [List.map_cons, List.map_nil, this]
theorem Fits.of_place {xs : List Sl} (h : placeB xs = true) : Fits xs := fun x hx => by
  unfold placeB at h
  rw [Bool.and_eq_true, List.all_eq_true] at h
  have := h.2 x hx
  unfold slotB at this
  simp only [Bool.and_eq_true, decide_eq_true_eq] at this
  omega
theorem keyB_step {xs : List Sl} {k : Nat} {x : Sl} (hx : xs[k]? = some x) : keyB (xs.take (k + 1)) = keyB (xs.take k) ++ x.bytes := by
  obtain ⟨hk, e⟩ := List.getElem?_eq_some_iff.1 hx
  rw [List.take_succ_eq_append_getElem hk, keyB, List.flatMap_append, e]
  simp [keyB]

set_option maxHeartbeats 2000000 in
theorem keyOf_any (A : Option Addr) (c n : Nat) (xs : List Sl) (w : World) (hx : SlL w A xs) (hn : xs.length = n) (hl : n ≤ 1000) (hf : Fits xs) :
    Calls Try.prog 56 #[.slice A n c] w fun e w' => e = .returned (.string ⟨(keyB xs).toArray⟩) ∧ Below w.heap.size w w' := by
  have HN := Lib.hid hn
  have HX := Lib.hid hx
  have HF := Lib.hid hf
  have HI := Lib.hid (Lib.IsBuilderF.of (Lib.fresh_isBuilder 99 5 w))
  have HB0 := Lib.hid (Below.alloc (Below.refl w.heap.size w) (Nat.le_refl _) (.cells #[.pointer none, .slice none 0 0] 99))
  clear hx hn hf
  go_enter Try.func56, Try.ntmps56
  go_wp2_with fail
  go_loopw [8] (fun i wr => ∃ k : Nat, k ≤ n ∧ i = .int .i64 k ∧ Hid (Lib.IsBuilderF 99 5 w.heap.size w.heap.size (Lib.byteCells (keyB (xs.take k))) wr) ∧ Hid (Below w.heap.size w wr)) (fun i _ => n - (intOf i).toNat)
  case atStart => exact ⟨0, by omega, rfl, HI, HB0⟩
  case round =>
    obtain ⟨k, hk, rfl, HI, HB⟩ := hrel
    by_cases hlt : k < n
    · obtain ⟨b, off, rfl, hblt, hcell⟩ := SlL.at_ (HX.out.below HB.out) (by have := HN.out; omega)
      obtain ⟨x, hx⟩ := at_some (show k < xs.length by rw [HN.out]; exact hlt)
      obtain ⟨c0, c1⟩ := hcell k x hx
      have hfx := HF.out x (List.mem_of_getElem? hx)
      have HXK := Lib.hid hx
      have hz := HB.out.size
      have hkl : (Lib.byteCells (keyB (xs.take k))).length = k * 2 := by rw [Lib.byteCells_length, keyB_len, List.length_take, HN.out]; omega
      have HKL := Lib.hid hkl
      have hi1 : (0 : Int) ≤ (k : Int) := by omega
      have hi2 : (k : Int) < (n : Int) := by omega
      obtain ⟨p, s⟩ := x
      obtain ⟨f0, f1, f2, f3⟩ := hfx
      dsimp only at f0 f1 f2 f3 c0 c1
      have hw0 : IntKind.u8.wrap p = p := by unfold IntKind.wrap; simp [IntKind.bits, IntKind.signed]; omega
      have hw1 : IntKind.u8.wrap s = s := by unfold IntKind.wrap; simp [IntKind.bits, IntKind.signed]; omega
      clear hcell hx hkl
      have hzb : w.heap.size < wr.heap.size := by rcases HI.out with h | h <;> exact h.lt
      have K1 := Lib.hid (wb_any w.heap.size w.heap.size _ p _ (HI.out.alloc (.cells #[.int .i64 p, .int .i64 s] 65)) (by rw [HKL.out]; omega) (by simp; omega))
      have HBa := Lib.hid (HB.out.alloc hz (.cells #[.int .i64 p, .int .i64 s] 65))
      go_wp2_with fail
      refine K1.out.mono ?_
      rintro e w1 ⟨rfl, h1, hb1, ho1⟩
      have hbx := ho1 wr.heap.size (.cells #[.int .i64 p, .int .i64 s] 65) (heap_alloc_new wr _) (by intro e; injection e with e; omega) (by intro c fz e; injection e with e1 e2 e3; exact absurd e2 (by decide))
      have q0 : w1.cell? ⟨wr.heap.size, 0, none⟩ = some (.int .i64 p) := by rw [Lib.cell_of_heap hbx]; rfl
      have q1 : w1.cell? ⟨wr.heap.size, 1, none⟩ = some (.int .i64 s) := by rw [Lib.cell_of_heap hbx]; rfl
      have HI1 := Lib.hid h1
      have HB1 := Lib.hid (HBa.out.trans hb1)
      have hz1 := HB1.out.size
      have K2 := Lib.hid (wb_any w.heap.size w.heap.size _ s w1 HI1.out (by rw [List.length_append, HKL.out]; simp; omega) hz1)
      clear h1 hb1 ho1 hbx K1
      go_wp2_with fail
      refine K2.out.mono ?_
      rintro e w2 ⟨rfl, h2, hb2, ho2⟩
      have HB2 := Lib.hid (HB1.out.trans hb2)
      have HI2 := Lib.hid (show Lib.IsBuilderF 99 5 w.heap.size w.heap.size (Lib.byteCells (keyB (xs.take (k + 1)))) w2 by
        rw [keyB_step HXK.out, Sl.bytes, Lib.byteCells_append, show ([UInt8.ofNat p.toNat, UInt8.ofNat s.toNat] : List UInt8) = [UInt8.ofNat p.toNat] ++ [UInt8.ofNat s.toNat] from rfl, Lib.byteCells_append, byte_of f0 f1, byte_of f2 f3, ← List.append_assoc]
        exact h2)
      clear h2 hb2 ho2 K2
      go_wp2_with fail
      go_roundw
      case rel => exact ⟨k + 1, by omega, by go_num, HI2, HB2⟩
      case measure => simp [intOf]; omega
    · obtain rfl : k = n := by omega
      have HT := Lib.hid (show xs.take k = xs by rw [List.take_of_length_le (by rw [HN.out]; exact Nat.le_refl _)])
      have K := Lib.hid (Try.Builder_String_any_k w.heap.size w.heap.size (keyB (xs.take k)) wr HI.out HB.out.size)
      rw [HT.out] at K
      go_wp2_with fail
      refine K.out.mono ?_
      rintro e w1 ⟨rfl, _, hb, _⟩
      have HB1 := Lib.hid (HB.out.trans hb)
      clear hb
      go_wp2_with fail
      go_ret
      exact ⟨rfl, HB1.out⟩
end Go.Proofs.Ytegdpdafaimmoaa
