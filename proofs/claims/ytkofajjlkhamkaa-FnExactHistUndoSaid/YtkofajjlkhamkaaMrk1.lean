/- The laws' own marks: the text of a mark. -/
import Derived.Test.YtkofajjlkhamkaaSto2
import Derived.Lib.SlBytesConst
namespace Go.Proofs.Ytkofajjlkhamkaa
open Go.Joins Go.ChangeShapes Go.WideShapes Go.ChangeAt Go.RowKit Go.Deep
set_option linter.unusedVariables false
set_option linter.unusedSimpArgs false

def dgt (n : Nat) : UInt8 := UInt8.ofNat (48 + n)
/-- The digits of a number ahead of a text. -/
def digsB (k : Nat) (s : ByteArray) : ByteArray := if k = 0 then s else digsB (k / 10) (⟨#[dgt (k % 10)]⟩ ++ s)
termination_by k
decreasing_by omega
def markB (k : Nat) : ByteArray := ⟨#[109]⟩ ++ digsB k ⟨#[]⟩
theorem digsB_step {k : Nat} (h : k ≠ 0) (s : ByteArray) : digsB k s = digsB (k / 10) (⟨#[dgt (k % 10)]⟩ ++ s) := by rw [digsB, if_neg h]
theorem digsB_zero (s : ByteArray) : digsB 0 s = s := by rw [digsB, if_pos rfl]

set_option maxRecDepth 100000 in
set_option maxHeartbeats 1000000 in
theorem markText_any (k : Nat) (w : World) (h0 : 0 < k) (h1 : k ≤ 100000000) :
    Calls Try.prog 64 #[.int .i64 k] w fun e w' => e = .returned (.string (markB k)) ∧ Below w.heap.size w w' := by
  have hd : decide ((k : Int) ≤ 0) = false := by simp; omega
  go_enter Try.func64, Try.ntmps64
  go_wp2_with fail
  go_loopw [0, 3] (fun i o w2 => ∃ (j : Nat) (s : ByteArray), i = .int .i64 j ∧ o = .string s ∧ j ≤ 100000000 ∧ s.size ≤ 9 ∧ Hid (j * 10 ^ s.size ≤ 100000000) ∧ Below w.heap.size w w2 ∧ Hid (digsB k ⟨#[]⟩ = digsB j s)) (fun i _ _ => (intOf i).toNat)
  case atStart => exact ⟨k, ⟨#[]⟩, rfl, rfl, h1, by decide, Lib.hid (by show k * 10 ^ 0 ≤ _; omega), by go_grown, Lib.hid rfl⟩
  case round =>
    obtain ⟨j, s, rfl, rfl, hj, hsz, HPW, hB, HR⟩ := hrel
    by_cases hj0 : j = 0
    · have HV := Lib.hid (show markB k = ⟨#[109]⟩ ++ s by unfold markB; rw [HR.out, hj0, digsB_zero])
      have hdj : decide (0 < j) = false := by simp; omega
      clear hj0
      go_wp2_with fail
      go_ret
      exact ⟨by rw [HV.out]; rfl, hB⟩
    · have hp : 0 < (j : Int) := by omega
      have hs8 : s.size ≤ 8 := by
        rcases Nat.lt_or_ge 8 s.size with h | h
        · have h9 : 10 ^ 9 ≤ 10 ^ s.size := Nat.pow_le_pow_right (by omega) (by omega)
          have := HPW.out
          have h2 : 1 * 10 ^ s.size ≤ j * 10 ^ s.size := Nat.mul_le_mul_right _ (by omega)
          omega
        · exact h
      have HPW2 := Lib.hid (show j / 10 * 10 ^ (1 + s.size) ≤ 100000000 by
        have := HPW.out
        have h2 : j / 10 * 10 ≤ j := Nat.div_mul_le_self _ _
        have h3 : j / 10 * 10 * 10 ^ s.size ≤ j * 10 ^ s.size := Nat.mul_le_mul_right _ h2
        rw [Nat.pow_add, Nat.pow_one, ← Nat.mul_assoc]
        omega)
      have hm0 : 0 ≤ (j : Int) % 10 := by omega
      have hm1 : (j : Int) % 10 ≤ 9 := by omega
      have hq0 : 0 ≤ (j : Int) / 10 := by omega
      have hu : IntKind.u8.wrap (48 + (j : Int) % 10) = 48 + (j : Int) % 10 := by unfold IntKind.wrap; simp [IntKind.bits, IntKind.signed]; omega
      have hdt : (dgt (j % 10)).toNat = 48 + j % 10 := by unfold dgt; rw [UInt8.toNat_ofNat']; omega
      have kc : (Go.convert 100 9 (.slice (some ⟨wr.heap.size, 0, none⟩) 1 1)).run Try.prog (wr.alloc (.cells #[.int .u8 (48 + (j : Int) % 10)] 5)) = Result.ok (.string ⟨#[dgt (j % 10)]⟩) (wr.alloc (.cells #[.int .u8 (48 + (j : Int) % 10)] 5)) := by
        refine run_convert_bytes_back (P := Try.prog) (wr.alloc (.cells #[.int .u8 (48 + (j : Int) % 10)] 5)) 100 9 5 ⟨wr.heap.size, 0, none⟩ 1 [dgt (j % 10)] Try.underlying100 Try.underlying5 Try.underlying9 ?_
        intro i hi
        simp at hi
        subst hi
        have := cell_of_row (wr.alloc (.cells #[.int .u8 (48 + (j : Int) % 10)] 5)) wr.heap.size 0 _ _ _ (heap_alloc_new wr _)
        simp only [List.getElem_cons_zero, hdt]
        exact this
      have HR2 := Lib.hid (HR.out.trans (digsB_step hj0 s))
      clear hdt
      go_wp2_with fail
      go_roundw
      case rel => exact ⟨j / 10, ⟨#[dgt (j % 10)]⟩ ++ s, by first | go_num | rfl, rfl, by omega, by rw [ByteArray.size_append]; show 1 + s.size ≤ 9; omega, Lib.hid (by rw [ByteArray.size_append]; exact HPW2.out), hB.alloc hB.size _, HR2⟩
      case measure => simp [intOf]; omega
end Go.Proofs.Ytkofajjlkhamkaa
