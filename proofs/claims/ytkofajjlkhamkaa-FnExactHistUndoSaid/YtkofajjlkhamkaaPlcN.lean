/- The program's answers of places of a known length. -/
import Derived.Test.YtkofajjlkhamkaaPlc9
namespace Go.Proofs.Ytkofajjlkhamkaa
open Go.Joins Go.ChangeShapes Go.WideShapes Go.ChangeAt Go.RowKit Go.Deep
set_option linter.unusedVariables false
set_option linter.unusedSimpArgs false

theorem iplace_n (A : Option Addr) (c n : Nat) (xs : List Sl) (w : World) (hx : SlL w A xs) (hn : xs.length = n) (hl : n ≤ maxLen) :
    Calls Try.prog 53 #[.slice A n c] w fun e w' => e = .returned (.bool (placeB xs)) ∧ Below w.heap.size w w' := by
  subst hn; exact iplace_any A c xs w hx hl
theorem iorder_n (A A' : Option Addr) (c c' n m : Nat) (xs ys : List Sl) (v : Int) (w : World) (hx : SlL w A xs) (hy : SlL w A' ys) (hn : xs.length = n) (hm : ys.length = m) (hl : n ≤ maxLen) (hl' : m ≤ maxLen) (hv : orderV xs ys = v) :
    Calls Try.prog 55 #[.slice A n c, .slice A' m c'] w fun e w' => e = .returned (.int .i64 v) ∧ Below w.heap.size w w' := by
  subst hn hm hv; exact iorder_any A A' c c' xs ys w hx hy hl hl'
theorem placeB_take {xs : List Sl} (h : placeB xs = true) (k : Nat) : placeB (xs.take k) = true := by
  unfold placeB at h ⊢
  simp only [Bool.and_eq_true, decide_eq_true_eq] at h ⊢
  refine ⟨by rw [List.length_take]; omega, ?_⟩
  rw [List.all_eq_true] at *
  exact fun x hx => h.2 x (List.mem_of_mem_take hx)
theorem underB_take (xs : List Sl) (k : Nat) : underB xs (xs.take k) = true := by
  unfold underB
  rw [decide_eq_true (by rw [List.length_take]; omega), List.length_take]
  have : xs.take (min k xs.length) = xs.take k := by
    rcases Nat.le_total k xs.length with h | h
    · rw [Nat.min_eq_left h]
    · rw [Nat.min_eq_right h, List.take_of_length_le h, List.take_of_length_le (Nat.le_refl _)]
  rw [this, eqSl_refl]
  rfl
theorem underB_long {xs ys : List Sl} (h : xs.length < ys.length) : underB xs ys = false := by
  unfold underB
  rw [decide_eq_false (by omega)]
  rfl
theorem cmpP_refl : ∀ xs : List Sl, cmpP xs xs = 0
  | [] => rfl
  | x :: xs => by rw [cmpP_eq]; exact cmpP_refl xs
theorem orderV_refl (xs : List Sl) : orderV xs xs = 0 := by
  unfold orderV
  rw [cmpP_refl]
  split <;> rfl
theorem cmpP_swap : ∀ xs ys : List Sl, cmpP ys xs = - cmpP xs ys
  | [], [] => rfl
  | [], _ :: _ => rfl
  | _ :: _, [] => rfl
  | x :: xs, y :: ys => by
    rcases cmp_ways x y with h | ⟨h, h'⟩ | h | ⟨h, h'⟩ | rfl
    · rw [cmpP_lt _ _ (.inl h), cmpP_gt _ _ (.inl h)]; rfl
    · rw [cmpP_lt _ _ (.inr ⟨h, h'⟩), cmpP_gt _ _ (.inr ⟨h.symm ▸ rfl, h'⟩)]; rfl
    · rw [cmpP_gt _ _ (.inl h), cmpP_lt _ _ (.inl h)]
    · rw [cmpP_gt _ _ (.inr ⟨h, h'⟩), cmpP_lt _ _ (.inr ⟨h.symm ▸ rfl, h'⟩)]
    · rw [cmpP_eq, cmpP_eq]; exact cmpP_swap xs ys
theorem orderV_swap (xs ys : List Sl) : orderV ys xs = - orderV xs ys := by
  unfold orderV
  rw [Bool.and_comm]
  split
  · exact cmpP_swap xs ys
  · rfl
theorem eqSl_eq {xs ys : List Sl} (h : eqSl xs ys = true) : xs = ys := by
  rw [eqSl_iff] at h
  exact of_decide_eq_true h
theorem cmpP_under : ∀ (ys xs : List Sl), ys.length ≤ xs.length → xs.take ys.length = ys → 0 ≤ cmpP xs ys
  | [], [], _, _ => by decide
  | [], x :: xs, _, _ => by show (0 : Int) ≤ 1; omega
  | y :: ys, [], h, _ => by simp at h
  | y :: ys, x :: xs, h, e => by
    simp only [List.length_cons, List.take_succ_cons, List.cons.injEq] at e
    rw [e.1, cmpP_eq]
    exact cmpP_under ys xs (by simpa using h) e.2
theorem orderV_under {xs ys : List Sl} (h : underB xs ys = true) : 0 ≤ orderV xs ys := by
  unfold underB at h
  simp only [Bool.and_eq_true, decide_eq_true_eq] at h
  unfold orderV
  split
  · exact cmpP_under ys xs h.1 (eqSl_eq h.2)
  · omega
theorem underB_init {xs ys : List Sl} (h : underB xs ys = true) (k : Nat) : underB xs (ys.take k) = true := by
  unfold underB at h
  simp only [Bool.and_eq_true, decide_eq_true_eq] at h
  have e := eqSl_eq h.2
  rw [← e, List.take_take]
  exact underB_take xs _
end Go.Proofs.Ytkofajjlkhamkaa
