/- Places: slots in memory, whether they are valid, and how the laws copy and compare them. -/
import Derived.Test.YtegdpdafaimmoaaBase
import Derived.Test.YtegdpdafaimmoaaValid
import Derived.OwnWalk
import Derived.IntWalk
import Derived.BigQuiet
import Derived.Deep.QuietTactic
import Derived.Deep.RegionHeld3
namespace Go.Proofs.Ytegdpdafaimmoaa
open Go.Joins Go.ChangeShapes Go.WideShapes Go.ChangeAt Go.RowKit Go.Deep
set_option linter.unusedVariables false
set_option linter.unusedSimpArgs false

/-- A slot. -/
structure Sl where
  p : Int
  s : Int
deriving DecidableEq
def Sl.cells (x : Sl) : List Value := [.int .i64 x.p, .int .i64 x.s]
def slotB (x : Sl) : Bool := decide (0 ≤ x.p ∧ x.p ≤ 3) && decide (0 ≤ x.s ∧ x.s ≤ 103)
def placeB (xs : List Sl) : Bool := decide (xs.length ≤ 20) && xs.all slotB

/-- Rows lie in memory, each of so many cells. -/
def Lie {α : Type} (c : α → List Value) (n : Nat) (w : World) (A : Option Addr) (xs : List α) : Prop :=
  0 < xs.length → ∃ b off, A = some ⟨b, off, none⟩ ∧ b < w.heap.size ∧ ∀ i (x : α), xs[i]? = some x → ∀ j u, (c x)[j]? = some u → w.cell? ⟨b, off + i * n + j, none⟩ = some u
theorem Lie.below {α : Type} {c : α → List Value} {n : Nat} {w w' : World} {A : Option Addr} {xs : List α} (h : Lie c n w A xs) (hb : Below w.heap.size w w') : Lie c n w' A xs := fun h0 => by
  obtain ⟨b, off, rfl, hlt, hc⟩ := h h0
  exact ⟨b, off, rfl, Nat.lt_of_lt_of_le hlt hb.size, fun i x hx j u hu => (hb.cell (p := ⟨b, _, none⟩) hlt).trans (hc i x hx j u hu)⟩
theorem Lie.nil {α : Type} {c : α → List Value} {n : Nat} {w : World} {A : Option Addr} : Lie c n w A [] := fun h => absurd h (by simp)
theorem Lie.take {α : Type} {c : α → List Value} {n : Nat} {w : World} {A : Option Addr} {xs : List α} (h : Lie c n w A xs) (k : Nat) : Lie c n w A (xs.take k) := fun h0 => by
  obtain ⟨b, off, rfl, hlt, hc⟩ := h (by rw [List.length_take] at h0; omega)
  refine ⟨b, off, rfl, hlt, fun i x hx j u hu => hc i x ?_ j u hu⟩
  rw [List.getElem?_take] at hx
  split at hx
  · exact hx
  · cases hx
abbrev SlL := Lie Sl.cells 2
theorem SlL.at_ {w : World} {A : Option Addr} {xs : List Sl} (h : SlL w A xs) (h0 : 0 < xs.length) : ∃ b off, A = some ⟨b, off, none⟩ ∧ b < w.heap.size ∧ ∀ i (x : Sl), xs[i]? = some x →
    w.cell? ⟨b, off + i * 2, none⟩ = some (.int .i64 x.p) ∧ w.cell? ⟨b, off + i * 2 + 1, none⟩ = some (.int .i64 x.s) := by
  obtain ⟨b, off, rfl, hlt, hc⟩ := h h0
  exact ⟨b, off, rfl, hlt, fun i x hx => ⟨hc i x hx 0 _ rfl, hc i x hx 1 _ rfl⟩⟩
theorem Lie.of_own {α : Type} {c : α → List Value} {n m cap base : Nat} {e : TypeId} {w : World} {g : Nat} {xs : List α} (hn : ∀ x, (c x).length = n) (h : w.ownsRow base e n (.slice (some ⟨g, 0, none⟩) m cap) m (xs.flatMap c)) :
    Lie c n w (some ⟨g, 0, none⟩) xs := fun h0 => by
  refine ⟨g, 0, rfl, (h.lt g rfl).2, fun i x hx j u hu => ?_⟩
  have hl : (xs.flatMap c).length = xs.length * n := by
    clear hx h h0
    induction xs with
    | nil => simp
    | cons y ys ih => rw [List.flatMap_cons, List.length_append, hn, ih, List.length_cons, Nat.add_mul]; omega
  have hj : j < n := by rw [← hn x]; exact (List.getElem?_eq_some_iff.1 hu).1
  have hi : i < xs.length := (List.getElem?_eq_some_iff.1 hx).1
  have hm : m * n = xs.length * n := by rw [← hl]; exact h.1.symm
  have hk : i * n + j < xs.length * n := by
    have : (i + 1) * n ≤ xs.length * n := Nat.mul_le_mul_right _ hi
    rw [Nat.add_mul] at this
    omega
  rw [show 0 + i * n + j = i * n + j by omega, h.cellAt (i * n + j) (by omega)]
  have hx2 : ∀ (ys : List α) (i : Nat), ys[i]? = some x → (ys.flatMap c)[i * n + j]? = some u := by
    intro ys
    induction ys with
    | nil => intro i hi; simp at hi
    | cons y ys ih =>
      intro i hi
      cases i with
      | zero =>
        simp at hi
        subst hi
        rw [List.flatMap_cons, List.getElem?_append_left (by rw [hn]; omega)]
        simpa using hu
      | succ i =>
        simp at hi
        rw [List.flatMap_cons, List.getElem?_append_right (by rw [hn, Nat.add_mul]; omega), hn, show (i + 1) * n + j - n = i * n + j by rw [Nat.add_mul]; omega]
        exact ih i hi
  exact hx2 xs i hx

set_option maxHeartbeats 400000 in
theorem upTo_any (n m : Int) (w : World) :
    Calls Try.prog 60 #[.int .i64 n, .int .i64 m] w fun e w' => e = .returned (.bool (decide (0 ≤ n ∧ n ≤ m))) ∧ w = w' := by
  by_cases h1 : 0 ≤ n <;> by_cases h2 : n ≤ m
  all_goals
    go_enter Try.func60, Try.ntmps60
    go_wp2
    go_ret
    refine ⟨ret_bool ?_, rfl⟩
    simp [*]

theorem slot_ways (x : Sl) : (decide (0 ≤ x.p ∧ x.p ≤ 3) = false ∧ slotB x = false) ∨ (decide (0 ≤ x.p ∧ x.p ≤ 3) = true ∧ decide (0 ≤ x.s ∧ x.s ≤ 103) = false ∧ slotB x = false) ∨ (decide (0 ≤ x.p ∧ x.p ≤ 3) = true ∧ decide (0 ≤ x.s ∧ x.s ≤ 103) = true ∧ slotB x = true) := by
  unfold slotB
  cases decide (0 ≤ x.p ∧ x.p ≤ 3) <;> cases decide (0 ≤ x.s ∧ x.s ≤ 103) <;> simp

set_option maxHeartbeats 400000 in
theorem vslot_any (x : Sl) (w : World) :
    Calls Try.prog 55 #[.agg #[.int .i64 x.p, .int .i64 x.s]] w fun e w' => e = .returned (.bool (slotB x)) ∧ Below w.heap.size w w' := by
  have H := fun n a b w => inRange_any n a b w
  have H1 := fun w => inRange_any x.p 0 3 w
  have H2 := fun w => inRange_any x.s 0 103 w
  clear H
  rcases slot_ways x with ⟨h1, hv⟩ | ⟨h1, h2, hv⟩ | ⟨h1, h2, hv⟩
  all_goals
    rw [h1] at H1
    try rw [h2] at H2
    have HV := Lib.hid hv
    have K1 := Lib.hid H1
    have K2 := Lib.hid H2
    clear hv h1 H1 H2
    try clear h2
    obtain ⟨p, s⟩ := x
    go_enter Try.func55, Try.ntmps55
    go_wp2_with (first
      | (go_at_call 34; ((with_reducible refine (K1.out _).mono ?_); rintro e w' ⟨rfl, rfl⟩))
      | (go_at_call 34; ((with_reducible refine (K2.out _).mono ?_); rintro e w' ⟨rfl, rfl⟩)))
    go_ret
    exact ⟨ret_bool HV.out.symm, by go_grown⟩
set_option maxHeartbeats 400000 in
theorem islot_any (x : Sl) (w : World) :
    Calls Try.prog 43 #[.agg #[.int .i64 x.p, .int .i64 x.s]] w fun e w' => e = .returned (.bool (slotB x)) ∧ Below w.heap.size w w' := by
  have H1 := fun w => upTo_any x.p 3 w
  have H2 := fun w => upTo_any x.s 103 w
  rcases slot_ways x with ⟨h1, hv⟩ | ⟨h1, h2, hv⟩ | ⟨h1, h2, hv⟩
  all_goals
    rw [h1] at H1
    try rw [h2] at H2
    have HV := Lib.hid hv
    have K1 := Lib.hid H1
    have K2 := Lib.hid H2
    clear hv h1 H1 H2
    try clear h2
    obtain ⟨p, s⟩ := x
    go_enter Try.func43, Try.ntmps43
    go_wp2_with (first
      | (go_at_call 60; ((with_reducible refine (K1.out _).mono ?_); rintro e w' ⟨rfl, rfl⟩))
      | (go_at_call 60; ((with_reducible refine (K2.out _).mono ?_); rintro e w' ⟨rfl, rfl⟩)))
    go_ret
    exact ⟨ret_bool HV.out.symm, by go_grown⟩
end Go.Proofs.Ytegdpdafaimmoaa
