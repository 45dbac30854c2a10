/- Rows of flat things in memory: general lemmas; values. -/
import Derived.Test.YtcpfjlbicofkeaaDoorBase
import Derived.Test.YtcpfjlbicofkeaaDoorValid
import Derived.OwnWalk
import Derived.IntWalk
import Derived.BigQuiet
import Derived.Lib.Strings
import Derived.Deep.QuietTactic
import Derived.Deep.RegionHeld3
import Derived.Deep.Cut
import Derived.Outline
namespace Go.Proofs.YtcpfjlbicofkeaaDoor
open Go.Joins Go.ChangeShapes Go.WideShapes Go.ChangeAt Go.RowKit Go.Deep
set_option linter.unusedVariables false
set_option linter.unusedSimpArgs false

/-- Rows lie in memory, each of so many cells. -/
def Lie {α : Type} (c : α → List Value) (n : Nat) (w : World) (A : Option Addr) (xs : List α) : Prop :=
  0 < xs.length → ∃ b off, A = some ⟨b, off, none⟩ ∧ b < w.heap.size ∧ ∀ i (x : α), xs[i]? = some x → ∀ j u, (c x)[j]? = some u → w.cell? ⟨b, off + i * n + j, none⟩ = some u
theorem Lie.below {α : Type} {c : α → List Value} {n : Nat} {w w' : World} {A : Option Addr} {xs : List α} (h : Lie c n w A xs) (hb : Below w.heap.size w w') : Lie c n w' A xs := fun h0 => by
  obtain ⟨b, off, rfl, hlt, hc⟩ := h h0
  exact ⟨b, off, rfl, Nat.lt_of_lt_of_le hlt hb.size, fun i x hx j u hu => (hb.cell (p := ⟨b, _, none⟩) hlt).trans (hc i x hx j u hu)⟩
theorem Lie.nil {α : Type} {c : α → List Value} {n : Nat} {w : World} {A : Option Addr} : Lie c n w A [] := fun h => absurd h (by simp)
theorem flat_len {α : Type} {c : α → List Value} {n : Nat} (hn : ∀ x, (c x).length = n) (xs : List α) : (xs.flatMap c).length = xs.length * n := by
  induction xs with
  | nil => simp
  | cons y ys ih => rw [List.flatMap_cons, List.length_append, hn, ih, List.length_cons, Nat.add_mul]; omega
theorem flat_at {α : Type} {c : α → List Value} {n : Nat} (hn : ∀ x, (c x).length = n) {x : α} {j : Nat} {u : Value} (hu : (c x)[j]? = some u) : ∀ (ys : List α) (i : Nat), ys[i]? = some x → (ys.flatMap c)[i * n + j]? = some u := by
  have hj : j < n := by rw [← hn x]; exact (List.getElem?_eq_some_iff.1 hu).1
  intro ys
  induction ys with
  | nil => intro i hi; simp at hi
  | cons y ys ih =>
    intro i hi
    cases i with
    | zero =>
      simp at hi
      subst hi
      rw [List.flatMap_cons, List.getElem?_append_left (by rw [hn]; omega)]
      simpa using hu
    | succ i =>
      simp at hi
      rw [List.flatMap_cons, List.getElem?_append_right (by rw [hn, Nat.add_mul]; omega), hn, show (i + 1) * n + j - n = i * n + j by rw [Nat.add_mul]; omega]
      exact ih i hi
theorem Lie.of_own {α : Type} {c : α → List Value} {n m cap base : Nat} {e : TypeId} {w : World} {g : Nat} {xs : List α} (hn : ∀ x, (c x).length = n) (h : w.ownsRow base e n (.slice (some ⟨g, 0, none⟩) m cap) m (xs.flatMap c)) :
    Lie c n w (some ⟨g, 0, none⟩) xs := fun h0 => by
  refine ⟨g, 0, rfl, (h.lt g rfl).2, fun i x hx j u hu => ?_⟩
  have hl := flat_len hn xs
  have hj : j < n := by rw [← hn x]; exact (List.getElem?_eq_some_iff.1 hu).1
  have hi : i < xs.length := (List.getElem?_eq_some_iff.1 hx).1
  have hm : m * n = xs.length * n := by rw [← hl]; exact h.1.symm
  have hk : i * n + j < xs.length * n := by
    have : (i + 1) * n ≤ xs.length * n := Nat.mul_le_mul_right _ hi
    rw [Nat.add_mul] at this
    omega
  rw [show 0 + i * n + j = i * n + j by omega, h.cellAt (i * n + j) (by omega)]
  exact flat_at hn hu xs i hx
/-- One row more is as it is to be. -/
theorem take_more {α : Type} {c : α → List Value} {n : Nat} (hn : ∀ x, (c x).length = n) {L L' : List Value} {xs : List α} {k : Nat} {x : α} (h : L.take (k * n) = (xs.take k).flatMap c) (hx : xs[k]? = some x) (hl : L'.length = L.length) (hL : k * n + n ≤ L.length)
    (h0 : ∀ j, j < k * n → L'[j]? = L[j]?) (h1 : ∀ d u, (c x)[d]? = some u → L'[k * n + d]? = some u) : L'.take ((k + 1) * n) = (xs.take (k + 1)).flatMap c := by
  obtain ⟨hk, e⟩ := List.getElem?_eq_some_iff.1 hx
  rw [List.take_succ_eq_append_getElem hk, List.flatMap_append, ← h, e]
  have hkn : (k + 1) * n = k * n + n := by rw [Nat.add_mul]; omega
  apply List.ext_getElem?
  intro j
  rw [List.getElem?_take, hkn]
  rcases (by omega : j < k * n ∨ (k * n ≤ j ∧ j < k * n + n) ∨ k * n + n ≤ j) with hj | ⟨hj, hj2⟩ | hj
  · rw [if_pos (by omega), List.getElem?_append_left (by simp; omega), List.getElem?_take, if_pos hj, h0 j hj]
  · rw [if_pos hj2, List.getElem?_append_right (by simp; omega)]
    have hlen : (L.take (k * n)).length = k * n := by simp; omega
    rw [hlen]
    have hd : j - k * n < (c x).length := by rw [hn]; omega
    have := h1 (j - k * n) _ (List.getElem?_eq_getElem hd)
    rw [show k * n + (j - k * n) = j by omega] at this
    simp only [List.flatMap_cons, List.flatMap_nil, List.append_nil]
    rw [this, List.getElem?_eq_getElem hd]
  · rw [if_neg (by omega), List.getElem?_eq_none (by simp [hn]; omega)]
theorem drop_cons {α : Type} {xs : List α} {k : Nat} {x : α} (h : xs[k]? = some x) : xs.drop k = x :: xs.drop (k + 1) := by
  obtain ⟨hk, e⟩ := List.getElem?_eq_some_iff.1 h
  rw [List.drop_eq_getElem_cons hk, e]
theorem drop_none {α : Type} {xs : List α} {k : Nat} (h : xs.length ≤ k) : xs.drop k = [] := List.drop_eq_nil_of_le h
theorem at_some {α : Type} {xs : List α} {k : Nat} (h : k < xs.length) : ∃ x, xs[k]? = some x := ⟨_, List.getElem?_eq_getElem h⟩
theorem Below.keeps {w w' : World} (h : Below w.heap.size w w') : w.grownBy w' none := ⟨h.os, h.tape, h.output, h.size, fun k hk _ => h.block k hk⟩
theorem grown_below {w w' : World} (h : w.grownBy w' none) : Below w.heap.size w w' := ⟨h.os, h.tape, h.output, h.size, fun k hk => h.block k hk (by simp)⟩
theorem ownsRow_below {w w' : World} {base : Nat} {e : TypeId} {n m : Nat} {v : Value} {xs : List Value} (h : w.ownsRow base e n v m xs) (hb : Below w.heap.size w w') : w'.ownsRow base e n v m xs :=
  h.kept (Below.keeps hb) (by cases hv : v.ownBlock <;> simp)

/-- A value. -/
structure Va where
  k : Int
  n : Int
  s : ByteArray
deriving DecidableEq
def Va.cells (x : Va) : List Value := [.int .i64 x.k, .int .i64 x.n, .string x.s]
def Va.ok (x : Va) : Bool := validB x.k x.n x.s
/-- What is left of a measure. -/
def leftV (left n : Int) : Int := if left < n then -1 else left - n
theorem leftV_neg {left n : Int} (h : left < n) : leftV left n = -1 := if_pos h
theorem leftV_pos {left n : Int} (h : n ≤ left) : leftV left n = left - n := if_neg (by omega)
theorem va_ways (x y : Va) : ((x.k == y.k) = false ∧ decide (x = y) = false) ∨ (x.k = y.k ∧ (x.n == y.n) = false ∧ decide (x = y) = false) ∨ (x.k = y.k ∧ x.n = y.n ∧ x.s ≠ y.s ∧ decide (x = y) = false) ∨ x = y := by
  obtain ⟨p, q, s⟩ := x
  obtain ⟨p', q', s'⟩ := y
  by_cases h1 : p = p'
  · by_cases h2 : q = q'
    · by_cases h3 : s = s'
      · right; right; right; rw [h1, h2, h3]
      · right; right; left; exact ⟨h1, h2, h3, by simp [h3]⟩
    · right; left; exact ⟨h1, by simpa using h2, by simp [h2]⟩
  · left; exact ⟨by simpa using h1, by simp [h1]⟩
theorem bytes_ne {s t : ByteArray} (h : s ≠ t) : (s.toList == t.toList) = false := by
  rw [Lib.toList_data, Lib.toList_data, beq_eq_false_iff_ne]
  intro e
  exact h (ByteArray.ext (Array.toList_inj.1 e))
end Go.Proofs.YtcpfjlbicofkeaaDoor
