/- Blocks that have turned. -/
import Derived.Test.YtcpfjlbicofkeaaDoorTre3
namespace Go.Proofs.YtcpfjlbicofkeaaDoor
open Go.Joins Go.ChangeShapes Go.WideShapes Go.ChangeAt Go.RowKit Go.Deep
set_option linter.unusedVariables false
set_option linter.unusedSimpArgs false

theorem own_moved {w w' : World} {base n m c g : Nat} {e : TypeId} {xs : List Value} (h : w.ownsRow base e n (.slice (some ⟨g, 0, none⟩) m c) m xs) (hb : w'.heap[g]? = w.heap[g]?) : w'.ownsRow base e n (.slice (some ⟨g, 0, none⟩) m c) m xs := by
  refine ⟨h.1, ?_⟩
  rcases h.2 with hn | ⟨g', cap, cur, e1, hbg, hgg, rest⟩
  · exact .inl hn
  · have e2 := e1
    simp only [Value.slice.injEq, Option.some.injEq, Addr.mk.injEq, and_true] at e2
    obtain ⟨rfl, _, rfl⟩ := e2
    exact .inr ⟨g, _, cur, rfl, hbg, hb.trans hgg, rest⟩
/-- Only blocks from lo on and below hi have turned, of those that were there. -/
structure Turn (lo hi : Nat) (w w' : World) : Prop where
  os : w'.os = w.os
  tape : w'.tape = w.tape
  output : w'.output = w.output
  size : w.heap.size ≤ w'.heap.size
  block : ∀ b, b < w.heap.size → (b < lo ∨ hi ≤ b) → w'.heap[b]? = w.heap[b]?
theorem Turn.refl (lo hi : Nat) (w : World) : Turn lo hi w w := ⟨rfl, rfl, rfl, Nat.le_refl _, fun _ _ _ => rfl⟩
theorem Turn.trans {lo hi : Nat} {a b c : World} (h : Turn lo hi a b) (k : Turn lo hi b c) : Turn lo hi a c :=
  ⟨k.os.trans h.os, k.tape.trans h.tape, k.output.trans h.output, Nat.le_trans h.size k.size, fun i hi' hr => (k.block i (Nat.lt_of_lt_of_le hi' h.size) hr).trans (h.block i hi' hr)⟩
theorem Turn.of_grown {lo hi g : Nat} {a b : World} (h : a.grownBy b (some g)) (h0 : lo ≤ g) (h1 : g < hi) : Turn lo hi a b :=
  ⟨h.os, h.tape, h.output, h.size, fun i hi' hr => h.block i hi' (fun e => by injection e with e; omega)⟩
theorem Turn.of_below {lo hi : Nat} {a b : World} (h : Below a.heap.size a b) : Turn lo hi a b := ⟨h.os, h.tape, h.output, h.size, fun i hi' _ => h.block i hi'⟩
theorem Turn.below {lo hi : Nat} {a b : World} (h : Turn lo hi a b) {B : Nat} (hB : B ≤ lo) (hs : B ≤ a.heap.size) : Below B a b := ⟨h.os, h.tape, h.output, h.size, fun i hi' => h.block i (by omega) (.inl (by omega))⟩
theorem Turn.mono {lo hi lo' hi' : Nat} {a b : World} (h : Turn lo hi a b) (h0 : lo' ≤ lo) (h1 : hi ≤ hi') : Turn lo' hi' a b := ⟨h.os, h.tape, h.output, h.size, fun i hi hr => h.block i hi (by omega)⟩
theorem Turn.cell {lo hi : Nat} {a b : World} (h : Turn lo hi a b) {k o : Nat} (hk : k < a.heap.size) (hr : k < lo ∨ hi ≤ k) : b.cell? ⟨k, o, none⟩ = a.cell? ⟨k, o, none⟩ := World.cell?_of_block (a := ⟨k, o, none⟩) (h.block k hk hr)
/-- Rows outside stay the call's own. -/
theorem Turn.own {lo hi : Nat} {a b : World} (h : Turn lo hi a b) {base n m cap g : Nat} {e : TypeId} {xs : List Value} (ho : a.ownsRow base e n (.slice (some ⟨g, 0, none⟩) m cap) m xs) (hr : g < lo ∨ hi ≤ g) : b.ownsRow base e n (.slice (some ⟨g, 0, none⟩) m cap) m xs := by
  have hlt := (ho.lt g rfl).2
  have hbl := h.block g hlt hr
  rcases ho.2 with ⟨h', _⟩ | ⟨g', cap', cur, h', hb, hg, rest⟩
  · simp at h'
  · simp only [Value.slice.injEq, Option.some.injEq, Addr.mk.injEq, and_true, true_and] at h'
    obtain ⟨rfl, rfl⟩ := h'
    exact ⟨ho.1, .inr ⟨g, cap, cur, rfl, hb, hbl.trans hg, rest⟩⟩
theorem Turn.lie {α : Type} {c : α → List Value} {n lo hi : Nat} {w w' : World} {A : Option Addr} {xs : List α} (h : Turn lo hi w w') (hx : Lie c n w A xs) (hr : ∀ b o, A = some ⟨b, o, none⟩ → b < lo ∨ hi ≤ b) : Lie c n w' A xs := fun h0 => by
  obtain ⟨b, off, rfl, hlt, hc⟩ := hx h0
  exact ⟨b, off, rfl, Nat.lt_of_lt_of_le hlt h.size, fun i x hx j u hu => (h.cell hlt (hr b off rfl)).trans (hc i x hx j u hu)⟩
end Go.Proofs.YtcpfjlbicofkeaaDoor
