/- Trn, Rws0 in one text. -/
import Derived.Test.YtmfibedcloknlaaGreatDoorTre3
import Derived.Test.YtmfibedcloknlaaGreatDoorIntM
namespace Go.Proofs.YtmfibedcloknlaaGreatDoor
open Go.Joins Go.ChangeShapes Go.WideShapes Go.ChangeAt Go.RowKit Go.Deep
set_option linter.unusedVariables false
set_option linter.unusedSimpArgs false

theorem own_moved {w w' : World} {base n m c g : Nat} {e : TypeId} {xs : List Value} (h : w.ownsRow base e n (.slice (some ⟨g, 0, none⟩) m c) m xs) (hb : w'.heap[g]? = w.heap[g]?) : w'.ownsRow base e n (.slice (some ⟨g, 0, none⟩) m c) m xs := by
 refine ⟨h.1, ?_⟩
 rcases h.2 with hn | ⟨g', cap, cur, e1, hbg, hgg, rest⟩
 ·exact .inl hn
 ·have e2 := e1
  simp only [Value.slice.injEq, Option.some.injEq, Addr.mk.injEq, and_true] at e2
  obtain ⟨rfl, _, rfl⟩ := e2
  exact .inr ⟨g, _, cur, rfl, hbg, hb.trans hgg, rest⟩
/-- Only blocks from lo on and below hi have turned, of those that were there. -/
structure Turn (lo hi : Nat) (w w' : World) : Prop where
 os : w'.os = w.os
 tape : w'.tape = w.tape
 output : w'.output = w.output
 size : w.heap.size ≤ w'.heap.size
 block : ∀ b, b < w.heap.size → (b < lo ∨ hi ≤ b) → w'.heap[b]? = w.heap[b]?
theorem Turn.refl (lo hi : Nat) (w : World) : Turn lo hi w w := ⟨rfl, rfl, rfl, Nat.le_refl _, fun _ _ _ => rfl⟩
theorem Turn.trans {lo hi : Nat} {a b c : World} (h : Turn lo hi a b) (k : Turn lo hi b c) : Turn lo hi a c :=
 ⟨k.os.trans h.os, k.tape.trans h.tape, k.output.trans h.output, Nat.le_trans h.size k.size, fun i hi' hr => (k.block i (Nat.lt_of_lt_of_le hi' h.size) hr).trans (h.block i hi' hr)⟩
theorem Turn.of_grown {lo hi g : Nat} {a b : World} (h : a.grownBy b (some g)) (h0 : lo ≤ g) (h1 : g < hi) : Turn lo hi a b :=
 ⟨h.os, h.tape, h.output, h.size, fun i hi' hr => h.block i hi' (fun e => by injection e with e; omega)⟩
theorem Turn.of_below {lo hi : Nat} {a b : World} (h : Below a.heap.size a b) : Turn lo hi a b := ⟨h.os, h.tape, h.output, h.size, fun i hi' _ => h.block i hi'⟩
theorem Turn.below {lo hi : Nat} {a b : World} (h : Turn lo hi a b) {B : Nat} (hB : B ≤ lo) (hs : B ≤ a.heap.size) : Below B a b := ⟨h.os, h.tape, h.output, h.size, fun i hi' => h.block i (by omega) (.inl (by omega))⟩
theorem Turn.mono {lo hi lo' hi' : Nat} {a b : World} (h : Turn lo hi a b) (h0 : lo' ≤ lo) (h1 : hi ≤ hi') : Turn lo' hi' a b := ⟨h.os, h.tape, h.output, h.size, fun i hi hr => h.block i hi (by omega)⟩
theorem Turn.cell {lo hi : Nat} {a b : World} (h : Turn lo hi a b) {k o : Nat} (hk : k < a.heap.size) (hr : k < lo ∨ hi ≤ k) : b.cell? ⟨k, o, none⟩ = a.cell? ⟨k, o, none⟩ := World.cell?_of_block (a := ⟨k, o, none⟩) (h.block k hk hr)
/-- Rows outside stay the call's own. -/
theorem Turn.own {lo hi : Nat} {a b : World} (h : Turn lo hi a b) {base n m cap g : Nat} {e : TypeId} {xs : List Value} (ho : a.ownsRow base e n (.slice (some ⟨g, 0, none⟩) m cap) m xs) (hr : g < lo ∨ hi ≤ g) : b.ownsRow base e n (.slice (some ⟨g, 0, none⟩) m cap) m xs := by
 have hlt := (ho.lt g rfl).2
 have hbl := h.block g hlt hr
 rcases ho.2 with ⟨h', _⟩ | ⟨g', cap', cur, h', hb, hg, rest⟩
 ·simp at h'
 ·simp only [Value.slice.injEq, Option.some.injEq, Addr.mk.injEq, and_true, true_and] at h'
  obtain ⟨rfl, rfl⟩ := h'
  exact ⟨ho.1, .inr ⟨g, cap, cur, rfl, hb, hbl.trans hg, rest⟩⟩
theorem Turn.lie {α : Type} {c : α → List Value} {n lo hi : Nat} {w w' : World} {A : Option Addr} {xs : List α} (h : Turn lo hi w w') (hx : Lie c n w A xs) (hr : ∀ b o, A = some ⟨b, o, none⟩ → b < lo ∨ hi ≤ b) : Lie c n w' A xs := fun h0 => by
 obtain ⟨b, off, rfl, hlt, hc⟩ := hx h0
 exact ⟨b, off, rfl, Nat.lt_of_lt_of_le hlt h.size, fun i x hx j u hu => (h.cell hlt (hr b off rfl)).trans (hc i x hx j u hu)⟩
end Go.Proofs.YtmfibedcloknlaaGreatDoor

namespace Go.Proofs.YtmfibedcloknlaaGreatDoor
open Go.Joins Go.ChangeShapes Go.WideShapes Go.ChangeAt Go.RowKit Go.Deep
set_option linter.unusedVariables false
set_option linter.unusedSimpArgs false

/-- Whole numbers in a row of the call's own, from block lo up to hi. -/
def ZsO (w : World) (lo hi : Nat) (A : Option Addr) (c : Nat) (zs : List Int) : Prop := 0 < zs.length → ∃ g, A = some ⟨g, 0, none⟩ ∧ lo ≤ g ∧ g < hi ∧ w.ownsRow 0 3 1 (.slice (some ⟨g, 0, none⟩) zs.length c) zs.length (zV zs)
theorem ZsO.lies {w : World} {lo hi c : Nat} {A : Option Addr} {zs : List Int} (h : ZsO w lo hi A c zs) : IntL w A zs := fun h0 => by
 obtain ⟨g, rfl, _, _, ho⟩ := h h0
 exact IntL.of_own ho h0
theorem ZsO.below {w w' : World} {lo hi c : Nat} {A : Option Addr} {zs : List Int} (h : ZsO w lo hi A c zs) (hb : Below w.heap.size w w') : ZsO w' lo hi A c zs := fun h0 => by
 obtain ⟨g, rfl, a, b, ho⟩ := h h0
 exact ⟨g, rfl, a, b, own_moved ho (hb.block g (ho.lt g rfl).2)⟩
theorem ZsO.turn {w w' : World} {lo hi l2 h2 c : Nat} {A : Option Addr} {zs : List Int} (h : ZsO w lo hi A c zs) (ht : Turn l2 h2 w w') (hr : hi ≤ l2 ∨ h2 ≤ lo) : ZsO w' lo hi A c zs := fun h0 => by
 obtain ⟨g, rfl, a, b, ho⟩ := h h0
 exact ⟨g, rfl, a, b, own_moved ho (ht.block g (ho.lt g rfl).2 (by omega))⟩
/-- Rows of numbers in memory, in a row. -/
def RwL (w : World) (A : Option Addr) (xss : List (List Int)) : Prop := 0 < xss.length → ∃ b off, A = some ⟨b, off, none⟩ ∧ b < w.heap.size ∧ ∀ k zs, xss[k]? = some zs → ∃ B c, w.cell? ⟨b, off + k, none⟩ = some (.slice B zs.length c) ∧ IntL w B zs
theorem RwL.below {w w' : World} {A : Option Addr} {xss : List (List Int)} (h : RwL w A xss) (hb : Below w.heap.size w w') : RwL w' A xss := fun h0 => by
 obtain ⟨b, off, e, hlt, hc⟩ := h h0
 refine ⟨b, off, e, Nat.lt_of_lt_of_le hlt hb.size, fun k zs hz => ?_⟩
 obtain ⟨B, c, h1, h2⟩ := hc k zs hz
 exact ⟨B, c, (hb.cell (p := ⟨b, _, none⟩) hlt).trans h1, h2.below hb⟩
theorem RwL.at_ {w : World} {A : Option Addr} {xss : List (List Int)} (h : RwL w A xss) {k : Nat} {zs : List Int} (hz : xss[k]? = some zs) : ∃ b off B c, A = some ⟨b, off, none⟩ ∧ b < w.heap.size ∧ w.cell? ⟨b, off + k, none⟩ = some (.slice B zs.length c) ∧ IntL w B zs := by
 obtain ⟨b, off, e, hlt, hc⟩ := h (by have := (List.getElem?_eq_some_iff.1 hz).1; omega)
 obtain ⟨B, c, h1, h2⟩ := hc k zs hz
 exact ⟨b, off, B, c, e, hlt, h1, h2⟩
/-- Rows of numbers in a row, each in blocks of its own. -/
structure RwD (w : World) (lo hi g : Nat) (L : List Value) (P Q : Nat → Nat) (xss : List (List Int)) : Prop where
 row : ∀ i zs, xss[i]? = some zs → ∃ B c, L[i]? = some (.slice B zs.length c) ∧ ZsO w (P i) (Q i) B c zs
 inn : ∀ i, i < xss.length → lo ≤ P i ∧ P i ≤ Q i ∧ Q i ≤ hi ∧ (g < P i ∨ Q i ≤ g)
 apart : ∀ i j, i < xss.length → j < xss.length → i ≠ j → Q i ≤ P j ∨ Q j ≤ P i
def RwO (w : World) (lo hi : Nat) (A : Option Addr) (c : Nat) (xss : List (List Int)) : Prop := 0 < xss.length → ∃ g L P Q, A = some ⟨g, 0, none⟩ ∧ lo ≤ g ∧ g < hi ∧ w.ownsRow 0 36 1 (.slice (some ⟨g, 0, none⟩) xss.length c) xss.length L ∧ RwD w lo hi g L P Q xss
theorem RwO.lies {w : World} {lo hi c : Nat} {A : Option Addr} {xss : List (List Int)} (h : RwO w lo hi A c xss) : RwL w A xss := fun h0 => by
 obtain ⟨g, L, P, Q, rfl, _, _, ho, hd⟩ := h h0
 refine ⟨g, 0, rfl, (ho.lt g rfl).2, fun k zs hz => ?_⟩
 obtain ⟨B, c2, h1, h2⟩ := hd.row k zs hz
 refine ⟨B, c2, ?_, h2.lies⟩
 rw [Nat.zero_add, ho.cellAt k (by have := (List.getElem?_eq_some_iff.1 hz).1; omega)]
 exact h1
theorem RwO.below {w w' : World} {lo hi c : Nat} {A : Option Addr} {xss : List (List Int)} (h : RwO w lo hi A c xss) (hb : Below w.heap.size w w') : RwO w' lo hi A c xss := fun h0 => by
 obtain ⟨g, L, P, Q, rfl, a, b, ho, hd⟩ := h h0
 exact ⟨g, L, P, Q, rfl, a, b, own_moved ho (hb.block g (ho.lt g rfl).2), ⟨fun i zs hz => (by obtain ⟨B, c2, h1, h2⟩ := hd.row i zs hz; exact ⟨B, c2, h1, h2.below hb⟩), hd.inn, hd.apart⟩⟩
theorem RwO.turn {w w' : World} {lo hi l2 h2 c : Nat} {A : Option Addr} {xss : List (List Int)} (h : RwO w lo hi A c xss) (ht : Turn l2 h2 w w') (hr : hi ≤ l2 ∨ h2 ≤ lo) : RwO w' lo hi A c xss := fun h0 => by
 obtain ⟨g, L, P, Q, rfl, a, b, ho, hd⟩ := h h0
 refine ⟨g, L, P, Q, rfl, a, b, own_moved ho (ht.block g (ho.lt g rfl).2 (by omega)), ⟨fun i zs hz => ?_, hd.inn, hd.apart⟩⟩
 obtain ⟨B, c2, h1, h3⟩ := hd.row i zs hz
 obtain ⟨q1, q2, q3, _⟩ := hd.inn i (List.getElem?_eq_some_iff.1 hz).1
 exact ⟨B, c2, h1, h3.turn ht (by omega)⟩
end Go.Proofs.YtmfibedcloknlaaGreatDoor
