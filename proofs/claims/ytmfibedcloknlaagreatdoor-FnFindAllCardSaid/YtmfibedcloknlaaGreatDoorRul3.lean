/- Rule: such that came in as arguments. -/
import Derived.Test.YtmfibedcloknlaaGreatDoorRul2
import Derived.Test.YtmfibedcloknlaaGreatDoorLay2
namespace Go.Proofs.YtmfibedcloknlaaGreatDoor
open Go.Joins Go.ChangeShapes Go.WideShapes Go.ChangeAt Go.RowKit Go.Deep
set_option linter.unusedVariables false
set_option linter.unusedSimpArgs false

theorem cellsRu : Tryz.prog.cellsOf 64 = 8 := by kernel_rfl
set_option maxRecDepth 100000 in
theorem Ru_at {H : Type} {enc : TypeId × Value → H} {W : World} {base : Nat} {sp : Nat → Bool} {held : Bool} {fuel : Nat} {cs : List Value} {y : DataW H × List MemPlace}
  (h : DataW.trod enc Tryz.prog W base sp held fuel 64 cs = some y) : ∃ x : Ru, cs = x.cells ∧ (x.v.s.size ≤ maxLen) := by
 have ci : Tryz.prog.cellsOf 3 = 1 := by kernel_rfl
 have cv : Tryz.prog.cellsOf 62 = 3 := cellsV
 obtain ⟨xs, k, hk, hxy, hl, hxl, hf⟩ := DataW.trod_struct Tryz.underlying64 h
 have hcl : cs.length = 8 := hl.trans cellsRu
 match xs, hxl, cs, hcl with
 | [y0, y1, y2, y3, y4, y5], _, [vt, va, vnm, vvk, vvn, vvs, vl, vg], _ =>
  have g0 : DataW.trod enc Tryz.prog W base sp held k 3 [vt] = some y0 := by simpa [ci] using hf 0 _ rfl
  obtain ⟨t, e0, _⟩ := DataW.trod_int Tryz.underlying3 g0
  injection e0 with e0
  subst e0
  have g1 : DataW.trod enc Tryz.prog W base sp held k 3 [va] = some y1 := by simpa [ci] using hf 1 _ rfl
  obtain ⟨a, e1, _⟩ := DataW.trod_int Tryz.underlying3 g1
  injection e1 with e1
  subst e1
  have g2 : DataW.trod enc Tryz.prog W base sp held k 3 [vnm] = some y2 := by simpa [ci] using hf 2 _ rfl
  obtain ⟨nm, e2, _⟩ := DataW.trod_int Tryz.underlying3 g2
  injection e2 with e2
  subst e2
  have g3 : DataW.trod enc Tryz.prog W base sp held k 62 [vvk, vvn, vvs] = some y3 := by simpa [cv] using hf 3 _ rfl
  obtain ⟨v, e3, w3⟩ := Va_at g3
  simp only [Va.cells, List.cons.injEq, and_true] at e3
  obtain ⟨rfl, rfl, rfl⟩ := e3
  have g4 : DataW.trod enc Tryz.prog W base sp held k 3 [vl] = some y4 := by simpa [ci] using hf 4 _ rfl
  obtain ⟨l, e4, _⟩ := DataW.trod_int Tryz.underlying3 g4
  injection e4 with e4
  subst e4
  have g5 : DataW.trod enc Tryz.prog W base sp held k 3 [vg] = some y5 := by simpa [ci] using hf 5 _ rfl
  obtain ⟨g, e5, _⟩ := DataW.trod_int Tryz.underlying3 g5
  injection e5 with e5
  subst e5
  exact ⟨⟨t, a, nm, v, l, g⟩, rfl, w3⟩
set_option maxRecDepth 100000 in
theorem open_Ru {H : Type} {enc : TypeId × Value → H} {W : World} {base b0 : Nat} {sp : Nat → Bool} {held : Bool} {r : Reach} {v : Value} {d : DataW H} {p : List MemPlace}
  (hv : Value.okWide Tryz.prog W r b0 64 v) (h : DataW.Trod enc Tryz.prog W base sp held 64 v d p) : ∃ x : Ru, v = .agg x.cells.toArray ∧ (x.v.s.size ≤ maxLen) := by
 obtain ⟨cs, rfl, hc⟩ := okWide_struct Tryz.underlying64 hv
 obtain ⟨fuel, hf⟩ := h
 obtain ⟨x, e, hs⟩ := Ru_at hf
 refine ⟨x, ?_, hs⟩
 simp only [Value.cells] at e
 rw [← e]
set_option maxRecDepth 100000 in
theorem Rus_at {H : Type} {enc : TypeId × Value → H} {W : World} {base : Nat} {sp : Nat → Bool} {held : Bool} {fuel : Nat} {cs : List Value} {x : DataW H × List MemPlace}
  (h : DataW.trod enc Tryz.prog W base sp held fuel 51 cs = some x) (hlt : ∀ y ∈ x.2, y.block < W.heap.size) :
  ∃ (A : Option Addr) (c : Nat) (xs : List Ru), cs = [.slice A xs.length c] ∧ xs.length ≤ maxLen ∧ xs.length ≤ c ∧ RuL W A xs ∧ ∀ x ∈ xs, x.v.s.size ≤ maxLen := by
 rcases open_slice Tryz.underlying51 h with ⟨rfl, rfl⟩ | ⟨a, len, cap, m, n, D, Pl, rfl, hb, hl, hm, hmm, rfl, hc⟩
 ·exact ⟨none, 0, [], rfl, by decide, by simp, Lie.nil, by simp⟩
 ·have hlm : len ≤ m := by rw [hmm]; split <;> omega
  have each : ∀ i, i < len → ∃ q : { x : Ru // x.v.s.size ≤ maxLen }, ∀ j u, q.1.cells[j]? = some u → W.cell? (a.add (i * 8 + j)) = some u := by
   intro i hi
   obtain ⟨cs', h1, h2⟩ := hc i (by omega)
   rw [show Tryz.prog.cellsOf 64 = 8 from cellsRu] at h1
   obtain ⟨_, hlen, hcell⟩ := World.cells?_some h1
   obtain ⟨x, e, hs⟩ := Ru_at h2
   subst e
   refine ⟨⟨x, hs⟩, fun j u hu => ?_⟩
   have hj : j < 8 := (List.getElem?_eq_some_iff.1 hu).1
   have e0 := hcell j hj
   rw [add_add] at e0
   rw [e0, ← hu]
   try simp
  haveI : Inhabited { x : Ru // x.v.s.size ≤ maxLen } := ⟨⟨⟨0, 0, 0, ⟨0, 0, ⟨#[]⟩⟩, 0, 0⟩, by decide⟩⟩
  obtain ⟨q, hq⟩ := choose_lt each
  refine ⟨some a, cap, (List.range len).map fun i => (q i).1, by simp, by simp; omega, by simpa using hl, fun h0 => ?_, fun v hv => ?_⟩
  ·simp at h0
   have c0 := hq 0 (by omega) 0 _ rfl
   obtain ⟨b, off, spot⟩ := a
   have hspot : spot = none := by simpa [Addr.add] using World.cell?_spot c0
   subst hspot
   refine ⟨b, off, rfl, hlt (.cell b off) ?_, fun i y hy j u hu => ?_⟩
   ·simp only [List.mem_append]
    left
    rw [show Tryz.prog.cellsOf 64 = 8 from cellsRu]
    exact MemPlace.mem_row.2 ⟨0, by omega, by simp⟩
   ·have hi : i < len := by
     have := (List.getElem?_eq_some_iff.1 hy).1
     simpa using this
    rw [List.getElem?_map, List.getElem?_range hi] at hy
    simp only [Option.map_some, Option.some.injEq] at hy
    subst hy
    have := hq i hi j u hu
    rw [add_plain] at this
    rw [Nat.add_assoc]
    exact this
  ·simp at hv
   obtain ⟨i, hi, rfl⟩ := hv
   exact (q i).2
set_option maxRecDepth 100000 in
theorem open_Rus {H : Type} {enc : TypeId × Value → H} {W : World} {base b0 : Nat} {sp : Nat → Bool} {held : Bool} {r : Reach} {v : Value} {d : DataW H} {p : List MemPlace}
  (hv : Value.okWide Tryz.prog W r b0 51 v) (h : DataW.Trod enc Tryz.prog W base sp held 51 v d p) (hlt : ∀ x ∈ p, x.block < W.heap.size) :
  ∃ (A : Option Addr) (c : Nat) (xs : List Ru), v = .slice A xs.length c ∧ xs.length ≤ maxLen ∧ xs.length ≤ c ∧ RuL W A xs ∧ ∀ x ∈ xs, x.v.s.size ≤ maxLen := by
 obtain ⟨A, len, cap, rfl⟩ := okWide_slice Tryz.underlying51 hv
 obtain ⟨fuel, hf⟩ := h
 obtain ⟨A', c', xs, hcs, hm, hcc, hx⟩ := Rus_at hf hlt
 simp [Value.cells] at hcs
 obtain ⟨rfl, rfl, rfl⟩ := hcs
 exact ⟨_, _, xs, rfl, hm, hcc, hx⟩
end Go.Proofs.YtmfibedcloknlaaGreatDoor
