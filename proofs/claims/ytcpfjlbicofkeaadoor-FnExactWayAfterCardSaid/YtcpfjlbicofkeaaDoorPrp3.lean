/- Prop: such that came in as arguments. -/
import Derived.Test.YtcpfjlbicofkeaaDoorPrp2
import Derived.Test.YtcpfjlbicofkeaaDoorLay2
namespace Go.Proofs.YtcpfjlbicofkeaaDoor
open Go.Joins Go.ChangeShapes Go.WideShapes Go.ChangeAt Go.RowKit Go.Deep
set_option linter.unusedVariables false
set_option linter.unusedSimpArgs false

theorem cellsPr : Tryd.prog.cellsOf 71 = 4 := by kernel_rfl
set_option maxRecDepth 100000 in
theorem Pr_at {H : Type} {enc : TypeId × Value → H} {W : World} {base : Nat} {sp : Nat → Bool} {held : Bool} {fuel : Nat} {cs : List Value} {y : DataW H × List MemPlace}
    (h : DataW.trod enc Tryd.prog W base sp held fuel 71 cs = some y) : ∃ x : Pr, cs = x.cells ∧ (x.v.s.size ≤ maxLen) := by
  have ci : Tryd.prog.cellsOf 3 = 1 := by kernel_rfl
  have cv : Tryd.prog.cellsOf 69 = 3 := cellsV
  obtain ⟨xs, k, hk, hxy, hl, hxl, hf⟩ := DataW.trod_struct Tryd.underlying71 h
  have hcl : cs.length = 4 := hl.trans cellsPr
  match xs, hxl, cs, hcl with
  | [y0, y1], _, [vnm, vvk, vvn, vvs], _ =>
    have g0 : DataW.trod enc Tryd.prog W base sp held k 3 [vnm] = some y0 := by simpa [ci] using hf 0 _ rfl
    obtain ⟨nm, e0, _⟩ := DataW.trod_int Tryd.underlying3 g0
    injection e0 with e0
    subst e0
    have g1 : DataW.trod enc Tryd.prog W base sp held k 69 [vvk, vvn, vvs] = some y1 := by simpa [cv] using hf 1 _ rfl
    obtain ⟨v, e1, w1⟩ := Va_at g1
    simp only [Va.cells, List.cons.injEq, and_true] at e1
    obtain ⟨rfl, rfl, rfl⟩ := e1
    exact ⟨⟨nm, v⟩, rfl, w1⟩
set_option maxRecDepth 100000 in
theorem open_Pr {H : Type} {enc : TypeId × Value → H} {W : World} {base b0 : Nat} {sp : Nat → Bool} {held : Bool} {r : Reach} {v : Value} {d : DataW H} {p : List MemPlace}
    (hv : Value.okWide Tryd.prog W r b0 71 v) (h : DataW.Trod enc Tryd.prog W base sp held 71 v d p) : ∃ x : Pr, v = .agg x.cells.toArray ∧ (x.v.s.size ≤ maxLen) := by
  obtain ⟨cs, rfl, hc⟩ := okWide_struct Tryd.underlying71 hv
  obtain ⟨fuel, hf⟩ := h
  obtain ⟨x, e, hs⟩ := Pr_at hf
  refine ⟨x, ?_, hs⟩
  simp only [Value.cells] at e
  rw [← e]
set_option maxRecDepth 100000 in
theorem Prs_at {H : Type} {enc : TypeId × Value → H} {W : World} {base : Nat} {sp : Nat → Bool} {held : Bool} {fuel : Nat} {cs : List Value} {x : DataW H × List MemPlace}
    (h : DataW.trod enc Tryd.prog W base sp held fuel 22 cs = some x) (hlt : ∀ y ∈ x.2, y.block < W.heap.size) :
    ∃ (A : Option Addr) (c : Nat) (xs : List Pr), cs = [.slice A xs.length c] ∧ xs.length ≤ maxLen ∧ xs.length ≤ c ∧ PrL W A xs ∧ ∀ x ∈ xs, x.v.s.size ≤ maxLen := by
  rcases open_slice Tryd.underlying22 h with ⟨rfl, rfl⟩ | ⟨a, len, cap, m, n, D, Pl, rfl, hb, hl, hm, hmm, rfl, hc⟩
  · exact ⟨none, 0, [], rfl, by decide, by simp, Lie.nil, by simp⟩
  · have hlm : len ≤ m := by rw [hmm]; split <;> omega
    have each : ∀ i, i < len → ∃ q : { x : Pr // x.v.s.size ≤ maxLen }, ∀ j u, q.1.cells[j]? = some u → W.cell? (a.add (i * 4 + j)) = some u := by
      intro i hi
      obtain ⟨cs', h1, h2⟩ := hc i (by omega)
      rw [show Tryd.prog.cellsOf 71 = 4 from cellsPr] at h1
      obtain ⟨_, hlen, hcell⟩ := World.cells?_some h1
      obtain ⟨x, e, hs⟩ := Pr_at h2
      subst e
      refine ⟨⟨x, hs⟩, fun j u hu => ?_⟩
      have hj : j < 4 := (List.getElem?_eq_some_iff.1 hu).1
      have e0 := hcell j hj
      rw [add_add] at e0
      rw [e0, ← hu]
      try simp
    haveI : Inhabited { x : Pr // x.v.s.size ≤ maxLen } := ⟨⟨⟨0, ⟨0, 0, ⟨#[]⟩⟩⟩, by decide⟩⟩
    obtain ⟨q, hq⟩ := choose_lt each
    refine ⟨some a, cap, (List.range len).map fun i => (q i).1, by simp, by simp; omega, by simpa using hl, fun h0 => ?_, fun v hv => ?_⟩
    · simp at h0
      have c0 := hq 0 (by omega) 0 _ rfl
      obtain ⟨b, off, spot⟩ := a
      have hspot : spot = none := by simpa [Addr.add] using World.cell?_spot c0
      subst hspot
      refine ⟨b, off, rfl, hlt (.cell b off) ?_, fun i y hy j u hu => ?_⟩
      · simp only [List.mem_append]
        left
        rw [show Tryd.prog.cellsOf 71 = 4 from cellsPr]
        exact MemPlace.mem_row.2 ⟨0, by omega, by simp⟩
      · have hi : i < len := by
          have := (List.getElem?_eq_some_iff.1 hy).1
          simpa using this
        rw [List.getElem?_map, List.getElem?_range hi] at hy
        simp only [Option.map_some, Option.some.injEq] at hy
        subst hy
        have := hq i hi j u hu
        rw [add_plain] at this
        rw [Nat.add_assoc]
        exact this
    · simp at hv
      obtain ⟨i, hi, rfl⟩ := hv
      exact (q i).2
set_option maxRecDepth 100000 in
theorem open_Prs {H : Type} {enc : TypeId × Value → H} {W : World} {base b0 : Nat} {sp : Nat → Bool} {held : Bool} {r : Reach} {v : Value} {d : DataW H} {p : List MemPlace}
    (hv : Value.okWide Tryd.prog W r b0 22 v) (h : DataW.Trod enc Tryd.prog W base sp held 22 v d p) (hlt : ∀ x ∈ p, x.block < W.heap.size) :
    ∃ (A : Option Addr) (c : Nat) (xs : List Pr), v = .slice A xs.length c ∧ xs.length ≤ maxLen ∧ xs.length ≤ c ∧ PrL W A xs ∧ ∀ x ∈ xs, x.v.s.size ≤ maxLen := by
  obtain ⟨A, len, cap, rfl⟩ := okWide_slice Tryd.underlying22 hv
  obtain ⟨fuel, hf⟩ := h
  obtain ⟨A', c', xs, hcs, hm, hcc, hx⟩ := Prs_at hf hlt
  simp [Value.cells] at hcs
  obtain ⟨rfl, rfl, rfl⟩ := hcs
  exact ⟨_, _, xs, rfl, hm, hcc, hx⟩
end Go.Proofs.YtcpfjlbicofkeaaDoor
