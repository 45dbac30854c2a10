/- Maps whose keys are what parts have in common. -/
import Derived.Test.YtcpfjlbicofkeaaDoorWpb1
import Derived.WideKeyEntry
import Derived.DeepKeys4
import Derived.Maps.Own
import Derived.Maps.OwnOps
namespace Go.Proofs.YtcpfjlbicofkeaaDoor
open Go.Maps (Keyed)
open Go.WideElems (Fit)
open Go.Joins Go.ChangeShapes Go.WideShapes Go.ChangeAt Go.RowKit Go.Deep
set_option linter.unusedVariables false
set_option linter.unusedSimpArgs false

theorem lawKd : Go.WideMaps.KeyLaw Tryd.prog 53 := deep_law_laid (by kernel_rfl) (m := 2) (by omega) (of_decide_eq_true (by kernel_rfl)) (by kernel_rfl) (by rw [Tryd.underlying53])
theorem lawK : Keyed Tryd.prog 53 := Keyed.of_law lawKd
/-- A value read as itself. -/
def RVk (v : Value) : Option (DataW Value × List MemPlace) := some (.held v, [])
def kV (p : Int × Int) : Value := .agg #[.int .i64 p.1, .int .i64 p.2]
def kL (p : Int × Int) : Lit := .string (keyBytes [.int .i64 p.1, .int .i64 p.2])
def kW (p : Int × Int) : Prop := (Lit.int .i64 p.1).wf = true ∧ (Lit.int .i64 p.2).wf = true
theorem key_kd {p : Int × Int} (h : kW p) : keyOf Tryd.prog 53 (kV p) = some (kL p) := by
  have h1 : Tryd.prog.keyType 53 = true := by kernel_rfl
  have c1 : Tryd.prog.cellsOf 53 = 2 := by kernel_rfl
  have c2 : Tryd.prog.cellsOf 3 = 1 := by kernel_rfl
  have h2 : (kV p).formed Tryd.prog 53 = true := by simp [kV, Value.formed, Tryd.underlying53, c1]
  have h3 : ∀ d, Tryd.prog.keyLits (d + 2) 53 [.int .i64 p.1, .int .i64 p.2] = some [.int .i64 p.1, .int .i64 p.2] := fun d => by
    simp [Program.keyLits, Tryd.underlying53, Tryd.underlying3, c1, c2, h.1, h.2]
  obtain ⟨d, hd⟩ : ∃ d, Tryd.prog.types.size + 1 = d + 2 := ⟨Tryd.prog.types.size - 1, by have : 1 ≤ Tryd.prog.types.size := of_decide_eq_true (by kernel_rfl); omega⟩
  unfold keyOf
  rw [Tryd.underlying53]
  simp only [h1, h2, hd, Bool.and_self, if_true]
  show ((Tryd.prog.keyLits (d + 2) 53 [.int .i64 p.1, .int .i64 p.2]).map fun ls => Lit.string (keyBytes ls)) = _
  rw [h3 d]
  rfl
theorem kL_inj {p q : Int × Int} (hp : kW p) (hq : kW q) (e : kL p = kL q) : p = q := by
  have h := lawK.inj (key_kd hp) (e ▸ key_kd hq)
  simp only [kV, Value.agg.injEq] at h
  have h1 := congrArg Array.toList h
  simp at h1
  exact Prod.ext h1.1 h1.2
set_option maxRecDepth 100000 in
theorem own_entry {w : World} {b n : Nat} {D : DataW Value} (h : w.ownsMap Tryd.prog 53 RVk b n D) (hn : n < maxLen) {z : Value} (hz : ∀ u : World, (zeroValue 26).run Tryd.prog u = .ok z u) {key : Value} {kl : Lit} (hkey : keyOf Tryd.prog 53 key = some kl) :
    ∃ (v0 : Value) (st : Nat) (w1 : World), (Instr.mapEntry 96 (.map (some b)) key).run Tryd.prog w = .ok (.tuple #[v0, goInt st]) w1 ∧ D.atKey kl (.held z) = .held v0 ∧ w.grownBy w1 (some b) ∧ w1.heap.size = w.heap.size ∧
      ∀ (w2 : World) (val : Value), w2.heap[b]? = w1.heap[b]? → ∃ w3, (Instr.entryStore 96 (.map (some b)) (goInt st) val).run Tryd.prog w2 = .ok () w3 ∧ w3.ownsMap Tryd.prog 53 RVk b (n + 1) (D.put kl (.held val)) ∧ w2.grownBy w3 (some b) ∧ w3.heap.size = w2.heap.size := by
  obtain ⟨es, clock, hb, F, hs, rfl⟩ := h
  obtain ⟨v0, st, es1, clock1, hrun, hor, hst⟩ := Go.WideElems.entry_then_store (R := RVk) lawKd Tryd.underlying96 hz hb F hkey
  have hlt := (Array.getElem?_eq_some_iff.1 hb).1
  have hat : (DataW.map ((es.toList.map (Go.WideElems.rg Tryd.prog 53 RVk)).foldr DataW.insert [])).atKey kl (.held z) = .held v0 := by
    rcases Go.Maps.fit_look false lawK Tryd.underlying96 (hz w) hb F hkey with ⟨_, hno, hat⟩ | ⟨e0, y, hm, hk, hl, hy, hat, _⟩
    · rcases hor with ⟨e1, h1, h2, _⟩ | ⟨_, rfl⟩
      · exact absurd h2 (hno e1 h1)
      · exact hat _
    · have e1 : v0 = e0.val := by
        rcases lawK.find w hkey es.toList F.keys with ⟨_, h2⟩ | ⟨j, e2, h1, h2, h3⟩
        · exact absurd hk (h2 e0 hm)
        · have hj : es[j]? = some e2 := by simpa using h2
          have hl2 : (Instr.lookup 96 (.map (some b)) key false).run Tryd.prog w = .ok e2.val w := by
            simp [Instr.lookup, run_underlying Tryd.underlying96, MapKept.run_getObj_map hb, lawK.check w _ hkey, h1, Result.andThen]
          rw [hl2] at hl
          simp only [Bool.false_eq_true, if_false, Result.ok.injEq] at hl
          simp [Instr.mapEntry, run_underlying Tryd.underlying96, MapKept.run_getObj_map hb, lawK.check w false hkey, h1, hj, h3, lawK.stays w hkey, MapKept.run_setObj_map _ hb, Result.andThen] at hrun
          exact hrun.1.1.symm.trans hl.1
      rw [hat, e1]
      have hy2 : y = (DataW.held e0.val, []) := by
        have h : some ((DataW.held e0.val : DataW Value), ([] : List MemPlace)) = some y := hy
        injection h with h
        exact h.symm
      rw [hy2]
  refine ⟨v0, st, _, hrun, hat, ⟨rfl, rfl, rfl, by simp [Go.ChangeMaps.setBlock], fun i _ hi => Go.ChangeMaps.heap_setBlock_other hb _ (fun e => hi (by rw [e]))⟩, by simp [Go.ChangeMaps.setBlock], fun w2 val hw2 => ?_⟩
  have hw2' : w2.heap[b]? = some (.map es1 clock1) := hw2.trans (Go.ChangeMaps.heap_setBlock_same hb _)
  obtain ⟨es', clock', h1, h2⟩ := hst w2 val hw2'
  obtain ⟨w', g1, g2, g3⟩ := World.ownsMap.update (w := w) (R := RVk) ⟨es, clock, hb, F, hs, rfl⟩ lawK Tryd.underlying96 hn hkey (val := val) (d := .held val) (ps := []) rfl
  rw [h2] at g1
  injection g1 with _ g1
  subst g1
  obtain ⟨es2, clock2, k1, k2, k3, k4⟩ := g2
  have e2 := (Go.ChangeMaps.heap_setBlock_same hb (.map es' clock')).symm.trans k1
  injection e2 with e2
  refine ⟨_, h1, ⟨es', clock', Go.ChangeMaps.heap_setBlock_same hw2' _, ?_, ?_, ?_⟩, ⟨rfl, rfl, rfl, by simp [Go.ChangeMaps.setBlock], fun i _ hi => Go.ChangeMaps.heap_setBlock_other hw2' _ (fun e => hi (by rw [e]))⟩, by simp [Go.ChangeMaps.setBlock]⟩
  · injection e2 with e3 e4; rw [e3, e4]; exact k2
  · injection e2 with e3 e4; rw [e3]; exact k3
  · injection e2 with e3 e4; rw [e3]; exact k4
end Go.Proofs.YtcpfjlbicofkeaaDoor
