/- The law FnExactEffectsLive answers true at every row of effects, and leaves it as it was. No conditions. -/
import Derived.Test.YtegdpdafaimmoaaExactEffectsLiveW
import Derived.Deep.SlicePairs
namespace Go.Proofs.Ytegdpdafaimmoaa
open Go.Joins Go.ChangeShapes Go.WideShapes Go.ChangeAt Go.RowKit Go.Deep
set_option linter.unusedVariables false
set_option linter.unusedSimpArgs false

set_option maxRecDepth 100000 in
theorem effects_at {H : Type} {enc : TypeId × Value → H} {W : World} {base : Nat} {sp : Nat → Bool} {held : Bool} {fuel : Nat} {cs : List Value} {x : DataW H × List MemPlace}
    (h : DataW.trod enc Try.prog W base sp held fuel 22 cs = some x) (hlt : ∀ y ∈ x.2, y.block < W.heap.size) :
    ∃ (A : Option Addr) (c : Nat) (xs : List Ef), cs = [.slice A xs.length c] ∧ xs.length ≤ maxLen ∧ xs.length ≤ c ∧ EfL W A xs := by
  rcases open_slice_pairs Try.underlying22 Try.underlying52 (by kernel_rfl) rfl rfl (by kernel_rfl) (by kernel_rfl) h with ⟨rfl, rfl⟩ | ⟨a, len, cap, m, n, V0, V1, D0, D1, P0, P1, rfl, hb, hl, hm, hmm, rfl, hc⟩
  · exact ⟨none, 0, [], rfl, by decide, by simp, (fun h0 => absurd h0 (by simp))⟩
  · have hlm : len ≤ m := by rw [hmm]; split <;> omega
    have each : ∀ i, i < len → ∃ x : Ef, ∃ A0 c0, V0 i = .int .i64 x.k ∧ V1 i = .slice A0 x.pl.length c0 ∧ SlL W A0 x.pl ∧ x.pl.length ≤ c0 ∧ x.pl.length ≤ maxLen := by
      intro i hi
      obtain ⟨_, _, h0, h1⟩ := hc i (by omega)
      have hin : ∀ y, y ∈ P0 i ++ P1 i → y.block < W.heap.size := fun y hy => hlt y (by
        simp only [List.mem_append]
        right
        rw [List.mem_flatMap]
        exact ⟨i, List.mem_range.2 (by omega), by simpa using hy⟩)
      obtain ⟨k, hk, _⟩ := DataW.trod_int Try.underlying3 h0
      obtain ⟨A1, c1, ps, e1, r0, r1, r2⟩ := slots_at h1 (fun y hy => hin y (by simp at hy; simp [hy]))
      injection hk with hk
      injection e1 with e1
      exact ⟨⟨k, ps⟩, A1, c1, hk, e1, r2, r1, r0⟩
    haveI : Inhabited Ef := ⟨⟨0, []⟩⟩
    obtain ⟨q, hq⟩ := choose_lt each
    refine ⟨some a, cap, (List.range len).map q, by simp, by simp; omega, by simpa using hl, fun h0 => ?_⟩
    · simp at h0
      obtain ⟨c0, _⟩ := hc 0 (by omega)
      obtain ⟨b, off, spot⟩ := a
      have hspot : spot = none := by simpa [Addr.add] using World.cell?_spot c0
      subst hspot
      refine ⟨b, off, rfl, hlt (.cell b off) ?_, fun i y hy => ?_⟩
      · simp only [List.mem_append]
        left
        exact MemPlace.mem_row.2 ⟨0, by omega, by simp⟩
      · have hi : i < len := by
          have := (List.getElem?_eq_some_iff.1 hy).1
          simpa using this
        rw [List.getElem?_map, List.getElem?_range hi] at hy
        simp only [Option.map_some, Option.some.injEq] at hy
        subst hy
        obtain ⟨A0, c0, e0, e1, q2, q1, q0⟩ := hq i hi
        obtain ⟨z0, z1, _⟩ := hc i (by omega)
        rw [add_plain] at z0 z1
        exact ⟨A0, c0, by rw [← e0]; simpa using z0, by rw [← e1]; simpa [Nat.add_assoc] using z1, q2, q1, q0⟩
set_option maxRecDepth 100000 in
theorem open_effects {H : Type} {enc : TypeId × Value → H} {W : World} {base b0 : Nat} {sp : Nat → Bool} {held : Bool} {r : Reach} {v : Value} {d : DataW H} {p : List MemPlace}
    (hv : Value.okWide Try.prog W r b0 22 v) (h : DataW.Trod enc Try.prog W base sp held 22 v d p) (hlt : ∀ x ∈ p, x.block < W.heap.size) :
    ∃ (A : Option Addr) (c : Nat) (xs : List Ef), v = .slice A xs.length c ∧ xs.length ≤ maxLen ∧ xs.length ≤ c ∧ EfL W A xs := by
  obtain ⟨A, len, cap, rfl⟩ := okWide_slice Try.underlying22 hv
  obtain ⟨fuel, hf⟩ := h
  obtain ⟨A', c', xs, hcs, hm, hcc, hx⟩ := effects_at hf hlt
  simp [Value.cells] at hcs
  obtain ⟨rfl, rfl, rfl⟩ := hcs
  exact ⟨_, _, xs, rfl, hm, hcc, hx⟩
end Go.Proofs.Ytegdpdafaimmoaa
namespace Go.Proofs.Ytegdpdafaimmoaa.fnExactEffectsLive
open Go.Joins Go.ChangeShapes Go.WideShapes Go.ChangeAt Go.RowKit Go.Deep
theorem walk (A : Option Addr) (c : Nat) (xs : List Ef) (w : World) (hx : EfL w A xs) (hl : xs.length ≤ maxLen) :
    Calls Try.prog 3 #[.slice A xs.length c] w fun e w' => e = .returned (.bool true) ∧ Below w.heap.size w w' := effects_walk A c xs.length xs w hx rfl hl
set_option maxRecDepth 100000 in
theorem contract (H : Type) (enc : TypeId × Value → H) (W : World) (base : Nat) (args : Array Value) (ds gs : List (DataW H)) (before : List MemPlace)
    (hval : ∀ (j : Nat) t v, Try.f3.params[j]? = some t → args[j]? = some v → Value.okWide Try.prog W .any base t v)
    (hW : DataW.Whole enc Try.prog Try.f3.params.toList Rows.fnExactEffectsLiveSpec.vars false W args.toList ds gs before) :
    Calls Try.prog 3 args W fun e W' => ∃ v, e = .returned v ∧ Rows.fnExactEffectsLiveSpec.post enc Try.prog Try.f3 false true false false W args v W' := by
  have hW' := hW
  obtain ⟨p, q, hA0, hV, rfl, hfz, hnd⟩ := hW
  have hA : DataW.TrodAll enc Try.prog W 0 (fun _ => true) true Try.f3.params.toList args.toList ds p := hA0
  rw [Try.params3] at hA hval
  obtain ⟨v0, vs0, d0, ds0, p0, q0, hargs, rfl, rfl, h0, r0⟩ := trodAll_cons hA
  obtain ⟨rfl, rfl, rfl⟩ := trodAll_nil r0
  obtain rfl : args = #[v0] := by cases args; simp_all
  obtain ⟨rfl, rfl⟩ := trodVars_none hV
  obtain ⟨A0, c0, xs, rfl, hm0, hc0, hx0⟩ := open_effects (hval 0 _ v0 rfl rfl) h0 (fun x hx => by simpa using hW'.lt x (by simp [hx]))
  exact (walk A0 c0 xs W hx0 hm0).mono fun e W' ⟨he, hB⟩ => ⟨_, he, law_post rfl rfl hW' laidOut (of_decide_eq_true (by kernel_rfl)) rfl Try.underlying4 hB⟩

set_option maxRecDepth 100000 in
theorem lifted (os : Os) (started : os.Started) (H : Type) (enc : TypeId × Value → H) :
    ReturnsInHanded {} Try.checked os 3 .any (Rows.fnExactEffectsLiveSpec.pre6 enc Try.prog Try.f3 Rows.fnExactEffectsLiveRow.domain false) (Rows.fnExactEffectsLiveSpec.post enc Try.prog Try.f3 false true false false) := by
  refine returnsInHanded_of_change (C := Try.checked) own started (by kernel_rfl) Try.func3
    (ChangeSpec.witness6 (enc := enc) (C := Try.checked) false ⟨#[], #[.slice none 0 0], []⟩ 8 (by kernel_rfl) (by kernel_rfl) (by kernel_rfl) (by kernel_rfl)) ?_
  intro W base args ds gs before hval hW _ _
  exact contract H enc W base args ds gs before hval hW

set_option maxRecDepth 100000 in
theorem proved : Rows.FnExactEffectsLiveSaid :=
  OpenClaim.holds_of_wide 3 Try.f3 rfl rfl rfl rfl rfl rfl rfl ⟨rfl, rfl, rfl, rfl, rfl⟩ rfl rfl rfl rfl rfl (by kernel_rfl) Try.func3 (by kernel_rfl)
    (of_decide_eq_true (by kernel_rfl)) (by unfold Func.isWrapper; first | (rw [if_pos (by decide +kernel)]; kernel_rfl) | (rw [if_neg (by decide +kernel)]; exact ⟨rfl, rfl⟩))
    (fun os started H enc _ => lifted os started H enc)
end Go.Proofs.Ytegdpdafaimmoaa.fnExactEffectsLive
