/- Trees drawn: keys that an earlier Kid has are taken away. -/
import Derived.Test.YtcpfjlbicofkeaaDoorDrwT1
import Derived.BigQuiet
namespace Go.Proofs.YtcpfjlbicofkeaaDoor
open Go.Joins Go.ChangeShapes Go.WideShapes Go.ChangeAt Go.RowKit Go.Deep
set_option linter.unusedVariables false
set_option linter.unusedSimpArgs false

/-- A tree as it is drawn. -/
inductive GdT : Tr → Prop
  | mk {tag key : Int} {text : ByteArray} {ps : List Pr} {ks : List Tr} (h0 : text.size ≤ 100) (h1 : ps.length ≤ 10) (h2 : ∀ x ∈ ps, x.v.s.size ≤ 1000) (h3 : ks.length ≤ 10) (h4 : ∀ x ∈ ks, GdT x) (h5 : -1000 ≤ key ∧ key ≤ 1000) : GdT (.mk tag key text ps ks)
theorem GdT.withKey {t : Tr} (h : GdT t) {z : Int} (hz : -1000 ≤ z ∧ z ≤ 1000) : GdT (t.withKey z) := by
  cases h with
  | mk h0 h1 h2 h3 h4 h5 => exact .mk h0 h1 h2 h3 h4 hz
/-- The same, of so many rows of parts at most. -/
inductive GdD : Nat → Tr → Prop
  | mk {d : Nat} {tag key : Int} {text : ByteArray} {ps : List Pr} {ks : List Tr} (h0 : text.size ≤ 100) (h1 : ps.length ≤ 10) (h2 : ∀ x ∈ ps, x.v.s.size ≤ 1000) (h3 : ks.length ≤ 10) (h4 : ∀ x ∈ ks, GdD d x) (h5 : -1000 ≤ key ∧ key ≤ 1000) : GdD (d + 1) (.mk tag key text ps ks)
theorem GdD.withKey {d : Nat} {t : Tr} (h : GdD d t) {z : Int} (hz : -1000 ≤ z ∧ z ≤ 1000) : GdD d (t.withKey z) := by
  cases h with
  | mk h0 h1 h2 h3 h4 h5 => exact .mk h0 h1 h2 h3 h4 hz
theorem GdD.up {d : Nat} {t : Tr} (h : GdD d t) : GdD (d + 1) t := by
  induction h with
  | mk h0 h1 h2 h3 h4 h5 ih => exact .mk h0 h1 h2 h3 ih h5
theorem GdD.gd {d : Nat} {t : Tr} (h : GdD d t) : GdT t := by
  induction h with
  | mk h0 h1 h2 h3 h4 h5 ih => exact .mk h0 h1 h2 h3 ih h5
/-- Only the row's own block has turned, and nothing was made. -/
structure OnlyB (b : Nat) (w w' : World) : Prop where
  os : w'.os = w.os
  tape : w'.tape = w.tape
  output : w'.output = w.output
  size : w'.heap.size = w.heap.size
  block : ∀ k, k ≠ b → w'.heap[k]? = w.heap[k]?
theorem OnlyB.refl (b : Nat) (w : World) : OnlyB b w w := ⟨rfl, rfl, rfl, rfl, fun _ _ => rfl⟩
theorem OnlyB.drewN {b : Nat} {w w' : World} (h : OnlyB b w w') (n : Nat) : OnlyB b w (w'.drewN n) := ⟨h.os, h.tape, h.output, h.size, h.block⟩
theorem OnlyB.set_ {b o : Nat} {w w' : World} (h : OnlyB b w w') (u : Value) : OnlyB b w (w'.setCell ⟨b, o, none⟩ u) :=
  ⟨h.os, h.tape, h.output, by simpa [World.setCell] using h.size, fun k hk => (heap_setCell_other w' _ k u hk).trans (h.block k hk)⟩
theorem KidsOwn.drewN {w : World} {base : Nat} {v : Value} {ks : List Tr} (h : KidsOwn w base v ks) (n : Nat) : KidsOwn (w.drewN n) base v ks := h.below ⟨rfl, rfl, rfl, Nat.le_refl _, fun _ _ => rfl⟩
theorem KidsOwn.at_ {w : World} {base b c : Nat} {ks : List Tr} {k : Nat} {x : Tr} (h : KidsOwn w base (.slice (some ⟨b, 0, none⟩) ks.length c) ks) (hx : ks[k]? = some x) :
    w.cell? ⟨b, k * 5, none⟩ = some (.int .i64 x.tag) ∧ w.cell? ⟨b, k * 5 + 1, none⟩ = some (.int .i64 x.key) ∧ w.frozen? ⟨b, k * 5 + 1, none⟩ = false := by
  obtain ⟨L, hdr, h1, h2, h3⟩ := h
  have hk : k < ks.length := (List.getElem?_eq_some_iff.1 hx).1
  obtain ⟨lo, hi, _, _, _, d⟩ := h3 k x hx
  obtain ⟨A0, c0, A1, c1, e⟩ := d.open_
  have g0 := h2 k hk 0 (.int .i64 x.tag) (by rw [e]; rfl)
  have g1 := h2 k hk 1 (.int .i64 x.key) (by rw [e]; rfl)
  refine ⟨?_, ?_, h1.frozenAt _⟩
  · rw [h1.cellAt _ (by omega)]; exact g0
  · rw [h1.cellAt _ (by omega)]; exact g1
/-- What keyless leaves. -/
def KeyX (d b c n base : Nat) (w : World) (e : Ending) (w' : World) : Prop :=
  e = .returned (.slice (some ⟨b, 0, none⟩) n c) ∧ ∃ ks', ks'.length = n ∧ KidsOwn w' base (.slice (some ⟨b, 0, none⟩) n c) ks' ∧ (∀ x ∈ ks', GdD d x) ∧ OnlyB b w w'
def KRel (d b c n base : Nat) (w wr : World) (ks' : List Tr) : Prop := ks'.length = n ∧ KidsOwn wr base (.slice (some ⟨b, 0, none⟩) n c) ks' ∧ (∀ x ∈ ks', GdD d x) ∧ OnlyB b w wr
theorem KRel.set_ {d b c n base i : Nat} {w wr : World} {ks' : List Tr} {x : Tr} (h : KRel d b c n base w wr ks') (hx : ks'[i]? = some x) (z : Int) (hz : -1000 ≤ z ∧ z ≤ 1000) : KRel d b c n base w (wr.setCell ⟨b, i * 5 + 1, none⟩ (.int .i64 z)) (ks'.set i (x.withKey z)) := by
  obtain ⟨h0, h1, h2, h3⟩ := h
  subst h0
  refine ⟨by simp, (h1.setKey hx z).1, fun y hy => ?_, h3.set_ _⟩
  rcases List.mem_or_eq_of_mem_set hy with hy | rfl
  · exact h2 y hy
  · exact (h2 x (List.mem_of_getElem? hx)).withKey hz
theorem KRel.drewN {d b c n base : Nat} {w wr : World} {ks' : List Tr} (h : KRel d b c n base w wr ks') (m : Nat) : KRel d b c n base w (wr.drewN m) ks' := ⟨h.1, h.2.1.drewN m, h.2.2.1, h.2.2.2.drewN m⟩
set_option maxHeartbeats 2000000 in
theorem keyless_any (d b c n base : Nat) (ks : List Tr) (w : World) (hn : ks.length = n) (h10 : n ≤ 10) (hk : KidsOwn w base (.slice (some ⟨b, 0, none⟩) n c) ks) (hg : ∀ x ∈ ks, GdD d x) :
    Calls Tryd.prog 66 #[.slice (some ⟨b, 0, none⟩) n c] w (KeyX d b c n base w) := by
  have HR0 := Lib.hid (show KRel d b c n base w w ks from ⟨hn, hk, hg, OnlyB.refl _ _⟩)
  clear hk hg hn
  go_enter Tryd.func66, Tryd.ntmps66
  go_wp2_with fail
  go_loopw [3] (fun i wr => ∃ (k : Nat) (ks' : List Tr), k ≤ n ∧ i = .int .i64 k ∧ Hid (KRel d b c n base w wr ks')) (fun i _ => n - (intOf i).toNat)
  case atStart => exact ⟨0, ks, by omega, rfl, HR0⟩
  case round =>
    obtain ⟨i, ks1, hi, rfl, HR⟩ := hrel
    by_cases hlt : i < n
    · have hi1 : (0 : Int) ≤ (i : Int) := by omega
      have hi2 : (i : Int) < (n : Int) := by omega
      go_wp2_with fail
      go_loopw [4] (fun j wr => ∃ (k : Nat) (ks' : List Tr), k ≤ i ∧ j = .int .i64 k ∧ Hid (KRel d b c n base w wr ks')) (fun j _ => i - (intOf j).toNat)
      case atStart => exact ⟨0, ks1, by omega, rfl, HR⟩
      case round =>
        obtain ⟨j, ks2, hj, rfl, HR2⟩ := hrel
        by_cases hjl : j < i
        · have hj1 : (0 : Int) ≤ (j : Int) := by omega
          have hj2 : (j : Int) < (n : Int) := by omega
          obtain ⟨x, hx⟩ := at_some (show i < ks2.length by rw [HR2.out.1]; exact hlt)
          obtain ⟨y, hy⟩ := at_some (show j < ks2.length by rw [HR2.out.1]; omega)
          have ho := HR2.out.2.1
          rw [← HR2.out.1] at ho
          obtain ⟨a0, a1, a2⟩ := ho.at_ hx
          obtain ⟨b0, b1, b2⟩ := ho.at_ hy
          have HXX := Lib.hid hx
          clear ho b0 b2 a0 hx hy
          obtain ⟨p, hp⟩ : ∃ p, x.key = p := ⟨_, rfl⟩
          obtain ⟨q, hq⟩ : ∃ q, y.key = q := ⟨_, rfl⟩
          rw [hp] at a1
          rw [hq] at b1
          clear hp hq
          by_cases hm : p = -1
          · have hd : (p != -1) = false := by rw [hm]; rfl
            clear hm
            go_wp2_with fail
            go_quiet (fail)
            go_wp2_with fail
            go_roundw
            case rel => exact ⟨j + 1, ks2, by omega, by go_num, Lib.hid (HR2.out.drewN _)⟩
            case measure => simp [intOf]; omega
          · have hd : (p != -1) = true := by simpa using hm
            by_cases hu : p = q
            · have hd2 : (p == q) = true := by simpa using hu
              clear hm hu
              go_wp2_with fail
              go_quiet (fail)
              go_wp2_with fail
              go_roundw
              case rel => exact ⟨j + 1, _, by omega, by go_num, Lib.hid ((HR2.out.drewN _).set_ HXX.out (-1) (by omega))⟩
              case measure => simp [intOf]; omega
            · have hd2 : (p == q) = false := by simpa using hu
              clear hm hu
              go_wp2_with fail
              go_quiet (fail)
              go_wp2_with fail
              go_roundw
              case rel => exact ⟨j + 1, ks2, by omega, by go_num, Lib.hid (HR2.out.drewN _)⟩
              case measure => simp [intOf]; omega
        · obtain rfl : j = i := by omega
          go_wp2_with fail
          go_roundw
          case rel => exact ⟨j + 1, ks2, by omega, by go_num, HR2⟩
          case measure => simp [intOf]; omega
    · obtain rfl : i = n := by omega
      go_wp2_with fail
      go_ret
      exact ⟨rfl, ks1, HR.out.1, HR.out.2.1, HR.out.2.2.1, HR.out.2.2.2⟩
end Go.Proofs.YtcpfjlbicofkeaaDoor
