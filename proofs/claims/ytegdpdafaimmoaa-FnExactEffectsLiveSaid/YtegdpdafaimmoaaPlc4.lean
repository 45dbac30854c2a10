/- Places: slots that came in as an argument, and the copies that the laws make of them. -/
import Derived.Test.YtegdpdafaimmoaaPlc3
import Derived.Test.YtegdpdafaimmoaaOpen
import Derived.Deep.SlicePairs
namespace Go.Proofs.Ytegdpdafaimmoaa
open Go.Joins Go.ChangeShapes Go.WideShapes Go.ChangeAt Go.RowKit Go.Deep
set_option linter.unusedVariables false
set_option linter.unusedSimpArgs false

theorem Below.keeps {w w' : World} (h : Below w.heap.size w w') : w.grownBy w' none := ⟨h.os, h.tape, h.output, h.size, fun k hk _ => h.block k hk⟩
theorem grown_below {w w' : World} (h : w.grownBy w' none) : Below w.heap.size w w' := ⟨h.os, h.tape, h.output, h.size, fun k hk => h.block k hk (by simp)⟩
theorem ownsRow_below {w w' : World} {base : Nat} {e : TypeId} {n m : Nat} {v : Value} {xs : List Value} (h : w.ownsRow base e n v m xs) (hb : Below w.heap.size w w') : w'.ownsRow base e n v m xs :=
  h.kept (Below.keeps hb) (by cases hv : v.ownBlock <;> simp)
theorem infoSl : (Try.prog.info? 65).map (fun i => (i.zero, i.size, i.bytes)) = some (some (.agg #[.int .i64 0, .int .i64 0]), 2, 16) := by kernel_rfl

theorem len_cells (xs : List Sl) : (xs.flatMap Sl.cells).length = xs.length * 2 := by
  induction xs with
  | nil => rfl
  | cons x xs ih => rw [List.flatMap_cons, List.length_append, ih]; simp [Sl.cells]; omega
/-- Two cells more are as they are to be. -/
theorem take_two {L : List Value} {xs : List Sl} {k : Nat} {x : Sl} (hL : k * 2 + 1 < L.length) (h : L.take (k * 2) = (xs.take k).flatMap Sl.cells) (hx : xs[k]? = some x) :
    ((L.set (k * 2) (.int .i64 x.p)).set (k * 2 + 1) (.int .i64 x.s)).take ((k + 1) * 2) = (xs.take (k + 1)).flatMap Sl.cells := by
  obtain ⟨hk, e⟩ := List.getElem?_eq_some_iff.1 hx
  rw [List.take_succ_eq_append_getElem hk, List.flatMap_append, ← h, e]
  apply List.ext_getElem?
  intro j
  rcases (by omega : j < k * 2 ∨ j = k * 2 ∨ j = k * 2 + 1 ∨ k * 2 + 2 ≤ j) with hj | rfl | rfl | hj
  · rw [List.getElem?_append_left (by simp; omega), List.getElem?_take, if_pos (by omega), List.getElem?_take, if_pos hj, List.getElem?_set_ne (by omega), List.getElem?_set_ne (by omega)]
  · rw [List.getElem?_append_right (by simp; omega), List.getElem?_take, if_pos (by omega), List.getElem?_set_ne (by omega), List.getElem?_set_self (by omega)]
    have : k * 2 - (L.take (k * 2)).length = 0 := by simp; omega
    rw [this]; rfl
  · rw [List.getElem?_append_right (by simp; omega), List.getElem?_take, if_pos (by omega), List.getElem?_set_self (by simp; omega)]
    have : k * 2 + 1 - (L.take (k * 2)).length = 1 := by simp; omega
    rw [this]; rfl
  · rw [List.getElem?_eq_none (by simp; omega), List.getElem?_eq_none (by simp [Sl.cells]; omega)]

set_option maxHeartbeats 1000000 in
theorem toSlots_any (A : Option Addr) (c : Nat) (xs : List Sl) (w : World) (hx : SlL w A xs) (hl : xs.length ≤ 1048576) :
    Calls Try.prog 19 #[.slice A xs.length c] w fun e w' => e = .returned (.slice (some ⟨w.heap.size, 0, none⟩) xs.length xs.length) ∧
      w'.ownsRow w.heap.size 65 2 (.slice (some ⟨w.heap.size, 0, none⟩) xs.length xs.length) xs.length (xs.flatMap Sl.cells) ∧ Below w.heap.size w w' := by
  obtain ⟨n, hn⟩ : ∃ n, xs.length = n := ⟨_, rfl⟩
  rw [hn] at hl ⊢
  have HN := Lib.hid hn
  have HX := Lib.hid hx
  clear hx hn
  obtain ⟨i0, hi, hz0, hz1, hz2⟩ := info_parts infoSl
  have HZ2 := Lib.hid hz2
  clear hz2
  go_enter Try.func19, Try.ntmps19
  go_wp2_with (at_make; refine wpList_make_full _ rfl _ _ 37 rfl w.heap.size 65 i0 (.agg #[.int .i64 0, .int .i64 0]) 2 Try.underlying37 hi hz0 hz1 .i64 .i64 _ _ n rfl rfl rfl rfl (by rw [HZ2.out]; omega) (by unfold maxLen; omega) (Nat.le_refl _) ?_; rintro w1 hown hgrow)
  have hB1 : Below w.heap.size w w1 := grown_below hgrow
  have hg1 : w.heap.size < w1.heap.size := (hown.lt _ rfl).2
  have HO := Lib.hid hown
  clear hown hgrow hi hz0 hz1
  go_loopw [4] (fun i wr => ∃ (k : Nat) (L : List Value), k ≤ n ∧ i = .int .i64 k ∧ wr.ownsRow w.heap.size 65 2 (.slice (some ⟨w.heap.size, 0, none⟩) n n) n L ∧ L.take (k * 2) = (xs.take k).flatMap Sl.cells ∧ Below w.heap.size w wr) (fun i _ => n - (intOf i).toNat)
  case atStart => exact ⟨0, _, by omega, rfl, HO.out, rfl, hB1⟩
  case round =>
    obtain ⟨k, L, hk, rfl, hown, htk, hB⟩ := hrel
    have HT := Lib.hid htk
    have HO2 := Lib.hid hown
    have hgl : w.heap.size < wr.heap.size := (hown.lt _ rfl).2
    clear htk hown
    by_cases hlt : k < n
    · obtain ⟨b, off, rfl, hblt, hcell⟩ := SlL.at_ HX.out (by have := HN.out; omega)
      obtain ⟨x, hx⟩ := at_some (show k < xs.length by rw [HN.out]; exact hlt)
      obtain ⟨c0, c1⟩ := hcell k x hx
      have c0' := (hB.cell (p := ⟨b, off + k * 2, none⟩) hblt).trans c0
      have c1' := (hB.cell (p := ⟨b, off + k * 2 + 1, none⟩) hblt).trans c1
      have hs := toSlot_any x
      have HXK := Lib.hid hx
      clear hcell hx c0 c1
      obtain ⟨p, s⟩ := x
      dsimp only at c0' c1' hs
      go_wp2_with fail
      refine (hs _).mono ?_
      rintro e w2 ⟨rfl, hb⟩
      have hO3 := ownsRow_below HO2.out hb
      have hLl : L.length = n * 2 := hO3.1
      obtain ⟨u0, d0⟩ : ∃ u, w2.cell? ⟨w.heap.size, k * 2, none⟩ = some u := ⟨_, (hO3.cellAt (k * 2) (by omega)).trans (List.getElem?_eq_getElem (show k * 2 < L.length by omega))⟩
      obtain ⟨u1, d1⟩ : ∃ u, w2.cell? ⟨w.heap.size, k * 2 + 1, none⟩ = some u := ⟨_, (hO3.cellAt (k * 2 + 1) (by omega)).trans (List.getElem?_eq_getElem (show k * 2 + 1 < L.length by omega))⟩
      have f0 := hO3.frozenAt (k * 2)
      have f1 := hO3.frozenAt (k * 2 + 1)
      have HO3 := Lib.hid hO3
      have HLl := Lib.hid hLl
      have HB2 := Lib.hid (more hB (Nat.le_refl _) hb)
      clear hO3 hLl hb hs c0' c1'
      go_wp2_with fail
      obtain ⟨s1, g1⟩ := HO3.out.stored (k * 2) (.int .i64 p)
      obtain ⟨s2, g2⟩ := s1.stored (k * 2 + 1) (.int .i64 s)
      go_roundw
      case rel => exact ⟨k + 1, _, by omega, by go_num, s2, take_two (x := ⟨p, s⟩) (by have := HLl.out; omega) HT.out HXK.out, (HB2.out.setCell (Nat.le_refl _) _).setCell (Nat.le_refl _) _⟩
      case measure => simp [intOf]; omega
    · obtain rfl : k = n := by omega
      have e : L = xs.flatMap Sl.cells := by
        have := HT.out
        rw [List.take_of_length_le (by rw [HO2.out.1]; exact Nat.le_refl _), List.take_of_length_le (by rw [HN.out]; exact Nat.le_refl _)] at this
        exact this
      have HO3 := HO2.out
      rw [e] at HO3
      have HO4 := Lib.hid HO3
      clear HO3 e
      go_wp2_with fail
      go_ret
      exact ⟨rfl, HO4.out, hB⟩

/-- Slots that came in. -/
theorem slots_at {H : Type} {enc : TypeId × Value → H} {W : World} {base : Nat} {sp : Nat → Bool} {held : Bool} {fuel : Nat} {cs : List Value} {x : DataW H × List MemPlace}
    (h : DataW.trod enc Try.prog W base sp held fuel 34 cs = some x) (hlt : ∀ y ∈ x.2, y.block < W.heap.size) :
    ∃ (A : Option Addr) (c : Nat) (xs : List Sl), cs = [.slice A xs.length c] ∧ xs.length ≤ maxLen ∧ xs.length ≤ c ∧ SlL W A xs := by
  rcases open_slice_pairs Try.underlying34 Try.underlying69 (by kernel_rfl) rfl rfl (by kernel_rfl) (by kernel_rfl) h with ⟨rfl, rfl⟩ | ⟨a, len, cap, m, n, V0, V1, D0, D1, P0, P1, rfl, hb, hl, hm, hmm, rfl, hc⟩
  · exact ⟨none, 0, [], rfl, by decide, by simp, Lie.nil⟩
  · have hlm : len ≤ m := by rw [hmm]; split <;> omega
    have each : ∀ i, i < len → ∃ q : Int × Int, V0 i = .int .i64 q.1 ∧ V1 i = .int .i64 q.2 := by
      intro i hi
      obtain ⟨_, _, h0, h1⟩ := hc i (by omega)
      obtain ⟨p, hp, _⟩ := DataW.trod_int Try.underlying3 h0
      obtain ⟨s, hs, _⟩ := DataW.trod_int Try.underlying3 h1
      exact ⟨(p, s), by injection hp, by injection hs⟩
    obtain ⟨q, hq⟩ := choose_lt each
    refine ⟨some a, cap, (List.range len).map fun i => ⟨(q i).1, (q i).2⟩, by simp, by simp; omega, by simpa using hl, fun h0 => ?_⟩
    simp at h0
    obtain ⟨c0, _⟩ := hc 0 (by omega)
    obtain ⟨b, off, spot⟩ := a
    have hspot : spot = none := by simpa [Addr.add] using World.cell?_spot c0
    subst hspot
    refine ⟨b, off, rfl, hlt (.cell b off) ?_, fun i y hy j u hu => ?_⟩
    · simp only [List.mem_append]
      left
      exact MemPlace.mem_row.2 ⟨0, by omega, by simp⟩
    · have hi : i < len := by
        have := (List.getElem?_eq_some_iff.1 hy).1
        simpa using this
      rw [List.getElem?_map, List.getElem?_range hi] at hy
      simp only [Option.map_some, Option.some.injEq] at hy
      subst hy
      obtain ⟨e0, e1⟩ := hq i hi
      obtain ⟨c0, c1, _⟩ := hc i (by omega)
      rw [add_plain] at c0 c1
      match j, hu with
      | 0, hu => simp [Sl.cells] at hu; rw [← hu, ← e0]; simpa using c0
      | 1, hu => simp [Sl.cells] at hu; rw [← hu, ← e1]; simpa [Nat.add_assoc] using c1
set_option maxRecDepth 100000 in
theorem open_slots {H : Type} {enc : TypeId × Value → H} {W : World} {base b0 : Nat} {sp : Nat → Bool} {held : Bool} {r : Reach} {v : Value} {d : DataW H} {p : List MemPlace}
    (hv : Value.okWide Try.prog W r b0 34 v) (h : DataW.Trod enc Try.prog W base sp held 34 v d p) (hlt : ∀ x ∈ p, x.block < W.heap.size) :
    ∃ (A : Option Addr) (c : Nat) (xs : List Sl), v = .slice A xs.length c ∧ xs.length ≤ maxLen ∧ xs.length ≤ c ∧ SlL W A xs := by
  obtain ⟨A, len, cap, rfl⟩ := okWide_slice Try.underlying34 hv
  obtain ⟨fuel, hf⟩ := h
  obtain ⟨A', c', xs, hcs, hm, hcc, hx⟩ := slots_at hf hlt
  simp [Value.cells] at hcs
  obtain ⟨rfl, rfl, rfl⟩ := hcs
  exact ⟨_, _, xs, rfl, hm, hcc, hx⟩
end Go.Proofs.Ytegdpdafaimmoaa
