/- Histories: equal ones; one that came in. -/
import Derived.Test.YtkofajjlkhamkaaHst4
import Derived.Deep.RegionHeld3
namespace Go.Proofs.Ytkofajjlkhamkaa
open Go.Joins Go.ChangeShapes Go.WideShapes Go.ChangeAt Go.RowKit Go.Deep
set_option linter.unusedVariables false
set_option linter.unusedSimpArgs false

set_option maxHeartbeats 1000000 in
theorem eqStores_same (A A' : Option Addr) (c c' n : Nat) (xs : List (List Ce)) (w : World) (hx : StL w A xs) (hy : StL w A' xs) (hn : xs.length = n) (hl : n ≤ maxLen) :
    Calls Try.prog 25 #[.slice A n c, .slice A' n c'] w fun e w' => e = .returned (.bool true) ∧ Below w.heap.size w w' := by
  unfold maxLen at hl
  have HN := Lib.hid hn
  have HX := Lib.hid hx
  have HY := Lib.hid hy
  clear hx hy hn
  go_enter Try.func25, Try.ntmps25
  go_wp2_with fail
  go_loopw [5] (fun i w2 => ∃ k : Nat, k ≤ n ∧ i = .int .i64 k ∧ Below w.heap.size w w2) (fun i _ => n - (intOf i).toNat)
  case atStart => exact ⟨0, by omega, rfl, by go_grown⟩
  case round =>
    obtain ⟨k, hk, rfl, hB⟩ := hrel
    by_cases hlt : k < n
    · obtain ⟨b, off, rfl, hblt, hcell⟩ := (HX.out.below hB) (by have := HN.out; omega)
      obtain ⟨b', off', rfl, hblt', hcell'⟩ := (HY.out.below hB) (by have := HN.out; omega)
      obtain ⟨x, hx⟩ := at_some (show k < xs.length by rw [HN.out]; exact hlt)
      obtain ⟨A0, c0, e0, hat, hm0, hc0⟩ := hcell k x hx
      obtain ⟨B0, d0, f0, hat', _, hd0⟩ := hcell' k x hx
      have HA := Lib.hid hat
      have HA' := Lib.hid hat'
      have hs := fun w h1 h2 => eqCells_any A0 B0 c0 d0 x.length x.length x x w h1 h2 rfl rfl hm0 hm0
      rw [eqCs_refl] at hs
      have HS1 := Lib.hid hs
      clear hcell hx hcell' hat hat' hs
      have hi1 : (0 : Int) ≤ (k : Int) := by omega
      have hi2 : (k : Int) < (n : Int) := by omega
      go_wp2_with fail
      go_region_held3 (fun w' => w'.cell? ⟨b, off + k, none⟩ = some (.slice A0 x.length c0) ∧ w'.cell? ⟨b', off' + k, none⟩ = some (.slice B0 x.length d0)) (go_keep) (first | (go_at_call 24; ((with_reducible refine (HS1.out _ (HA.out.below (by go_grown)) (HA'.out.below (by go_grown))).mono ?_); rintro e w' ⟨rfl, hb⟩); replace e0 := (hb.cell (p := ⟨b, off + k, none⟩) (by first | omega | (simp; done) | (simp; omega))).trans e0; replace f0 := (hb.cell (p := ⟨b', off' + k, none⟩) (by first | omega | (simp; done) | (simp; omega))).trans f0; replace hB := more (W1 := _) (B := w.heap.size) (W0 := w) (by go_grown) (Nat.le_refl _) hb; clear hb))
      go_wp2_with fail
      go_roundw
      case rel => exact ⟨k + 1, by omega, by go_num, hB⟩
      case measure => simp [intOf]; omega
    · go_wp2_with fail
      go_ret
      exact ⟨rfl, hB⟩
set_option maxHeartbeats 2000000 in
theorem eqHist_same (A0 A1 A2 B0 B1 B2 : Option Addr) (n m q c0 c1 c2 d0 d1 d2 : Nat) (x : Hi) (w : World) (hx : CeL w A0 x.now) (hy : StL w A1 x.back) (hz : StL w A2 x.ahead) (hx' : CeL w B0 x.now) (hy' : StL w B1 x.back) (hz' : StL w B2 x.ahead) (hn : x.now.length = n) (hm : x.back.length = m) (hq : x.ahead.length = q) (l0 : n ≤ maxLen) (l1 : m ≤ maxLen) (l2 : q ≤ maxLen) :
    Calls Try.prog 9 #[.agg #[.slice A0 n c0, .slice A1 m c1, .slice A2 q c2], .agg #[.slice B0 n d0, .slice B1 m d1, .slice B2 q d2]] w fun e w' => e = .returned (.bool true) ∧ Below w.heap.size w w' := by
  have k0 := fun w h1 h2 => eqCells_any A0 B0 c0 d0 n n x.now x.now w h1 h2 hn hn l0 l0
  rw [eqCs_refl] at k0
  have K0 := Lib.hid k0
  have K1 := Lib.hid (fun w h1 h2 => eqStores_same A1 B1 c1 d1 m x.back w h1 h2 hm l1)
  have K2 := Lib.hid (fun w h1 h2 => eqStores_same A2 B2 c2 d2 q x.ahead w h1 h2 hq l2)
  have HX := Lib.hid hx
  have HY := Lib.hid hy
  have HZ := Lib.hid hz
  have HX' := Lib.hid hx'
  have HY' := Lib.hid hy'
  have HZ' := Lib.hid hz'
  have HB0 := Lib.hid (show Below w.heap.size w ((w.alloc (.cells #[.slice A0 n c0, .slice A1 m c1, .slice A2 q c2] 30)).alloc (.cells #[.slice B0 n d0, .slice B1 m d1, .slice B2 q d2] 30)) by go_grown)
  clear k0 hx hy hz hx' hy' hz' hn hm hq l0 l1 l2
  go_enter Try.func9, Try.ntmps9
  go_wp2_with fail
  refine (K0.out _ (HX.out.below HB0.out) (HX'.out.below HB0.out)).mono ?_
  rintro e w1 ⟨rfl, hb⟩
  have HB1 := Lib.hid (front (w := w) (W0 := _) (by go_grown) (by simp <;> omega) hb)
  have c00 : w1.cell? ⟨w.heap.size, 0, none⟩ = some (.slice A0 n c0) := (hb.cell (p := ⟨w.heap.size, 0, none⟩) (by simp <;> omega)).trans (by go_simp)
  have c01 : w1.cell? ⟨w.heap.size, 1, none⟩ = some (.slice A1 m c1) := (hb.cell (p := ⟨w.heap.size, 1, none⟩) (by simp <;> omega)).trans (by go_simp)
  have c02 : w1.cell? ⟨w.heap.size, 2, none⟩ = some (.slice A2 q c2) := (hb.cell (p := ⟨w.heap.size, 2, none⟩) (by simp <;> omega)).trans (by go_simp)
  have f0 : ∀ o, w1.frozen? ⟨w.heap.size, o, none⟩ = false := fun o => (hb.frozen (p := ⟨w.heap.size, o, none⟩) (by simp <;> omega)).trans (by go_simp)
  have c10 : w1.cell? ⟨w.heap.size + 1, 0, none⟩ = some (.slice B0 n d0) := (hb.cell (p := ⟨w.heap.size + 1, 0, none⟩) (by simp <;> omega)).trans (by go_simp)
  have c11 : w1.cell? ⟨w.heap.size + 1, 1, none⟩ = some (.slice B1 m d1) := (hb.cell (p := ⟨w.heap.size + 1, 1, none⟩) (by simp <;> omega)).trans (by go_simp)
  have c12 : w1.cell? ⟨w.heap.size + 1, 2, none⟩ = some (.slice B2 q d2) := (hb.cell (p := ⟨w.heap.size + 1, 2, none⟩) (by simp <;> omega)).trans (by go_simp)
  have f1 : ∀ o, w1.frozen? ⟨w.heap.size + 1, o, none⟩ = false := fun o => (hb.frozen (p := ⟨w.heap.size + 1, o, none⟩) (by simp <;> omega)).trans (by go_simp)
  have hz1 : w.heap.size + 1 < w1.heap.size := by have := hb.size; simp at this; omega
  clear hb
  go_wp2_with fail
  refine (K1.out _ (HY.out.below HB1.out) (HY'.out.below HB1.out)).mono ?_
  rintro e w2 ⟨rfl, hb⟩
  have HB2 := Lib.hid (more HB1.out (Nat.le_refl _) hb)
  replace c00 := (hb.cell (p := ⟨w.heap.size, 0, none⟩) (by first | omega | (simp; done) | (simp; omega))).trans c00
  replace c01 := (hb.cell (p := ⟨w.heap.size, 1, none⟩) (by first | omega | (simp; done) | (simp; omega))).trans c01
  replace c02 := (hb.cell (p := ⟨w.heap.size, 2, none⟩) (by first | omega | (simp; done) | (simp; omega))).trans c02
  replace f0 : ∀ o, w2.frozen? ⟨w.heap.size, o, none⟩ = false := fun o => (hb.frozen (p := ⟨w.heap.size, o, none⟩) (by first | omega | (simp; done) | (simp; omega))).trans (f0 o)
  replace c10 := (hb.cell (p := ⟨w.heap.size + 1, 0, none⟩) (by first | omega | (simp; done) | (simp; omega))).trans c10
  replace c11 := (hb.cell (p := ⟨w.heap.size + 1, 1, none⟩) (by first | omega | (simp; done) | (simp; omega))).trans c11
  replace c12 := (hb.cell (p := ⟨w.heap.size + 1, 2, none⟩) (by first | omega | (simp; done) | (simp; omega))).trans c12
  replace f1 : ∀ o, w2.frozen? ⟨w.heap.size + 1, o, none⟩ = false := fun o => (hb.frozen (p := ⟨w.heap.size + 1, o, none⟩) (by first | omega | (simp; done) | (simp; omega))).trans (f1 o)
  have hz2 : w.heap.size + 1 < w2.heap.size := by have := hb.size; omega
  clear hb
  go_wp2_with fail
  refine (K2.out _ (HZ.out.below HB2.out) (HZ'.out.below HB2.out)).mono ?_
  rintro e w3 ⟨rfl, hb⟩
  have HB3 := Lib.hid (more HB2.out (Nat.le_refl _) hb)
  replace c00 := (hb.cell (p := ⟨w.heap.size, 0, none⟩) (by first | omega | (simp; done) | (simp; omega))).trans c00
  replace c01 := (hb.cell (p := ⟨w.heap.size, 1, none⟩) (by first | omega | (simp; done) | (simp; omega))).trans c01
  replace c02 := (hb.cell (p := ⟨w.heap.size, 2, none⟩) (by first | omega | (simp; done) | (simp; omega))).trans c02
  replace f0 : ∀ o, w3.frozen? ⟨w.heap.size, o, none⟩ = false := fun o => (hb.frozen (p := ⟨w.heap.size, o, none⟩) (by first | omega | (simp; done) | (simp; omega))).trans (f0 o)
  replace c10 := (hb.cell (p := ⟨w.heap.size + 1, 0, none⟩) (by first | omega | (simp; done) | (simp; omega))).trans c10
  replace c11 := (hb.cell (p := ⟨w.heap.size + 1, 1, none⟩) (by first | omega | (simp; done) | (simp; omega))).trans c11
  replace c12 := (hb.cell (p := ⟨w.heap.size + 1, 2, none⟩) (by first | omega | (simp; done) | (simp; omega))).trans c12
  replace f1 : ∀ o, w3.frozen? ⟨w.heap.size + 1, o, none⟩ = false := fun o => (hb.frozen (p := ⟨w.heap.size + 1, o, none⟩) (by first | omega | (simp; done) | (simp; omega))).trans (f1 o)
  have hz3 : w.heap.size + 1 < w3.heap.size := by have := hb.size; omega
  clear hb
  go_wp2_with fail
  go_ret
  exact ⟨rfl, HB3.out⟩
set_option maxRecDepth 100000 in
theorem stores_at {H : Type} {enc : TypeId × Value → H} {W : World} {base : Nat} {sp : Nat → Bool} {held : Bool} {fuel : Nat} {cs : List Value} {x : DataW H × List MemPlace}
    (h : DataW.trod enc Try.prog W base sp held fuel 23 cs = some x) (hlt : ∀ y ∈ x.2, y.block < W.heap.size) :
    ∃ (A : Option Addr) (c : Nat) (xs : List (List Ce)), cs = [.slice A xs.length c] ∧ xs.length ≤ maxLen ∧ xs.length ≤ c ∧ StL W A xs ∧ ∀ x ∈ xs, SmS x := by
  rcases open_slice Try.underlying23 h with ⟨rfl, rfl⟩ | ⟨a, len, cap, m, n, D, Pl, rfl, hb, hl, hm, hmm, rfl, hc⟩
  · exact ⟨none, 0, [], rfl, by decide, by simp, StL.nil, by simp⟩
  · have hlm : len ≤ m := by rw [hmm]; split <;> omega
    have c1 : Try.prog.cellsOf 22 = 1 := by kernel_rfl
    have each : ∀ i, i < len → ∃ x : List Ce, (∃ A0 c0, W.cell? (a.add i) = some (.slice A0 x.length c0) ∧ CeL W A0 x ∧ x.length ≤ maxLen ∧ x.length ≤ c0) ∧ SmS x := by
      intro i hi
      obtain ⟨cs', h1, h2⟩ := hc i (by omega)
      rw [c1] at h1
      obtain ⟨_, hlen, hcell⟩ := World.cells?_some h1
      obtain ⟨A0, c0, xs, e0, q0, q1, q2, q3⟩ := cells_at h2 (fun y hy => hlt y (by
        simp only [List.mem_append]
        right
        rw [List.mem_flatMap]
        exact ⟨i, List.mem_range.2 (by omega), by simpa using hy⟩))
      subst e0
      have e1 := hcell 0 (by omega)
      rw [add_add, Nat.add_zero] at e1
      exact ⟨xs, ⟨A0, c0, by simpa using e1, q2, q0, q1⟩, q3⟩
    haveI : Inhabited (List Ce) := ⟨[]⟩
    obtain ⟨q, hq⟩ := choose_lt each
    refine ⟨some a, cap, (List.range len).map q, by simp, by simp; omega, by simpa using hl, fun h0 => ?_, fun x hx => ?_⟩
    · simp at h0
      obtain ⟨⟨A0, c0, e0, _⟩, _⟩ := hq 0 (by omega)
      obtain ⟨b, off, spot⟩ := a
      have hspot : spot = none := by simpa [Addr.add] using World.cell?_spot e0
      subst hspot
      refine ⟨b, off, rfl, hlt (.cell b off) ?_, fun i y hy => ?_⟩
      · simp only [List.mem_append]
        left
        rw [c1]
        exact MemPlace.mem_row.2 ⟨0, by omega, by simp⟩
      · have hi : i < len := by
          have := (List.getElem?_eq_some_iff.1 hy).1
          simpa using this
        rw [List.getElem?_map, List.getElem?_range hi] at hy
        simp only [Option.map_some, Option.some.injEq] at hy
        subst hy
        obtain ⟨⟨A0, c0, e0, q2, q0, q1⟩, _⟩ := hq i hi
        rw [add_plain] at e0
        exact ⟨A0, c0, e0, q2, q0, q1⟩
    · simp at hx
      obtain ⟨i, hi, rfl⟩ := hx
      exact (hq i hi).2
theorem cellsHi : Try.prog.cellsOf 25 = 3 := by kernel_rfl
set_option maxRecDepth 100000 in
theorem open_hist {H : Type} {enc : TypeId × Value → H} {W : World} {base b0 : Nat} {sp : Nat → Bool} {held : Bool} {r : Reach} {v : Value} {d : DataW H} {p : List MemPlace}
    (hv : Value.okWide Try.prog W r b0 25 v) (h : DataW.Trod enc Try.prog W base sp held 25 v d p) (hlt : ∀ x ∈ p, x.block < W.heap.size) :
    ∃ (A0 A1 A2 : Option Addr) (c0 c1 c2 : Nat) (x : Hi), v = .agg #[.slice A0 x.now.length c0, .slice A1 x.back.length c1, .slice A2 x.ahead.length c2] ∧ (x.now.length ≤ maxLen ∧ x.back.length ≤ maxLen ∧ x.ahead.length ≤ maxLen) ∧ CeL W A0 x.now ∧ StL W A1 x.back ∧ StL W A2 x.ahead ∧ SmS x.now ∧ (∀ y ∈ x.back, SmS y) ∧ ∀ y ∈ x.ahead, SmS y := by
  obtain ⟨v0, v1, v2, y0, y1, y2, m, rfl, hd, hp, h0, h1, h2⟩ := open_agg3 Try.underlying25 (by kernel_rfl) cellsHi hv h
  obtain ⟨A0, c0, xs0, e0, a0, a1, a2, a3⟩ := cells_at h0 (fun y hy => hlt y (by rw [hp]; simp [hy]))
  obtain ⟨A1, c1, xs1, e1, b0', b1, b2, b3⟩ := stores_at h1 (fun y hy => hlt y (by rw [hp]; simp [hy]))
  obtain ⟨A2, c2, xs2, e2, d0, d1, d2, d3⟩ := stores_at h2 (fun y hy => hlt y (by rw [hp]; simp [hy]))
  injection e0 with e0
  injection e1 with e1
  injection e2 with e2
  subst e0 e1 e2
  exact ⟨A0, A1, A2, c0, c1, c2, ⟨xs0, xs1, xs2⟩, rfl, ⟨a0, b0', d0⟩, a2, b2, d2, a3, b3, d3⟩
end Go.Proofs.Ytkofajjlkhamkaa
