/- Stores: how the laws compare cells; cells that came in as an argument. -/
import Derived.Test.YtkofajjlkhamkaaSto4
namespace Go.Proofs.Ytkofajjlkhamkaa
open Go.Joins Go.ChangeShapes Go.WideShapes Go.ChangeAt Go.RowKit Go.Deep
set_option linter.unusedVariables false
set_option linter.unusedSimpArgs false

def eqCe (x y : Ce) : Bool := eqSl x.pl y.pl && eqVs x.st y.st
def eqCs : List Ce → List Ce → Bool
  | [], [] => true
  | x :: xs, y :: ys => eqCe x y && eqCs xs ys
  | _, _ => false
theorem eqCe_refl (x : Ce) : eqCe x x = true := by unfold eqCe; rw [eqSl_refl, eqVs_refl]; rfl
theorem eqCs_refl : ∀ xs : List Ce, eqCs xs xs = true
  | [] => rfl
  | x :: xs => by simp [eqCs, eqCe_refl x, eqCs_refl xs]
theorem eqCs_len : ∀ (xs ys : List Ce), xs.length ≠ ys.length → eqCs xs ys = false
  | [], [], h => absurd rfl h
  | [], _ :: _, _ => rfl
  | _ :: _, [], _ => rfl
  | x :: xs, y :: ys, h => by simp [eqCs, eqCs_len xs ys (by simpa using h)]

set_option maxHeartbeats 1000000 in
theorem eqCell_any (A0 A1 B0 B1 : Option Addr) (c0 c1 d0 d1 : Nat) (x y : Ce) (w : World) (hx : SlL w A0 x.pl) (hx' : VaL w A1 x.st) (hy : SlL w B0 y.pl) (hy' : VaL w B1 y.st) (l0 : x.pl.length ≤ maxLen) (l1 : x.st.length ≤ maxLen) (m0 : y.pl.length ≤ maxLen) (m1 : y.st.length ≤ maxLen) :
    Calls Try.prog 41 #[.agg #[.slice A0 x.pl.length c0, .slice A1 x.st.length c1], .agg #[.slice B0 y.pl.length d0, .slice B1 y.st.length d1]] w fun e w' => e = .returned (.bool (eqCe x y)) ∧ Below w.heap.size w w' := by
  have hW := (Below.alloc (Below.refl w.heap.size w) (Nat.le_refl _) (.cells #[.slice A0 x.pl.length c0, .slice A1 x.st.length c1] 60)).alloc (by simp) (.cells #[.slice B0 y.pl.length d0, .slice B1 y.st.length d1] 60)
  have k1 := fun w h h' => eqSlots_any A0 B0 c0 d0 x.pl y.pl w h h' l0 m0
  have K2 := Lib.hid (fun w h h' => eqVals_any A1 B1 c1 d1 x.st.length y.st.length x.st y.st w h h' rfl rfl l1 m1)
  have hv : eqCe x y = (eqSl x.pl y.pl && eqVs x.st y.st) := rfl
  have HX := Lib.hid (hx.below hW)
  have HY := Lib.hid (hy.below hW)
  have HX' := Lib.hid (hx'.below hW)
  have HY' := Lib.hid (hy'.below hW)
  have HW := Lib.hid hW
  clear hx hy hx' hy' hW l0 l1 m0 m1
  cases hq : eqSl x.pl y.pl
  · rw [hq] at k1 hv
    have HV := Lib.hid (hv.trans (Bool.false_and _))
    have K1 := Lib.hid k1
    clear hq k1 hv
    go_enter Try.func41, Try.ntmps41
    go_wp2_with fail
    refine (K1.out _ HX.out HY.out).mono ?_
    rintro e w1 ⟨rfl, hb⟩
    have HB := Lib.hid (HW.out.trans (hb.mono (by simp; omega)))
    clear hb
    go_wp2_with fail
    go_ret
    exact ⟨ret_bool HV.out.symm, HB.out⟩
  · rw [hq] at k1 hv
    have HV := Lib.hid (hv.trans (Bool.true_and _))
    have K1 := Lib.hid k1
    clear hq k1 hv
    obtain ⟨v, hvv⟩ : ∃ v, eqVs x.st y.st = v := ⟨_, rfl⟩
    rw [hvv] at HV K2
    clear hvv
    go_enter Try.func41, Try.ntmps41
    go_wp2_with fail
    refine (K1.out _ HX.out HY.out).mono ?_
    rintro e w1 ⟨rfl, hb⟩
    obtain ⟨hc, hf⟩ := bcell hb
    simp at hc hf
    have HB := Lib.hid (HW.out.trans (hb.mono (by simp; omega)))
    have HX2 := Lib.hid (HX'.out.below hb)
    have HY2 := Lib.hid (HY'.out.below hb)
    clear hb
    go_wp2_with fail
    refine (K2.out _ HX2.out HY2.out).mono ?_
    rintro e w2 ⟨rfl, hb⟩
    have HB2 := Lib.hid (more HB.out (Nat.le_refl _) hb)
    clear hb hc hf
    cases v
    all_goals
      go_wp2_with fail
      go_ret
      exact ⟨ret_bool HV.out.symm, HB2.out⟩

set_option maxHeartbeats 1000000 in
theorem eqCells_any (A A' : Option Addr) (c c' n m : Nat) (xs ys : List Ce) (w : World) (hx : CeL w A xs) (hy : CeL w A' ys) (hn : xs.length = n) (hm : ys.length = m) (hl : n ≤ maxLen) (hl' : m ≤ maxLen) :
    Calls Try.prog 24 #[.slice A n c, .slice A' m c'] w fun e w' => e = .returned (.bool (eqCs xs ys)) ∧ Below w.heap.size w w' := by
  unfold maxLen at hl hl'
  have HN := Lib.hid hn
  have HN' := Lib.hid hm
  by_cases hlen : n = m
  · subst hlen
    have HX := Lib.hid hx
    have HY := Lib.hid hy
    clear hx hy hn hm
    go_enter Try.func24, Try.ntmps24
    go_wp2_with fail
    go_loopw [5] (fun i w2 => ∃ k : Nat, k ≤ n ∧ i = .int .i64 k ∧ Below w.heap.size w w2 ∧ eqCs xs ys = eqCs (xs.drop k) (ys.drop k)) (fun i _ => n - (intOf i).toNat)
    case atStart => exact ⟨0, by omega, rfl, by go_grown, rfl⟩
    case round =>
      obtain ⟨k, hk, rfl, hB, hrun⟩ := hrel
      have HR := Lib.hid hrun
      clear hrun
      by_cases hlt : k < n
      · obtain ⟨b, off, rfl, hblt, hcell⟩ := (HX.out.below hB) (by have := HN.out; omega)
        obtain ⟨b', off', rfl, hblt', hcell'⟩ := (HY.out.below hB) (by have := HN'.out; omega)
        obtain ⟨x, hx⟩ := at_some (show k < xs.length by rw [HN.out]; exact hlt)
        obtain ⟨y, hy⟩ := at_some (show k < ys.length by rw [HN'.out]; exact hlt)
        have HR2 := Lib.hid (HR.out.trans (by rw [drop_cons hx, drop_cons hy]; rfl : eqCs (xs.drop k) (ys.drop k) = (eqCe x y && eqCs (xs.drop (k + 1)) (ys.drop (k + 1)))))
        obtain ⟨A0, c0, A1, c1, hat⟩ := hcell k x hx
        obtain ⟨B0, d0, B1, d1, hat'⟩ := hcell' k y hy
        have e0 := hat.e0
        have e1 := hat.e1
        have f0 := hat'.e0
        have f1 := hat'.e1
        have HA := Lib.hid hat
        have HA' := Lib.hid hat'
        have hs := fun w h1 h2 h3 h4 => eqCell_any A0 A1 B0 B1 c0 c1 d0 d1 x y w h1 h2 h3 h4 hat.n0 hat.n1 hat'.n0 hat'.n1
        clear hcell hx hcell' hy hat hat'
        have hi1 : (0 : Int) ≤ (k : Int) := by omega
        have hi2 : (k : Int) < (n : Int) := by omega
        cases hok : eqCe x y
        · rw [hok] at hs HR2
          have HS1 := Lib.hid hs
          have hv2 := Lib.hid (HR2.out.trans (Bool.false_and _))
          clear hs hok HR2 HR
          go_wp2_with fail
          go_region_held3 (fun w' => w'.cell? ⟨b, off + k * 2, none⟩ = some (.slice A0 x.pl.length c0) ∧ w'.cell? ⟨b, off + k * 2 + 1, none⟩ = some (.slice A1 x.st.length c1) ∧ w'.cell? ⟨b', off' + k * 2, none⟩ = some (.slice B0 y.pl.length d0) ∧ w'.cell? ⟨b', off' + k * 2 + 1, none⟩ = some (.slice B1 y.st.length d1)) (go_keep) (first | (go_at_call 41; refine (HS1.out _ (by exact HA.out.pl) (by exact HA.out.st) (by exact HA'.out.pl) (by exact HA'.out.st)).mono ?_; rintro e w' ⟨rfl, hb⟩; replace e0 := (hb.cell (p := ⟨b, off + k * 2, none⟩) hblt).trans e0; replace e1 := (hb.cell (p := ⟨b, off + k * 2 + 1, none⟩) hblt).trans e1; replace f0 := (hb.cell (p := ⟨b', off' + k * 2, none⟩) hblt').trans f0; replace f1 := (hb.cell (p := ⟨b', off' + k * 2 + 1, none⟩) hblt').trans f1; replace hB := more (W1 := _) (B := w.heap.size) (W0 := w) (by go_grown) (Nat.le_refl _) hb; clear hb))
          go_wp2_with fail
          go_ret
          exact ⟨ret_bool hv2.out.symm, hB⟩
        · rw [hok] at hs HR2
          have HS1 := Lib.hid hs
          clear hs hok HR
          go_wp2_with fail
          go_region_held3 (fun w' => w'.cell? ⟨b, off + k * 2, none⟩ = some (.slice A0 x.pl.length c0) ∧ w'.cell? ⟨b, off + k * 2 + 1, none⟩ = some (.slice A1 x.st.length c1) ∧ w'.cell? ⟨b', off' + k * 2, none⟩ = some (.slice B0 y.pl.length d0) ∧ w'.cell? ⟨b', off' + k * 2 + 1, none⟩ = some (.slice B1 y.st.length d1)) (go_keep) (first | (go_at_call 41; refine (HS1.out _ (by exact HA.out.pl) (by exact HA.out.st) (by exact HA'.out.pl) (by exact HA'.out.st)).mono ?_; rintro e w' ⟨rfl, hb⟩; replace e0 := (hb.cell (p := ⟨b, off + k * 2, none⟩) hblt).trans e0; replace e1 := (hb.cell (p := ⟨b, off + k * 2 + 1, none⟩) hblt).trans e1; replace f0 := (hb.cell (p := ⟨b', off' + k * 2, none⟩) hblt').trans f0; replace f1 := (hb.cell (p := ⟨b', off' + k * 2 + 1, none⟩) hblt').trans f1; replace hB := more (W1 := _) (B := w.heap.size) (W0 := w) (by go_grown) (Nat.le_refl _) hb; clear hb))
          go_wp2_with fail
          go_roundw
          case rel => exact ⟨k + 1, by omega, by go_num, hB, HR2.out.trans (Bool.true_and _)⟩
          case measure => simp [intOf]; omega
      · have hv2 := Lib.hid (HR.out.trans (by rw [drop_none (by rw [HN.out]; omega), drop_none (by rw [HN'.out]; omega)]; rfl : eqCs (xs.drop k) (ys.drop k) = true))
        go_wp2_with fail
        go_ret
        exact ⟨ret_bool hv2.out.symm, hB⟩
  · have hv := Lib.hid (eqCs_len xs ys (by omega))
    have hd : ((n : Int) == (m : Int)) = false := by simp; omega
    have hd2 : ((n : Int) != (m : Int)) = true := by show (!((n : Int) == (m : Int))) = true; rw [hd]; rfl
    clear hlen hn hm hx hy
    go_enter Try.func24, Try.ntmps24
    go_wp2_with fail
    go_ret
    exact ⟨ret_bool hv.out.symm, by go_grown⟩

set_option maxRecDepth 100000 in
theorem vals_at {H : Type} {enc : TypeId × Value → H} {W : World} {base : Nat} {sp : Nat → Bool} {held : Bool} {fuel : Nat} {cs : List Value} {x : DataW H × List MemPlace}
    (h : DataW.trod enc Try.prog W base sp held fuel 52 cs = some x) (hlt : ∀ y ∈ x.2, y.block < W.heap.size) :
    ∃ (A : Option Addr) (c : Nat) (xs : List Va), cs = [.slice A xs.length c] ∧ xs.length ≤ maxLen ∧ xs.length ≤ c ∧ VaL W A xs ∧ ∀ v ∈ xs, v.s.size ≤ maxLen := by
  rcases open_slice Try.underlying52 h with ⟨rfl, rfl⟩ | ⟨a, len, cap, m, n, D, Pl, rfl, hb, hl, hm, hmm, rfl, hc⟩
  · exact ⟨none, 0, [], rfl, by decide, by simp, Lie.nil, by simp⟩
  · have hlm : len ≤ m := by rw [hmm]; split <;> omega
    have ci : Try.prog.cellsOf 3 = 1 := by kernel_rfl
    have cg : Try.prog.cellsOf 9 = 1 := by kernel_rfl
    have each : ∀ i, i < len → ∃ q : Int × Int × { s : ByteArray // s.size ≤ maxLen }, W.cell? (a.add (i * 3)) = some (.int .i64 q.1) ∧ W.cell? (a.add (i * 3 + 1)) = some (.int .i64 q.2.1) ∧ W.cell? (a.add (i * 3 + 2)) = some (.string q.2.2.1) := by
      intro i hi
      obtain ⟨cs', h1, h2⟩ := hc i (by omega)
      rw [show Try.prog.cellsOf 85 = 3 from cellsV] at h1
      obtain ⟨_, hlen, hcell⟩ := World.cells?_some h1
      obtain ⟨xs, k, hk, hxy, _, hxl, hf⟩ := DataW.trod_struct Try.underlying85 h2
      match xs, hxl, cs', hlen with
      | [y0, y1, y2], _, [v0, v1, v2], _ =>
        have g0 := hf 0 _ rfl
        have g1 := hf 1 _ rfl
        have g2 := hf 2 _ rfl
        have t0 : DataW.trod enc Try.prog W base sp held k 3 [v0] = some y0 := by simpa [ci] using g0
        have t1 : DataW.trod enc Try.prog W base sp held k 3 [v1] = some y1 := by simpa [ci] using g1
        have t2 : DataW.trod enc Try.prog W base sp held k 9 [v2] = some y2 := by simpa [cg] using g2
        obtain ⟨p, hp, _⟩ := DataW.trod_int Try.underlying3 t0
        obtain ⟨q, hq, _⟩ := DataW.trod_int Try.underlying3 t1
        obtain ⟨s, hs, _, ws⟩ := DataW.trod_string Try.underlying9 t2
        injection hp with hp; injection hq with hq; injection hs with hs
        subst hp hq hs
        have e0 := hcell 0 (by omega)
        have e1 := hcell 1 (by omega)
        have e2 := hcell 2 (by omega)
        rw [add_add] at e0 e1 e2
        exact ⟨(p, q, ⟨s, ws⟩), by simpa using e0, by simpa using e1, by simpa using e2⟩
    haveI : Inhabited { s : ByteArray // s.size ≤ maxLen } := ⟨⟨⟨#[]⟩, by decide⟩⟩
    obtain ⟨q, hq⟩ := choose_lt each
    refine ⟨some a, cap, (List.range len).map fun i => ⟨(q i).1, (q i).2.1, (q i).2.2.1⟩, by simp, by simp; omega, by simpa using hl, fun h0 => ?_, fun v hv => ?_⟩
    · simp at h0
      obtain ⟨c0, _⟩ := hq 0 (by omega)
      obtain ⟨b, off, spot⟩ := a
      have hspot : spot = none := by simpa [Addr.add] using World.cell?_spot c0
      subst hspot
      refine ⟨b, off, rfl, hlt (.cell b off) ?_, fun i y hy j u hu => ?_⟩
      · simp only [List.mem_append]
        left
        rw [show Try.prog.cellsOf 85 = 3 from cellsV]
        exact MemPlace.mem_row.2 ⟨0, by omega, by simp⟩
      · have hi : i < len := by
          have := (List.getElem?_eq_some_iff.1 hy).1
          simpa using this
        rw [List.getElem?_map, List.getElem?_range hi] at hy
        simp only [Option.map_some, Option.some.injEq] at hy
        subst hy
        obtain ⟨c0, c1, c2⟩ := hq i hi
        rw [add_plain] at c0 c1 c2
        match j, hu with
        | 0, hu => simp [Va.cells] at hu; rw [← hu]; simpa using c0
        | 1, hu => simp [Va.cells] at hu; rw [← hu]; simpa [Nat.add_assoc] using c1
        | 2, hu => simp [Va.cells] at hu; rw [← hu]; simpa [Nat.add_assoc] using c2
    · simp at hv
      obtain ⟨i, hi, rfl⟩ := hv
      exact (q i).2.2.2
set_option maxRecDepth 100000 in
theorem cells_at {H : Type} {enc : TypeId × Value → H} {W : World} {base : Nat} {sp : Nat → Bool} {held : Bool} {fuel : Nat} {cs : List Value} {x : DataW H × List MemPlace}
    (h : DataW.trod enc Try.prog W base sp held fuel 22 cs = some x) (hlt : ∀ y ∈ x.2, y.block < W.heap.size) :
    ∃ (A : Option Addr) (c : Nat) (xs : List Ce), cs = [.slice A xs.length c] ∧ xs.length ≤ maxLen ∧ xs.length ≤ c ∧ CeL W A xs ∧ ∀ x ∈ xs, ∀ v ∈ x.st, v.s.size ≤ maxLen := by
  rcases open_slice_pairs Try.underlying22 Try.underlying54 (by kernel_rfl) rfl rfl (by kernel_rfl) (by kernel_rfl) h with ⟨rfl, rfl⟩ | ⟨a, len, cap, m, n, V0, V1, D0, D1, P0, P1, rfl, hb, hl, hm, hmm, rfl, hc⟩
  · exact ⟨none, 0, [], rfl, by decide, by simp, CeL.nil, by simp⟩
  · have hlm : len ≤ m := by rw [hmm]; split <;> omega
    have each : ∀ i, i < len → ∃ x : Ce, (∃ A0 c0 A1 c1, V0 i = .slice A0 x.pl.length c0 ∧ V1 i = .slice A1 x.st.length c1 ∧ SlL W A0 x.pl ∧ VaL W A1 x.st ∧ x.pl.length ≤ c0 ∧ x.st.length ≤ c1 ∧ x.pl.length ≤ maxLen ∧ x.st.length ≤ maxLen) ∧ ∀ v ∈ x.st, v.s.size ≤ maxLen := by
      intro i hi
      obtain ⟨_, _, h0, h1⟩ := hc i (by omega)
      have hin : ∀ y, y ∈ P0 i ++ P1 i → y.block < W.heap.size := fun y hy => hlt y (by
        simp only [List.mem_append]
        right
        rw [List.mem_flatMap]
        exact ⟨i, List.mem_range.2 (by omega), by simpa using hy⟩)
      obtain ⟨A0, c0, ps, e0, q0, q1, q2⟩ := slots_at h0 (fun y hy => hin y (by simp at hy; simp [hy]))
      obtain ⟨A1, c1, vs, e1, r0, r1, r2, r3⟩ := vals_at h1 (fun y hy => hin y (by simp at hy; simp [hy]))
      injection e0 with e0
      injection e1 with e1
      exact ⟨⟨ps, vs⟩, ⟨A0, c0, A1, c1, e0, e1, q2, r2, q1, r1, q0, r0⟩, r3⟩
    haveI : Inhabited Ce := ⟨⟨[], []⟩⟩
    obtain ⟨q, hq⟩ := choose_lt each
    refine ⟨some a, cap, (List.range len).map q, by simp, by simp; omega, by simpa using hl, fun h0 => ?_, fun x hx => ?_⟩
    · simp at h0
      obtain ⟨c0, _⟩ := hc 0 (by omega)
      obtain ⟨b, off, spot⟩ := a
      have hspot : spot = none := by simpa [Addr.add] using World.cell?_spot c0
      subst hspot
      refine ⟨b, off, rfl, hlt (.cell b off) ?_, fun i y hy => ?_⟩
      · simp only [List.mem_append]
        left
        exact MemPlace.mem_row.2 ⟨0, by omega, by simp⟩
      · have hi : i < len := by
          have := (List.getElem?_eq_some_iff.1 hy).1
          simpa using this
        rw [List.getElem?_map, List.getElem?_range hi] at hy
        simp only [Option.map_some, Option.some.injEq] at hy
        subst hy
        obtain ⟨⟨A0, c0, A1, c1, e0, e1, q2, r2, q1, r1, q0, r0⟩, _⟩ := hq i hi
        obtain ⟨z0, z1, _⟩ := hc i (by omega)
        rw [add_plain] at z0 z1
        exact ⟨A0, c0, A1, c1, ⟨by rw [← e0]; simpa using z0, by rw [← e1]; simpa [Nat.add_assoc] using z1, q2, r2, q1, r1, q0, r0⟩⟩
    · simp at hx
      obtain ⟨i, hi, rfl⟩ := hx
      exact (hq i hi).2
set_option maxRecDepth 100000 in
theorem open_cells {H : Type} {enc : TypeId × Value → H} {W : World} {base b0 : Nat} {sp : Nat → Bool} {held : Bool} {r : Reach} {v : Value} {d : DataW H} {p : List MemPlace}
    (hv : Value.okWide Try.prog W r b0 22 v) (h : DataW.Trod enc Try.prog W base sp held 22 v d p) (hlt : ∀ x ∈ p, x.block < W.heap.size) :
    ∃ (A : Option Addr) (c : Nat) (xs : List Ce), v = .slice A xs.length c ∧ xs.length ≤ maxLen ∧ xs.length ≤ c ∧ CeL W A xs ∧ ∀ x ∈ xs, ∀ v ∈ x.st, v.s.size ≤ maxLen := by
  obtain ⟨A, len, cap, rfl⟩ := okWide_slice Try.underlying22 hv
  obtain ⟨fuel, hf⟩ := h
  obtain ⟨A', c', xs, hcs, hm, hcc, hx, hs⟩ := cells_at hf hlt
  simp [Value.cells] at hcs
  obtain ⟨rfl, rfl, rfl⟩ := hcs
  exact ⟨_, _, xs, rfl, hm, hcc, hx, hs⟩
set_option maxRecDepth 100000 in
theorem open_vals {H : Type} {enc : TypeId × Value → H} {W : World} {base b0 : Nat} {sp : Nat → Bool} {held : Bool} {r : Reach} {v : Value} {d : DataW H} {p : List MemPlace}
    (hv : Value.okWide Try.prog W r b0 52 v) (h : DataW.Trod enc Try.prog W base sp held 52 v d p) (hlt : ∀ x ∈ p, x.block < W.heap.size) :
    ∃ (A : Option Addr) (c : Nat) (xs : List Va), v = .slice A xs.length c ∧ xs.length ≤ maxLen ∧ xs.length ≤ c ∧ VaL W A xs ∧ ∀ v ∈ xs, v.s.size ≤ maxLen := by
  obtain ⟨A, len, cap, rfl⟩ := okWide_slice Try.underlying52 hv
  obtain ⟨fuel, hf⟩ := h
  obtain ⟨A', c', xs, hcs, hm, hcc, hx, hs⟩ := vals_at hf hlt
  simp [Value.cells] at hcs
  obtain ⟨rfl, rfl, rfl⟩ := hcs
  exact ⟨_, _, xs, rfl, hm, hcc, hx, hs⟩
end Go.Proofs.Ytkofajjlkhamkaa
