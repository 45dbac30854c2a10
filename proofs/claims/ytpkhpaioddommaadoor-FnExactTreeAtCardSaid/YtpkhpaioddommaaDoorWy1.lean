/- Trees: the way to the part with a number, by the program. -/
import Derived.Test.YtpkhpaioddommaaDoorNo2
namespace Go.Proofs.YtpkhpaioddommaaDoor
open Go.Joins Go.ChangeShapes Go.WideShapes Go.ChangeAt Go.RowKit Go.Deep
set_option linter.unusedVariables false
set_option linter.unusedSimpArgs false

/-- The way to the part with a number; none. -/
def wayP (t : Tr) (n : Int) : Option (List Nat) := if treeOkB t = true ∧ 0 ≤ n then ((partsT [] t)[n.toNat]?).map (·.1) else none
def WyX (t : Tr) (n : Int) (w : World) (e : Ending) (w' : World) : Prop :=
  Below w.heap.size w w' ∧ ((wayP t n = none ∧ e = .returned (.tuple #[.slice none 0 0, .bool false])) ∨ ∃ (way : List Nat) (A : Option Addr) (c : Nat), wayP t n = some way ∧ e = .returned (.tuple #[.slice A way.length c, .bool true]) ∧ WayR w.heap.size w' A c way)
theorem wrap_zero {n : Int} {k : Nat} (h0 : -9223372036854775808 ≤ n) (h1 : n ≤ 9223372036854775807) (hk : k ≤ 1000) : IntKind.i64.wrap (n - k) = 0 ↔ n = k := by
  unfold IntKind.wrap; simp [IntKind.bits, IntKind.signed]; omega
theorem wrap_step {n : Int} {k : Nat} : IntKind.i64.wrap (IntKind.i64.wrap (n - k) - 1) = IntKind.i64.wrap (n - (k + 1 : Nat)) := by
  unfold IntKind.wrap; simp [IntKind.bits, IntKind.signed]; omega
theorem wrap_first {n : Int} (h0 : -9223372036854775808 ≤ n) (h1 : n ≤ 9223372036854775807) : IntKind.i64.wrap (n - (0 : Nat)) = n := by
  unfold IntKind.wrap; simp [IntKind.bits, IntKind.signed]; omega
attribute [local go_sem] Oper.semAt_some
set_option maxRecDepth 100000 in
set_option maxHeartbeats 2000000 in
theorem iPartWay_any (V : World → Prop) (hV : ShOk V) (t : Tr) (hsm : SmT t) (hkw : KwT t) (n : Int) (hn0 : -9223372036854775808 ≤ n) (hn1 : n ≤ 9223372036854775807) : ∀ (A0 A1 : Option Addr) (c0 c1 : Nat) (w : World), V w → PrL w A0 t.ps → TrL w 0 A1 t.ks →
    Calls Tryd.prog 32 #[.agg #[.int .i64 t.tag, .int .i64 t.key, .string t.text, .slice A0 t.ps.length c0, .slice A1 t.ks.length c1], .int .i64 n] w (WyX t n w) := by
  intro A0 A1 c0 c1 w hvw hp hk
  have k1 := fun w hv hp hk => iTreeOk_any V hV t hsm hkw A0 A1 c0 c1 w hv hp hk
  have HSZ := Lib.hid (@size_le200 t)
  obtain ⟨ok, hok⟩ : ∃ v, treeOkB t = v := ⟨_, rfl⟩
  have HOK := Lib.hid hok
  rw [hok] at k1
  clear hok
  obtain ⟨w1, hw1⟩ : ∃ w1, (((w.alloc (.cells #[.int .i64 t.tag, .int .i64 t.key, .string t.text, .slice A0 t.ps.length c0, .slice A1 t.ks.length c1] 26)).alloc (.cells #[.int .i64 n] 3)).alloc (.cells #[.slice none 0 0] 30)).alloc (.cells #[.bool false] 4) = w1 := ⟨_, rfl⟩
  have hz1 : w1.heap.size = w.heap.size + 4 := by rw [← hw1]; simp
  have hb1 : Below w.heap.size w w1 := by rw [← hw1]; exact ((((Below.refl _ w).alloc (Nat.le_refl _) _).alloc (by simp) _).alloc (by simp; omega) _).alloc (by simp; omega) _
  have q0 : w1.heap[w.heap.size]? = some (TREEC t A0 c0 A1 c1) := by
    rw [← hw1, Below.heap_alloc _ _ _ (by simp; omega), Below.heap_alloc _ _ _ (by simp; omega), Below.heap_alloc _ _ _ (by simp)]; exact World.alloc_heap_new w _
  have q1 : Boxed w1 (w.heap.size + 1) 3 (.int .i64 n) := by
    have := Boxed.new (w.alloc (.cells #[.int .i64 t.tag, .int .i64 t.key, .string t.text, .slice A0 t.ps.length c0, .slice A1 t.ks.length c1] 26)) 3 (.int .i64 n)
    rw [World.size_alloc] at this
    rw [← hw1]; exact (this.alloc _).alloc _
  have q2 : Boxed w1 (w.heap.size + 2) 30 (.slice none 0 0) := by
    have := Boxed.new ((w.alloc (.cells #[.int .i64 t.tag, .int .i64 t.key, .string t.text, .slice A0 t.ps.length c0, .slice A1 t.ks.length c1] 26)).alloc (.cells #[.int .i64 n] 3)) 30 (.slice none 0 0)
    rw [World.size_alloc, World.size_alloc] at this
    rw [← hw1]; exact this.alloc _
  have q3 : Boxed w1 (w.heap.size + 3) 4 (.bool false) := by
    have := Boxed.new (((w.alloc (.cells #[.int .i64 t.tag, .int .i64 t.key, .string t.text, .slice A0 t.ps.length c0, .slice A1 t.ks.length c1] 26)).alloc (.cells #[.int .i64 n] 3)).alloc (.cells #[.slice none 0 0] 30)) 4 (.bool false)
    rw [World.size_alloc, World.size_alloc, World.size_alloc] at this
    rw [← hw1]; exact this
  have K1 := Lib.hid (k1 w1 (hV.stays _ _ hvw hb1) (hp.below hb1) (hk.below hb1))
  have HW1 := Lib.hid hw1
  have HB1 := Lib.hid hb1
  have HP := Lib.hid hp
  have HK := Lib.hid hk
  have HS := Lib.hid hsm
  have Q0 := Lib.hid q0
  have Q1 := Lib.hid q1
  have Q2 := Lib.hid q2
  have Q3 := Lib.hid q3
  have HN0 := Lib.hid hn0
  have HN1 := Lib.hid hn1
  clear hw1 k1 hb1 hp hk hvw hsm hkw q0 q1 q2 q3 hn0 hn1
  refine callsIn_wide (n := 3) |>.1 ?_
  refine callsIn_of_wp_marks Tryd.func32 rfl trivial ?_ rfl; simp only [Tryd.ntmps32, List.size_toArray, List.length_cons, List.length_nil, Nat.reduceAdd, Nat.reduceSub, Array.replicate_succ, Array.replicate_zero, List.push_toArray, List.append_toArray, List.nil_append, List.cons_append]
  gi_wp2
  rw [HW1.out]
  refine ⟨trivial, (callsIn_wide.2 K1.out).mono ?_⟩
  rintro e w2 ⟨rfl, hb⟩
  have r0 := five_cells (show w2.heap[w.heap.size]? = some (.cells #[.int .i64 t.tag, .int .i64 t.key, .string t.text, .slice A0 t.ps.length c0, .slice A1 t.ks.length c1] 26 (0, 0)) from (hb.block w.heap.size (by omega)).trans Q0.out)
  obtain ⟨a0, a1, a2, a3, a4⟩ := r0
  have R1 := Lib.hid (boxed_later Q1.out hb)
  have R2 := Lib.hid (boxed_later Q2.out hb)
  have R3 := Lib.hid (boxed_later Q3.out hb)
  have HB2 := Lib.hid (HB1.out.trans (hb.mono (by omega)))
  have hz2 : w1.heap.size ≤ w2.heap.size := hb.size
  clear hb HW1 K1 HB1 Q0 Q1 Q2 Q3
  have hlt0 : w.heap.size < w2.heap.size := by omega
  have hlt1 : w.heap.size + 1 < w2.heap.size := by omega
  have hlt2 : w.heap.size + 1 + 1 < w2.heap.size := by omega
  have hlt3 : w.heap.size + 1 + 1 + 1 < w2.heap.size := by omega
  cases ok
  · have hf2 := R2.out.frozen
    have hc2 := R2.out.cell
    have hf3 := R3.out.frozen
    have hc3 := R3.out.cell
    gi_wp2
    have hc2' := ((R2.out.set (.slice none 0 0)).other (B' := w.heap.size + 3) (by omega) (.bool false)).cell
    have hc3' := ((R3.out.other (B' := w.heap.size + 2) (by omega) (.slice none 0 0)).set (.bool false)).cell
    have hv : wayP t n = none := by unfold wayP; rw [HOK.out, if_neg (by simp)]
    exact ⟨.tuple #[.slice none 0 0, .bool false], by simp [results, Tryd.results32, Tryd.f32, go_sem, hc2', hc3'], (HB2.out.setCell (p := ⟨w.heap.size + 1 + 1, 0, none⟩) (by simp; omega) _).setCell (p := ⟨w.heap.size + 1 + 1 + 1, 0, none⟩) (by simp; omega) _, .inl ⟨hv, rfl⟩⟩
  · gi_wp2
    refine ⟨trivial, (callsIn_wide.2 (eachPart_any _ _ _ _ _ _ _ _ _ _)).mono ?_⟩
    rintro e w4 ⟨rfl, hw4⟩
    have hb4 : Below w2.heap.size w2 w4 := by rw [hw4]; exact Below.alloc (Below.refl _ _) (Nat.le_refl _) _
    have hz4 : w4.heap.size = w2.heap.size + 1 := by rw [hw4]; simp
    have hbt : w4.heap[w2.heap.size]? = some (TREEC t A0 c0 A1 c1) := by rw [hw4]; exact World.alloc_heap_new w2 _
    have R1' := Lib.hid (boxed_later R1.out hb4)
    have R2' := Lib.hid (boxed_later R2.out hb4)
    have R3' := Lib.hid (boxed_later R3.out hb4)
    have HB4 := Lib.hid (HB2.out.trans (hb4.mono (by omega)))
    have HBT := Lib.hid hbt
    have hsz := HSZ.out HOK.out
    clear hw4 hb4 hbt a0 a1 a2 a3 a4 R1 R2 R3 HB2
    gi_wp2
    refine wpIn_rangeX (α := Pt) rfl (by decide) (gf := 91) (lb := #[.pointer (some ⟨w2.heap.size, 0, none⟩)]) rfl trivial (enters_of Tryd.func91 (by kernel_rfl) rfl)
      (parts_seq 2 w w4 t A0 A1 c0 c1 w2.heap.size HS.out (by omega) HB4.out HP.out HK.out HBT.out) (PtX.spares (by omega)) PtX.stays (fun W W' h hb => KpP.later hb (by omega)) KpP.trans (fun W l o o' hl h ho _ => KpP.put (w := w4) (by omega) W l o o' hl h ho) (fun x => rfl)
      (fun pre W => Boxed W (w.heap.size + 1) 3 (.int .i64 (IntKind.i64.wrap (n - pre.length))) ∧ Boxed W (w.heap.size + 2) 30 (.slice none 0 0) ∧ Boxed W (w.heap.size + 3) 4 (.bool false) ∧ (∀ k : Nat, k < pre.length → n ≠ k) ∧ Below w.heap.size w W)
      (fun c pre W => c = .ret ∧ ∃ (pre' : List Pt) (x : Pt), pre = pre' ++ [x] ∧ n = pre'.length ∧ Boxed W (w.heap.size + 2) 30 (.slice x.Aw x.way.length x.cw) ∧ Boxed W (w.heap.size + 3) 4 (.bool true) ∧ WayR w.heap.size W x.Aw x.cw x.way ∧ Below w.heap.size w W)
      (fun s W l o o' h hl ho hc => ⟨boxed_put o' h.1 ho hc, boxed_put o' h.2.1 ho hc, boxed_put o' h.2.2.1 ho hc, h.2.2.2.1, h.2.2.2.2.grown (grownBy_putObj' W l o') h.2.2.2.2.size (fun k e => by cases e; omega)⟩)
      (fun s W W' h hb => ⟨boxed_later h.1 hb, boxed_later h.2.1 hb, boxed_later h.2.2.1 hb, h.2.2.2.1, h.2.2.2.2.trans (hb.mono h.2.2.2.2.size)⟩)
      (fun c s W l o o' h hl ho hc => by
        obtain ⟨e, pre', x, e1, e2, e3, e4, e5, e6⟩ := h
        exact ⟨e, pre', x, e1, e2, boxed_put o' e3 ho hc, boxed_put o' e4 ho hc, e5.put o' ho hc, e6.grown (grownBy_putObj' W l o') e6.size (fun k e => by cases e; omega)⟩)
      (fun c s W W' h hb => by
        obtain ⟨e, pre', x, e1, e2, e3, e4, e5, e6⟩ := h
        exact ⟨e, pre', x, e1, e2, boxed_later e3 hb, boxed_later e4 hb, e5.later hb, e6.trans (hb.mono e6.size)⟩)
      ⟨by rw [List.length_nil, wrap_first HN0.out HN1.out]; exact R1'.out, R2'.out, R3'.out, by simp, HB4.out⟩
      (fun x a' W => a' = { tmps := #[.agg #[.int .i64 t.tag, .int .i64 t.key, .string t.text, .slice A0 t.ps.length c0, .slice A1 t.ks.length c1], .int .i64 n, .pointer (some ⟨w.heap.size, 0, none⟩), .pointer (some ⟨w.heap.size + 1, 0, none⟩), .pointer (some ⟨w.heap.size + 1 + 1, 0, none⟩), .pointer (some ⟨w.heap.size + 1 + 1 + 1, 0, none⟩), .slice x.Aw x.way.length x.cw, .agg #[.int .i64 t.tag, .int .i64 t.key, .string t.text, .slice A0 t.ps.length c0, .slice A1 t.ks.length c1], .bool true, .bool false, .agg #[.int .i64 t.tag, .int .i64 t.key, .string t.text, .slice A0 t.ps.length c0, .slice A1 t.ks.length c1], .func (.func 91) #[] #[.pointer (some ⟨w2.heap.size, 0, none⟩)], .slice x.Aw x.way.length x.cw, x.tree, undef, undef, undef, undef, undef], defers := [] }) ?_ ?_ ?_ ?_ ?_
    · rintro x a' _ W l o o' h _ _ _
      exact h
    · intro l x W K hK
      dsimp only [Pt.encs, Pt.tree]
      gi_wp2
      exact hK _ _ (Below.refl _ _) rfl
    · rintro l pre x a' W ⟨i1, i2, i3, hm, hbl⟩ hx rfl hlen
      have c1' := i1.cell
      have f1' := i1.frozen
      have c2' := i2.cell
      have f2' := i2.frozen
      have c3' := i3.cell
      have f3' := i3.frozen
      have hst := @wrap_step n pre.length
      have hzr := wrap_zero (k := pre.length) HN0.out HN1.out (by omega)
      have HM := Lib.hid hm
      have HBL := Lib.hid hbl
      have HX := Lib.hid hx
      have I1 := Lib.hid i1
      have I2 := Lib.hid i2
      have I3 := Lib.hid i3
      have HZR := Lib.hid hzr
      obtain ⟨m, hmm⟩ : ∃ m, IntKind.i64.wrap (n - pre.length) = m := ⟨_, rfl⟩
      have HMM := Lib.hid hmm
      have HST := Lib.hid hst
      rw [hmm] at c1'
      clear hm hx hbl i1 i2 i3 hst hzr hmm
      have hzW := HBL.out.size
      by_cases hm0 : m = 0
      · subst hm0
        gi_wp2
        refine ⟨(KeepsOthers.setCell _ _ _).from _ |>.trans ((KeepsOthers.setCell _ _ _).from _), KpP.trans _ _ _ (kpP_set (Below.refl _ W) (by omega) (p := w.heap.size + 1 + 1) (by omega) (by omega) _) (kpP_set (Below.refl _ _) (by simp [World.setCell]; omega) (p := w.heap.size + 1 + 1 + 1) (by omega) (by omega) _), rfl, pre, x, rfl, HZR.out.1 HMM.out, (I2.out.set _).other (by omega) _, (I3.out.other (by omega) _).set _, ?_, (HBL.out.setCell (p := ⟨w.heap.size + 1 + 1, 0, none⟩) (by simp; omega) _).setCell (p := ⟨w.heap.size + 1 + 1 + 1, 0, none⟩) (by simp; omega) _⟩
        refine WayR.moved (W := W) (row_mono HX.out.way (by omega)) (fun g cur e hg => ?_)
        have hg2 : w4.heap.size + 2 ≤ g := by
          rcases HX.out.way.block with e' | ⟨g', cur', e', hlo, _⟩
          · rw [e] at e'; cases e'
          · rw [e] at e'; injection e' with e'; injection e' with e'; omega
        rw [Below.heap_setCell _ _ _ _ (by show g ≠ w.heap.size + 1 + 1 + 1; omega), Below.heap_setCell _ _ _ _ (by show g ≠ w.heap.size + 1 + 1; omega)]
      · have hb0 : (m == 0) = false := by simpa using hm0
        gi_wp2
        refine ⟨(KeepsOthers.setCell _ _ _).from _, kpP_set (Below.refl _ W) (by omega) (p := w.heap.size + 1) (by omega) (by omega) _, ?_, I2.out.other (by omega) _, I3.out.other (by omega) _, ?_, HBL.out.setCell (p := ⟨w.heap.size + 1, 0, none⟩) (by simp) _⟩
        · rw [List.length_append, show pre.length + [x].length = pre.length + 1 from rfl, ← HST.out, HMM.out]
          have e : IntKind.i64.wrap (m - 1) = wrap64 (m - 1) := by rw [IntKind.wrap_i64, wrap64]
          rw [e]
          exact I1.out.set _
        · intro k hk
          rw [List.length_append] at hk
          rcases Nat.lt_or_ge k pre.length with h | h
          · exact HM.out k h
          · have : k = pre.length := by simp at hk; omega
            subst this
            intro e
            exact hm0 (HMM.out ▸ HZR.out.2 e)
    · rintro D xs W hD hS ⟨i1, i2, i3, hm, hbl⟩ hK
      have c2' := i2.cell
      have f2' := i2.frozen
      have c3' := i3.cell
      have f3' := i3.frozen
      have I2 := Lib.hid i2
      have I3 := Lib.hid i3
      have HBL := Lib.hid hbl
      have hv : wayP t n = none := by
        unfold wayP
        rw [HOK.out]
        by_cases h0 : 0 ≤ n
        · rw [if_pos ⟨rfl, h0⟩, List.getElem?_eq_none ?_]
          · rfl
          · rw [← hS, List.length_map]
            rcases Nat.lt_or_ge n.toNat xs.length with h | h
            · exact absurd (by omega) (hm n.toNat h)
            · exact h
        · rw [if_neg (by omega)]
      have HV := Lib.hid hv
      clear i1 i2 i3 hm hS hbl hv
      gi_wp2
      have hK' := (KeepsOthers.setCell (W.setCell ⟨w.heap.size + 1 + 1, 0, none⟩ (.slice none 0 0)) ⟨w.heap.size + 1 + 1 + 1, 0, none⟩ (.bool false)).same D _ ((KeepsOthers.setCell W ⟨w.heap.size + 1 + 1, 0, none⟩ (.slice none 0 0)).same D _ hK rfl) rfl
      refine ⟨by simp, .inl ⟨_, _, rfl, run_takeDeferred hK', ?_⟩⟩
      have hc2' := (boxed_put (.deferred none) ((I2.out.set (.slice none 0 0)).other (B' := w.heap.size + 3) (by omega) (.bool false)) hK' rfl).cell
      have hc3' := (boxed_put (.deferred none) ((I3.out.other (B' := w.heap.size + 2) (by omega) (.slice none 0 0)).set (.bool false)) hK' rfl).cell
      exact ⟨.tuple #[.slice none 0 0, .bool false], by simp [results, Tryd.results32, Tryd.f32, go_sem, hc2', hc3'], ((HBL.out.setCell (p := ⟨w.heap.size + 1 + 1, 0, none⟩) (by simp; omega) _).setCell (p := ⟨w.heap.size + 1 + 1 + 1, 0, none⟩) (by simp; omega) _).grown (grownBy_putObj' _ D (.deferred none)) (by have := HBL.out.size; simp [World.setCell]; omega) (fun k e => by cases e; omega), .inl ⟨HV.out, rfl⟩⟩
    · rintro D c pre W hD hS ⟨rfl, pre', x, rfl, hx, i2, i3, hwy, hbl⟩ hK
      have I2 := Lib.hid i2
      have I3 := Lib.hid i3
      have HBL := Lib.hid hbl
      have HWY := Lib.hid hwy
      have hv : wayP t n = some x.way := by
        obtain ⟨q, hq⟩ := hS
        unfold wayP
        rw [HOK.out, if_pos ⟨rfl, by omega⟩, ← hq, hx, List.map_append, List.append_assoc, show ((pre'.length : Int)).toNat = (pre'.map Pt.key).length by rw [List.length_map]; omega, List.getElem?_append_right (Nat.le_refl _), Nat.sub_self]
        rfl
      have HV := Lib.hid hv
      clear i2 i3 hx hS hbl hv hwy
      gi_wp2
      refine ⟨by simp, .inl ⟨_, _, rfl, run_takeDeferred hK, ?_⟩⟩
      have hc2' := (boxed_put (.deferred none) I2.out hK rfl).cell
      have hc3' := (boxed_put (.deferred none) I3.out hK rfl).cell
      exact ⟨.tuple #[.slice x.Aw x.way.length x.cw, .bool true], by simp [results, Tryd.results32, Tryd.f32, go_sem, hc2', hc3'], HBL.out.grown (grownBy_putObj' _ D (.deferred none)) HBL.out.size (fun k e => by cases e; omega), .inr ⟨x.way, x.Aw, x.cw, HV.out, rfl, HWY.out.put _ hK rfl⟩⟩
end Go.Proofs.YtpkhpaioddommaaDoor
