/- Trees: the number of the part at a way, by the program. -/
import Derived.Test.YtpkhpaioddommaaDoorNoM
import Derived.Test.YtpkhpaioddommaaDoorPrtM
import Derived.Test.YtpkhpaioddommaaDoorTreM
import Derived.Shelf.RegionOpen
import Derived.RangeFuncCalls
import Derived.RangeFuncBox
namespace Go.Proofs.YtpkhpaioddommaaDoor
open Go.Joins Go.ChangeShapes Go.WideShapes Go.ChangeAt Go.RowKit Go.Deep
set_option linter.unusedVariables false
set_option linter.unusedSimpArgs false

theorem size_le200 {t : Tr} (h : treeOkB t = true) : sizeT t ≤ 200 := by
  obtain ⟨_, e1, e2⟩ := treeB_yes (show treeB shownB t = true from h)
  omega
theorem way_len {lo : Nat} {W : World} {A : Option Addr} {c : Nat} {ns : List Nat} (h : WayR lo W A c ns) : ns.length ≤ maxLen := by
  rcases h.2 with ⟨_, h⟩ | ⟨_, _, _, _, _, _, h1, h2, _⟩
  · rw [h]; exact Nat.zero_le _
  · exact Nat.le_trans h1 h2
def noPV (t : Tr) (zs : List Int) : Int := if treeOkB t = true then noP zs (partsT [] t) else -1
theorem boxed_put {W : World} {B : Nat} {t : TypeId} {v : Value} {l : Nat} {o : Obj} (o' : Obj) (h : Boxed W B t v) (hl : W.heap[l]? = some o) (ho : o.isCells = false) : Boxed (W.putObj l o') B t v :=
  (World.putObj_heap_other (by rintro rfl; rw [show W.heap[B]? = _ from h] at hl; injection hl with hl; rw [← hl] at ho; cases ho)).trans h
theorem boxed_later {W W' : World} {B : Nat} {t : TypeId} {v : Value} (h : Boxed W B t v) (hb : Below W.heap.size W W') : Boxed W' B t v := (hb.block B h.lt).trans h
theorem keeps_below {B : Nat} {W W' : World} (h : Below W.heap.size W W') : KeepsFrom B W W' := ⟨h.size, fun k o _ hk _ => (h.block k (Array.getElem?_eq_some_iff.1 hk).1).trans hk⟩
theorem kpP_set {m lo : Nat} {W W' : World} (h : Below W.heap.size W W') (hm : m ≤ W.heap.size) {p : Nat} (h1 : m ≤ p) (h2 : p < lo) (u : Value) : KpP m lo W (W'.setCell ⟨p, 0, none⟩ u) :=
  ⟨(h.mono hm).setCell (p := ⟨p, 0, none⟩) h1 _, fun g cur e hg _ hc => (Below.heap_setCell _ _ _ _ (by show g ≠ p; omega)).trans (h.block g (Array.getElem?_eq_some_iff.1 hc).1)⟩
attribute [local go_sem] Oper.semAt_some
set_option maxRecDepth 100000 in
set_option maxHeartbeats 2000000 in
theorem iPartNumber_any (V : World → Prop) (hV : ShOk V) (t : Tr) (hsm : SmT t) (hkw : KwT t) (zs : List Int) (hzl : zs.length ≤ maxLen) : ∀ (A A0 A1 : Option Addr) (c c0 c1 : Nat) (w : World), V w → PrL w A0 t.ps → TrL w 0 A1 t.ks → IntL w A zs →
    Calls Tryd.prog 30 #[.agg #[.int .i64 t.tag, .int .i64 t.key, .string t.text, .slice A0 t.ps.length c0, .slice A1 t.ks.length c1], .slice A zs.length c] w fun e w' => e = .returned (.int .i64 (noPV t zs)) ∧ Below w.heap.size w w' := by
  intro A A0 A1 c c0 c1 w hvw hp hk hz
  have k1 := fun w hv hp hk => iTreeOk_any V hV t hsm hkw A0 A1 c0 c1 w hv hp hk
  obtain ⟨r, hr⟩ : ∃ r, noPV t zs = r := ⟨_, rfl⟩
  have HR := Lib.hid hr
  rw [hr]
  clear hr
  have HSZ := Lib.hid (@size_le200 t)
  obtain ⟨ok, hok⟩ : ∃ v, treeOkB t = v := ⟨_, rfl⟩
  have HOK := Lib.hid hok
  rw [hok] at k1
  clear hok
  obtain ⟨w1, hw1⟩ : ∃ w1, ((w.alloc (.cells #[.int .i64 t.tag, .int .i64 t.key, .string t.text, .slice A0 t.ps.length c0, .slice A1 t.ks.length c1] 26)).alloc (.cells #[.slice A zs.length c] 30)).alloc (.cells #[.int .i64 0] 3) = w1 := ⟨_, rfl⟩
  have hz1 : w1.heap.size = w.heap.size + 3 := by rw [← hw1]; simp
  have hb1 : Below w.heap.size w w1 := by rw [← hw1]; exact (((Below.refl _ w).alloc (Nat.le_refl _) _).alloc (by simp) _).alloc (by simp; omega) _
  have q0 : w1.heap[w.heap.size]? = some (TREEC t A0 c0 A1 c1) := by
    rw [← hw1, Below.heap_alloc _ _ _ (by simp; omega), Below.heap_alloc _ _ _ (by simp)]; exact World.alloc_heap_new w _
  have q1 : Boxed w1 (w.heap.size + 1) 30 (.slice A zs.length c) := by
    have := Boxed.new (w.alloc (.cells #[.int .i64 t.tag, .int .i64 t.key, .string t.text, .slice A0 t.ps.length c0, .slice A1 t.ks.length c1] 26)) 30 (.slice A zs.length c)
    rw [World.size_alloc] at this
    rw [← hw1]; exact this.alloc _
  have q2 : Boxed w1 (w.heap.size + 2) 3 (.int .i64 0) := by
    have := Boxed.new ((w.alloc (.cells #[.int .i64 t.tag, .int .i64 t.key, .string t.text, .slice A0 t.ps.length c0, .slice A1 t.ks.length c1] 26)).alloc (.cells #[.slice A zs.length c] 30)) 3 (.int .i64 0)
    rw [World.size_alloc, World.size_alloc] at this
    rw [← hw1]; exact this
  have K1 := Lib.hid (k1 w1 (hV.stays _ _ hvw hb1) (hp.below hb1) (hk.below hb1))
  have HW1 := Lib.hid hw1
  have HB1 := Lib.hid hb1
  have HP := Lib.hid hp
  have HK := Lib.hid hk
  have HZ := Lib.hid hz
  have HS := Lib.hid hsm
  have HZL := Lib.hid hzl
  have Q0 := Lib.hid q0
  have Q1 := Lib.hid q1
  have Q2 := Lib.hid q2
  clear hw1 k1 hb1 hp hk hz hvw hsm hkw hzl q0 q1 q2
  refine callsIn_wide (n := 3) |>.1 ?_
  refine callsIn_of_wp_marks Tryd.func30 rfl trivial ?_ rfl; simp only [Tryd.ntmps30, List.size_toArray, List.length_cons, List.length_nil, Nat.reduceAdd, Nat.reduceSub, Array.replicate_succ, Array.replicate_zero, List.push_toArray, List.append_toArray, List.nil_append, List.cons_append]
  gi_wp2
  rw [HW1.out]
  refine ⟨trivial, (callsIn_wide.2 K1.out).mono ?_⟩
  rintro e w2 ⟨rfl, hb⟩
  have r0 := five_cells (show w2.heap[w.heap.size]? = some (.cells #[.int .i64 t.tag, .int .i64 t.key, .string t.text, .slice A0 t.ps.length c0, .slice A1 t.ks.length c1] 26 (0, 0)) from (hb.block w.heap.size (by omega)).trans Q0.out)
  obtain ⟨a0, a1, a2, a3, a4⟩ := r0
  have r1 := boxed_later Q1.out hb
  have r2 := boxed_later Q2.out hb
  have HB2 := Lib.hid (HB1.out.trans (hb.mono (by omega)))
  have hz2 : w1.heap.size ≤ w2.heap.size := hb.size
  have R1 := Lib.hid r1
  have R2 := Lib.hid r2
  clear hb r1 r2 HW1 K1 HB1 Q0 Q1 Q2
  have hlt0 : w.heap.size < w2.heap.size := by omega
  have hlt1 : w.heap.size + 1 < w2.heap.size := by omega
  have hlt2 : w.heap.size + 1 + 1 < w2.heap.size := by omega
  cases ok
  · have hf2 := R2.out.frozen
    have hc2 := R2.out.cell
    gi_wp2
    have hc3 := World.cell?_setCell_same' w2 ⟨w.heap.size + 1 + 1, 0, none⟩ (.int .i64 (-1)) (by rw [show w.heap.size + 1 + 1 = w.heap.size + 2 by omega, hc2]; rfl)
    have hv : r = -1 := by
      have := HR.out
      unfold noPV at this
      rw [HOK.out] at this
      rw [← this]; rfl
    subst hv
    exact ⟨.int .i64 (-1), by simp [results, Tryd.results30, Tryd.f30, go_sem, hc3], rfl, HB2.out.setCell (p := ⟨w.heap.size + 1 + 1, 0, none⟩) (by simp; omega) _⟩
  · gi_wp2
    refine ⟨trivial, (callsIn_wide.2 (eachPart_any _ _ _ _ _ _ _ _ _ _)).mono ?_⟩
    rintro e w4 ⟨rfl, hw4⟩
    obtain ⟨w3, hw3⟩ : ∃ w3, w2.alloc (.cells #[.int .i64 0] 3) = w3 := ⟨_, rfl⟩
    rw [hw3] at hw4 ⊢
    have hb3 : Below w2.heap.size w2 w3 := by rw [← hw3]; exact Below.alloc (Below.refl _ _) (Nat.le_refl _) _
    have hz3 : w3.heap.size = w2.heap.size + 1 := by rw [← hw3]; simp
    have q5 : Boxed w3 w2.heap.size 3 (.int .i64 0) := by rw [← hw3]; exact Boxed.new w2 3 _
    have hb4 : Below w3.heap.size w3 w4 := by rw [hw4]; exact Below.alloc (Below.refl _ _) (Nat.le_refl _) _
    have hz4 : w4.heap.size = w2.heap.size + 2 := by rw [hw4]; simp [hz3]
    have hbt : w4.heap[w2.heap.size + 1]? = some (TREEC t A0 c0 A1 c1) := by rw [hw4, ← hz3]; exact World.alloc_heap_new w3 _
    have hb24 : Below w2.heap.size w2 w4 := hb3.trans (hb4.mono (by omega))
    have R5 := Lib.hid (boxed_later q5 hb4)
    have R1' := Lib.hid (boxed_later R1.out hb24)
    have R2' := Lib.hid (boxed_later R2.out hb24)
    have HB4 := Lib.hid (HB2.out.trans (hb24.mono (by omega)))
    have HBT := Lib.hid hbt
    have hsz := HSZ.out HOK.out
    rw [hz3]
    clear hw3 hw4 hb3 q5 hb4 hbt hb24 a0 a1 a2 a3 a4 R1 R2 HB2
    gi_wp2
    refine wpIn_rangeX (α := Pt) rfl (by decide) (gf := 91) (lb := #[.pointer (some ⟨w2.heap.size + 1, 0, none⟩)]) rfl trivial (enters_of Tryd.func91 (by kernel_rfl) rfl)
      (parts_seq 2 w w4 t A0 A1 c0 c1 (w2.heap.size + 1) HS.out (by omega) HB4.out HP.out HK.out HBT.out) (PtX.spares (by omega)) PtX.stays (fun W W' h hb => KpP.later hb (by omega)) KpP.trans (fun W l o o' hl h ho _ => KpP.put (w := w4) (by omega) W l o o' hl h ho) (fun x => rfl)
      (fun pre W => Boxed W (w.heap.size + 1) 30 (.slice A zs.length c) ∧ Boxed W (w.heap.size + 2) 3 (.int .i64 0) ∧ Boxed W w2.heap.size 3 (.int .i64 pre.length) ∧ (∀ y ∈ pre.map Pt.key, isAt zs y = false) ∧ Below w.heap.size w W)
      (fun c pre W => c = .ret ∧ ∃ (pre' : List Pt) (x : Pt), pre = pre' ++ [x] ∧ (∀ y ∈ pre'.map Pt.key, isAt zs y = false) ∧ isAt zs x.key = true ∧ Boxed W (w.heap.size + 2) 3 (.int .i64 pre'.length) ∧ Below w.heap.size w W)
      (fun s W l o o' h hl ho hc => ⟨boxed_put o' h.1 ho hc, boxed_put o' h.2.1 ho hc, boxed_put o' h.2.2.1 ho hc, h.2.2.2.1, h.2.2.2.2.grown (grownBy_putObj' W l o') h.2.2.2.2.size (fun k e => by cases e; omega)⟩)
      (fun s W W' h hb => ⟨boxed_later h.1 hb, boxed_later h.2.1 hb, boxed_later h.2.2.1 hb, h.2.2.2.1, h.2.2.2.2.trans (hb.mono h.2.2.2.2.size)⟩)
      (fun c s W l o o' h hl ho hc => by
        obtain ⟨e, pre', x, e1, e2, e3, e4, e5⟩ := h
        exact ⟨e, pre', x, e1, e2, e3, boxed_put o' e4 ho hc, e5.grown (grownBy_putObj' W l o') e5.size (fun k e => by cases e; omega)⟩)
      (fun c s W W' h hb => by
        obtain ⟨e, pre', x, e1, e2, e3, e4, e5⟩ := h
        exact ⟨e, pre', x, e1, e2, e3, boxed_later e4 hb, e5.trans (hb.mono e5.size)⟩)
      ⟨R1'.out, R2'.out, R5.out, by simp, HB4.out⟩
      (fun x a' W => a' = { tmps := #[.agg #[.int .i64 t.tag, .int .i64 t.key, .string t.text, .slice A0 t.ps.length c0, .slice A1 t.ks.length c1], .slice A zs.length c, .pointer (some ⟨w.heap.size, 0, none⟩), .pointer (some ⟨w.heap.size + 1, 0, none⟩), .pointer (some ⟨w.heap.size + 1 + 1, 0, none⟩), .pointer (some ⟨w2.heap.size, 0, none⟩), .slice x.Aw x.way.length x.cw, .agg #[.int .i64 t.tag, .int .i64 t.key, .string t.text, .slice A0 t.ps.length c0, .slice A1 t.ks.length c1], .bool true, .bool false, .agg #[.int .i64 t.tag, .int .i64 t.key, .string t.text, .slice A0 t.ps.length c0, .slice A1 t.ks.length c1], .func (.func 91) #[] #[.pointer (some ⟨w2.heap.size + 1, 0, none⟩)], .slice x.Aw x.way.length x.cw, x.tree, undef, undef, undef, undef, undef, undef], defers := [] }) ?_ ?_ ?_ ?_ ?_
    · rintro x a' _ W l o o' h _ _ _
      exact h
    · intro l x W K hK
      dsimp only [Pt.encs, Pt.tree]
      gi_wp2
      exact hK _ _ (Below.refl _ _) rfl
    · rintro l pre x a' W ⟨i1, i2, i3, hm, hbl⟩ hx rfl hlen
      have c1' := i1.cell
      have c2' := i2.cell
      have f2' := i2.frozen
      have c5' := i3.cell
      have f5' := i3.frozen
      have hwy := IntL.of_row hx.way
      have E := eqS_any x.Aw A x.cw c (natI x.way) zs W hwy (HZ.out.below (hbl.mono (Nat.le_refl _))) (by rw [natI_len]; exact way_len hx.way) HZL.out
      rw [natI_len] at E
      obtain ⟨v, hv⟩ : ∃ v, decide (natI x.way = zs) = v := ⟨_, rfl⟩
      rw [hv] at E
      have HE := Lib.hid E
      have HV := Lib.hid (show isAt zs x.key = v from hv)
      have HM := Lib.hid hm
      have HBL := Lib.hid hbl
      have HX := Lib.hid hx
      have I1 := Lib.hid i1
      have I2 := Lib.hid i2
      have I3 := Lib.hid i3
      clear E hv hm hx hwy hbl i1 i2 i3
      gi_wp2
      refine ⟨trivial, (CallsIn.inRound l (callsIn_wide.2 HE.out)).mono ?_⟩
      rintro e w5 ⟨rfl, hb5⟩
      have j1 := boxed_later I1.out hb5
      have j2 := boxed_later I2.out hb5
      have j3 := boxed_later I3.out hb5
      have hz5 := hb5.size
      replace c2' := j2.cell
      replace f2' := j2.frozen
      replace c5' := j3.cell
      replace f5' := j3.frozen
      have J1 := Lib.hid j1
      have J2 := Lib.hid j2
      have J3 := Lib.hid j3
      have HB5 := Lib.hid hb5
      clear hb5 c1' j1 j2 j3
      have hzW := HBL.out.size
      cases v
      · gi_wp2
        refine ⟨(keeps_below HB5.out).trans ((KeepsOthers.setCell _ _ _).from _), kpP_set HB5.out (by omega) (by omega) (by omega) _, J1.out.other (by omega) _, J2.out.other (by omega) _, ?_, ?_, (HBL.out.trans (HB5.out.mono (by omega))).setCell (p := ⟨w2.heap.size, 0, none⟩) (by simp; omega) _⟩
        · rw [List.length_append]
          exact J3.out.set _
        · intro y hy
          rw [List.map_append] at hy
          rcases List.mem_append.1 hy with hy | hy
          · exact HM.out y hy
          · simp at hy; subst hy; exact HV.out
      · gi_wp2
        exact ⟨(keeps_below HB5.out).trans ((KeepsOthers.setCell _ _ _).from _), kpP_set HB5.out (by omega) (by omega) (by omega) _, rfl, pre, x, rfl, HM.out, HV.out, J2.out.set _, (HBL.out.trans (HB5.out.mono (by omega))).setCell (p := ⟨w.heap.size + 1 + 1, 0, none⟩) (by simp; omega) _⟩
    · rintro D xs W hD hS ⟨i1, i2, i3, hm, hbl⟩ hK
      have c2' := i2.cell
      have f2' := i2.frozen
      have I2 := Lib.hid i2
      have HBL := Lib.hid hbl
      have hv : r = -1 := by
        have := HR.out
        unfold noPV at this
        rw [HOK.out, if_pos rfl, ← hS, noP_none hm] at this
        exact this.symm
      subst hv
      clear i1 i2 i3 hm hS hbl
      gi_wp2
      have hK' := (KeepsOthers.setCell W ⟨w.heap.size + 1 + 1, 0, none⟩ (.int .i64 (-1))).same D _ hK rfl
      refine ⟨by simp, .inl ⟨_, _, rfl, run_takeDeferred hK', ?_⟩⟩
      have hc6 := (boxed_put (.deferred none) (I2.out.set (.int .i64 (-1))) hK' rfl).cell
      exact ⟨.int .i64 (-1), by simp [results, Tryd.results30, Tryd.f30, go_sem, hc6], rfl, (HBL.out.setCell (p := ⟨w.heap.size + 1 + 1, 0, none⟩) (by simp; omega) _).grown (grownBy_putObj' _ D (.deferred none)) (by have := HBL.out.size; simp [World.setCell]; omega) (fun k e => by cases e; omega)⟩
    · rintro D c pre W hD hS ⟨rfl, pre', x, rfl, hm, hx, i2, hbl⟩ hK
      have I2 := Lib.hid i2
      have HBL := Lib.hid hbl
      have hv : r = pre'.length := by
        have := HR.out
        obtain ⟨q, hq⟩ := hS
        unfold noPV at this
        rw [HOK.out, if_pos rfl, ← hq, List.map_append, List.append_assoc] at this
        have e := noP_some (b := q) hm hx
        rw [List.length_map] at e
        exact this.symm.trans e
      subst hv
      clear i2 hm hx hS hbl
      gi_wp2
      refine ⟨by simp, .inl ⟨_, _, rfl, run_takeDeferred hK, ?_⟩⟩
      have hc6 := (boxed_put (.deferred none) I2.out hK rfl).cell
      exact ⟨.int .i64 pre'.length, by simp [results, Tryd.results30, Tryd.f30, go_sem, hc6], rfl, HBL.out.grown (grownBy_putObj' _ D (.deferred none)) HBL.out.size (fun k e => by cases e; omega)⟩
end Go.Proofs.YtpkhpaioddommaaDoor
