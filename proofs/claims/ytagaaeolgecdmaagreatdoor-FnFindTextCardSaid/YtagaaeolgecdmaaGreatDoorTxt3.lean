/- Trees: all their texts, by the program. -/
import Derived.Test.YtagaaeolgecdmaaGreatDoorPrtM
import Derived.Test.YtagaaeolgecdmaaGreatDoorBld1
import Derived.Test.YtagaaeolgecdmaaGreatDoorShelf
import Derived.Shelf.RegionOpen
import Derived.RangeFuncCalls
namespace Go.Proofs.YtagaaeolgecdmaaGreatDoor
open Go.Joins Go.ChangeShapes Go.WideShapes Go.ChangeAt Go.RowKit Go.Deep
set_option linter.unusedVariables false
set_option linter.unusedSimpArgs false

theorem strCells_append (a b : ByteArray) : Lib.strCells (a ++ b) = Lib.strCells a ++ Lib.strCells b := by simp [Lib.strCells, ByteArray.data_append]
theorem bld_cells {B b : Nat} {bs : List Value} {W : World} (h : Lib.IsBuilderF 97 5 B b bs W) {k : Nat} {o : Obj} (hk : W.heap[k]? = some o) (ho : o.isCells = false) : some k ≠ some b := by
  rintro e
  injection e with e
  subst e
  rcases h with ⟨_, v, hb, _⟩ | ⟨_, v, hb, _⟩
  all_goals
    rw [hk] at hb
    injection hb with hb
    rw [hb] at ho
    cases ho
theorem bld_lt {B b : Nat} {bs : List Value} {W : World} (h : Lib.IsBuilderF 97 5 B b bs W) : b < W.heap.size := by
  rcases h with h | h <;> exact h.lt
attribute [local go_sem] Oper.semAt_some
set_option maxRecDepth 100000 in
set_option maxHeartbeats 2000000 in
theorem itextOf_any (t : Tr) (hsm : SmT t) (hsz : sizeT t ≤ 1000) (hB : ∀ y ∈ partsT [] t, y.2.text.size ≤ 1000) : ∀ (A0 A1 : Option Addr) (c0 c1 : Nat) (w : World), PrL w A0 t.ps → TrL w 0 A1 t.ks →
    Calls Tryz.prog 44 #[.agg #[.int .i64 t.tag, .int .i64 t.key, .string t.text, .slice A0 t.ps.length c0, .slice A1 t.ks.length c1]] w fun e w' => e = .returned (.string (textT t)) ∧ Below w.heap.size w w' := by
  intro A0 A1 c0 c1 w hp hk
  have HP := Lib.hid hp
  have HK := Lib.hid hk
  have HS := Lib.hid hsm
  have HB := Lib.hid hB
  clear hp hk hsm hB
  obtain ⟨tree, htree⟩ : ∃ tree : Value, .agg #[.int .i64 t.tag, .int .i64 t.key, .string t.text, .slice A0 t.ps.length c0, .slice A1 t.ks.length c1] = tree := ⟨_, rfl⟩
  obtain ⟨w1, hw1⟩ : ∃ w1, (w.alloc (.cells #[.int .i64 t.tag, .int .i64 t.key, .string t.text, .slice A0 t.ps.length c0, .slice A1 t.ks.length c1] 32)).alloc (.cells #[.pointer none, .slice none 0 0] 97) = w1 := ⟨_, rfl⟩
  have hz1 : w1.heap.size = w.heap.size + 2 := by rw [← hw1]; simp
  have hb1 : Below w.heap.size w w1 := by rw [← hw1]; exact ((Below.refl _ w).alloc (Nat.le_refl _) _).alloc (by simp) _
  have hi1 : Lib.IsBuilderF 97 5 (w.heap.size + 1) (w.heap.size + 1) [] w1 := by
    have := Lib.IsBuilderF.of (Lib.fresh_isBuilder 97 5 (w.alloc (.cells #[.int .i64 t.tag, .int .i64 t.key, .string t.text, .slice A0 t.ps.length c0, .slice A1 t.ks.length c1] 32)))
    rw [hw1] at this
    simpa using this
  have HW1 := Lib.hid hw1
  have HI1 := Lib.hid hi1
  clear hw1 htree hi1
  refine callsIn_wide (n := 3) |>.1 ?_
  refine callsIn_of_wp_marks Tryz.func44 rfl trivial ?_ rfl; simp only [Tryz.ntmps44, List.size_toArray, List.length_cons, List.length_nil, Nat.reduceAdd, Nat.reduceSub, Array.replicate_succ, Array.replicate_zero, List.push_toArray, List.append_toArray, List.nil_append, List.cons_append]
  gi_wp2
  rw [HW1.out]
  have hi1 := HI1.out
  refine ⟨trivial, (callsIn_wide.2 (eachPart_any _ _ _ _ _ _ _ _ _ w1)).mono ?_⟩
  rintro e w2 ⟨rfl, hw2⟩
  have hz2 : w2.heap.size = w.heap.size + 3 := by rw [hw2]; simp [hz1]
  have hb2 : Below w.heap.size w w2 := by rw [hw2]; exact hb1.alloc (by omega) _
  have hbt : w2.heap[w.heap.size + 2]? = some (TREEC t A0 c0 A1 c1) := by rw [hw2, ← hz1]; exact World.alloc_heap_new w1 _
  have hi2 := bld_later hi1 (show Below w1.heap.size w1 w2 by rw [hw2]; exact Below.alloc (Below.refl _ _) (Nat.le_refl _) _)
  rw [hz1]
  have HB2 := Lib.hid hb2
  have HI2 := Lib.hid hi2
  have HBT := Lib.hid hbt
  clear hb2 hi2 hbt hb1 hi1 hw2
  gi_wp2
  refine wpIn_rangeX (α := Pt) rfl (by decide) (gf := 63) (lb := #[.pointer (some ⟨w.heap.size + 2, 0, none⟩)]) rfl trivial (enters_of Tryz.func63 (by kernel_rfl) rfl)
    (parts_seq 2 w w2 t A0 A1 c0 c1 (w.heap.size + 2) HS.out hsz HB2.out HP.out HK.out HBT.out) (PtX.spares (by omega)) PtX.stays (fun W W' h hb => KpP.later hb (by omega)) KpP.trans (fun W l o o' hl h ho _ => KpP.put (w := w2) (by omega) W l o o' hl h ho) (fun x => rfl)
    (fun pre W => Lib.IsBuilderF 97 5 (w.heap.size + 1) (w.heap.size + 1) (Lib.strCells (textsP (pre.map Pt.key))) W ∧ (∀ y ∈ pre, y.key ∈ partsT [] t) ∧ Below w.heap.size w W) (fun _ _ _ => False)
    (fun s W l o o' h hl ho hc => ⟨bld_put o' h.1 ho hc, h.2.1, h.2.2.grown (grownBy_putObj' W l o') h.2.2.size (fun k e => by cases e; omega)⟩)
    (fun s W W' h hb => ⟨bld_later h.1 hb, h.2.1, h.2.2.trans (hb.mono h.2.2.size)⟩) (fun _ _ _ _ _ _ h _ _ _ => h) (fun _ _ _ _ h _ => h) ⟨HI2.out, by simp, HB2.out⟩
    (fun x a' W => ∃ bx : Nat, W.heap[bx]? = some (TREEC x.t x.A0 x.c0 x.A1 x.c1) ∧ a' = { tmps := #[.agg #[.int .i64 t.tag, .int .i64 t.key, .string t.text, .slice A0 t.ps.length c0, .slice A1 t.ks.length c1], .pointer (some ⟨w.heap.size, 0, none⟩), .string ⟨#[]⟩, .pointer (some ⟨w.heap.size + 1, 0, none⟩), undef, .pointer (some ⟨bx, 0, none⟩), .agg #[.int .i64 t.tag, .int .i64 t.key, .string t.text, .slice A0 t.ps.length c0, .slice A1 t.ks.length c1], .func (.func 63) #[] #[.pointer (some ⟨w.heap.size + 2, 0, none⟩)], .slice x.Aw x.way.length x.cw, x.tree, undef, undef, undef, undef], defers := [] }) ?_ ?_ ?_ ?_ ?_
  · rintro x a' _ W l o o' ⟨bx, hbx, e⟩ hl ho hc
    exact ⟨bx, (World.putObj_heap_other (by rintro rfl; rw [ho] at hbx; injection hbx with hbx; rw [hbx] at hc; cases hc)).trans hbx, e⟩
  · intro l x W K hK
    dsimp only [Pt.encs, Pt.tree]
    gi_wp2
    exact hK _ _ (Below.alloc (Below.refl _ _) (Nat.le_refl _) _) ⟨W.heap.size, World.alloc_heap_new W _, rfl⟩
  · rintro l pre x a' W ⟨hi, hm, hbl⟩ hx ⟨bx, hbx, rfl⟩ hlen
    have e2 := (five_cells hbx).2.2.1
    have hsum := textsP_le (B := 1000) (pre.map Pt.key) (fun y hy => by
      obtain ⟨z, hz, rfl⟩ := List.mem_map.1 hy
      exact HB.out _ (hm z hz))
    rw [List.length_map] at hsum
    have htx := HB.out _ hx.mem
    have hsum2 : (Lib.strCells (textsP (pre.map Pt.key))).length + x.t.text.size ≤ 100000000 := by
      rw [Lib.strCells_length]
      have : x.t.text.size ≤ 1000 := htx
      omega
    have HK5 := Lib.hid (ws_any (w.heap.size + 1) (w.heap.size + 1) _ x.t.text W hi hsum2 (by have := hbl.size; have := (Array.getElem?_eq_some_iff.1 hbx).1; have := bld_lt hi; omega))
    have HI := Lib.hid hi
    have HM := Lib.hid hm
    have HX := Lib.hid hx
    have HBL := Lib.hid hbl
    clear hi hm hx hbl hbx hsum htx hsum2
    gi_wp2
    refine ⟨trivial, (CallsIn.inRound l (callsIn_wide.2 HK5.out)).mono ?_⟩
    rintro e w3 ⟨rfl, hi3, hb3, ho3⟩
    have HI3 := Lib.hid hi3
    have HB3 := Lib.hid hb3
    have HO3 := Lib.hid ho3
    clear hi3 hb3 ho3
    gi_wp2
    refine ⟨⟨HB3.out.size, fun k o _ hk ho => HO3.out k o hk (bld_cells HI.out hk ho) (fun c fz e => by subst e; cases ho)⟩, ⟨HB3.out.mono (by omega), fun g cur e hg he hc => (HO3.out g _ hc (fun e' => by injection e' with e'; omega) (fun c fz e' => by injection e' with _ e1 _; rcases he with rfl | rfl <;> cases e1)).trans hc.symm⟩, ?_, ?_, HBL.out.trans (HB3.out.mono (by omega))⟩
    · rw [List.map_append, textsP_append, strCells_append]
      have : textsP ([x].map Pt.key) = x.t.text := by simp only [List.map_cons, List.map_nil, textsP, Pt.key]; exact ba_nil' _
      rw [this]
      exact HI3.out
    · intro y hy
      rcases List.mem_append.1 hy with hy | hy
      · exact HM.out y hy
      · simp at hy; subst hy; exact HX.out.mem
  · rintro D xs W hD hS ⟨hi, hm, hbl⟩ hK
    have hT : textsP (xs.map Pt.key) = textT t := by rw [hS, textsP_T]
    rw [hT] at hi
    have HK5 := Lib.hid (Tryz.Builder_String_any_k (w.heap.size + 1) (w.heap.size + 1) (textT t).data.toList W hi (by have := bld_lt hi; omega))
    have HI := Lib.hid hi
    have HBL := Lib.hid hbl
    have HKD := Lib.hid hK
    clear hi hbl hS hm hT hK
    gi_wp2
    refine ⟨trivial, (callsIn_wide.2 HK5.out).mono ?_⟩
    rintro e w3 ⟨rfl, _, hb3, ho3⟩
    have hK3 := ho3 D _ HKD.out (bld_cells HI.out HKD.out rfl) (fun c fz e => by cases e)
    have HB3 := Lib.hid hb3
    have HK3 := Lib.hid hK3
    clear hb3 ho3 hK3
    gi_wp2
    refine ⟨by simp, .inl ⟨_, _, rfl, run_takeDeferred HK3.out, ?_⟩⟩
    exact ⟨_, results_tmp rfl _ _ _, by simp, (HBL.out.trans (HB3.out.mono (by omega))).grown (grownBy_putObj' _ D (.deferred none)) (by have := HBL.out.size; have := HB3.out.size; omega) (fun k e => by cases e; omega)⟩
  · rintro D c pre W _ _ h _
    exact h.elim
end Go.Proofs.YtagaaeolgecdmaaGreatDoor
