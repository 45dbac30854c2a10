/- Bld2, Wrt1, Wrt2, Wrt3, Wrt4, Wrt5 in one text. -/
import Derived.Test.YtagaaeolgecdmaaGreatDoorBase
import Derived.Test.YtagaaeolgecdmaaGreatDoorRows
import Derived.Lib.Hide
import Derived.Lib.OthersKept
import Derived.Lib.FrozenHead2
import Derived.BigQuiet
import Derived.Shelf.RegionOpenPlain
import Derived.Lib.UnsafeStr
import Derived.Test.YtagaaeolgecdmaaGreatDoorShowD
import Derived.Test.YtagaaeolgecdmaaGreatDoorLay1
import Derived.Test.YtagaaeolgecdmaaGreatDoorShelf
import Derived.StillTailTactics
import Derived.Deep.RegionHeld3
import Derived.Test.YtagaaeolgecdmaaGreatDoorTre8
import Derived.Test.YtagaaeolgecdmaaGreatDoorTxt2
import Derived.Test.YtagaaeolgecdmaaGreatDoorTreM
import Derived.Test.YtagaaeolgecdmaaGreatDoorTre17
import Derived.RangeFuncRecord
namespace Go.Proofs.YtagaaeolgecdmaaGreatDoor
open Go.Joins Go.ChangeShapes Go.WideShapes Go.ChangeAt Go.RowKit Go.Deep
set_option linter.unusedVariables false
set_option linter.unusedSimpArgs false

set_option maxRecDepth 100000 in
set_option maxHeartbeats 400000 in
theorem cc_usedW (b : Nat) (w : World) (h0 : w.cell? ⟨b, 0, none⟩ = some (.pointer (some ⟨b, 0, none⟩))) :
    Calls Tryz.prog 89 #[.pointer (some ⟨b, 0, none⟩)] w fun e w' => e = .returned (.tuple #[]) ∧ w' = w := by
  obtain ⟨j, hj, _⟩ := Option.map_eq_some_iff.1 (show (Tryz.prog.info? 97).map (·.size) = some 2 by kernel_rfl)
  go_enter Tryz.func89, Tryz.ntmps89
  go_wp2
  rw [Lib.run_neq_ptr_same w _ Tryz.underlying95 hj]
  go_wp2
  go_end0
  exact ⟨rfl, rfl⟩
set_option maxRecDepth 100000 in
set_option maxHeartbeats 400000 in
theorem cc_freshW (b : Nat) (w : World) (h0 : w.cell? ⟨b, 0, none⟩ = some (.pointer none)) (hsh : w.shape? b = some (106, 2)) (hfz : w.frozen? ⟨b, 0, none⟩ = false) :
    Calls Tryz.prog 89 #[.pointer (some ⟨b, 0, none⟩)] w fun e w' => e = .returned (.tuple #[]) ∧ w' = w.setCell ⟨b, 0, none⟩ (.pointer (some ⟨b, 0, none⟩)) := by
  obtain ⟨j, hj, hjs⟩ := Option.map_eq_some_iff.1 (show (Tryz.prog.info? 97).map (·.size) = some 2 by kernel_rfl)
  go_enter Tryz.func89, Tryz.ntmps89
  go_wp2
  rw [Lib.run_to_unsafe w ⟨b, 0, none⟩ Tryz.underlying95 Tryz.underlying142 hj (by rw [hjs]; decide) hsh (Nat.zero_lt_succ 1)]
  simp only [Result.andThen]
  rw [Oper.upon_value]
  go_wp2
  rw [run_callFunc_extern Tryz.func110 (by kernel_rfl) (by kernel_rfl) (by kernel_rfl) (e := Extern.AbiNoEscape.same) (by kernel_rfl)]
  rw [Lib.run_noEscape]
  simp only [Result.andThen]
  rw [Oper.upon_value]
  go_wp2
  rw [Lib.run_from_unsafe w ⟨b, 0, none⟩ Tryz.underlying142 Tryz.underlying95 hj hsh (by kernel_rfl)]
  simp only [Result.andThen]
  rw [Oper.upon_value]
  go_wp2
  go_end0
  exact ⟨rfl, rfl⟩
theorem cc_anyW (B b : Nat) (bs : List Value) (w : World) (h : Lib.IsBuilderF 106 5 B b bs w) :
    Calls Tryz.prog 89 #[.pointer (some ⟨b, 0, none⟩)] w fun e w' => e = .returned (.tuple #[]) ∧ (Lib.BuilderAtF 106 5 B b (.pointer (some ⟨b, 0, none⟩)) bs w' ∧ Below B w w' ∧ Lib.OthersKept 5 (some b) w w') := by
  rcases h with h | h
  · refine (cc_freshW b w h.cell0 h.shape h.frozen0).mono ?_
    rintro e w' ⟨rfl, rfl⟩
    exact ⟨rfl, h.used _, (Below.refl B w).setCell (p := ⟨b, 0, none⟩) h.1 _, (Lib.OthersKept.refl _ _ w).setCell ⟨b, 0, none⟩ rfl _⟩
  · refine (cc_usedW b w h.cell0).mono ?_
    rintro e w' ⟨rfl, rfl⟩
    exact ⟨rfl, h, Below.refl B _, Lib.OthersKept.refl _ _ _⟩
set_option maxRecDepth 100000 in
set_option maxHeartbeats 2000000 in
theorem ws_anyW (B b : Nat) (bs : List Value) (s : ByteArray) (w : World) (h : Lib.IsBuilderF 106 5 B b bs w) (hlen : bs.length + s.size ≤ 100000000) (hBw : B ≤ w.heap.size) :
    Calls Tryz.prog 68 #[.pointer (some ⟨b, 0, none⟩), .string s] w fun e w' => e = .returned (.tuple #[.int .i64 s.size, .nilIface]) ∧ (Lib.IsBuilderF 106 5 B b (bs ++ Lib.strCells s) w' ∧ Below B w w' ∧ Lib.OthersKept 5 (some b) w w') := by
  obtain ⟨i0, hi, hz0, hz1, hz2⟩ := info_parts (show (Tryz.prog.info? 5).map (fun i => (i.zero, i.size, i.bytes)) = some (some (.int .u8 0), 1, 1) by kernel_rfl)
  have hK := cc_anyW B b bs w h
  go_enter Tryz.func68, Tryz.ntmps68
  go_wp2_with fail
  refine hK.mono ?_
  rintro e w1 ⟨rfl, h1, hb1, hk1⟩
  obtain ⟨hB, v, hbk, hown, hne⟩ := h1
  have hlt : b < w1.heap.size := (Array.getElem?_eq_some_iff.1 hbk).1
  have c0 : w1.cell? ⟨b, 0, none⟩ = some (.pointer (some ⟨b, 0, none⟩)) := by rw [Lib.cell_of_heap hbk]; rfl
  have c1 : w1.cell? ⟨b, 1, none⟩ = some v := by rw [Lib.cell_of_heap hbk]; rfl
  have hz := hb1.size
  clear hK
  go_wp2_with (at_builtin; refine Lib.wpList_append_own_stringF _ rfl _ _ 44 9 rfl B 5 i0 Tryz.underlying44 Tryz.underlying9 hi hz0 hz1 hz2 _ _ _ rfl hown s rfl (by unfold maxLen; omega) (by omega) (by omega) ?_)
  intro v' w2 hown' hgrow _
  have hb2 : w2.heap[b]? = some (.cells #[.pointer (some ⟨b, 0, none⟩), v] 106 (0, 0)) := by
    rw [hgrow.block b hlt (fun e => hne e.symm)]
    exact hbk
  have d0 : w2.cell? ⟨b, 0, none⟩ = some (.pointer (some ⟨b, 0, none⟩)) := by rw [Lib.cell_of_heap hb2]; rfl
  have d1 : w2.cell? ⟨b, 1, none⟩ = some v := by rw [Lib.cell_of_heap hb2]; rfl
  have f1 : w2.frozen? ⟨b, 1, none⟩ = false := Lib.frozen_of_heap hb2 1
  obtain ⟨ao, n', cap, rfl⟩ : ∃ ao n' cap, v' = .slice ao n' cap := by
    rcases hown'.2 with ⟨hv, _⟩ | ⟨g, cap, cur, fz, hv, _⟩
    · exact ⟨_, _, _, hv⟩
    · exact ⟨_, _, _, hv⟩
  have hO2 := Lib.hid (hk1.grown hgrow (Lib.ownsRowF_kind hown))
  have hB2 := Lib.hid (hb1.grown hgrow (by have := hb1.size; omega) (fun k hk => (hown.lt k hk).1))
  have hOW := Lib.hid hown'
  have HB2 := Lib.hid hb2
  clear hgrow hown' hown hb2 hbk c0 c1
  go_wp2_with fail
  go_ret2
  exact ⟨rfl, .inr (Lib.BuilderAtF.put (T := 106) (e := 5) hB HB2.out (bs' := bs ++ Lib.strCells s) (by simpa [Lib.strCells_length] using hOW.out) (by decide)), hB2.out.setCell (p := ⟨b, 1, none⟩) hB _, hO2.out.setCell ⟨b, 1, none⟩ rfl _⟩
/-- A builder stays where only new blocks come, and where a block that holds no cells is turned. -/
theorem bld_moveW {B b : Nat} {bs : List Value} {W W' : World} (h : Lib.IsBuilderF 106 5 B b bs W) (hk : ∀ (g : Nat) (cur : Array Value) (t : TypeId) (fz : Nat × Nat), W.heap[g]? = some (Obj.cells cur t fz) → W'.heap[g]? = W.heap[g]?) : Lib.IsBuilderF 106 5 B b bs W' := by
  have one : ∀ p, Lib.BuilderAtF 106 5 B b p bs W → Lib.BuilderAtF 106 5 B b p bs W' := by
    rintro p ⟨hB, v, hb, ⟨hl, ho⟩, hne⟩
    refine ⟨hB, v, (hk _ _ _ _ hb).trans hb, ⟨hl, ?_⟩, hne⟩
    rcases ho with ho | ⟨g, cap, cur, fz, e, h0, h1, r⟩
    · exact .inl ho
    · exact .inr ⟨g, cap, cur, fz, e, h0, (hk _ _ _ _ h1).trans h1, r⟩
  rcases h with h | h
  · exact .inl (one _ h)
  · exact .inr (one _ h)
theorem bld_laterW {B b : Nat} {bs : List Value} {W W' : World} (h : Lib.IsBuilderF 106 5 B b bs W) (hb : Below W.heap.size W W') : Lib.IsBuilderF 106 5 B b bs W' :=
  bld_moveW h fun g cur t fz hg => hb.block g (Array.getElem?_eq_some_iff.1 hg).1
theorem bld_ltW {B b : Nat} {bs : List Value} {W : World} (h : Lib.IsBuilderF 106 5 B b bs W) : b < W.heap.size := by
  rcases h with h | h <;> exact h.lt
theorem bld_geW {B b : Nat} {bs : List Value} {W : World} (h : Lib.IsBuilderF 106 5 B b bs W) : B ≤ b := by
  rcases h with h | h <;> exact h.1
set_option maxHeartbeats 1000000 in
set_option maxRecDepth 100000 in
theorem str_anyW (B b : Nat) (l : List UInt8) (w : World) (h : Lib.IsBuilderF 106 5 B b (Lib.byteCells l) w) (h0 : l ≠ []) :
    Calls Tryz.prog 70 #[.pointer (some ⟨b, 0, none⟩)] w fun e w' => e = .returned (.string ⟨l.toArray⟩) ∧ Below B w w' := by
  obtain ⟨p, hAt⟩ : ∃ p, Lib.BuilderAtF 106 5 B b p (Lib.byteCells l) w := by
    rcases h with h | h
    · exact ⟨_, h⟩
    · exact ⟨_, h⟩
  obtain ⟨hB, v, hbk, hown, hne⟩ := hAt
  have hl0 : l.length ≠ 0 := by simpa using h0
  rw [Lib.byteCells_length] at hown
  rcases hown.2 with ⟨_, hz⟩ | ⟨g, cap, cur, fz, rfl, hbg, hg, hfz, hnc, hcm, hcs, htake⟩
  · exact absurd hz hl0
  have c1 : w.drew.cell? ⟨b, 1, none⟩ = some (.slice (some ⟨g, 0, none⟩) l.length cap) := by
    have : w.drew.heap[b]? = some (.cells #[p, .slice (some ⟨g, 0, none⟩) l.length cap] 106 (0, 0)) := hbk
    rw [Lib.cell_of_heap this]; rfl
  have hSD : (Builtin.unsafeSliceData_ #[44] 128 #[.slice (some ⟨g, 0, none⟩) l.length cap]).run Tryz.prog w.drew = .ok (.pointer (some ⟨g, 0, none⟩)) w.drew :=
    Lib.run_unsafeSliceData_row _ _ _ _ _ _ (by omega)
  have hUS : (Builtin.unsafeString_ #[128, 3] 9 #[.pointer (some ⟨g, 0, none⟩), .int .i64 l.length]).run Tryz.prog w.drew = .ok (.string ⟨l.toArray⟩) (w.drew.freeze ⟨g, 0, none⟩ l.length) := by
    refine Lib.run_unsafeString_row w.drew 128 3 9 5 Tryz.underlying128 (by kernel_rfl) g cur.size (by have hg' : w.drew.heap[g]? = some (.cells cur 5 fz) := hg; simp [World.shape?, hg']) l h0 (by omega) (by unfold maxLen at hcm; omega) ?_
    intro j x hx
    have := hown.cells (g := g) rfl j (.int .u8 x.toNat) (by simp [Lib.byteCells, hx])
    exact this
  have mixed : Tryz.prog.follows Departure.mixedOrders = true := by kernel_rfl
  go_enter Tryz.func70, Tryz.ntmps70
  go_wp2
  go_region_o
  all_goals (go_wp2; go_ret; exact ⟨rfl, Lib.below_freeze (Below.drew (Below.refl B w)) (p := ⟨g, 0, none⟩) hbg _⟩)
end Go.Proofs.YtagaaeolgecdmaaGreatDoor

namespace Go.Proofs.YtagaaeolgecdmaaGreatDoor
open Go.Joins Go.ChangeShapes Go.WideShapes Go.ChangeAt Go.RowKit Go.Deep
set_option linter.unusedVariables false
set_option linter.unusedSimpArgs false

theorem strCells_app (a b : ByteArray) : Lib.strCells (a ++ b) = Lib.strCells a ++ Lib.strCells b := by simp [Lib.strCells, ByteArray.data_append]
/-- The builder in block b holds these bytes. -/
def BdW (B b : Nat) (bs : List Value) (w : World) : Prop := Lib.IsBuilderF 106 5 B b bs w
theorem BdW.lt {B b : Nat} {bs : List Value} {w : World} (h : BdW B b bs w) : b < w.heap.size := bld_ltW h
theorem BdW.ge {B b : Nat} {bs : List Value} {w : World} (h : BdW B b bs w) : B ≤ b := bld_geW h
theorem BdW.later {B b : Nat} {bs : List Value} {w w' : World} (h : BdW B b bs w) (hb : Below w.heap.size w w') : BdW B b bs w' := bld_laterW h hb
theorem others_later {b : Option Nat} {w w' : World} (hb : Below w.heap.size w w') : Lib.OthersKept 5 b w w' := fun k o hk _ _ => (hb.block k (Array.getElem?_eq_some_iff.1 hk).1).trans hk
/-- The builder in block b has got these bytes more. -/
def AddW (B b : Nat) (bs : List Value) (s : ByteArray) (w w' : World) : Prop := BdW B b (bs ++ Lib.strCells s) w' ∧ Below B w w' ∧ Lib.OthersKept 5 (some b) w w'
theorem AddW.size {B b : Nat} {bs : List Value} {s : ByteArray} {w w' : World} (h : AddW B b bs s w w') : w.heap.size ≤ w'.heap.size := h.2.1.size
theorem AddW.none {B b : Nat} {bs : List Value} {w : World} (h : BdW B b bs w) : AddW B b bs ⟨#[]⟩ w w := ⟨by rw [show Lib.strCells ⟨#[]⟩ = [] from rfl, List.append_nil]; exact h, Below.refl _ _, Lib.OthersKept.refl _ _ _⟩
theorem AddW.trans {B b : Nat} {bs : List Value} {s s2 : ByteArray} {w w1 w2 : World} (h : AddW B b bs s w w1) (h2 : AddW B b (bs ++ Lib.strCells s) s2 w1 w2) : AddW B b bs (s ++ s2) w w2 :=
  ⟨by rw [strCells_app, ← List.append_assoc]; exact h2.1, h.2.1.trans h2.2.1, h.2.2.trans h2.2.2⟩
theorem AddW.before {B b : Nat} {bs : List Value} {s : ByteArray} {w w1 w2 : World} (hb : Below w.heap.size w w1) (hB : B ≤ w.heap.size) (h : AddW B b bs s w1 w2) : AddW B b bs s w w2 :=
  ⟨h.1, (hb.mono hB).trans h.2.1, (others_later hb).trans h.2.2⟩
theorem AddW.after {B b : Nat} {bs : List Value} {s : ByteArray} {w w1 w2 : World} (h : AddW B b bs s w w1) (hB : B ≤ w.heap.size) (hb : Below w1.heap.size w1 w2) : AddW B b bs s w w2 :=
  ⟨h.1.later hb, h.2.1.trans (hb.mono (Nat.le_trans hB h.size)), h.2.2.trans (others_later hb)⟩
/-- A cell of a block of another kind stands. -/
theorem AddW.cell {B b : Nat} {bs : List Value} {s : ByteArray} {w w' : World} (h : AddW B b bs s w w') {p : Addr} (hne : p.block ≠ b) {c : Array Value} {T : TypeId} {fz : Nat × Nat} (hk : w.heap[p.block]? = some (.cells c T fz)) (hT : T ≠ 5) : w'.cell? p = w.cell? p :=
  World.cell?_of_block ((h.2.2 _ _ hk (fun e => hne (by injection e)) (fun c' fz' e => by injection e with _ e1 _; exact hT e1)).trans hk.symm)
theorem AddW.block {B b : Nat} {bs : List Value} {s : ByteArray} {w w' : World} (h : AddW B b bs s w w') {k : Nat} (hne : k ≠ b) {c : Array Value} {T : TypeId} {fz : Nat × Nat} (hk : w.heap[k]? = some (.cells c T fz)) (hT : T ≠ 5) : w'.heap[k]? = some (.cells c T fz) :=
  h.2.2 _ _ hk (fun e => hne (by injection e)) (fun c' fz' e => by injection e with _ e1 _; exact hT e1)
/-- Whatever is made from block B on, the library's table of powers stands. -/
def TabB (B : Nat) (w0 : World) : Prop := Lib.TabBelow Tryz.prog B w0 "internal/strconv.uint64pow10" .u64 Lib.pow10Tab
theorem TabB.of {B : Nat} {w0 : World} (h : Tab w0) (hB : w0.heap.size ≤ B) : TabB B w0 := fun w' h' => h w' (h'.mono hB)
def itoaB (n : Int) : ByteArray := ⟨(Lib.itoa n).toArray⟩
def q39 (s : ByteArray) : ByteArray := (⟨#[39]⟩ ++ s) ++ ⟨#[39]⟩
theorem itoaI (n : Int) (w : World) (hT : Lib.TabIs Tryz.prog w "internal/strconv.uint64pow10" .u64 Lib.pow10Tab) (h0 : -9223372036854775808 ≤ n) (h1 : n ≤ 9223372036854775807) :
    Calls Tryz.prog 112 #[.int .i64 n] w fun e w' => e = .returned (.string (itoaB n)) ∧ Below w.heap.size w w' :=
  (Tryz.strconv_Itoa n h0 h1 w hT).mono fun e w' ⟨he, k, os, hw⟩ => ⟨he, by rw [hw]; exact below_grow w k os⟩
theorem ws_add (B b : Nat) (bs : List Value) (s : ByteArray) (w : World) (h : BdW B b bs w) (hlen : bs.length + s.size ≤ 100000000) :
    Calls Tryz.prog 68 #[.pointer (some ⟨b, 0, none⟩), .string s] w fun e w' => e = .returned (.tuple #[.int .i64 s.size, .nilIface]) ∧ AddW B b bs s w w' :=
  ws_anyW B b bs s w h hlen (by have := h.lt; have := h.ge; omega)
set_option maxHeartbeats 1000000 in
set_option maxRecDepth 100000 in
theorem quotedW_any (B b : Nat) (bs : List Value) (s : ByteArray) (w : World) (h : BdW B b bs w) (hlen : bs.length + s.size + 2 ≤ 100000000) :
    Calls Tryz.prog 91 #[.pointer (some ⟨b, 0, none⟩), .string s] w fun e w' => e = .returned (.tuple #[]) ∧ AddW B b bs (q39 s) w w' := by
  have K := Lib.hid (ws_add B b bs (q39 s) w h (by unfold q39; rw [ByteArray.size_append, ByteArray.size_append]; show bs.length + (1 + s.size + 1) ≤ _; omega))
  have n1 : ¬ 9223372036854775807 < 1 + s.size := by omega
  have n2 : ¬ 9223372036854775807 < 1 + s.size + 1 := by omega
  unfold q39 at K ⊢
  clear h hlen
  go_enter Tryz.func91, Tryz.ntmps91
  go_wp2_with fail
  refine K.out.mono ?_
  rintro e w' ⟨rfl, ha⟩
  have HA := Lib.hid ha
  clear ha K
  go_wp2_with fail
  go_end0
  exact ⟨rfl, HA.out⟩
set_option maxHeartbeats 1000000 in
set_option maxRecDepth 100000 in
theorem numberW_any (B b : Nat) (bs : List Value) (sg : ByteArray) (n : Int) (w0 w : World) (hT : TabB B w0) (hb0 : Below B w0 w) (h : BdW B b bs w) (h0 : -9223372036854775808 ≤ n) (h1 : n ≤ 9223372036854775807) (hlen : bs.length + sg.size + (itoaB n).size ≤ 100000000) :
    Calls Tryz.prog 92 #[.pointer (some ⟨b, 0, none⟩), .string sg, .int .i64 n] w fun e w' => e = .returned (.tuple #[]) ∧ AddW B b bs (sg ++ itoaB n) w w' := by
  have hBs : B ≤ w.heap.size := by have := h.lt; have := h.ge; omega
  have KI := Lib.hid (fun w1 (hb : Below w.heap.size w w1) => itoaI n w1 (hT w1 (hb0.trans (hb.mono hBs))) h0 h1)
  have KS := Lib.hid (fun w1 (hb : Below w.heap.size w w1) => ws_add B b bs (sg ++ itoaB n) w1 (h.later hb) (by rw [ByteArray.size_append]; omega))
  obtain ⟨u, hu⟩ : ∃ u, itoaB n = u := ⟨_, rfl⟩
  rw [hu] at KI KS hlen ⊢
  have n1 : ¬ 9223372036854775807 < sg.size + u.size := by omega
  have hB : Below w.heap.size w w := Below.refl _ _
  clear h hlen hb0 hT hu h0 h1
  go_enter Tryz.func92, Tryz.ntmps92
  go_wp2_with fail
  go_region_held3 (fun w' => True) (trivial) (first | (go_at_call 112; ((with_reducible refine (KI.out _ (by go_grown)).mono ?_); rintro e w' ⟨rfl, hb⟩; replace hB := more (W1 := _) (B := w.heap.size) (W0 := w) (by go_grown) (Nat.le_refl _) hb; clear hb)) | (go_at_call 68; ((with_reducible refine (KS.out _ (by go_grown)).mono ?_); rintro e w' ⟨rfl, ha⟩; have HA := Lib.hid (AddW.before (by go_grown) hBs ha); clear ha)))
  go_wp2_with fail
  go_end0
  exact ⟨rfl, HA.out⟩
/-- A value as a word. -/
def valW (k n : Int) (s : ByteArray) : ByteArray := if k = 1 then itoaB n else if k = 2 then q39 s else ⟨#[45]⟩
theorem ba_nilL (s : ByteArray) : (⟨#[]⟩ : ByteArray) ++ s = s := by apply ByteArray.ext; simp [ByteArray.data_append]
set_option maxHeartbeats 1000000 in
set_option maxRecDepth 100000 in
theorem valueW_any (B b : Nat) (bs : List Value) (k n : Int) (s : ByteArray) (w0 w : World) (hT : TabB B w0) (hb0 : Below B w0 w) (h : BdW B b bs w) (hv : validB k n s = true) (hlen : bs.length + (valW k n s).size ≤ 100000000) :
    Calls Tryz.prog 93 #[.pointer (some ⟨b, 0, none⟩), .agg #[.int .i64 k, .int .i64 n, .string s]] w fun e w' => e = .returned (.tuple #[]) ∧ AddW B b bs (valW k n s) w w' := by
  have hBs : B ≤ w.heap.size := by have := h.lt; have := h.ge; omega
  have hbx := Below.alloc (Below.refl w.heap.size w) (Nat.le_refl _) (.cells #[.int .i64 k, .int .i64 n, .string s] 86)
  have HBX := Lib.hid hbx
  have HD := Lib.hid (h.later hbx)
  have HB1 := Lib.hid (hb0.trans (hbx.mono hBs))
  clear h hb0 hbx
  rcases valid_ways hv with ⟨rfl, rfl, he⟩ | ⟨rfl, g1, g2, he⟩ | ⟨rfl, rfl, he⟩
  · have K := Lib.hid (ws_add B b bs ⟨#[45]⟩ _ HD.out hlen)
    go_enter Tryz.func93, Tryz.ntmps93
    go_wp2_with fail
    refine K.out.mono ?_
    rintro e w' ⟨rfl, ha⟩
    have HA := Lib.hid (AddW.before HBX.out hBs ha)
    clear ha K
    go_wp2_with fail
    go_end0
    exact ⟨rfl, HA.out⟩
  · have K := Lib.hid (numberW_any B b bs ⟨#[]⟩ n w0 _ hT HB1.out HD.out (by omega) (by omega) (by show bs.length + 0 + _ ≤ _; have : valW 1 n s = itoaB n := rfl; rw [this] at hlen; omega))
    rw [ba_nilL] at K
    go_enter Tryz.func93, Tryz.ntmps93
    go_wp2_with fail
    refine K.out.mono ?_
    rintro e w' ⟨rfl, ha⟩
    have HA := Lib.hid (AddW.before HBX.out hBs ha)
    clear ha K
    go_wp2_with fail
    go_end0
    exact ⟨rfl, HA.out⟩
  · have K := Lib.hid (quotedW_any B b bs s _ HD.out (by have : valW 2 0 s = q39 s := rfl; rw [this] at hlen; unfold q39 at hlen; rw [ByteArray.size_append, ByteArray.size_append] at hlen; have e : (⟨#[39]⟩ : ByteArray).size = 1 := rfl; omega))
    go_enter Tryz.func93, Tryz.ntmps93
    go_wp2_with fail
    refine K.out.mono ?_
    rintro e w' ⟨rfl, ha⟩
    have HA := Lib.hid (AddW.before HBX.out hBs ha)
    clear ha K
    go_wp2_with fail
    go_end0
    exact ⟨rfl, HA.out⟩
end Go.Proofs.YtagaaeolgecdmaaGreatDoor

namespace Go.Proofs.YtagaaeolgecdmaaGreatDoor
open Go.Joins Go.ChangeShapes Go.WideShapes Go.ChangeAt Go.RowKit Go.Deep
set_option linter.unusedVariables false
set_option linter.unusedSimpArgs false

def prW (p : Pr) : ByteArray := (((⟨#[32, 112]⟩ : ByteArray) ++ itoaB p.nm) ++ ⟨#[61]⟩) ++ valW p.v.k p.v.n p.v.s
def prsW : List Pr → ByteArray
  | [] => ⟨#[]⟩
  | p :: ps => prW p ++ prsW ps
def headW (tag key : Int) : ByteArray := if key = -1 then (⟨#[40, 116]⟩ : ByteArray) ++ itoaB tag else ((⟨#[40, 116]⟩ : ByteArray) ++ itoaB tag) ++ (⟨#[32, 107]⟩ ++ itoaB key)
mutual
  /-- A tree as a text. -/
  def wordsT : Tr → ByteArray
    | .mk tag key text ps ks => if tag = -1 then q39 text else ((headW tag key ++ prsW ps) ++ kidsW ks) ++ ⟨#[41]⟩
  def kidsW : List Tr → ByteArray
    | [] => ⟨#[]⟩
    | x :: xs => (⟨#[32]⟩ ++ wordsT x) ++ kidsW xs
end
theorem prsW_drop {ps : List Pr} {k : Nat} {x : Pr} (hx : ps[k]? = some x) : prsW (ps.drop k) = prW x ++ prsW (ps.drop (k + 1)) := by
  obtain ⟨hk, he⟩ := List.getElem?_eq_some_iff.1 hx
  rw [List.drop_eq_getElem_cons hk, he]
  simp only [prsW]
theorem kidsW_drop {ks : List Tr} {k : Nat} {x : Tr} (hx : ks[k]? = some x) : kidsW (ks.drop k) = (⟨#[32]⟩ ++ wordsT x) ++ kidsW (ks.drop (k + 1)) := by
  obtain ⟨hk, he⟩ := List.getElem?_eq_some_iff.1 hx
  rw [List.drop_eq_getElem_cons hk, he]
  simp only [kidsW]
theorem wordsT_eq (t : Tr) : wordsT t = if t.tag = -1 then q39 t.text else ((headW t.tag t.key ++ prsW t.ps) ++ kidsW t.ks) ++ ⟨#[41]⟩ := by
  obtain ⟨_, _, _, _, _⟩ := t
  simp only [wordsT, Tr.ks, Tr.text, Tr.tag, Tr.key, Tr.ps]
  rfl
theorem wordsT_text {t : Tr} (h : t.tag = -1) : wordsT t = q39 t.text := by rw [wordsT_eq, if_pos h]
theorem wordsT_elem {t : Tr} (h : ¬ t.tag = -1) : wordsT t = ((headW t.tag t.key ++ prsW t.ps) ++ kidsW t.ks) ++ ⟨#[41]⟩ := by rw [wordsT_eq, if_neg h]
theorem q39_size (s : ByteArray) : (q39 s).size = s.size + 2 := by
  unfold q39
  rw [ByteArray.size_append, ByteArray.size_append]
  have e : (⟨#[39]⟩ : ByteArray).size = 1 := rfl
  omega
theorem itoaB_size (n : Int) (h0 : -9223372036854775807 ≤ n) (h1 : n ≤ 9223372036854775807) : (itoaB n).size ≤ 21 := by
  have e : (itoaB n).size = (Lib.itoa n).length := by unfold itoaB; exact List.size_toArray
  rw [e]
  unfold Lib.itoa
  split
  · have := dec_len20 n.natAbs (by omega)
    simp only [List.length_cons]
    omega
  · have := dec_len20 n.toNat (by omega)
    omega
/-- A prop of a valid part. -/
def PrOk (x : Pr) : Prop := 0 ≤ x.nm ∧ x.nm ≤ 3 ∧ validB x.v.k x.v.n x.v.s = true
theorem runP_ok : ∀ (xs : List Pr) (q : Option Int), runP q xs = true → ∀ x ∈ xs, PrOk x
  | [], _, _, x, hx => by cases hx
  | y :: ys, q, h, x, hx => by
    simp only [runP, Bool.and_eq_true] at h
    obtain ⟨h1, h2⟩ := h
    rw [prB_is, Bool.and_eq_true, Bool.and_eq_true] at h1
    have h3 := of_decide_eq_true h1.1
    rcases List.mem_cons.1 hx with rfl | hx
    · exact ⟨h3.1, h3.2, h1.2.1⟩
    · exact runP_ok ys _ h2 x hx
theorem runP_len : ∀ (xs : List Pr) (q : Int), runP (some q) xs = true → -1 ≤ q → q ≤ 3 → xs.length ≤ (3 - q).toNat
  | [], _, _, _, _ => by simp
  | y :: ys, q, h, h0, hq => by
    simp only [runP, Bool.and_eq_true] at h
    obtain ⟨h1, h2⟩ := h
    rw [prB_is, Bool.and_eq_true, Bool.and_eq_true] at h1
    have h3 := of_decide_eq_true h1.1
    have h4 : q < y.nm := by have := h1.2.2; unfold nxtN at this; exact of_decide_eq_true this
    have := runP_len ys y.nm h2 (by omega) (by omega)
    simp only [List.length_cons]
    omega
theorem runP_len4 {xs : List Pr} (h : runP none xs = true) : xs.length ≤ 4 := by
  cases xs with
  | nil => simp
  | cons y ys =>
    simp only [runP, Bool.and_eq_true] at h
    obtain ⟨h1, h2⟩ := h
    rw [prB_is, Bool.and_eq_true, Bool.and_eq_true] at h1
    have h3 := of_decide_eq_true h1.1
    have := runP_len ys y.nm h2 (by omega) (by omega)
    simp only [List.length_cons]
    omega
theorem valW_size {k n : Int} {s : ByteArray} (h : validB k n s = true) : (valW k n s).size ≤ 30 := by
  rcases valid_ways h with ⟨rfl, rfl, he⟩ | ⟨rfl, g1, g2, he⟩ | ⟨rfl, rfl, he⟩
  · exact (by decide : (⟨#[45]⟩ : ByteArray).size ≤ 30)
  · have := itoaB_size n (by omega) (by omega)
    have e : valW 1 n s = itoaB n := rfl
    rw [e]; omega
  · have e : valW 2 0 s = q39 s := rfl
    rw [e, q39_size]
    unfold wordB at he
    rw [Bool.and_eq_true] at he
    have := of_decide_eq_true he.1
    omega
theorem prW_size {x : Pr} (h : PrOk x) : (prW x).size ≤ 60 := by
  have h1 := valW_size h.2.2
  have h2 := itoaB_size x.nm (by have := h.1; omega) (by have := h.2.1; omega)
  unfold prW
  rw [ByteArray.size_append, ByteArray.size_append, ByteArray.size_append]
  have e1 : (⟨#[32, 112]⟩ : ByteArray).size = 2 := rfl
  have e2 : (⟨#[61]⟩ : ByteArray).size = 1 := rfl
  omega
theorem prsW_size : ∀ xs : List Pr, (∀ x ∈ xs, PrOk x) → (prsW xs).size ≤ 60 * xs.length
  | [], _ => by
    have e : prsW [] = ⟨#[]⟩ := rfl
    rw [e]
    exact Nat.zero_le _
  | x :: xs, h => by
    have e : prsW (x :: xs) = prW x ++ prsW xs := rfl
    have h1 := prW_size (h x (by simp))
    have h2 := prsW_size xs (fun y hy => h y (List.mem_cons_of_mem _ hy))
    rw [e, ByteArray.size_append, List.length_cons]
    omega
/-- A part of a valid tree: a text, or an element. -/
theorem node_ok {t : Tr} (h : treeOkB t = true) : (t.tag = -1 ∧ t.text.size ≤ 1000) ∨ (¬ t.tag = -1 ∧ 0 ≤ t.tag ∧ t.tag ≤ 4 ∧ -1 ≤ t.key ∧ t.key ≤ 99 ∧ runP none t.ps = true) := by
  unfold treeOkB at h
  rw [Bool.and_eq_true, vpT_eq, Bool.and_eq_true] at h
  have h1 := h.2.1
  by_cases ht : t.tag = -1
  · rw [partB_text ht] at h1
    simp only [Bool.and_eq_true] at h1
    refine .inl ⟨ht, ?_⟩
    have h2 := h1.2.1
    unfold shownB at h2
    rw [Bool.or_eq_true] at h2
    rcases h2 with h2 | h2
    · unfold wordB at h2
      rw [Bool.and_eq_true] at h2
      have := of_decide_eq_true h2.1
      omega
    · obtain ⟨i, hi, he⟩ := List.any_eq_true.1 h2
      have hi := List.mem_range.1 hi
      have he := of_decide_eq_true he
      have hz := itoaB_size (-((i + 1 : Nat) : Int)) (by omega) (by omega)
      have e : negS (i + 1) = itoaB (-((i + 1 : Nat) : Int)) := rfl
      rw [he, e]
      omega
  · rw [partB_elem ht] at h1
    simp only [Bool.and_eq_true] at h1
    have a1 := of_decide_eq_true h1.1
    have a2 := of_decide_eq_true h1.2.1
    exact .inr ⟨ht, a1.1, a1.2, a2.1, a2.2, h1.2.2.2.1⟩
theorem headW_size {tag key : Int} (h0 : 0 ≤ tag) (h1 : tag ≤ 4) (h2 : -1 ≤ key) (h3 : key ≤ 99) : (headW tag key).size ≤ 50 := by
  have a1 := itoaB_size tag (by omega) (by omega)
  have a2 := itoaB_size key (by omega) (by omega)
  have e1 : (⟨#[40, 116]⟩ : ByteArray).size = 2 := rfl
  have e2 : (⟨#[32, 107]⟩ : ByteArray).size = 2 := rfl
  unfold headW
  split
  · rw [ByteArray.size_append]; omega
  · rw [ByteArray.size_append, ByteArray.size_append, ByteArray.size_append]; omega
theorem kidsW_size : ∀ ks : List Tr, (∀ x ∈ ks, (wordsT x).size + 1 ≤ 1100 * sizeT x) → (kidsW ks).size ≤ 1100 * sizeL ks
  | [], _ => by
    have e : kidsW [] = ⟨#[]⟩ := by simp only [kidsW]
    rw [e]
    exact Nat.zero_le _
  | x :: xs, h => by
    have e1 : kidsW (x :: xs) = (⟨#[32]⟩ ++ wordsT x) ++ kidsW xs := by simp only [kidsW]
    have e2 : sizeL (x :: xs) = sizeT x + sizeL xs := by simp only [sizeL]
    have h1 := h x (by simp)
    have h2 := kidsW_size xs (fun y hy => h y (List.mem_cons_of_mem _ hy))
    have e3 : (⟨#[32]⟩ : ByteArray).size = 1 := rfl
    rw [e1, e2, ByteArray.size_append, ByteArray.size_append]
    omega
theorem wordsT_size : ∀ t, treeOkB t = true → (wordsT t).size + 1 ≤ 1100 * sizeT t := Tr.by_kids fun t ih h => by
  have h2 := kidsW_size t.ks (fun x hx => ih x hx (kid_valid h hx))
  rw [sizeT_eq]
  rcases node_ok h with ⟨h0, h1⟩ | ⟨h0, a0, a1, a2, a3, a4⟩
  · rw [wordsT_text h0, q39_size]
    omega
  · have h3 := headW_size a0 a1 a2 a3
    have h4 := prsW_size t.ps (runP_ok _ _ a4)
    have h5 := runP_len4 a4
    have e : (⟨#[41]⟩ : ByteArray).size = 1 := rfl
    rw [wordsT_elem h0, ByteArray.size_append, ByteArray.size_append, ByteArray.size_append]
    omega
/-- A valid tree's text has no more than 220,000 bytes. -/
theorem wordsT_max {t : Tr} (h : treeOkB t = true) : (wordsT t).size ≤ 220000 := by
  have h1 := wordsT_size t h
  obtain ⟨_, _, h2⟩ := treeB_yes (show treeB shownB t = true from h)
  omega
theorem wordsT_pos (t : Tr) : 0 < (wordsT t).size := by
  rw [wordsT_eq]
  split
  · rw [q39_size]; omega
  · rw [ByteArray.size_append]
    have e : (⟨#[41]⟩ : ByteArray).size = 1 := rfl
    omega
end Go.Proofs.YtagaaeolgecdmaaGreatDoor

namespace Go.Proofs.YtagaaeolgecdmaaGreatDoor
open Go.Joins Go.ChangeShapes Go.WideShapes Go.ChangeAt Go.RowKit Go.Deep
set_option linter.unusedVariables false
set_option linter.unusedSimpArgs false

theorem ba_nilR (s : ByteArray) : s ++ (⟨#[]⟩ : ByteArray) = s := by apply ByteArray.ext; simp [ByteArray.data_append]
def WtC (t : Tr) : Prop := ∀ (A0 A1 : Option Addr) (c0 c1 B b : Nat) (bs : List Value) (w0 w : World), TabB B w0 → w0.heap.size ≤ B → Below B w0 w → BdW B b bs w → PrL w0 A0 t.ps → TrL w0 0 A1 t.ks → bs.length + (wordsT t).size ≤ 100000000 →
  Calls Tryz.prog 71 #[.pointer (some ⟨b, 0, none⟩), .agg #[.int .i64 t.tag, .int .i64 t.key, .string t.text, .slice A0 t.ps.length c0, .slice A1 t.ks.length c1]] w fun e w' => e = .returned (.tuple #[]) ∧ AddW B b bs (wordsT t) w w'
theorem kd_new (w : World) (c : Array Value) (T : TypeId) : ∃ c' fz, (w.alloc (.cells c T)).heap[w.heap.size]? = some (.cells c' T fz) := ⟨c, (0, 0), World.alloc_heap_new w _⟩
theorem kd_set {w : World} {k : Nat} {T : TypeId} {p : Addr} {v : Value} (h : ∃ c fz, w.heap[k]? = some (.cells c T fz)) : ∃ c fz, (w.setCell p v).heap[k]? = some (.cells c T fz) := by
  obtain ⟨c, fz, h⟩ := h
  by_cases e : p.block = k
  · subst e
    refine ⟨if p.spot.isSome then c else c.setIfInBounds p.off v, fz, ?_⟩
    simp [World.setCell, Array.getElem?_modify, h]
  · exact ⟨c, fz, by simp [World.setCell, Array.getElem?_modify, e, h]⟩
theorem AddW.cellK {B b : Nat} {bs : List Value} {s : ByteArray} {w w' : World} (h : AddW B b bs s w w') {p : Addr} (hne : p.block ≠ b) {T : TypeId} (hk : ∃ c fz, w.heap[p.block]? = some (.cells c T fz)) (hT : T ≠ 5) : w'.cell? p = w.cell? p := by
  obtain ⟨c, fz, hk⟩ := hk
  exact h.cell hne hk hT
theorem AddW.kd {B b : Nat} {bs : List Value} {s : ByteArray} {w w' : World} (h : AddW B b bs s w w') {k : Nat} (hne : k ≠ b) {T : TypeId} (hk : ∃ c fz, w.heap[k]? = some (.cells c T fz)) (hT : T ≠ 5) : ∃ c fz, w'.heap[k]? = some (.cells c T fz) := by
  obtain ⟨c, fz, hk⟩ := hk
  exact ⟨c, fz, h.block hne hk hT⟩
set_option maxRecDepth 100000 in
set_option maxHeartbeats 2000000 in
theorem itree_any (t : Tr) : SmT t → treeOkB t = true → WtC t := by
  induction t using Tr.by_kids with
  | h t ih =>
  intro hsm hok A0 A1 c0 c1 B b bs w0 w hT hsz hb0 hbd hp hk hlen
  obtain ⟨s0, s1, s2, s3, s4⟩ := hsm.open_
  have hn := node_ok hok
  have ihk := fun x hx => ih x hx (s4 x hx) (kid_valid hok hx)
  have hblt := hbd.lt
  have hbge := hbd.ge
  have hBs : B ≤ w.heap.size := by omega
  have hwt := @wordsT_text t
  have hwe := @wordsT_elem t
  obtain ⟨tag, key, text, ps, ks⟩ := t
  dsimp only [Tr.tag, Tr.key, Tr.text, Tr.ps, Tr.ks] at *
  obtain ⟨np, hnp⟩ : ∃ q, ps.length = q := ⟨_, rfl⟩
  obtain ⟨nk, hnk⟩ : ∃ q, ks.length = q := ⟨_, rfl⟩
  rw [hnp] at s1 ⊢
  rw [hnk] at s3 ⊢
  unfold maxLen at s1 s3
  have hbx := Below.alloc (Below.refl w.heap.size w) (Nat.le_refl _) (.cells #[.int .i64 tag, .int .i64 key, .string text, .slice A0 np c0, .slice A1 nk c1] 32)
  have hkx : (w.alloc (.cells #[.int .i64 tag, .int .i64 key, .string text, .slice A0 np c0, .slice A1 nk c1] 32)).heap[w.heap.size]? = some (.cells #[.int .i64 tag, .int .i64 key, .string text, .slice A0 np c0, .slice A1 nk c1] 32) := World.alloc_heap_new w _
  have HD := Lib.hid (hbd.later hbx)
  have HB := Lib.hid (hb0.trans (hbx.mono hBs))
  have hxb : w.heap.size ≠ b := by omega
  have o0 : (w.alloc (.cells #[.int .i64 tag, .int .i64 key, .string text, .slice A0 np c0, .slice A1 nk c1] 32)).cell? ⟨w.heap.size, 0, none⟩ = some (.int .i64 tag) := by go_simp
  have o1 : (w.alloc (.cells #[.int .i64 tag, .int .i64 key, .string text, .slice A0 np c0, .slice A1 nk c1] 32)).cell? ⟨w.heap.size, 1, none⟩ = some (.int .i64 key) := by go_simp
  have o2 : (w.alloc (.cells #[.int .i64 tag, .int .i64 key, .string text, .slice A0 np c0, .slice A1 nk c1] 32)).cell? ⟨w.heap.size, 2, none⟩ = some (.string text) := by go_simp
  have o3 : (w.alloc (.cells #[.int .i64 tag, .int .i64 key, .string text, .slice A0 np c0, .slice A1 nk c1] 32)).cell? ⟨w.heap.size, 3, none⟩ = some (.slice A0 np c0) := by go_simp
  have o4 : (w.alloc (.cells #[.int .i64 tag, .int .i64 key, .string text, .slice A0 np c0, .slice A1 nk c1] 32)).cell? ⟨w.heap.size, 4, none⟩ = some (.slice A1 nk c1) := by go_simp
  have HBX := Lib.hid hbx
  have HKX := Lib.hid hkx
  have HP := Lib.hid hp
  have HK := Lib.hid hk
  have HI := Lib.hid ihk
  have HT := Lib.hid hT
  have HNP := Lib.hid hnp
  have HNK := Lib.hid hnk
  clear hbd hb0 hbx hkx hp hk ih ihk hT hnp hnk hok hsm s0 s2 s4
  generalize wordsT (.mk tag key text ps ks) = wd at hwt hwe hlen ⊢
  obtain ⟨wx, hwx⟩ : ∃ wx, (w.alloc (.cells #[.int .i64 tag, .int .i64 key, .string text, .slice A0 np c0, .slice A1 nk c1] 32)) = wx := ⟨_, rfl⟩
  rw [hwx] at HD HB HBX HKX o0 o1 o2 o3 o4
  have HO4 := Lib.hid o4
  rcases hn with ⟨rfl, h1⟩ | ⟨h0, a0, a1, a2, a3, a4⟩
  · have hw := hwt rfl
    clear hwt hwe
    subst hw
    have K := Lib.hid (quotedW_any B b bs text wx HD.out (by rw [q39_size] at hlen; omega))
    go_enter Tryz.func71, Tryz.ntmps71
    go_wp2_with fail
    refine K.out.mono ?_
    rintro e w' ⟨rfl, ha⟩
    have HA := Lib.hid (AddW.before HBX.out hBs ha)
    clear ha K
    go_wp2_with fail
    (try simp only [Exit.inBlock, Exit.then])
    refine bodyPost_ret (results_none rfl _ _ _) rfl ?_
    exact ⟨rfl, HA.out⟩
  have hw := hwe h0
  clear hwt hwe
  have ht : ((tag : Int) == -1) = false := by simpa using h0
  have HPO := Lib.hid (runP_ok _ _ a4)
  clear a4
  have hz := congrArg ByteArray.size hw
  rw [ByteArray.size_append] at hz
  have hz1 : (⟨#[41]⟩ : ByteArray).size = 1 := rfl
  have hzh : (headW tag key ++ prsW ps).size ≤ wd.size := by rw [ByteArray.size_append] at hz; omega
  have hzk : (headW tag key ++ prsW ps ++ kidsW ks).size + 1 = wd.size := by omega
  have hzh0 : (headW tag key).size ≤ wd.size := by rw [ByteArray.size_append] at hzh; omega
  clear hz hz1
  by_cases hkey : key = -1
  · subst hkey
    have hd0 : headW tag (-1) = (⟨#[40, 116]⟩ : ByteArray) ++ itoaB tag := by unfold headW; rw [if_pos rfl]
    obtain ⟨hd, hhd⟩ : ∃ u, headW tag (-1) = u := ⟨_, rfl⟩
    rw [hhd] at hw hzh hzk hzh0
    have hzt : 2 + (itoaB tag).size ≤ wd.size := by rw [← hhd, hd0, ByteArray.size_append] at hzh0; exact hzh0
    have KT := Lib.hid (numberW_any B b bs ⟨#[40, 116]⟩ tag w0 wx HT.out HB.out HD.out (by omega) (by omega) (by have := hzt; show _ + 2 + _ ≤ _; omega))
    have HW := Lib.hid hw
    go_enter Tryz.func71, Tryz.ntmps71
    go_wp2_with fail
    refine KT.out.mono ?_
    rintro e w1 ⟨rfl, ha⟩
    replace o1 := (ha.cellK (p := ⟨w.heap.size, 1, none⟩) hxb ⟨_, _, HKX.out⟩ (by decide)).trans o1
    replace o3 := (ha.cellK (p := ⟨w.heap.size, 3, none⟩) hxb ⟨_, _, HKX.out⟩ (by decide)).trans o3
    replace o4 := (ha.cellK (p := ⟨w.heap.size, 4, none⟩) hxb ⟨_, _, HKX.out⟩ (by decide)).trans o4
    have HA := Lib.hid ha
    clear ha KT
    have e0 : hd = (⟨#[40, 116]⟩ : ByteArray) ++ itoaB tag := hhd.symm.trans hd0
    rw [← e0] at HA
    clear e0 hd0 hhd
    go_wp2_with fail
    go_loopw [29] (fun i wr => ∃ (k : Nat) (q : ByteArray), k ≤ np ∧ i = .int .i64 k ∧ Hid (q ++ prsW (ps.drop k) = hd ++ prsW ps) ∧ Hid (AddW B b bs q wx wr)) (fun i _ => np - (intOf i).toNat)
    case atStart => exact ⟨0, hd, by omega, rfl, Lib.hid (by rw [List.drop_zero]), HA⟩
    case round =>
      obtain ⟨k, q, hk, rfl, HQ, HAR⟩ := hrel
      have HBR := Lib.hid (HB.out.trans HAR.out.2.1)
      by_cases hlt : k < np
      · obtain ⟨b2, off, rfl, hblt2, hcell⟩ := PrL.at_ HP.out (by have := HNP.out; omega)
        obtain ⟨x, hx⟩ := at_some (show k < ps.length by rw [HNP.out]; exact hlt)
        obtain ⟨e0, e1, e2, e3⟩ := hcell k x hx
        replace e0 := (HBR.out.cell (p := ⟨b2, off + k * 4, none⟩) (Nat.lt_of_lt_of_le hblt2 hsz)).trans e0
        replace e1 := (HBR.out.cell (p := ⟨b2, off + k * 4 + 1, none⟩) (Nat.lt_of_lt_of_le hblt2 hsz)).trans e1
        replace e2 := (HBR.out.cell (p := ⟨b2, off + k * 4 + 2, none⟩) (Nat.lt_of_lt_of_le hblt2 hsz)).trans e2
        replace e3 := (HBR.out.cell (p := ⟨b2, off + k * 4 + 3, none⟩) (Nat.lt_of_lt_of_le hblt2 hsz)).trans e3
        have hpo := HPO.out x (List.mem_of_getElem? hx)
        have hQ := HQ.out
        rw [prsW_drop hx, ← ByteArray.append_assoc] at hQ
        have hsum : (q ++ prW x).size ≤ wd.size := by
          have e := congrArg ByteArray.size hQ
          rw [ByteArray.size_append] at e
          omega
        rw [ByteArray.size_append] at hsum
        have hpz : (prW x).size = 2 + (itoaB x.nm).size + 1 + (valW x.v.k x.v.n x.v.s).size := by
          unfold prW
          rw [ByteArray.size_append, ByteArray.size_append, ByteArray.size_append]
          rfl
        have hbl : (bs ++ Lib.strCells q).length = bs.length + q.size := by rw [List.length_append, Lib.strCells_length]
        have KN := Lib.hid (fun w' (hb : Below wr.heap.size wr w') => numberW_any B b (bs ++ Lib.strCells q) ⟨#[32, 112]⟩ x.nm w0 w' HT.out (HBR.out.trans (hb.mono (by have := HAR.out.size; have := HBX.out.size; omega))) (HAR.out.1.later hb) (by have := hpo.1; omega) (by have := hpo.2.1; omega) (by rw [hbl]; show _ + 2 + _ ≤ _; omega))
        have hpw : prW x = ((((⟨#[32, 112]⟩ : ByteArray) ++ itoaB x.nm) ++ ⟨#[61]⟩) ++ valW x.v.k x.v.n x.v.s) := rfl
        have KV := Lib.hid hpo.2.2
        have HQ2 := Lib.hid hQ
        have HPW := Lib.hid hpw
        have HBL := Lib.hid hbl
        have hwrb : b < wr.heap.size := HAR.out.1.lt
        have hwrw : w.heap.size < wr.heap.size := by have := HAR.out.size; have h2 := (Array.getElem?_eq_some_iff.1 HKX.out).1; omega
        clear hQ hpw hbl hpo hcell hx HQ
        obtain ⟨nm, ⟨vk, vn, vs⟩⟩ := x
        dsimp only at *
        obtain ⟨u1, hu1⟩ : ∃ u, itoaB nm = u := ⟨_, rfl⟩
        obtain ⟨u2, hu2⟩ : ∃ u, valW vk vn vs = u := ⟨_, rfl⟩
        have KV2 := Lib.hid (fun bs2 w2 hb0 hbd hl => valueW_any B b bs2 vk vn vs w0 w2 HT.out hb0 hbd KV.out hl)
        rw [hu1] at KN HPW hpz
        rw [hu2] at KV2 HPW hpz
        clear hu1 hu2 KV
        have hi1 : (0 : Int) ≤ (k : Int) := by omega
        have hi2 : (k : Int) < (np : Int) := by omega
        go_wp2_with fail
        refine (KN.out _ (by go_grown)).mono ?_
        rintro e w2 ⟨rfl, ha⟩
        have x1 := (ha.cellK (p := ⟨wr.heap.size, 1, none⟩) (show wr.heap.size ≠ b by omega) (by first | exact kd_new _ _ _ | exact kd_set (kd_new _ _ _) | exact kd_set (kd_set (kd_set (kd_set (kd_new _ _ _))))) (by decide)).trans (by go_simp : _ = some (.int .i64 vk))
        have x2 := (ha.cellK (p := ⟨wr.heap.size, 2, none⟩) (show wr.heap.size ≠ b by omega) (by first | exact kd_new _ _ _ | exact kd_set (kd_new _ _ _) | exact kd_set (kd_set (kd_set (kd_set (kd_new _ _ _))))) (by decide)).trans (by go_simp : _ = some (.int .i64 vn))
        have x3 := (ha.cellK (p := ⟨wr.heap.size, 3, none⟩) (show wr.heap.size ≠ b by omega) (by first | exact kd_new _ _ _ | exact kd_set (kd_new _ _ _) | exact kd_set (kd_set (kd_set (kd_set (kd_new _ _ _))))) (by decide)).trans (by go_simp : _ = some (.string vs))
        have xk := ha.kd (k := wr.heap.size) (T := 88) (by omega) (by first | exact kd_new _ _ _ | exact kd_set (kd_new _ _ _) | exact kd_set (kd_set (kd_set (kd_set (kd_new _ _ _))))) (by decide)
        have HA1 := Lib.hid (AddW.before (w := wr) (by go_grown) (by have := HAR.out.1.ge; omega) ha)
        have HXK := Lib.hid xk
        clear ha xk KN
        have KE := Lib.hid (ws_add B b _ ⟨#[61]⟩ w2 HA1.out.1 (by rw [List.length_append, HBL.out, Lib.strCells_length, ByteArray.size_append]; show _ + (2 + u1.size) + 1 ≤ _; omega))
        go_wp2_with fail
        refine KE.out.mono ?_
        rintro e w3 ⟨rfl, ha⟩
        replace x1 := (ha.cellK (p := ⟨wr.heap.size, 1, none⟩) (show wr.heap.size ≠ b by omega) HXK.out (by decide)).trans x1
        replace x2 := (ha.cellK (p := ⟨wr.heap.size, 2, none⟩) (show wr.heap.size ≠ b by omega) HXK.out (by decide)).trans x2
        replace x3 := (ha.cellK (p := ⟨wr.heap.size, 3, none⟩) (show wr.heap.size ≠ b by omega) HXK.out (by decide)).trans x3
        have HA2 := Lib.hid (HA1.out.trans ha)
        have KW := Lib.hid (KV2.out _ w3 (HBR.out.trans HA2.out.2.1) ha.1 (by rw [List.length_append, List.length_append, HBL.out, Lib.strCells_length, Lib.strCells_length, ByteArray.size_append]; show _ + (2 + u1.size) + 1 + _ ≤ _; omega))
        clear ha KE HA1
        go_wp2_with fail
        refine KW.out.mono ?_
        rintro e w4 ⟨rfl, ha⟩
        have ha' : AddW B b ((bs ++ Lib.strCells q) ++ Lib.strCells (((⟨#[32, 112]⟩ : ByteArray) ++ u1) ++ ⟨#[61]⟩)) u2 w3 w4 := by rw [strCells_app, ← List.append_assoc]; exact ha
        have HA3 := Lib.hid (HAR.out.trans (HA2.out.trans ha'))
        clear ha ha' KW HA2 x1 x2 x3
        go_wp2_with fail
        go_roundw
        case rel => exact ⟨k + 1, _, by omega, by go_num, Lib.hid (by rw [← HPW.out]; exact HQ2.out), HA3⟩
        case measure => simp [intOf]; omega
      · obtain rfl : k = np := by omega
        have hQ := HQ.out
        rw [← HNP.out, List.drop_length] at hQ
        have h0 : prsW [] = ⟨#[]⟩ := rfl
        rw [h0, ba_nilR] at hQ
        subst hQ
        clear HQ
        replace o4 := (HAR.out.cellK (p := ⟨w.heap.size, 4, none⟩) hxb ⟨_, _, HKX.out⟩ (by decide)).trans HO4.out
        go_wp2_with fail
        have HAS := HAR
        clear HAR HBR HA HP HPO
        go_loopw [49] (fun i wr => ∃ (k : Nat) (q : ByteArray), k ≤ nk ∧ i = .int .i64 k ∧ Hid (q ++ kidsW (ks.drop k) = (hd ++ prsW ps) ++ kidsW ks) ∧ Hid (AddW B b bs q wx wr)) (fun i _ => nk - (intOf i).toNat)
        case atStart => exact ⟨0, hd ++ prsW ps, by omega, rfl, Lib.hid (by rw [List.drop_zero]), HAS⟩
        case round =>
          clear o4 HAS
          obtain ⟨k, q, hk, rfl, HQ, HAR⟩ := hrel
          have HBR := Lib.hid (HB.out.trans HAR.out.2.1)
          by_cases hlt : k < nk
          · obtain ⟨x, hx⟩ := at_some (show k < ks.length by rw [HNK.out]; exact hlt)
            obtain ⟨b2, off, E0, d0, E1, d1, rfl, hblt2, _, e0, e1, e2, e3, e4, hp, _, hks⟩ := HK.out.at_ hx
            replace e0 := (HBR.out.cell (p := ⟨b2, off + k * 5, none⟩) (Nat.lt_of_lt_of_le hblt2 hsz)).trans e0
            replace e1 := (HBR.out.cell (p := ⟨b2, off + k * 5 + 1, none⟩) (Nat.lt_of_lt_of_le hblt2 hsz)).trans e1
            replace e2 := (HBR.out.cell (p := ⟨b2, off + k * 5 + 2, none⟩) (Nat.lt_of_lt_of_le hblt2 hsz)).trans e2
            replace e3 := (HBR.out.cell (p := ⟨b2, off + k * 5 + 3, none⟩) (Nat.lt_of_lt_of_le hblt2 hsz)).trans e3
            replace e4 := (HBR.out.cell (p := ⟨b2, off + k * 5 + 4, none⟩) (Nat.lt_of_lt_of_le hblt2 hsz)).trans e4
            have hI := HI.out x (List.mem_of_getElem? hx)
            have hQ := HQ.out
            rw [kidsW_drop hx, ← ByteArray.append_assoc] at hQ
            have hsum : (q ++ (⟨#[32]⟩ ++ wordsT x)).size + 1 ≤ wd.size := by
              have e := congrArg ByteArray.size hQ
              rw [ByteArray.size_append] at e
              omega
            rw [ByteArray.size_append, ByteArray.size_append] at hsum
            have h32 : (⟨#[32]⟩ : ByteArray).size = 1 := rfl
            rw [h32] at hsum
            have hbl : (bs ++ Lib.strCells q).length = bs.length + q.size := by rw [List.length_append, Lib.strCells_length]
            have hwrb : b < wr.heap.size := HAR.out.1.lt
            have hbw : B ≤ wr.heap.size := by have := HAR.out.1.ge; omega
            have KS := Lib.hid (fun w' (hb : Below wr.heap.size wr w') => ws_add B b (bs ++ Lib.strCells q) ⟨#[32]⟩ w' (HAR.out.1.later hb) (by rw [hbl, h32]; omega))
            have KX := Lib.hid (fun w2 (hb : Below B w0 w2) (hd : BdW B b ((bs ++ Lib.strCells q) ++ Lib.strCells ⟨#[32]⟩) w2) => hI E0 E1 d0 d1 B b _ w0 w2 HT.out hsz hb hd hp hks (by rw [List.length_append, hbl, Lib.strCells_length, h32]; omega))
            have hi1 : (0 : Int) ≤ (k : Int) := by omega
            have hi2 : (k : Int) < (nk : Int) := by omega
            have HQ2 := Lib.hid hQ
            clear hQ hI hx hp hks HQ
            obtain ⟨xt, xk, xs, xp, xq⟩ := x
            dsimp only [Tr.tag, Tr.key, Tr.text, Tr.ps, Tr.ks] at e0 e1 e2 e3 e4 KX
            obtain ⟨xw, hxw⟩ : ∃ u, wordsT (.mk xt xk xs xp xq) = u := ⟨_, rfl⟩
            rw [hxw] at KX HQ2 hsum
            clear hxw
            go_wp2_with fail
            refine (KS.out _ (by go_grown)).mono ?_
            rintro e w2 ⟨rfl, ha⟩
            have x0 := (ha.cellK (p := ⟨wr.heap.size, 0, none⟩) (show wr.heap.size ≠ b by omega) (by first | exact kd_new _ _ _ | exact kd_set (kd_new _ _ _) | exact kd_set (kd_set (kd_set (kd_set (kd_set (kd_new _ _ _)))))) (by decide)).trans (by go_simp : _ = some (.int .i64 xt))
            have x1 := (ha.cellK (p := ⟨wr.heap.size, 1, none⟩) (show wr.heap.size ≠ b by omega) (by first | exact kd_new _ _ _ | exact kd_set (kd_new _ _ _) | exact kd_set (kd_set (kd_set (kd_set (kd_set (kd_new _ _ _)))))) (by decide)).trans (by go_simp : _ = some (.int .i64 xk))
            have x2 := (ha.cellK (p := ⟨wr.heap.size, 2, none⟩) (show wr.heap.size ≠ b by omega) (by first | exact kd_new _ _ _ | exact kd_set (kd_new _ _ _) | exact kd_set (kd_set (kd_set (kd_set (kd_set (kd_new _ _ _)))))) (by decide)).trans (by go_simp : _ = some (.string xs))
            have x3 := (ha.cellK (p := ⟨wr.heap.size, 3, none⟩) (show wr.heap.size ≠ b by omega) (by first | exact kd_new _ _ _ | exact kd_set (kd_new _ _ _) | exact kd_set (kd_set (kd_set (kd_set (kd_set (kd_new _ _ _)))))) (by decide)).trans (by go_simp : _ = some (.slice E0 xp.length d0))
            have x4 := (ha.cellK (p := ⟨wr.heap.size, 4, none⟩) (show wr.heap.size ≠ b by omega) (by first | exact kd_new _ _ _ | exact kd_set (kd_new _ _ _) | exact kd_set (kd_set (kd_set (kd_set (kd_set (kd_new _ _ _)))))) (by decide)).trans (by go_simp : _ = some (.slice E1 xq.length d1))
            have HA1 := Lib.hid (AddW.before (w := wr) (by go_grown) hbw ha)
            clear ha KS
            have KX2 := Lib.hid (KX.out w2 (HBR.out.trans HA1.out.2.1) HA1.out.1)
            clear KX
            go_wp2_with fail
            refine KX2.out.mono ?_
            rintro e w3 ⟨rfl, ha⟩
            have HA2 := Lib.hid (HAR.out.trans (HA1.out.trans ha))
            clear ha KX2 HA1 x0 x1 x2 x3 x4
            go_wp2_with fail
            go_roundw
            case rel => exact ⟨k + 1, _, by omega, by go_num, HQ2, HA2⟩
            case measure => simp [intOf]; omega
          · obtain rfl : k = nk := by omega
            have hQ := HQ.out
            rw [← HNK.out, List.drop_length] at hQ
            have h0 : kidsW [] = ⟨#[]⟩ := by simp only [kidsW]
            rw [h0, ba_nilR] at hQ
            subst hQ
            clear HQ
            have KS := Lib.hid (ws_add B b _ ⟨#[41]⟩ wr HAR.out.1 (by rw [List.length_append, Lib.strCells_length]; show _ + 1 ≤ _; omega))
            go_wp2_with fail
            refine KS.out.mono ?_
            rintro e w' ⟨rfl, ha⟩
            have HA2 := Lib.hid (AddW.before HBX.out hBs (HAR.out.trans ha))
            clear ha KS
            go_wp2_with fail
            go_end0
            exact ⟨rfl, by rw [HW.out]; exact HA2.out⟩
  · have hd0 : headW tag key = ((⟨#[40, 116]⟩ : ByteArray) ++ itoaB tag) ++ (⟨#[32, 107]⟩ ++ itoaB key) := by unfold headW; rw [if_neg hkey]
    obtain ⟨hd, hhd⟩ : ∃ u, headW tag key = u := ⟨_, rfl⟩
    rw [hhd] at hw hzh hzk hzh0
    have hzt : 2 + (itoaB tag).size + (2 + (itoaB key).size) ≤ wd.size := by rw [← hhd, hd0, ByteArray.size_append, ByteArray.size_append, ByteArray.size_append] at hzh0; exact hzh0
    have KT := Lib.hid (numberW_any B b bs ⟨#[40, 116]⟩ tag w0 wx HT.out HB.out HD.out (by omega) (by omega) (by have := hzt; show _ + 2 + _ ≤ _; omega))
    have hkd : ((key : Int) != -1) = true := by simp; omega
    have HW := Lib.hid hw
    go_enter Tryz.func71, Tryz.ntmps71
    go_wp2_with fail
    refine KT.out.mono ?_
    rintro e w1 ⟨rfl, ha⟩
    replace o1 := (ha.cellK (p := ⟨w.heap.size, 1, none⟩) hxb ⟨_, _, HKX.out⟩ (by decide)).trans o1
    replace o3 := (ha.cellK (p := ⟨w.heap.size, 3, none⟩) hxb ⟨_, _, HKX.out⟩ (by decide)).trans o3
    replace o4 := (ha.cellK (p := ⟨w.heap.size, 4, none⟩) hxb ⟨_, _, HKX.out⟩ (by decide)).trans o4
    have KK := Lib.hid (numberW_any B b _ ⟨#[32, 107]⟩ key w0 w1 HT.out (HB.out.trans ha.2.1) ha.1 (by omega) (by omega) (by rw [List.length_append, Lib.strCells_length, ByteArray.size_append]; show _ + (2 + _) + 2 + _ ≤ _; omega))
    have HA0 := Lib.hid ha
    clear ha KT
    go_wp2_with fail
    refine KK.out.mono ?_
    rintro e w2 ⟨rfl, ha⟩
    replace o3 := (ha.cellK (p := ⟨w.heap.size, 3, none⟩) hxb (HA0.out.kd hxb ⟨_, _, HKX.out⟩ (by decide)) (by decide)).trans o3
    replace o4 := (ha.cellK (p := ⟨w.heap.size, 4, none⟩) hxb (HA0.out.kd hxb ⟨_, _, HKX.out⟩ (by decide)) (by decide)).trans o4
    have HA := Lib.hid (HA0.out.trans ha)
    clear ha KK HA0
    have e0 : hd = ((⟨#[40, 116]⟩ : ByteArray) ++ itoaB tag) ++ (⟨#[32, 107]⟩ ++ itoaB key) := hhd.symm.trans hd0
    rw [← e0] at HA
    clear e0 hd0 hhd
    go_wp2_with fail
    go_loopw [29] (fun i wr => ∃ (k : Nat) (q : ByteArray), k ≤ np ∧ i = .int .i64 k ∧ Hid (q ++ prsW (ps.drop k) = hd ++ prsW ps) ∧ Hid (AddW B b bs q wx wr)) (fun i _ => np - (intOf i).toNat)
    case atStart => exact ⟨0, hd, by omega, rfl, Lib.hid (by rw [List.drop_zero]), HA⟩
    case round =>
      obtain ⟨k, q, hk, rfl, HQ, HAR⟩ := hrel
      have HBR := Lib.hid (HB.out.trans HAR.out.2.1)
      by_cases hlt : k < np
      · obtain ⟨b2, off, rfl, hblt2, hcell⟩ := PrL.at_ HP.out (by have := HNP.out; omega)
        obtain ⟨x, hx⟩ := at_some (show k < ps.length by rw [HNP.out]; exact hlt)
        obtain ⟨e0, e1, e2, e3⟩ := hcell k x hx
        replace e0 := (HBR.out.cell (p := ⟨b2, off + k * 4, none⟩) (Nat.lt_of_lt_of_le hblt2 hsz)).trans e0
        replace e1 := (HBR.out.cell (p := ⟨b2, off + k * 4 + 1, none⟩) (Nat.lt_of_lt_of_le hblt2 hsz)).trans e1
        replace e2 := (HBR.out.cell (p := ⟨b2, off + k * 4 + 2, none⟩) (Nat.lt_of_lt_of_le hblt2 hsz)).trans e2
        replace e3 := (HBR.out.cell (p := ⟨b2, off + k * 4 + 3, none⟩) (Nat.lt_of_lt_of_le hblt2 hsz)).trans e3
        have hpo := HPO.out x (List.mem_of_getElem? hx)
        have hQ := HQ.out
        rw [prsW_drop hx, ← ByteArray.append_assoc] at hQ
        have hsum : (q ++ prW x).size ≤ wd.size := by
          have e := congrArg ByteArray.size hQ
          rw [ByteArray.size_append] at e
          omega
        rw [ByteArray.size_append] at hsum
        have hpz : (prW x).size = 2 + (itoaB x.nm).size + 1 + (valW x.v.k x.v.n x.v.s).size := by
          unfold prW
          rw [ByteArray.size_append, ByteArray.size_append, ByteArray.size_append]
          rfl
        have hbl : (bs ++ Lib.strCells q).length = bs.length + q.size := by rw [List.length_append, Lib.strCells_length]
        have KN := Lib.hid (fun w' (hb : Below wr.heap.size wr w') => numberW_any B b (bs ++ Lib.strCells q) ⟨#[32, 112]⟩ x.nm w0 w' HT.out (HBR.out.trans (hb.mono (by have := HAR.out.size; have := HBX.out.size; omega))) (HAR.out.1.later hb) (by have := hpo.1; omega) (by have := hpo.2.1; omega) (by rw [hbl]; show _ + 2 + _ ≤ _; omega))
        have hpw : prW x = ((((⟨#[32, 112]⟩ : ByteArray) ++ itoaB x.nm) ++ ⟨#[61]⟩) ++ valW x.v.k x.v.n x.v.s) := rfl
        have KV := Lib.hid hpo.2.2
        have HQ2 := Lib.hid hQ
        have HPW := Lib.hid hpw
        have HBL := Lib.hid hbl
        have hwrb : b < wr.heap.size := HAR.out.1.lt
        have hwrw : w.heap.size < wr.heap.size := by have := HAR.out.size; have h2 := (Array.getElem?_eq_some_iff.1 HKX.out).1; omega
        clear hQ hpw hbl hpo hcell hx HQ
        obtain ⟨nm, ⟨vk, vn, vs⟩⟩ := x
        dsimp only at *
        obtain ⟨u1, hu1⟩ : ∃ u, itoaB nm = u := ⟨_, rfl⟩
        obtain ⟨u2, hu2⟩ : ∃ u, valW vk vn vs = u := ⟨_, rfl⟩
        have KV2 := Lib.hid (fun bs2 w2 hb0 hbd hl => valueW_any B b bs2 vk vn vs w0 w2 HT.out hb0 hbd KV.out hl)
        rw [hu1] at KN HPW hpz
        rw [hu2] at KV2 HPW hpz
        clear hu1 hu2 KV
        have hi1 : (0 : Int) ≤ (k : Int) := by omega
        have hi2 : (k : Int) < (np : Int) := by omega
        go_wp2_with fail
        refine (KN.out _ (by go_grown)).mono ?_
        rintro e w2 ⟨rfl, ha⟩
        have x1 := (ha.cellK (p := ⟨wr.heap.size, 1, none⟩) (show wr.heap.size ≠ b by omega) (by first | exact kd_new _ _ _ | exact kd_set (kd_new _ _ _) | exact kd_set (kd_set (kd_set (kd_set (kd_new _ _ _))))) (by decide)).trans (by go_simp : _ = some (.int .i64 vk))
        have x2 := (ha.cellK (p := ⟨wr.heap.size, 2, none⟩) (show wr.heap.size ≠ b by omega) (by first | exact kd_new _ _ _ | exact kd_set (kd_new _ _ _) | exact kd_set (kd_set (kd_set (kd_set (kd_new _ _ _))))) (by decide)).trans (by go_simp : _ = some (.int .i64 vn))
        have x3 := (ha.cellK (p := ⟨wr.heap.size, 3, none⟩) (show wr.heap.size ≠ b by omega) (by first | exact kd_new _ _ _ | exact kd_set (kd_new _ _ _) | exact kd_set (kd_set (kd_set (kd_set (kd_new _ _ _))))) (by decide)).trans (by go_simp : _ = some (.string vs))
        have xk := ha.kd (k := wr.heap.size) (T := 88) (by omega) (by first | exact kd_new _ _ _ | exact kd_set (kd_new _ _ _) | exact kd_set (kd_set (kd_set (kd_set (kd_new _ _ _))))) (by decide)
        have HA1 := Lib.hid (AddW.before (w := wr) (by go_grown) (by have := HAR.out.1.ge; omega) ha)
        have HXK := Lib.hid xk
        clear ha xk KN
        have KE := Lib.hid (ws_add B b _ ⟨#[61]⟩ w2 HA1.out.1 (by rw [List.length_append, HBL.out, Lib.strCells_length, ByteArray.size_append]; show _ + (2 + u1.size) + 1 ≤ _; omega))
        go_wp2_with fail
        refine KE.out.mono ?_
        rintro e w3 ⟨rfl, ha⟩
        replace x1 := (ha.cellK (p := ⟨wr.heap.size, 1, none⟩) (show wr.heap.size ≠ b by omega) HXK.out (by decide)).trans x1
        replace x2 := (ha.cellK (p := ⟨wr.heap.size, 2, none⟩) (show wr.heap.size ≠ b by omega) HXK.out (by decide)).trans x2
        replace x3 := (ha.cellK (p := ⟨wr.heap.size, 3, none⟩) (show wr.heap.size ≠ b by omega) HXK.out (by decide)).trans x3
        have HA2 := Lib.hid (HA1.out.trans ha)
        have KW := Lib.hid (KV2.out _ w3 (HBR.out.trans HA2.out.2.1) ha.1 (by rw [List.length_append, List.length_append, HBL.out, Lib.strCells_length, Lib.strCells_length, ByteArray.size_append]; show _ + (2 + u1.size) + 1 + _ ≤ _; omega))
        clear ha KE HA1
        go_wp2_with fail
        refine KW.out.mono ?_
        rintro e w4 ⟨rfl, ha⟩
        have ha' : AddW B b ((bs ++ Lib.strCells q) ++ Lib.strCells (((⟨#[32, 112]⟩ : ByteArray) ++ u1) ++ ⟨#[61]⟩)) u2 w3 w4 := by rw [strCells_app, ← List.append_assoc]; exact ha
        have HA3 := Lib.hid (HAR.out.trans (HA2.out.trans ha'))
        clear ha ha' KW HA2 x1 x2 x3
        go_wp2_with fail
        go_roundw
        case rel => exact ⟨k + 1, _, by omega, by go_num, Lib.hid (by rw [← HPW.out]; exact HQ2.out), HA3⟩
        case measure => simp [intOf]; omega
      · obtain rfl : k = np := by omega
        have hQ := HQ.out
        rw [← HNP.out, List.drop_length] at hQ
        have h0 : prsW [] = ⟨#[]⟩ := rfl
        rw [h0, ba_nilR] at hQ
        subst hQ
        clear HQ
        replace o4 := (HAR.out.cellK (p := ⟨w.heap.size, 4, none⟩) hxb ⟨_, _, HKX.out⟩ (by decide)).trans HO4.out
        go_wp2_with fail
        have HAS := HAR
        clear HAR HBR HA HP HPO
        go_loopw [49] (fun i wr => ∃ (k : Nat) (q : ByteArray), k ≤ nk ∧ i = .int .i64 k ∧ Hid (q ++ kidsW (ks.drop k) = (hd ++ prsW ps) ++ kidsW ks) ∧ Hid (AddW B b bs q wx wr)) (fun i _ => nk - (intOf i).toNat)
        case atStart => exact ⟨0, hd ++ prsW ps, by omega, rfl, Lib.hid (by rw [List.drop_zero]), HAS⟩
        case round =>
          clear o4 HAS
          obtain ⟨k, q, hk, rfl, HQ, HAR⟩ := hrel
          have HBR := Lib.hid (HB.out.trans HAR.out.2.1)
          by_cases hlt : k < nk
          · obtain ⟨x, hx⟩ := at_some (show k < ks.length by rw [HNK.out]; exact hlt)
            obtain ⟨b2, off, E0, d0, E1, d1, rfl, hblt2, _, e0, e1, e2, e3, e4, hp, _, hks⟩ := HK.out.at_ hx
            replace e0 := (HBR.out.cell (p := ⟨b2, off + k * 5, none⟩) (Nat.lt_of_lt_of_le hblt2 hsz)).trans e0
            replace e1 := (HBR.out.cell (p := ⟨b2, off + k * 5 + 1, none⟩) (Nat.lt_of_lt_of_le hblt2 hsz)).trans e1
            replace e2 := (HBR.out.cell (p := ⟨b2, off + k * 5 + 2, none⟩) (Nat.lt_of_lt_of_le hblt2 hsz)).trans e2
            replace e3 := (HBR.out.cell (p := ⟨b2, off + k * 5 + 3, none⟩) (Nat.lt_of_lt_of_le hblt2 hsz)).trans e3
            replace e4 := (HBR.out.cell (p := ⟨b2, off + k * 5 + 4, none⟩) (Nat.lt_of_lt_of_le hblt2 hsz)).trans e4
            have hI := HI.out x (List.mem_of_getElem? hx)
            have hQ := HQ.out
            rw [kidsW_drop hx, ← ByteArray.append_assoc] at hQ
            have hsum : (q ++ (⟨#[32]⟩ ++ wordsT x)).size + 1 ≤ wd.size := by
              have e := congrArg ByteArray.size hQ
              rw [ByteArray.size_append] at e
              omega
            rw [ByteArray.size_append, ByteArray.size_append] at hsum
            have h32 : (⟨#[32]⟩ : ByteArray).size = 1 := rfl
            rw [h32] at hsum
            have hbl : (bs ++ Lib.strCells q).length = bs.length + q.size := by rw [List.length_append, Lib.strCells_length]
            have hwrb : b < wr.heap.size := HAR.out.1.lt
            have hbw : B ≤ wr.heap.size := by have := HAR.out.1.ge; omega
            have KS := Lib.hid (fun w' (hb : Below wr.heap.size wr w') => ws_add B b (bs ++ Lib.strCells q) ⟨#[32]⟩ w' (HAR.out.1.later hb) (by rw [hbl, h32]; omega))
            have KX := Lib.hid (fun w2 (hb : Below B w0 w2) (hd : BdW B b ((bs ++ Lib.strCells q) ++ Lib.strCells ⟨#[32]⟩) w2) => hI E0 E1 d0 d1 B b _ w0 w2 HT.out hsz hb hd hp hks (by rw [List.length_append, hbl, Lib.strCells_length, h32]; omega))
            have hi1 : (0 : Int) ≤ (k : Int) := by omega
            have hi2 : (k : Int) < (nk : Int) := by omega
            have HQ2 := Lib.hid hQ
            clear hQ hI hx hp hks HQ
            obtain ⟨xt, xk, xs, xp, xq⟩ := x
            dsimp only [Tr.tag, Tr.key, Tr.text, Tr.ps, Tr.ks] at e0 e1 e2 e3 e4 KX
            obtain ⟨xw, hxw⟩ : ∃ u, wordsT (.mk xt xk xs xp xq) = u := ⟨_, rfl⟩
            rw [hxw] at KX HQ2 hsum
            clear hxw
            go_wp2_with fail
            refine (KS.out _ (by go_grown)).mono ?_
            rintro e w2 ⟨rfl, ha⟩
            have x0 := (ha.cellK (p := ⟨wr.heap.size, 0, none⟩) (show wr.heap.size ≠ b by omega) (by first | exact kd_new _ _ _ | exact kd_set (kd_new _ _ _) | exact kd_set (kd_set (kd_set (kd_set (kd_set (kd_new _ _ _)))))) (by decide)).trans (by go_simp : _ = some (.int .i64 xt))
            have x1 := (ha.cellK (p := ⟨wr.heap.size, 1, none⟩) (show wr.heap.size ≠ b by omega) (by first | exact kd_new _ _ _ | exact kd_set (kd_new _ _ _) | exact kd_set (kd_set (kd_set (kd_set (kd_set (kd_new _ _ _)))))) (by decide)).trans (by go_simp : _ = some (.int .i64 xk))
            have x2 := (ha.cellK (p := ⟨wr.heap.size, 2, none⟩) (show wr.heap.size ≠ b by omega) (by first | exact kd_new _ _ _ | exact kd_set (kd_new _ _ _) | exact kd_set (kd_set (kd_set (kd_set (kd_set (kd_new _ _ _)))))) (by decide)).trans (by go_simp : _ = some (.string xs))
            have x3 := (ha.cellK (p := ⟨wr.heap.size, 3, none⟩) (show wr.heap.size ≠ b by omega) (by first | exact kd_new _ _ _ | exact kd_set (kd_new _ _ _) | exact kd_set (kd_set (kd_set (kd_set (kd_set (kd_new _ _ _)))))) (by decide)).trans (by go_simp : _ = some (.slice E0 xp.length d0))
            have x4 := (ha.cellK (p := ⟨wr.heap.size, 4, none⟩) (show wr.heap.size ≠ b by omega) (by first | exact kd_new _ _ _ | exact kd_set (kd_new _ _ _) | exact kd_set (kd_set (kd_set (kd_set (kd_set (kd_new _ _ _)))))) (by decide)).trans (by go_simp : _ = some (.slice E1 xq.length d1))
            have HA1 := Lib.hid (AddW.before (w := wr) (by go_grown) hbw ha)
            clear ha KS
            have KX2 := Lib.hid (KX.out w2 (HBR.out.trans HA1.out.2.1) HA1.out.1)
            clear KX
            go_wp2_with fail
            refine KX2.out.mono ?_
            rintro e w3 ⟨rfl, ha⟩
            have HA2 := Lib.hid (HAR.out.trans (HA1.out.trans ha))
            clear ha KX2 HA1 x0 x1 x2 x3 x4
            go_wp2_with fail
            go_roundw
            case rel => exact ⟨k + 1, _, by omega, by go_num, HQ2, HA2⟩
            case measure => simp [intOf]; omega
          · obtain rfl : k = nk := by omega
            have hQ := HQ.out
            rw [← HNK.out, List.drop_length] at hQ
            have h0 : kidsW [] = ⟨#[]⟩ := by simp only [kidsW]
            rw [h0, ba_nilR] at hQ
            subst hQ
            clear HQ
            have KS := Lib.hid (ws_add B b _ ⟨#[41]⟩ wr HAR.out.1 (by rw [List.length_append, Lib.strCells_length]; show _ + 1 ≤ _; omega))
            go_wp2_with fail
            refine KS.out.mono ?_
            rintro e w' ⟨rfl, ha⟩
            have HA2 := Lib.hid (AddW.before HBX.out hBs (HAR.out.trans ha))
            clear ha KS
            go_wp2_with fail
            go_end0
            exact ⟨rfl, by rw [HW.out]; exact HA2.out⟩
end Go.Proofs.YtagaaeolgecdmaaGreatDoor

namespace Go.Proofs.YtagaaeolgecdmaaGreatDoor
open Go.Joins Go.ChangeShapes Go.WideShapes Go.ChangeAt Go.RowKit Go.Deep
set_option linter.unusedVariables false
set_option linter.unusedSimpArgs false

theorem decB (n : Int) (w : World) (h0 : -9223372036854775807 ≤ n) (h1 : n ≤ 9223372036854775807) :
    Calls Tryz.prog 106 #[.int .i64 n] w fun e w' => e = .returned (.string (itoaB n)) ∧ w = w' := dec_any n w h0 h1
set_option maxHeartbeats 1000000 in
set_option maxRecDepth 100000 in
theorem quotedS_any (k n : Int) (s : ByteArray) (w : World) (hv : validB k n s = true) :
    Calls Tryz.prog 108 #[.agg #[.int .i64 k, .int .i64 n, .string s]] w fun e w' => e = .returned (.string (valW k n s)) ∧ Below w.heap.size w w' := by
  have HBX := Lib.hid (Below.alloc (Below.refl w.heap.size w) (Nat.le_refl _) (.cells #[.int .i64 k, .int .i64 n, .string s] 86))
  rcases valid_ways hv with ⟨rfl, rfl, he⟩ | ⟨rfl, g1, g2, he⟩ | ⟨rfl, rfl, he⟩
  · go_enter Tryz.func108, Tryz.ntmps108
    go_wp2_with fail
    go_ret
    exact ⟨rfl, HBX.out⟩
  · have K := Lib.hid (fun w => decB n w (by omega) (by omega))
    go_enter Tryz.func108, Tryz.ntmps108
    go_wp2_with fail
    refine (K.out _).mono ?_
    rintro e w' ⟨rfl, rfl⟩
    go_wp2_with fail
    go_ret
    exact ⟨rfl, HBX.out⟩
  · have hs : s.size ≤ 12 := by
      unfold wordB at he
      rw [Bool.and_eq_true] at he
      exact of_decide_eq_true he.1
    have n1 : ¬ 9223372036854775807 < 1 + s.size := by omega
    have n2 : ¬ 9223372036854775807 < 1 + s.size + 1 := by omega
    go_enter Tryz.func108, Tryz.ntmps108
    go_wp2_with fail
    go_ret
    exact ⟨rfl, HBX.out⟩
def TwC (t : Tr) : Prop := ∀ (A0 A1 : Option Addr) (c0 c1 : Nat) (w : World), PrL w A0 t.ps → TrL w 0 A1 t.ks →
  Calls Tryz.prog 83 #[.agg #[.int .i64 t.tag, .int .i64 t.key, .string t.text, .slice A0 t.ps.length c0, .slice A1 t.ks.length c1]] w fun e w' => e = .returned (.string (wordsT t)) ∧ Below w.heap.size w w'
set_option maxRecDepth 100000 in
set_option maxHeartbeats 2000000 in
theorem streeWords_any (t : Tr) : SmT t → treeOkB t = true → TwC t := by
  induction t using Tr.by_kids with
  | h t ih =>
  intro hsm hok A0 A1 c0 c1 w hp hk
  obtain ⟨s0, s1, s2, s3, s4⟩ := hsm.open_
  have hn := node_ok hok
  have hmx := wordsT_max hok
  have ihk := fun x hx => ih x hx (s4 x hx) (kid_valid hok hx)
  have hwt := @wordsT_text t
  have hwe := @wordsT_elem t
  obtain ⟨tag, key, text, ps, ks⟩ := t
  dsimp only [Tr.tag, Tr.key, Tr.text, Tr.ps, Tr.ks] at *
  obtain ⟨np, hnp⟩ : ∃ q, ps.length = q := ⟨_, rfl⟩
  obtain ⟨nk, hnk⟩ : ∃ q, ks.length = q := ⟨_, rfl⟩
  rw [hnp] at s1 ⊢
  rw [hnk] at s3 ⊢
  unfold maxLen at s1 s3
  have hbx := Below.alloc (Below.refl w.heap.size w) (Nat.le_refl _) (.cells #[.int .i64 tag, .int .i64 key, .string text, .slice A0 np c0, .slice A1 nk c1] 32)
  have o0 : (w.alloc (.cells #[.int .i64 tag, .int .i64 key, .string text, .slice A0 np c0, .slice A1 nk c1] 32)).cell? ⟨w.heap.size, 0, none⟩ = some (.int .i64 tag) := by go_simp
  have o1 : (w.alloc (.cells #[.int .i64 tag, .int .i64 key, .string text, .slice A0 np c0, .slice A1 nk c1] 32)).cell? ⟨w.heap.size, 1, none⟩ = some (.int .i64 key) := by go_simp
  have o2 : (w.alloc (.cells #[.int .i64 tag, .int .i64 key, .string text, .slice A0 np c0, .slice A1 nk c1] 32)).cell? ⟨w.heap.size, 2, none⟩ = some (.string text) := by go_simp
  have o3 : (w.alloc (.cells #[.int .i64 tag, .int .i64 key, .string text, .slice A0 np c0, .slice A1 nk c1] 32)).cell? ⟨w.heap.size, 3, none⟩ = some (.slice A0 np c0) := by go_simp
  have o4 : (w.alloc (.cells #[.int .i64 tag, .int .i64 key, .string text, .slice A0 np c0, .slice A1 nk c1] 32)).cell? ⟨w.heap.size, 4, none⟩ = some (.slice A1 nk c1) := by go_simp
  have HB0 := Lib.hid hbx
  have HP := Lib.hid hp
  have HK := Lib.hid hk
  have HI := Lib.hid ihk
  have HNP := Lib.hid hnp
  have HNK := Lib.hid hnk
  clear hbx hp hk ih ihk hnp hnk hok hsm s0 s2 s4
  generalize wordsT (.mk tag key text ps ks) = wd at hwt hwe hmx ⊢
  rcases hn with ⟨rfl, h1⟩ | ⟨h0, a0, a1, a2, a3, a4⟩
  · have hw := hwt rfl
    clear hwt hwe
    subst hw
    have n1 : ¬ 9223372036854775807 < 1 + text.size := by omega
    have n2 : ¬ 9223372036854775807 < 1 + text.size + 1 := by omega
    go_enter Tryz.func83, Tryz.ntmps83
    go_wp2_with fail
    go_ret
    exact ⟨rfl, HB0.out⟩
  have hw := hwe h0
  clear hwt hwe
  have ht : ((tag : Int) == -1) = false := by simpa using h0
  have HPO := Lib.hid (runP_ok _ _ a4)
  clear a4
  have hz := congrArg ByteArray.size hw
  rw [ByteArray.size_append] at hz
  have hz1 : (⟨#[41]⟩ : ByteArray).size = 1 := rfl
  have hzh : (headW tag key ++ prsW ps).size ≤ wd.size := by rw [ByteArray.size_append] at hz; omega
  have hzk : (headW tag key ++ prsW ps ++ kidsW ks).size + 1 = wd.size := by omega
  have hzh0 : (headW tag key).size ≤ wd.size := by rw [ByteArray.size_append] at hzh; omega
  clear hz hz1
  have KT := Lib.hid (fun w => decB tag w (by omega) (by omega))
  by_cases hkey : key = -1
  · subst hkey
    have hd0 : headW tag (-1) = (⟨#[40, 116]⟩ : ByteArray) ++ itoaB tag := by unfold headW; rw [if_pos rfl]
    rw [hd0] at hw hzh hzk hzh0
    obtain ⟨u, hu⟩ : ∃ u, itoaB tag = u := ⟨_, rfl⟩
    rw [hu] at hw hzh hzk hzh0 KT
    have n1 : ¬ 9223372036854775807 < 2 + u.size := by rw [ByteArray.size_append] at hzh0; have e : (⟨#[40, 116]⟩ : ByteArray).size = 2 := rfl; omega
    have HW := Lib.hid hw
    clear hw hd0 hu
    go_enter Tryz.func83, Tryz.ntmps83
    go_wp2_with fail
    refine (KT.out _).mono ?_
    rintro e w' ⟨rfl, rfl⟩
    obtain ⟨hd, hhd⟩ : ∃ q, (⟨#[40, 116]⟩ : ByteArray) ++ u = q := ⟨_, rfl⟩
    rw [hhd] at HW hzh hzk hzh0
    clear KT
    go_wp2_with fail
    (try rw [hhd])
    clear hhd n1
    have hB1 := HB0.out
    go_loopw [3, 4] (fun m i wr => ∃ (k : Nat) (q : ByteArray), k ≤ np ∧ i = .int .i64 k ∧ m = .string q ∧ Hid (q ++ prsW (ps.drop k) = hd ++ prsW ps) ∧ wr.cell? ⟨w.heap.size, 3, none⟩ = some (.slice A0 np c0) ∧ wr.cell? ⟨w.heap.size, 4, none⟩ = some (.slice A1 nk c1) ∧ w.heap.size < wr.heap.size ∧ Below w.heap.size w wr) (fun _ i _ => np - (intOf i).toNat)
    case atStart => exact ⟨0, hd, by omega, rfl, rfl, Lib.hid (by rw [List.drop_zero]), o3, o4, by simp, hB1⟩
    case round =>
      clear o0 o1 o2 o3 o4 hB1
      obtain ⟨k, q, hk, rfl, rfl, HQ, o3, o4, hxl, hB⟩ := hrel
      by_cases hlt : k < np
      · obtain ⟨b2, off, rfl, hblt2, hcell⟩ := PrL.at_ (HP.out.below hB) (by have := HNP.out; omega)
        obtain ⟨x, hx⟩ := at_some (show k < ps.length by rw [HNP.out]; exact hlt)
        obtain ⟨e0, e1, e2, e3⟩ := hcell k x hx
        have hb2 : b2 < wr.heap.size := hblt2
        have hpo := HPO.out x (List.mem_of_getElem? hx)
        have hQ := HQ.out
        rw [prsW_drop hx, ← ByteArray.append_assoc] at hQ
        have hsum : (q ++ prW x).size ≤ wd.size := by
          have e := congrArg ByteArray.size hQ
          rw [ByteArray.size_append] at e
          omega
        rw [ByteArray.size_append] at hsum
        have hpz : (prW x).size = 2 + (itoaB x.nm).size + 1 + (valW x.v.k x.v.n x.v.s).size := by
          unfold prW
          rw [ByteArray.size_append, ByteArray.size_append, ByteArray.size_append]
          rfl
        have hpw : q ++ prW x = ((((q ++ (⟨#[32, 112]⟩ : ByteArray)) ++ itoaB x.nm) ++ ⟨#[61]⟩) ++ valW x.v.k x.v.n x.v.s) := by unfold prW; simp only [ByteArray.append_assoc]
        rw [hpw] at hQ
        have KD := Lib.hid (fun w => decB x.nm w (by have := hpo.1; omega) (by have := hpo.2.1; omega))
        have KQ := Lib.hid (fun w => quotedS_any x.v.k x.v.n x.v.s w hpo.2.2)
        have HQ2 := Lib.hid hQ
        clear hQ hpw hpo hcell hx HQ
        obtain ⟨nm, ⟨vk, vn, vs⟩⟩ := x
        dsimp only at *
        obtain ⟨u1, hu1⟩ : ∃ u, itoaB nm = u := ⟨_, rfl⟩
        obtain ⟨u2, hu2⟩ : ∃ u, valW vk vn vs = u := ⟨_, rfl⟩
        rw [hu1] at KD HQ2 hpz
        rw [hu2] at KQ HQ2 hpz
        have n1 : ¬ 9223372036854775807 < q.size + 2 := by omega
        have n2 : ¬ 9223372036854775807 < q.size + 2 + u1.size := by omega
        have n3 : ¬ 9223372036854775807 < q.size + 2 + u1.size + 1 := by omega
        have n4 : ¬ 9223372036854775807 < q.size + 2 + u1.size + 1 + u2.size := by omega
        clear hu1 hu2
        have hi1 : (0 : Int) ≤ (k : Int) := by omega
        have hi2 : (k : Int) < (np : Int) := by omega
        go_wp2_with fail
        go_region_held3 (fun w' => w'.cell? ⟨w.heap.size, 3, none⟩ = some (.slice (some ⟨b2, off, none⟩) np c0) ∧ w'.cell? ⟨b2, off + k * 4, none⟩ = some (.int .i64 nm) ∧ w'.cell? ⟨b2, off + k * 4 + 1, none⟩ = some (.int .i64 vk) ∧ w'.cell? ⟨b2, off + k * 4 + 2, none⟩ = some (.int .i64 vn) ∧ w'.cell? ⟨b2, off + k * 4 + 3, none⟩ = some (.string vs)) (go_keep) (first | (go_at_call 106; ((with_reducible refine (KD.out _).mono ?_); rintro e w' ⟨rfl, rfl⟩)) | (go_at_call 108; ((with_reducible refine (KQ.out _).mono ?_); rintro e w' ⟨rfl, hb⟩; replace o3 := (hb.cell (p := ⟨w.heap.size, 3, none⟩) hxl).trans o3; replace o4 := (hb.cell (p := ⟨w.heap.size, 4, none⟩) hxl).trans o4; replace e0 := (hb.cell (p := ⟨b2, off + k * 4, none⟩) hb2).trans e0; replace e1 := (hb.cell (p := ⟨b2, off + k * 4 + 1, none⟩) hb2).trans e1; replace e2 := (hb.cell (p := ⟨b2, off + k * 4 + 2, none⟩) hb2).trans e2; replace e3 := (hb.cell (p := ⟨b2, off + k * 4 + 3, none⟩) hb2).trans e3; replace hB := more (W1 := _) (B := w.heap.size) (W0 := w) (by go_grown) (Nat.le_refl _) hb; replace hxl := Nat.lt_of_lt_of_le hxl hb.size; clear hb)))
        go_wp2_with fail
        go_roundw
        case rel => exact ⟨k + 1, _, by omega, by go_num, rfl, HQ2, o3, o4, hxl, hB⟩
        case measure => simp [intOf]; omega
      · obtain rfl : k = np := by omega
        have hQ := HQ.out
        rw [← HNP.out, List.drop_length] at hQ
        have h0 : prsW [] = ⟨#[]⟩ := rfl
        rw [h0, ba_nilR] at hQ
        subst hQ
        clear HQ
        go_wp2_with fail
        have HBS := Lib.hid hB
        have hxs := hxl
        have o4s := o4
        clear hB hxl o3 o4 HP HPO
        go_loopw [3, 5] (fun m i wr => ∃ (k : Nat) (q : ByteArray), k ≤ nk ∧ i = .int .i64 k ∧ m = .string q ∧ Hid (q ++ kidsW (ks.drop k) = (hd ++ prsW ps) ++ kidsW ks) ∧ wr.cell? ⟨w.heap.size, 4, none⟩ = some (.slice A1 nk c1) ∧ w.heap.size < wr.heap.size ∧ Hid (Below w.heap.size w wr)) (fun _ i _ => nk - (intOf i).toNat)
        case atStart => exact ⟨0, hd ++ prsW ps, by omega, rfl, rfl, Lib.hid (by rw [List.drop_zero]), o4s, hxs, HBS⟩
        case round =>
          clear o4s hxs HBS
          obtain ⟨k, q, hk, rfl, rfl, HQ, o4, hxl, HB⟩ := hrel
          by_cases hlt : k < nk
          · obtain ⟨x, hx⟩ := at_some (show k < ks.length by rw [HNK.out]; exact hlt)
            obtain ⟨b2, off, E0, d0, E1, d1, rfl, hblt2, _, e0, e1, e2, e3, e4, hp, _, hks⟩ := (HK.out.below HB.out).at_ hx
            have hI := HI.out x (List.mem_of_getElem? hx) E0 E1 d0 d1 wr hp hks
            have hQ := HQ.out
            rw [kidsW_drop hx, ← ByteArray.append_assoc, ← ByteArray.append_assoc] at hQ
            have hsum : ((q ++ ⟨#[32]⟩) ++ wordsT x).size + 1 ≤ wd.size := by
              have e := congrArg ByteArray.size hQ
              rw [ByteArray.size_append] at e
              omega
            rw [ByteArray.size_append, ByteArray.size_append] at hsum
            have h32 : (⟨#[32]⟩ : ByteArray).size = 1 := rfl
            rw [h32] at hsum
            have hi1 : (0 : Int) ≤ (k : Int) := by omega
            have hi2 : (k : Int) < (nk : Int) := by omega
            have HQ2 := Lib.hid hQ
            have KX := Lib.hid hI
            clear hQ hI hx hp hks HQ
            obtain ⟨xt, xk, xs, xp, xq⟩ := x
            dsimp only [Tr.tag, Tr.key, Tr.text, Tr.ps, Tr.ks] at e0 e1 e2 e3 e4 KX
            obtain ⟨xw, hxw⟩ : ∃ u, wordsT (.mk xt xk xs xp xq) = u := ⟨_, rfl⟩
            rw [hxw] at KX HQ2 hsum
            have n1 : ¬ 9223372036854775807 < q.size + 1 := by omega
            have n2 : ¬ 9223372036854775807 < q.size + 1 + xw.size := by omega
            clear hxw
            go_wp2_with fail
            refine KX.out.mono ?_
            rintro e w2 ⟨rfl, hb⟩
            replace o4 := (hb.cell (p := ⟨w.heap.size, 4, none⟩) hxl).trans o4
            have HB2 := Lib.hid (more HB.out (Nat.le_refl _) hb)
            replace hxl := Nat.lt_of_lt_of_le hxl hb.size
            clear hb
            go_wp2_with fail
            go_roundw
            case rel => exact ⟨k + 1, _, by omega, by go_num, rfl, HQ2, o4, hxl, HB2⟩
            case measure => simp [intOf]; omega
          · obtain rfl : k = nk := by omega
            have hQ := HQ.out
            rw [← HNK.out, List.drop_length] at hQ
            have h0 : kidsW [] = ⟨#[]⟩ := by simp only [kidsW]
            rw [h0, ba_nilR] at hQ
            have n1 : ¬ 9223372036854775807 < q.size + 1 := by
              have e := congrArg ByteArray.size hQ
              omega
            have hfin : wd = q ++ ⟨#[41]⟩ := by rw [HW.out, hQ]
            have HFN := Lib.hid hfin
            clear HQ hQ hfin
            go_wp2_with fail
            go_ret
            exact ⟨ret_str HFN.out.symm, HB.out⟩
  · have hkd : ((key : Int) != -1) = true := by simp; omega
    have hd0 : headW tag key = (((⟨#[40, 116]⟩ : ByteArray) ++ itoaB tag) ++ ⟨#[32, 107]⟩) ++ itoaB key := by unfold headW; rw [if_neg hkey, ByteArray.append_assoc, ByteArray.append_assoc, ByteArray.append_assoc]
    rw [hd0] at hw hzh hzk hzh0
    have KK := Lib.hid (fun w => decB key w (by omega) (by omega))
    obtain ⟨u, hu⟩ : ∃ u, itoaB tag = u := ⟨_, rfl⟩
    obtain ⟨u', hu'⟩ : ∃ u, itoaB key = u := ⟨_, rfl⟩
    rw [hu] at hw hzh hzk hzh0 KT
    rw [hu'] at hw hzh hzk hzh0 KK
    have hzz : 2 + u.size + 2 + u'.size ≤ wd.size := by rw [ByteArray.size_append, ByteArray.size_append, ByteArray.size_append] at hzh0; exact hzh0
    have n1 : ¬ 9223372036854775807 < 2 + u.size := by omega
    have n2 : ¬ 9223372036854775807 < 2 + u.size + 2 := by omega
    have n3 : ¬ 9223372036854775807 < 2 + u.size + 2 + u'.size := by omega
    have HW := Lib.hid hw
    clear hw hd0 hu hu'
    go_enter Tryz.func83, Tryz.ntmps83
    go_wp2_with fail
    refine (KT.out _).mono ?_
    rintro e w' ⟨rfl, rfl⟩
    go_wp2_with fail
    refine (KK.out _).mono ?_
    rintro e w' ⟨rfl, rfl⟩
    obtain ⟨hd, hhd⟩ : ∃ q, (((⟨#[40, 116]⟩ : ByteArray) ++ u) ++ ⟨#[32, 107]⟩) ++ u' = q := ⟨_, rfl⟩
    rw [hhd] at HW hzh hzk hzh0
    clear KT KK
    go_wp2_with fail
    (try rw [hhd])
    clear hhd n1 n2 n3
    have hB1 := HB0.out
    go_loopw [3, 4] (fun m i wr => ∃ (k : Nat) (q : ByteArray), k ≤ np ∧ i = .int .i64 k ∧ m = .string q ∧ Hid (q ++ prsW (ps.drop k) = hd ++ prsW ps) ∧ wr.cell? ⟨w.heap.size, 3, none⟩ = some (.slice A0 np c0) ∧ wr.cell? ⟨w.heap.size, 4, none⟩ = some (.slice A1 nk c1) ∧ w.heap.size < wr.heap.size ∧ Below w.heap.size w wr) (fun _ i _ => np - (intOf i).toNat)
    case atStart => exact ⟨0, hd, by omega, rfl, rfl, Lib.hid (by rw [List.drop_zero]), o3, o4, by simp, hB1⟩
    case round =>
      clear o0 o1 o2 o3 o4 hB1
      obtain ⟨k, q, hk, rfl, rfl, HQ, o3, o4, hxl, hB⟩ := hrel
      by_cases hlt : k < np
      · obtain ⟨b2, off, rfl, hblt2, hcell⟩ := PrL.at_ (HP.out.below hB) (by have := HNP.out; omega)
        obtain ⟨x, hx⟩ := at_some (show k < ps.length by rw [HNP.out]; exact hlt)
        obtain ⟨e0, e1, e2, e3⟩ := hcell k x hx
        have hb2 : b2 < wr.heap.size := hblt2
        have hpo := HPO.out x (List.mem_of_getElem? hx)
        have hQ := HQ.out
        rw [prsW_drop hx, ← ByteArray.append_assoc] at hQ
        have hsum : (q ++ prW x).size ≤ wd.size := by
          have e := congrArg ByteArray.size hQ
          rw [ByteArray.size_append] at e
          omega
        rw [ByteArray.size_append] at hsum
        have hpz : (prW x).size = 2 + (itoaB x.nm).size + 1 + (valW x.v.k x.v.n x.v.s).size := by
          unfold prW
          rw [ByteArray.size_append, ByteArray.size_append, ByteArray.size_append]
          rfl
        have hpw : q ++ prW x = ((((q ++ (⟨#[32, 112]⟩ : ByteArray)) ++ itoaB x.nm) ++ ⟨#[61]⟩) ++ valW x.v.k x.v.n x.v.s) := by unfold prW; simp only [ByteArray.append_assoc]
        rw [hpw] at hQ
        have KD := Lib.hid (fun w => decB x.nm w (by have := hpo.1; omega) (by have := hpo.2.1; omega))
        have KQ := Lib.hid (fun w => quotedS_any x.v.k x.v.n x.v.s w hpo.2.2)
        have HQ2 := Lib.hid hQ
        clear hQ hpw hpo hcell hx HQ
        obtain ⟨nm, ⟨vk, vn, vs⟩⟩ := x
        dsimp only at *
        obtain ⟨u1, hu1⟩ : ∃ u, itoaB nm = u := ⟨_, rfl⟩
        obtain ⟨u2, hu2⟩ : ∃ u, valW vk vn vs = u := ⟨_, rfl⟩
        rw [hu1] at KD HQ2 hpz
        rw [hu2] at KQ HQ2 hpz
        have n1 : ¬ 9223372036854775807 < q.size + 2 := by omega
        have n2 : ¬ 9223372036854775807 < q.size + 2 + u1.size := by omega
        have n3 : ¬ 9223372036854775807 < q.size + 2 + u1.size + 1 := by omega
        have n4 : ¬ 9223372036854775807 < q.size + 2 + u1.size + 1 + u2.size := by omega
        clear hu1 hu2
        have hi1 : (0 : Int) ≤ (k : Int) := by omega
        have hi2 : (k : Int) < (np : Int) := by omega
        go_wp2_with fail
        go_region_held3 (fun w' => w'.cell? ⟨w.heap.size, 3, none⟩ = some (.slice (some ⟨b2, off, none⟩) np c0) ∧ w'.cell? ⟨b2, off + k * 4, none⟩ = some (.int .i64 nm) ∧ w'.cell? ⟨b2, off + k * 4 + 1, none⟩ = some (.int .i64 vk) ∧ w'.cell? ⟨b2, off + k * 4 + 2, none⟩ = some (.int .i64 vn) ∧ w'.cell? ⟨b2, off + k * 4 + 3, none⟩ = some (.string vs)) (go_keep) (first | (go_at_call 106; ((with_reducible refine (KD.out _).mono ?_); rintro e w' ⟨rfl, rfl⟩)) | (go_at_call 108; ((with_reducible refine (KQ.out _).mono ?_); rintro e w' ⟨rfl, hb⟩; replace o3 := (hb.cell (p := ⟨w.heap.size, 3, none⟩) hxl).trans o3; replace o4 := (hb.cell (p := ⟨w.heap.size, 4, none⟩) hxl).trans o4; replace e0 := (hb.cell (p := ⟨b2, off + k * 4, none⟩) hb2).trans e0; replace e1 := (hb.cell (p := ⟨b2, off + k * 4 + 1, none⟩) hb2).trans e1; replace e2 := (hb.cell (p := ⟨b2, off + k * 4 + 2, none⟩) hb2).trans e2; replace e3 := (hb.cell (p := ⟨b2, off + k * 4 + 3, none⟩) hb2).trans e3; replace hB := more (W1 := _) (B := w.heap.size) (W0 := w) (by go_grown) (Nat.le_refl _) hb; replace hxl := Nat.lt_of_lt_of_le hxl hb.size; clear hb)))
        go_wp2_with fail
        go_roundw
        case rel => exact ⟨k + 1, _, by omega, by go_num, rfl, HQ2, o3, o4, hxl, hB⟩
        case measure => simp [intOf]; omega
      · obtain rfl : k = np := by omega
        have hQ := HQ.out
        rw [← HNP.out, List.drop_length] at hQ
        have h0 : prsW [] = ⟨#[]⟩ := rfl
        rw [h0, ba_nilR] at hQ
        subst hQ
        clear HQ
        go_wp2_with fail
        have HBS := Lib.hid hB
        have hxs := hxl
        have o4s := o4
        clear hB hxl o3 o4 HP HPO
        go_loopw [3, 5] (fun m i wr => ∃ (k : Nat) (q : ByteArray), k ≤ nk ∧ i = .int .i64 k ∧ m = .string q ∧ Hid (q ++ kidsW (ks.drop k) = (hd ++ prsW ps) ++ kidsW ks) ∧ wr.cell? ⟨w.heap.size, 4, none⟩ = some (.slice A1 nk c1) ∧ w.heap.size < wr.heap.size ∧ Hid (Below w.heap.size w wr)) (fun _ i _ => nk - (intOf i).toNat)
        case atStart => exact ⟨0, hd ++ prsW ps, by omega, rfl, rfl, Lib.hid (by rw [List.drop_zero]), o4s, hxs, HBS⟩
        case round =>
          clear o4s hxs HBS
          obtain ⟨k, q, hk, rfl, rfl, HQ, o4, hxl, HB⟩ := hrel
          by_cases hlt : k < nk
          · obtain ⟨x, hx⟩ := at_some (show k < ks.length by rw [HNK.out]; exact hlt)
            obtain ⟨b2, off, E0, d0, E1, d1, rfl, hblt2, _, e0, e1, e2, e3, e4, hp, _, hks⟩ := (HK.out.below HB.out).at_ hx
            have hI := HI.out x (List.mem_of_getElem? hx) E0 E1 d0 d1 wr hp hks
            have hQ := HQ.out
            rw [kidsW_drop hx, ← ByteArray.append_assoc, ← ByteArray.append_assoc] at hQ
            have hsum : ((q ++ ⟨#[32]⟩) ++ wordsT x).size + 1 ≤ wd.size := by
              have e := congrArg ByteArray.size hQ
              rw [ByteArray.size_append] at e
              omega
            rw [ByteArray.size_append, ByteArray.size_append] at hsum
            have h32 : (⟨#[32]⟩ : ByteArray).size = 1 := rfl
            rw [h32] at hsum
            have hi1 : (0 : Int) ≤ (k : Int) := by omega
            have hi2 : (k : Int) < (nk : Int) := by omega
            have HQ2 := Lib.hid hQ
            have KX := Lib.hid hI
            clear hQ hI hx hp hks HQ
            obtain ⟨xt, xk, xs, xp, xq⟩ := x
            dsimp only [Tr.tag, Tr.key, Tr.text, Tr.ps, Tr.ks] at e0 e1 e2 e3 e4 KX
            obtain ⟨xw, hxw⟩ : ∃ u, wordsT (.mk xt xk xs xp xq) = u := ⟨_, rfl⟩
            rw [hxw] at KX HQ2 hsum
            have n1 : ¬ 9223372036854775807 < q.size + 1 := by omega
            have n2 : ¬ 9223372036854775807 < q.size + 1 + xw.size := by omega
            clear hxw
            go_wp2_with fail
            refine KX.out.mono ?_
            rintro e w2 ⟨rfl, hb⟩
            replace o4 := (hb.cell (p := ⟨w.heap.size, 4, none⟩) hxl).trans o4
            have HB2 := Lib.hid (more HB.out (Nat.le_refl _) hb)
            replace hxl := Nat.lt_of_lt_of_le hxl hb.size
            clear hb
            go_wp2_with fail
            go_roundw
            case rel => exact ⟨k + 1, _, by omega, by go_num, rfl, HQ2, o4, hxl, HB2⟩
            case measure => simp [intOf]; omega
          · obtain rfl : k = nk := by omega
            have hQ := HQ.out
            rw [← HNK.out, List.drop_length] at hQ
            have h0 : kidsW [] = ⟨#[]⟩ := by simp only [kidsW]
            rw [h0, ba_nilR] at hQ
            have n1 : ¬ 9223372036854775807 < q.size + 1 := by
              have e := congrArg ByteArray.size hQ
              omega
            have hfin : wd = q ++ ⟨#[41]⟩ := by rw [HW.out, hQ]
            have HFN := Lib.hid hfin
            clear HQ hQ hfin
            go_wp2_with fail
            go_ret
            exact ⟨ret_str HFN.out.symm, HB.out⟩
end Go.Proofs.YtagaaeolgecdmaaGreatDoor

namespace Go.Proofs.YtagaaeolgecdmaaGreatDoor
open Go.Joins Go.ChangeShapes Go.WideShapes Go.ChangeAt Go.RowKit Go.Deep
set_option linter.unusedVariables false
set_option linter.unusedSimpArgs false

def treeTextV (t : Tr) : ByteArray := if treeOkB t = true then wordsT t else ⟨#[]⟩
theorem treeTextV_max (t : Tr) : (treeTextV t).size ≤ 220000 := by
  unfold treeTextV
  split
  · exact wordsT_max (by assumption)
  · exact Nat.zero_le _
set_option maxRecDepth 100000 in
set_option maxHeartbeats 2000000 in
theorem iTreeText_any (t : Tr) (hsm : SmT t) (hkw : KwT t) : ∀ (A0 A1 : Option Addr) (c0 c1 : Nat) (w : World), Vs w → PrL w A0 t.ps → TrL w 0 A1 t.ks →
    Calls Tryz.prog 34 #[.agg #[.int .i64 t.tag, .int .i64 t.key, .string t.text, .slice A0 t.ps.length c0, .slice A1 t.ks.length c1]] w fun e w' => e = .returned (.string (treeTextV t)) ∧ Below w.heap.size w w' := by
  intro A0 A1 c0 c1 w hvw hp hk
  have k1 := fun w hv hp hk => iTreeOk_any Vs ⟨fun w w' h hb => h.next hb, fun s w hl hv => ishown_any s w hl hv⟩ t hsm hkw A0 A1 c0 c1 w hv hp hk
  have k2 := fun (h : treeOkB t = true) => itree_any t hsm h A0 A1 c0 c1
  have hpos := wordsT_pos t
  have hmx := fun (h : treeOkB t = true) => wordsT_max h
  obtain ⟨r, hr⟩ : ∃ r, treeTextV t = r := ⟨_, rfl⟩
  have hr' := hr
  unfold treeTextV at hr'
  rw [hr]
  generalize treeOkB t = v at k1 k2 hr' hmx
  generalize wordsT t = tt at k2 hr' hpos hmx
  obtain ⟨tag, key, text, ps, ks⟩ := t
  dsimp only [Tr.tag, Tr.key, Tr.text, Tr.ps, Tr.ks] at *
  generalize ps.length = np at *
  generalize ks.length = n at *
  have hb0 := Below.alloc (Below.refl w.heap.size w) (Nat.le_refl _) (.cells #[.int .i64 tag, .int .i64 key, .string text, .slice A0 np c0, .slice A1 n c1] 32)
  have HB0 := Lib.hid hb0
  have HP := Lib.hid (hp.below hb0)
  have HK := Lib.hid (hk.below hb0)
  have HVV := Lib.hid (hvw.next hb0)
  have K1 := Lib.hid k1
  have K2 := Lib.hid k2
  clear hp hk k1 k2 hb0 hr hvw
  cases v
  · rw [if_neg (by decide)] at hr'
    subst hr'
    go_enter Tryz.func34, Tryz.ntmps34
    go_wp2_with fail
    refine (K1.out _ HVV.out HP.out HK.out).mono ?_
    rintro e w1 ⟨rfl, hb⟩
    have HB1 := Lib.hid (more HB0.out (Nat.le_refl _) hb)
    clear hb
    go_wp2_with fail
    go_ret
    exact ⟨rfl, HB1.out⟩
  · rw [if_pos rfl] at hr'
    subst hr'
    go_enter Tryz.func34, Tryz.ntmps34
    go_wp2_with fail
    refine (K1.out _ HVV.out HP.out HK.out).mono ?_
    rintro e w1 ⟨rfl, hb⟩
    have HB1 := Lib.hid (more HB0.out (Nat.le_refl _) hb)
    have HK1 := HK.out.below hb
    have HP1 := HP.out.below hb
    have hv1 := HVV.out.next hb
    have o0 := (hb.cell (p := ⟨w.heap.size, 0, none⟩) (by simp)).trans (by rw [World.cell?_alloc_new]; rfl : _ = some (.int .i64 tag))
    have o1 := (hb.cell (p := ⟨w.heap.size, 1, none⟩) (by simp)).trans (by rw [World.cell?_alloc_new]; rfl : _ = some (.int .i64 key))
    have o2 := (hb.cell (p := ⟨w.heap.size, 2, none⟩) (by simp)).trans (by rw [World.cell?_alloc_new]; rfl : _ = some (.string text))
    have o3 := (hb.cell (p := ⟨w.heap.size, 3, none⟩) (by simp)).trans (by rw [World.cell?_alloc_new]; rfl : _ = some (.slice A0 np c0))
    have o4 := (hb.cell (p := ⟨w.heap.size, 4, none⟩) (by simp)).trans (by rw [World.cell?_alloc_new]; rfl : _ = some (.slice A1 n c1))
    have hba := Below.alloc (Below.refl w1.heap.size w1) (Nat.le_refl _) (.cells #[.pointer none, .slice none 0 0] 106)
    have hi1 : BdW w1.heap.size w1.heap.size [] (w1.alloc (.cells #[.pointer none, .slice none 0 0] 106)) := Lib.IsBuilderF.of (Lib.fresh_isBuilder 106 5 w1)
    have KT := Lib.hid (K2.out (by trivial) w1.heap.size w1.heap.size [] w1 _ (TabB.of hv1.1 (Nat.le_refl _)) (Nat.le_refl _) hba hi1 HP1 HK1 (by have := hmx (by trivial); simp only [List.length_nil]; omega))
    have hw1 : w.heap.size < w1.heap.size := by have := hb.size; simp at this; omega
    replace o0 := (hba.cell (p := ⟨w.heap.size, 0, none⟩) hw1).trans o0
    replace o1 := (hba.cell (p := ⟨w.heap.size, 1, none⟩) hw1).trans o1
    replace o2 := (hba.cell (p := ⟨w.heap.size, 2, none⟩) hw1).trans o2
    replace o3 := (hba.cell (p := ⟨w.heap.size, 3, none⟩) hw1).trans o3
    replace o4 := (hba.cell (p := ⟨w.heap.size, 4, none⟩) hw1).trans o4
    have HBA := Lib.hid (more HB1.out (Nat.le_refl _) hba)
    clear hb hba hi1 HK1 HP1 hv1 K1 K2
    go_wp2_with fail
    refine KT.out.mono ?_
    rintro e w2 ⟨rfl, ha⟩
    have hne : tt.data.toList ≠ [] := by
      intro e
      have h0 : tt.size = tt.data.toList.length := by rw [Array.length_toList]; rfl
      rw [e, List.length_nil] at h0
      omega
    have KS := Lib.hid (str_anyW w1.heap.size w1.heap.size tt.data.toList w2 (by have := ha.1; rw [List.nil_append] at this; exact this) hne)
    have HB2 := Lib.hid (HB1.out.trans (((Below.alloc (Below.refl w1.heap.size w1) (Nat.le_refl _) (.cells #[.pointer none, .slice none 0 0] 106)).trans ha.2.1).mono (by have := HB1.out.size; omega)))
    clear ha KT
    go_wp2_with fail
    refine KS.out.mono ?_
    rintro e w3 ⟨rfl, hb⟩
    have HB3 := Lib.hid (HB2.out.trans (hb.mono (by have := HB1.out.size; omega)))
    clear hb KS
    go_wp2_with fail
    go_ret
    exact ⟨rfl, HB3.out⟩
end Go.Proofs.YtagaaeolgecdmaaGreatDoor
