/- The program's own writer of trees: what it writes of a text, a number, a value. -/
import Derived.Test.YtanonflcieebbaaGreatDoorBld2
import Derived.Test.YtanonflcieebbaaGreatDoorShowD
import Derived.Test.YtanonflcieebbaaGreatDoorLay1
import Derived.Test.YtanonflcieebbaaGreatDoorShelf
import Derived.StillTailTactics
import Derived.Deep.RegionHeld3
import Derived.Lib.Hide
namespace Go.Proofs.YtanonflcieebbaaGreatDoor
open Go.Joins Go.ChangeShapes Go.WideShapes Go.ChangeAt Go.RowKit Go.Deep
set_option linter.unusedVariables false
set_option linter.unusedSimpArgs false

theorem strCells_app (a b : ByteArray) : Lib.strCells (a ++ b) = Lib.strCells a ++ Lib.strCells b := by simp [Lib.strCells, ByteArray.data_append]
/-- The builder in block b holds these bytes. -/
def BdW (B b : Nat) (bs : List Value) (w : World) : Prop := Lib.IsBuilderF 106 5 B b bs w
theorem BdW.lt {B b : Nat} {bs : List Value} {w : World} (h : BdW B b bs w) : b < w.heap.size := bld_ltW h
theorem BdW.ge {B b : Nat} {bs : List Value} {w : World} (h : BdW B b bs w) : B ≤ b := bld_geW h
theorem BdW.later {B b : Nat} {bs : List Value} {w w' : World} (h : BdW B b bs w) (hb : Below w.heap.size w w') : BdW B b bs w' := bld_laterW h hb
theorem others_later {b : Option Nat} {w w' : World} (hb : Below w.heap.size w w') : Lib.OthersKept 5 b w w' := fun k o hk _ _ => (hb.block k (Array.getElem?_eq_some_iff.1 hk).1).trans hk
/-- The builder in block b has got these bytes more. -/
def AddW (B b : Nat) (bs : List Value) (s : ByteArray) (w w' : World) : Prop := BdW B b (bs ++ Lib.strCells s) w' ∧ Below B w w' ∧ Lib.OthersKept 5 (some b) w w'
theorem AddW.size {B b : Nat} {bs : List Value} {s : ByteArray} {w w' : World} (h : AddW B b bs s w w') : w.heap.size ≤ w'.heap.size := h.2.1.size
theorem AddW.none {B b : Nat} {bs : List Value} {w : World} (h : BdW B b bs w) : AddW B b bs ⟨#[]⟩ w w := ⟨by rw [show Lib.strCells ⟨#[]⟩ = [] from rfl, List.append_nil]; exact h, Below.refl _ _, Lib.OthersKept.refl _ _ _⟩
theorem AddW.trans {B b : Nat} {bs : List Value} {s s2 : ByteArray} {w w1 w2 : World} (h : AddW B b bs s w w1) (h2 : AddW B b (bs ++ Lib.strCells s) s2 w1 w2) : AddW B b bs (s ++ s2) w w2 :=
  ⟨by rw [strCells_app, ← List.append_assoc]; exact h2.1, h.2.1.trans h2.2.1, h.2.2.trans h2.2.2⟩
theorem AddW.before {B b : Nat} {bs : List Value} {s : ByteArray} {w w1 w2 : World} (hb : Below w.heap.size w w1) (hB : B ≤ w.heap.size) (h : AddW B b bs s w1 w2) : AddW B b bs s w w2 :=
  ⟨h.1, (hb.mono hB).trans h.2.1, (others_later hb).trans h.2.2⟩
theorem AddW.after {B b : Nat} {bs : List Value} {s : ByteArray} {w w1 w2 : World} (h : AddW B b bs s w w1) (hB : B ≤ w.heap.size) (hb : Below w1.heap.size w1 w2) : AddW B b bs s w w2 :=
  ⟨h.1.later hb, h.2.1.trans (hb.mono (Nat.le_trans hB h.size)), h.2.2.trans (others_later hb)⟩
/-- A cell of a block of another kind stands. -/
theorem AddW.cell {B b : Nat} {bs : List Value} {s : ByteArray} {w w' : World} (h : AddW B b bs s w w') {p : Addr} (hne : p.block ≠ b) {c : Array Value} {T : TypeId} {fz : Nat × Nat} (hk : w.heap[p.block]? = some (.cells c T fz)) (hT : T ≠ 5) : w'.cell? p = w.cell? p :=
  World.cell?_of_block ((h.2.2 _ _ hk (fun e => hne (by injection e)) (fun c' fz' e => by injection e with _ e1 _; exact hT e1)).trans hk.symm)
theorem AddW.block {B b : Nat} {bs : List Value} {s : ByteArray} {w w' : World} (h : AddW B b bs s w w') {k : Nat} (hne : k ≠ b) {c : Array Value} {T : TypeId} {fz : Nat × Nat} (hk : w.heap[k]? = some (.cells c T fz)) (hT : T ≠ 5) : w'.heap[k]? = some (.cells c T fz) :=
  h.2.2 _ _ hk (fun e => hne (by injection e)) (fun c' fz' e => by injection e with _ e1 _; exact hT e1)
/-- Whatever is made from block B on, the library's table of powers stands. -/
def TabB (B : Nat) (w0 : World) : Prop := Lib.TabBelow Tryz.prog B w0 "internal/strconv.uint64pow10" .u64 Lib.pow10Tab
theorem TabB.of {B : Nat} {w0 : World} (h : Tab w0) (hB : w0.heap.size ≤ B) : TabB B w0 := fun w' h' => h w' (h'.mono hB)
def itoaB (n : Int) : ByteArray := ⟨(Lib.itoa n).toArray⟩
def q39 (s : ByteArray) : ByteArray := (⟨#[39]⟩ ++ s) ++ ⟨#[39]⟩
theorem itoaI (n : Int) (w : World) (hT : Lib.TabIs Tryz.prog w "internal/strconv.uint64pow10" .u64 Lib.pow10Tab) (h0 : -9223372036854775808 ≤ n) (h1 : n ≤ 9223372036854775807) :
    Calls Tryz.prog 112 #[.int .i64 n] w fun e w' => e = .returned (.string (itoaB n)) ∧ Below w.heap.size w w' :=
  (Tryz.strconv_Itoa n h0 h1 w hT).mono fun e w' ⟨he, k, os, hw⟩ => ⟨he, by rw [hw]; exact below_grow w k os⟩
theorem ws_add (B b : Nat) (bs : List Value) (s : ByteArray) (w : World) (h : BdW B b bs w) (hlen : bs.length + s.size ≤ 100000000) :
    Calls Tryz.prog 68 #[.pointer (some ⟨b, 0, none⟩), .string s] w fun e w' => e = .returned (.tuple #[.int .i64 s.size, .nilIface]) ∧ AddW B b bs s w w' :=
  ws_anyW B b bs s w h hlen (by have := h.lt; have := h.ge; omega)
set_option maxHeartbeats 1000000 in
set_option maxRecDepth 100000 in
theorem quotedW_any (B b : Nat) (bs : List Value) (s : ByteArray) (w : World) (h : BdW B b bs w) (hlen : bs.length + s.size + 2 ≤ 100000000) :
    Calls Tryz.prog 91 #[.pointer (some ⟨b, 0, none⟩), .string s] w fun e w' => e = .returned (.tuple #[]) ∧ AddW B b bs (q39 s) w w' := by
  have K := Lib.hid (ws_add B b bs (q39 s) w h (by unfold q39; rw [ByteArray.size_append, ByteArray.size_append]; show bs.length + (1 + s.size + 1) ≤ _; omega))
  have n1 : ¬ 9223372036854775807 < 1 + s.size := by omega
  have n2 : ¬ 9223372036854775807 < 1 + s.size + 1 := by omega
  unfold q39 at K ⊢
  clear h hlen
  go_enter Tryz.func91, Tryz.ntmps91
  go_wp2_with fail
  refine K.out.mono ?_
  rintro e w' ⟨rfl, ha⟩
  have HA := Lib.hid ha
  clear ha K
  go_wp2_with fail
  go_end0
  exact ⟨rfl, HA.out⟩
set_option maxHeartbeats 1000000 in
set_option maxRecDepth 100000 in
theorem numberW_any (B b : Nat) (bs : List Value) (sg : ByteArray) (n : Int) (w0 w : World) (hT : TabB B w0) (hb0 : Below B w0 w) (h : BdW B b bs w) (h0 : -9223372036854775808 ≤ n) (h1 : n ≤ 9223372036854775807) (hlen : bs.length + sg.size + (itoaB n).size ≤ 100000000) :
    Calls Tryz.prog 92 #[.pointer (some ⟨b, 0, none⟩), .string sg, .int .i64 n] w fun e w' => e = .returned (.tuple #[]) ∧ AddW B b bs (sg ++ itoaB n) w w' := by
  have hBs : B ≤ w.heap.size := by have := h.lt; have := h.ge; omega
  have KI := Lib.hid (fun w1 (hb : Below w.heap.size w w1) => itoaI n w1 (hT w1 (hb0.trans (hb.mono hBs))) h0 h1)
  have KS := Lib.hid (fun w1 (hb : Below w.heap.size w w1) => ws_add B b bs (sg ++ itoaB n) w1 (h.later hb) (by rw [ByteArray.size_append]; omega))
  obtain ⟨u, hu⟩ : ∃ u, itoaB n = u := ⟨_, rfl⟩
  rw [hu] at KI KS hlen ⊢
  have n1 : ¬ 9223372036854775807 < sg.size + u.size := by omega
  have hB : Below w.heap.size w w := Below.refl _ _
  clear h hlen hb0 hT hu h0 h1
  go_enter Tryz.func92, Tryz.ntmps92
  go_wp2_with fail
  go_region_held3 (fun w' => True) (trivial) (first | (go_at_call 112; ((with_reducible refine (KI.out _ (by go_grown)).mono ?_); rintro e w' ⟨rfl, hb⟩; replace hB := more (W1 := _) (B := w.heap.size) (W0 := w) (by go_grown) (Nat.le_refl _) hb; clear hb)) | (go_at_call 68; ((with_reducible refine (KS.out _ (by go_grown)).mono ?_); rintro e w' ⟨rfl, ha⟩; have HA := Lib.hid (AddW.before (by go_grown) hBs ha); clear ha)))
  go_wp2_with fail
  go_end0
  exact ⟨rfl, HA.out⟩
/-- A value as a word. -/
def valW (k n : Int) (s : ByteArray) : ByteArray := if k = 1 then itoaB n else if k = 2 then q39 s else ⟨#[45]⟩
theorem ba_nilL (s : ByteArray) : (⟨#[]⟩ : ByteArray) ++ s = s := by apply ByteArray.ext; simp [ByteArray.data_append]
set_option maxHeartbeats 1000000 in
set_option maxRecDepth 100000 in
theorem valueW_any (B b : Nat) (bs : List Value) (k n : Int) (s : ByteArray) (w0 w : World) (hT : TabB B w0) (hb0 : Below B w0 w) (h : BdW B b bs w) (hv : validB k n s = true) (hlen : bs.length + (valW k n s).size ≤ 100000000) :
    Calls Tryz.prog 93 #[.pointer (some ⟨b, 0, none⟩), .agg #[.int .i64 k, .int .i64 n, .string s]] w fun e w' => e = .returned (.tuple #[]) ∧ AddW B b bs (valW k n s) w w' := by
  have hBs : B ≤ w.heap.size := by have := h.lt; have := h.ge; omega
  have hbx := Below.alloc (Below.refl w.heap.size w) (Nat.le_refl _) (.cells #[.int .i64 k, .int .i64 n, .string s] 86)
  have HBX := Lib.hid hbx
  have HD := Lib.hid (h.later hbx)
  have HB1 := Lib.hid (hb0.trans (hbx.mono hBs))
  clear h hb0 hbx
  rcases valid_ways hv with ⟨rfl, rfl, he⟩ | ⟨rfl, g1, g2, he⟩ | ⟨rfl, rfl, he⟩
  · have K := Lib.hid (ws_add B b bs ⟨#[45]⟩ _ HD.out hlen)
    go_enter Tryz.func93, Tryz.ntmps93
    go_wp2_with fail
    refine K.out.mono ?_
    rintro e w' ⟨rfl, ha⟩
    have HA := Lib.hid (AddW.before HBX.out hBs ha)
    clear ha K
    go_wp2_with fail
    go_end0
    exact ⟨rfl, HA.out⟩
  · have K := Lib.hid (numberW_any B b bs ⟨#[]⟩ n w0 _ hT HB1.out HD.out (by omega) (by omega) (by show bs.length + 0 + _ ≤ _; have : valW 1 n s = itoaB n := rfl; rw [this] at hlen; omega))
    rw [ba_nilL] at K
    go_enter Tryz.func93, Tryz.ntmps93
    go_wp2_with fail
    refine K.out.mono ?_
    rintro e w' ⟨rfl, ha⟩
    have HA := Lib.hid (AddW.before HBX.out hBs ha)
    clear ha K
    go_wp2_with fail
    go_end0
    exact ⟨rfl, HA.out⟩
  · have K := Lib.hid (quotedW_any B b bs s _ HD.out (by have : valW 2 0 s = q39 s := rfl; rw [this] at hlen; unfold q39 at hlen; rw [ByteArray.size_append, ByteArray.size_append] at hlen; have e : (⟨#[39]⟩ : ByteArray).size = 1 := rfl; omega))
    go_enter Tryz.func93, Tryz.ntmps93
    go_wp2_with fail
    refine K.out.mono ?_
    rintro e w' ⟨rfl, ha⟩
    have HA := Lib.hid (AddW.before HBX.out hBs ha)
    clear ha K
    go_wp2_with fail
    go_end0
    exact ⟨rfl, HA.out⟩
end Go.Proofs.YtanonflcieebbaaGreatDoor
