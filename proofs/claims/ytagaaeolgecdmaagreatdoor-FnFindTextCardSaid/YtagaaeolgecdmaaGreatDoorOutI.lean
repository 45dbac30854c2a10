/- The program's Outline. -/
import Derived.Test.YtagaaeolgecdmaaGreatDoorApp1
import Derived.Test.YtagaaeolgecdmaaGreatDoorOutM
import Derived.Test.YtagaaeolgecdmaaGreatDoorRngY
import Derived.Test.YtagaaeolgecdmaaGreatDoorRegR
import Derived.Test.YtagaaeolgecdmaaGreatDoorWrtM
import Derived.Test.YtagaaeolgecdmaaGreatDoorTxt1
namespace Go.Proofs.YtagaaeolgecdmaaGreatDoor
open Go.Joins Go.ChangeShapes Go.WideShapes Go.ChangeAt Go.RowKit Go.Deep
set_option linter.unusedVariables false
set_option linter.unusedSimpArgs false

theorem boxed_put {W : World} {B : Nat} {t : TypeId} {v : Value} {l : Nat} {o : Obj} (o' : Obj) (h : Boxed W B t v) (hl : W.heap[l]? = some o) (ho : o.isCells = false) : Boxed (W.putObj l o') B t v :=
  (World.putObj_heap_other (by rintro rfl; rw [show W.heap[B]? = _ from h] at hl; injection hl with hl; rw [← hl] at ho; cases ho)).trans h
theorem boxed_later {W W' : World} {B : Nat} {t : TypeId} {v : Value} (h : Boxed W B t v) (hb : Below W.heap.size W W') : Boxed W' B t v := (hb.block B h.lt).trans h
theorem own_at {w w' : World} {base n m : Nat} {e : TypeId} {v : Value} {xs : List Value} (h : w.ownsRow base e n v m xs) (hb : ∀ g cur, v.ownBlock = some g → w.heap[g]? = some (.cells cur e (0, 0)) → w'.heap[g]? = w.heap[g]?) : w'.ownsRow base e n v m xs := by
  refine ⟨h.1, ?_⟩
  rcases h.2 with hn | ⟨g, cap, cur, rfl, hbg, hgg, rest⟩
  · exact .inl hn
  · exact .inr ⟨g, cap, cur, rfl, hbg, (hb g cur rfl hgg).trans hgg, rest⟩
theorem own_cells {w : World} {base n m g : Nat} {e : TypeId} {v : Value} {xs : List Value} (h : w.ownsRow base e n v m xs) (hg : v.ownBlock = some g) : ∃ cur, w.heap[g]? = some (.cells cur e (0, 0)) := by
  rcases h.2 with ⟨rfl, _⟩ | ⟨g', cap, cur, rfl, hbg, hgg, rest⟩
  · cases hg
  · simp [Value.ownBlock] at hg
    subst hg
    exact ⟨cur, hgg⟩
/-- The lines so far: a box with a row of their own. -/
def LnI (t : Tr) (w : World) (lb : Nat) (pre : List Pt) (W : World) : Prop := ∃ v, Boxed W lb 27 v ∧ W.ownsRow w.heap.size 9 1 v (pre.map fun y => lineT y.key).length (tV (pre.map fun y => lineT y.key)) ∧ (∀ y ∈ pre, y.key ∈ partsT [] t) ∧ Below w.heap.size w W
theorem LnI.put {t : Tr} {w W : World} {lb l : Nat} {pre : List Pt} {o : Obj} (h : LnI t w lb pre W) (o' : Obj) (hB : w.heap.size ≤ l) (hl : W.heap[l]? = some o) (ho : o.isCells = false) : LnI t w lb pre (W.putObj l o') := by
  obtain ⟨v, h1, h2, h3, h4⟩ := h
  refine ⟨v, boxed_put o' h1 hl ho, own_at h2 (fun g cur _ hg => World.putObj_heap_other (by rintro rfl; rw [hg] at hl; injection hl with hl; rw [← hl] at ho; cases ho)), h3, h4.grown (grownBy_putObj' W l o') h4.size (fun k e => by cases e; omega)⟩
theorem LnI.later {t : Tr} {w W W' : World} {lb : Nat} {pre : List Pt} (h : LnI t w lb pre W) (hb : Below W.heap.size W W') : LnI t w lb pre W' := by
  obtain ⟨v, h1, h2, h3, h4⟩ := h
  exact ⟨v, boxed_later h1 hb, ownsRow_below h2 hb, h3, h4.trans (hb.mono h4.size)⟩
theorem nokI_sm {t : Tr} (h : SmT t) : SmT (nok t) := by
  obtain ⟨s0, s1, s2, s3, s4⟩ := h.open_
  exact .mk s0 s1 s2 (by decide) (fun x hx => by cases hx)
theorem nokI_kw {t : Tr} (h : KwT t) : KwT (nok t) := .mk (fun x hx => by cases hx) (fun x hx => by cases hx) h.open_.2.2
theorem sizeI_small {t : Tr} (h : treeOkB t = true) : sizeT t ≤ 200 := (treeB_yes (show treeB shownB t = true from h)).2.2
theorem way_longI : ∀ (t : Tr) (way : List Nat) (i : Nat) (y : List Nat × Tr), (partsT way t)[i]? = some y → y.1.length ≤ way.length + i := Tr.by_kids fun t ih way i y h => by
  have hl : ∀ (ks : List Tr) (j i : Nat), (∀ x ∈ ks, ∀ (way : List Nat) (i : Nat) (y : List Nat × Tr), (partsT way x)[i]? = some y → y.1.length ≤ way.length + i) → (partsL way j ks)[i]? = some y → y.1.length ≤ way.length + i + 1 := by
    intro ks
    induction ks with
    | nil => intro j i _ h; simp only [partsL] at h; simp at h
    | cons x xs ihx =>
      intro j i hx h
      simp only [partsL] at h
      by_cases hi : i < (partsT (way ++ [j]) x).length
      · rw [List.getElem?_append_left hi] at h
        have := hx x (by simp) _ _ _ h
        rw [List.length_append, List.length_singleton] at this
        omega
      · rw [List.getElem?_append_right (by omega)] at h
        have := ihx (j + 1) _ (fun z hz => hx z (List.mem_cons_of_mem _ hz)) h
        omega
  rw [partsT_eq] at h
  cases i with
  | zero => simp at h; subst h; simp
  | succ i =>
    rw [List.getElem?_cons_succ] at h
    have := hl t.ks 0 i ih h
    omega
theorem way_le {t : Tr} {y : List Nat × Tr} (h : y ∈ partsT [] t) (hs : sizeT t ≤ 200) : y.1.length ≤ 200 := by
  obtain ⟨i, hi, he⟩ := List.mem_iff_getElem.1 h
  have h1 := way_longI t [] i y (by rw [List.getElem?_eq_getElem hi, he])
  rw [partsT_length] at hi
  simp only [List.length_nil] at h1
  omega
theorem out_end {t : Tr} {w W0 W WS u8 : World} {lb lo bx B : Nat} {pre : List Pt} {x : Pt} {v v' : Value} (hbl : Below w.heap.size w W) (hlbw : w.heap.size ≤ lb) (hlo : lb < W0.heap.size) (hlo2 : lb < lo) (hw0 : w.heap.size ≤ W0.heap.size) (hk0 : KpP w.heap.size lo W0 W) (hs0 : W0.heap.size ≤ W.heap.size) (hb0 : W0.heap.size ≤ bx)
    (hbx : W.heap[bx]? = some (TREEC x.t x.A0 x.c0 x.A1 x.c1)) (hbv : Boxed W lb 27 v) (hown : W.ownsRow w.heap.size 9 1 v (pre.map fun y => lineT y.key).length (tV (pre.map fun y => lineT y.key)))
    (hWS : W.setCell ⟨bx, 4, none⟩ (.slice none 0 0) = WS) (hgr : Gr WS u8 v v') (hown8 : u8.ownsRow w.heap.size 9 1 v' ((pre.map fun y => lineT y.key) ++ [lineT x.key]).length (tV ((pre.map fun y => lineT y.key) ++ [lineT x.key]))) (hmm : ∀ y ∈ pre, y.key ∈ partsT [] t) (hm : x.key ∈ partsT [] t) :
    KeepsFrom B W (u8.setCell ⟨lb, 0, none⟩ v') ∧ KpP w.heap.size lo W0 (u8.setCell ⟨lb, 0, none⟩ v') ∧ LnI t w lb (pre ++ [x]) (u8.setCell ⟨lb, 0, none⟩ v') := by
  have hszS : WS.heap.size = W.heap.size := by rw [← hWS]; simp [World.setCell]
  have h1 : ∀ g, g ≠ bx → WS.heap[g]? = W.heap[g]? := fun g hg => by rw [← hWS]; exact heap_setCell_other _ _ g _ hg
  have h2 : ∀ g, g < W.heap.size → g ≠ bx → g ≠ lb → v.ownBlock ≠ some g → (u8.setCell ⟨lb, 0, none⟩ v').heap[g]? = W.heap[g]? := fun g a b c d =>
    (heap_setCell_other _ _ g _ c).trans ((hgr.1.block g (by omega) (fun e => d e.symm)).trans (h1 g b))
  have hsz : W.heap.size ≤ (u8.setCell ⟨lb, 0, none⟩ v').heap.size := by have := hgr.1.size; simp only [World.size_setCell]; omega
  have hne : ∀ g, v.ownBlock = some g → w.heap.size ≤ g := fun g e => (World.ownsRow.lt hown g e).1
  have hbelow : Below w.heap.size W (u8.setCell ⟨lb, 0, none⟩ v') := by
    refine ⟨?_, ?_, ?_, hsz, fun g hg => ?_⟩
    · have := hgr.1.os; rw [← hWS] at this; exact this
    · have := hgr.1.tape; rw [← hWS] at this; exact this
    · have := hgr.1.output; rw [← hWS] at this; exact this
    · exact h2 g (by omega) (by omega) (by omega) (fun e => by have := hne g e; omega)
  have hvlb : v.ownBlock ≠ some lb := fun e => by
    obtain ⟨cur, hc⟩ := own_cells hown e
    rw [show W.heap[lb]? = _ from hbv] at hc
    injection hc with hc
    injection hc with _ hc _
    cases hc
  have hb8 : Boxed u8 lb 27 v := (hgr.1.block lb (by omega) (fun e => hvlb e.symm)).trans ((h1 lb (by omega)).trans hbv)
  refine ⟨⟨hsz, fun k o _ hk ho => ?_⟩, ⟨hk0.low.trans hbelow, fun g cur e hg he hc => ?_⟩, ⟨v', hb8.set v', ?_, ?_, hbl.trans hbelow⟩⟩
  · have hlt := (Array.getElem?_eq_some_iff.1 hk).1
    refine (h2 k hlt (fun e => ?_) (fun e => ?_) (fun e => ?_)).trans hk
    · subst e; rw [hbx] at hk; injection hk with hk; rw [← hk] at ho; cases ho
    · subst e; rw [show W.heap[k]? = _ from hbv] at hk; injection hk with hk; rw [← hk] at ho; cases ho
    · obtain ⟨cur, hc⟩ := own_cells hown e; rw [hc] at hk; injection hk with hk; rw [← hk] at ho; cases ho
  · have hc0 := hk0.row g cur e hg he hc
    have hlt := (Array.getElem?_eq_some_iff.1 hc).1
    refine (h2 g (by omega) (by omega) (by omega) (fun e2 => ?_)).trans hc0
    obtain ⟨cur2, hc2⟩ := own_cells hown e2
    rw [hc0, hc] at hc2
    injection hc2 with hc2
    injection hc2 with _ hc2 _
    rcases he with rfl | rfl <;> cases hc2
  · rw [List.map_append, List.map_singleton]
    refine own_at hown8 (fun g cur e hg => heap_setCell_other _ _ g _ (fun e2 => ?_))
    rw [show g = lb from e2, show u8.heap[lb]? = _ from hb8] at hg
    injection hg with hg
    injection hg with _ hg _
    cases hg
  · intro y hy
    rcases List.mem_append.1 hy with hy | hy
    · exact hmm y hy
    · simp at hy; subst hy; exact hm
theorem dash_is (n : Nat) : (⟨(Lib.repeatL (⟨#[45]⟩ : ByteArray).data.toList n).toArray⟩ : ByteArray) = dash n := rfl
attribute [local go_sem] Oper.semAt_some
set_option maxRecDepth 100000 in
set_option maxHeartbeats 8000000 in
theorem iOutline_any (t : Tr) (hsm : SmT t) (hkw : KwT t) : ∀ (A0 A1 : Option Addr) (c0 c1 : Nat) (w : World), Vs w → PrL w A0 t.ps → TrL w 0 A1 t.ks →
    Calls Tryz.prog 9 #[.agg #[.int .i64 t.tag, .int .i64 t.key, .string t.text, .slice A0 t.ps.length c0, .slice A1 t.ks.length c1]] w (OuX (outV t) w) := by
  intro A0 A1 c0 c1 w hvw hp hk
  have hsh : ShOk Vs := ⟨fun w w' h hb => h.next hb, fun s w hl hv => ishown_any s w hl hv⟩
  have k1 := fun w hv hp hk => iTreeOk_any Vs hsh t hsm hkw A0 A1 c0 c1 w hv hp hk
  have HSZ := Lib.hid (@sizeI_small t)
  have hout : ∀ v, treeOkB t = v → outV t = if v = true then outD t 0 else [] := fun v hv => by unfold outV; rw [hv]
  have hpart : treeOkB t = true → ∀ y ∈ partsT [] t, treeOkB y.2 = true := fun h y hy => partsT_all (P := fun t => treeOkB t = true) (fun t ht x hx => kid_valid ht hx) t h [] y hy
  have hT : ∀ e w', (∃ (A : Option Addr) (c : Nat), e = .returned (.slice A (outV t).length c) ∧ TxO w' w.heap.size w'.heap.size A c (outV t) ∧ Below w.heap.size w w') → OuX (outV t) w e w' := fun e w' h => h
  obtain ⟨X, hX⟩ : ∃ X, OuX (outV t) w = X := ⟨_, rfl⟩
  rw [hX] at hT ⊢
  obtain ⟨ok, hok⟩ : ∃ v, treeOkB t = v := ⟨_, rfl⟩
  have HOK := Lib.hid hok
  have HO := Lib.hid (hout ok hok)
  have HPT := Lib.hid hpart
  have HX := Lib.hid hT
  rw [hok] at k1
  have hb1 : Below w.heap.size w (w.alloc (.cells #[.int .i64 t.tag, .int .i64 t.key, .string t.text, .slice A0 t.ps.length c0, .slice A1 t.ks.length c1] 32)) := Below.alloc (Below.refl _ w) (Nat.le_refl _) _
  have K1 := Lib.hid (k1 _ (hvw.next hb1) (hp.below hb1) (hk.below hb1))
  have HB1 := Lib.hid hb1
  have HP := Lib.hid hp
  have HK := Lib.hid hk
  have HS := Lib.hid hsm
  have HV := Lib.hid hvw
  have a0 : (w.alloc (.cells #[.int .i64 t.tag, .int .i64 t.key, .string t.text, .slice A0 t.ps.length c0, .slice A1 t.ks.length c1] 32)).cell? ⟨w.heap.size, 0, none⟩ = some (.int .i64 t.tag) := by rw [World.cell?_alloc_new]; rfl
  have a1 : (w.alloc (.cells #[.int .i64 t.tag, .int .i64 t.key, .string t.text, .slice A0 t.ps.length c0, .slice A1 t.ks.length c1] 32)).cell? ⟨w.heap.size, 1, none⟩ = some (.int .i64 t.key) := by rw [World.cell?_alloc_new]; rfl
  have a2 : (w.alloc (.cells #[.int .i64 t.tag, .int .i64 t.key, .string t.text, .slice A0 t.ps.length c0, .slice A1 t.ks.length c1] 32)).cell? ⟨w.heap.size, 2, none⟩ = some (.string t.text) := by rw [World.cell?_alloc_new]; rfl
  have a3 : (w.alloc (.cells #[.int .i64 t.tag, .int .i64 t.key, .string t.text, .slice A0 t.ps.length c0, .slice A1 t.ks.length c1] 32)).cell? ⟨w.heap.size, 3, none⟩ = some (.slice A0 t.ps.length c0) := by rw [World.cell?_alloc_new]; rfl
  have a4 : (w.alloc (.cells #[.int .i64 t.tag, .int .i64 t.key, .string t.text, .slice A0 t.ps.length c0, .slice A1 t.ks.length c1] 32)).cell? ⟨w.heap.size, 4, none⟩ = some (.slice A1 t.ks.length c1) := by rw [World.cell?_alloc_new]; rfl
  have hz1 : w.heap.size < (w.alloc (.cells #[.int .i64 t.tag, .int .i64 t.key, .string t.text, .slice A0 t.ps.length c0, .slice A1 t.ks.length c1] 32)).heap.size := by simp
  obtain ⟨w1, hw1⟩ : ∃ q, w.alloc (.cells #[.int .i64 t.tag, .int .i64 t.key, .string t.text, .slice A0 t.ps.length c0, .slice A1 t.ks.length c1] 32) = q := ⟨_, rfl⟩
  rw [hw1] at K1 HB1 a0 a1 a2 a3 a4 hz1
  have HW1 := Lib.hid hw1
  clear hw1 k1 hb1 hp hk hvw hsm hok hX hT hout hpart
  refine callsIn_wide (n := 3) |>.1 ?_
  refine callsIn_of_wp_marks Tryz.func9 rfl trivial ?_ rfl; simp only [Tryz.ntmps9, List.size_toArray, List.length_cons, List.length_nil, Nat.reduceAdd, Nat.reduceSub, Array.replicate_succ, Array.replicate_zero, List.push_toArray, List.append_toArray, List.nil_append, List.cons_append]
  gi_wp2
  rw [HW1.out]
  refine ⟨trivial, (callsIn_wide.2 K1.out).mono ?_⟩
  rintro e w2 ⟨rfl, hb⟩
  replace a0 := (hb.cell (p := ⟨w.heap.size, 0, none⟩) hz1).trans a0
  replace a1 := (hb.cell (p := ⟨w.heap.size, 1, none⟩) hz1).trans a1
  replace a2 := (hb.cell (p := ⟨w.heap.size, 2, none⟩) hz1).trans a2
  replace a3 := (hb.cell (p := ⟨w.heap.size, 3, none⟩) hz1).trans a3
  replace a4 := (hb.cell (p := ⟨w.heap.size, 4, none⟩) hz1).trans a4
  have HB2 := Lib.hid (HB1.out.trans (hb.mono HB1.out.size))
  have hz2 : w.heap.size < w2.heap.size := Nat.lt_of_lt_of_le hz1 hb.size
  clear hb HB1 K1 HW1 hz1
  cases ok
  · have ho := HO.out
    rw [if_neg (by decide)] at ho
    rw [ho] at HX
    gi_wp2
    refine ⟨_, results_tmp rfl _ _ _, HX.out _ _ ⟨none, 0, rfl, fun h => absurd h (by simp), HB2.out⟩⟩
  · have ho := HO.out
    rw [if_pos rfl] at ho
    rw [ho] at HX
    have hsz := HSZ.out HOK.out
    have hlb0 := Boxed.new w2 27 (.slice none 0 0)
    have hbl := Below.alloc (Below.refl w2.heap.size w2) (Nat.le_refl _) (.cells #[.slice none 0 0] 27)
    have HLB := Lib.hid hlb0
    have HBL := Lib.hid (more HB2.out (Nat.le_refl _) hbl)
    clear hlb0 hbl
    gi_wp2
    refine ⟨trivial, (callsIn_wide.2 (eachPart_any _ _ _ _ _ _ _ _ _ _)).mono ?_⟩
    rintro e w4 ⟨rfl, hw4⟩
    have hb4 := (show Below (w2.alloc (.cells #[.slice none 0 0] 27)).heap.size (w2.alloc (.cells #[.slice none 0 0] 27)) w4 by rw [hw4]; exact Below.alloc (Below.refl _ _) (Nat.le_refl _) _)
    have hz4 : w4.heap.size = w2.heap.size + 2 := by rw [hw4]; simp
    have hbt : w4.heap[w2.heap.size + 1]? = some (TREEC t A0 c0 A1 c1) := by
      rw [hw4]
      have := World.alloc_heap_new (w2.alloc (.cells #[.slice none 0 0] 27)) (TREEC t A0 c0 A1 c1)
      rw [World.size_alloc] at this
      exact this
    have HLB4 := Lib.hid (boxed_later HLB.out hb4)
    have HB4 := Lib.hid (more HBL.out (Nat.le_refl _) hb4)
    have HBT := Lib.hid hbt
    rw [World.size_alloc]
    clear hw4 hb4 hbt a0 a1 a2 a3 a4 HLB HBL
    obtain ⟨lb, hlb⟩ : ∃ q, w2.heap.size = q := ⟨_, rfl⟩
    rw [hlb] at HLB4 HBT hz2 hz4 ⊢
    clear hlb
    gi_wp2
    refine wpIn_rangeY (α := Pt) rfl (by decide) (gf := 63) (lb := #[.pointer (some ⟨lb + 1, 0, none⟩)]) rfl trivial (enters_of Tryz.func63 (by kernel_rfl) rfl)
      (parts_seq 2 w w4 t A0 A1 c0 c1 (lb + 1) HS.out (by omega) HB4.out HP.out HK.out HBT.out) (PtX.spares (by omega)) PtX.stays (fun W W' h hb => KpP.later hb (by omega)) KpP.trans (fun W l o o' hl h ho _ => KpP.put (w := w4) (by omega) W l o o' hl h ho) (fun x => rfl)
      (fun pre W => LnI t w lb pre W) (fun _ _ _ => False)
      (fun s W l o o' h hl ho hc => h.put o' (by omega) ho hc) (fun s W W' h hb => h.later hb) (fun _ _ _ _ _ _ h _ _ _ => h) (fun _ _ _ _ h _ => h)
      ⟨_, HLB4.out, World.ownsRow_nil _ _ _ _, by simp, HB4.out⟩
      (fun x W0 a' W => ∃ bx : Nat, W0.heap.size ≤ bx ∧ W.heap[bx]? = some (TREEC x.t x.A0 x.c0 x.A1 x.c1) ∧ a' = { tmps := #[.agg #[.int .i64 t.tag, .int .i64 t.key, .string t.text, .slice A0 t.ps.length c0, .slice A1 t.ks.length c1], .pointer (some ⟨w.heap.size, 0, none⟩), .slice none 0 0, .pointer (some ⟨lb, 0, none⟩), .slice x.Aw x.way.length x.cw, .pointer (some ⟨bx, 0, none⟩), .agg #[.int .i64 t.tag, .int .i64 t.key, .string t.text, .slice A0 t.ps.length c0, .slice A1 t.ks.length c1], .bool true, .bool false, .agg #[.int .i64 t.tag, .int .i64 t.key, .string t.text, .slice A0 t.ps.length c0, .slice A1 t.ks.length c1], .func (.func 63) #[] #[.pointer (some ⟨lb + 1, 0, none⟩)], .slice x.Aw x.way.length x.cw, x.tree, undef, undef, undef, undef, undef, undef, undef, undef, undef, undef, undef], defers := [] }) ?_ ?_ ?_ ?_ ?_
    · rintro x W0 a' _ W l o o' ⟨bx, hb0, hbx, e⟩ hl ho hc
      exact ⟨bx, hb0, (World.putObj_heap_other (by rintro rfl; rw [ho] at hbx; injection hbx with hbx; rw [hbx] at hc; cases hc)).trans hbx, e⟩
    · intro l x W K hK
      dsimp only [Pt.encs, Pt.tree]
      gi_wp2
      exact hK _ _ (Below.alloc (Below.refl _ _) (Nat.le_refl _) _) ⟨W.heap.size, Nat.le_refl _, World.alloc_heap_new W _, rfl⟩
    · rintro l pre x a' W0 W hk0 hw0 hs0 ⟨v, hbv, hown, hmm, hbl⟩ hx ⟨bx, hb0, hbx, rfl⟩ hlen
      have hxm := hx.mem
      have hokx : treeOkB x.t = true := HPT.out HOK.out _ hxm
      have hkwx : KwT x.t := partsT_all (P := KwT) (fun t h y hy => h.open_.2.1 y hy) t hkw [] _ hxm
      have hwl : x.way.length ≤ 200 := way_le hxm hsz
      have ktt : ∀ W', Vs W' → PrL W' x.A0 x.t.ps → Calls Tryz.prog 34 #[.agg #[.int .i64 x.t.tag, .int .i64 x.t.key, .string x.t.text, .slice x.A0 x.t.ps.length x.c0, .slice none 0 0]] W' fun e w' => e = .returned (.string (treeTextV (nok x.t))) ∧ Below W'.heap.size W' w' := fun W' hv hp => iTreeText_any (nok x.t) (nokI_sm hx.sm) (nokI_kw hkwx) x.A0 none x.c0 0 W' hv hp TrL.nil
      have hmax := wordsT_max (nok_ok hokx)
      have hline : lineT x.key = dash x.way.length ++ wordsT (nok x.t) := rfl
      rw [show treeTextV (nok x.t) = wordsT (nok x.t) from by unfold treeTextV; rw [if_pos (nok_ok hokx)]] at ktt
      obtain ⟨wx, hwx⟩ : ∃ q, wordsT (nok x.t) = q := ⟨_, rfl⟩
      rw [hwx] at ktt hmax hline
      obtain ⟨dx, hdx⟩ : ∃ q, dash x.way.length = q := ⟨_, rfl⟩
      have hds := dash_size x.way.length
      rw [hdx] at hline hds
      have hrep := fun W' => (Tryz.strings_Repeat ⟨#[45]⟩ x.way.length W' (by omega) (by show 1 * _ ≤ _; omega)).mono (fun e w' (h : _ ∧ _) => (show e = .returned (.string dx) ∧ Below W'.heap.size W' w' from ⟨by rw [← hdx]; exact h.1, h.2⟩))
      have KR := Lib.hid hrep
      have KT := Lib.hid ktt
      have HLN := Lib.hid hline
      have hcat : dx.size + wx.size ≤ 1000000 := by omega
      have hcat2 : ¬ 9223372036854775807 < dx.size + wx.size := by omega
      obtain ⟨c0', c1', c2', c3', c4'⟩ := five_cells (show W.heap[bx]? = some (.cells #[.int .i64 x.t.tag, .int .i64 x.t.key, .string x.t.text, .slice x.A0 x.t.ps.length x.c0, .slice x.A1 x.t.ks.length x.c1] 32 (0, 0)) from hbx)
      have fz := fun o => Lib.frozen_of_heap hbx o
      have s0 : (W.setCell ⟨bx, 4, none⟩ (.slice none 0 0)).cell? ⟨bx, 0, none⟩ = some (.int .i64 x.t.tag) := by go_simp
      have s1 : (W.setCell ⟨bx, 4, none⟩ (.slice none 0 0)).cell? ⟨bx, 1, none⟩ = some (.int .i64 x.t.key) := by go_simp
      have s2 : (W.setCell ⟨bx, 4, none⟩ (.slice none 0 0)).cell? ⟨bx, 2, none⟩ = some (.string x.t.text) := by go_simp
      have s3 : (W.setCell ⟨bx, 4, none⟩ (.slice none 0 0)).cell? ⟨bx, 3, none⟩ = some (.slice x.A0 x.t.ps.length x.c0) := by go_simp
      have s4 : (W.setCell ⟨bx, 4, none⟩ (.slice none 0 0)).cell? ⟨bx, 4, none⟩ = some (.slice none 0 0) := by go_simp
      obtain ⟨WS, hWS⟩ : ∃ q, W.setCell ⟨bx, 4, none⟩ (.slice none 0 0) = q := ⟨_, rfl⟩
      rw [hWS] at s0 s1 s2 s3 s4
      have HEND := Lib.hid (fun u8 v' hgr hown8 => out_end (B := w4.heap.size) (lo := w4.heap.size + 2) (u8 := u8) (v' := v') hbl (by omega) (by omega) (by omega) (by have := HB4.out.size; omega) hk0 hs0 hb0 hbx hbv hown hWS hgr hown8 hmm hxm)
      have hlbx : lb ≠ bx := by omega
      have hbS : Boxed WS lb 27 v := by rw [← hWS]; exact (heap_setCell_other _ _ lb _ hlbx).trans hbv
      have hoS : WS.ownsRow w.heap.size 9 1 v (pre.map fun y => lineT y.key).length (tV (pre.map fun y => lineT y.key)) := own_at hown (fun g cur _ hg => by
        rw [← hWS]
        refine heap_setCell_other _ _ g _ (fun e => ?_)
        rw [show g = bx from e, hbx] at hg
        injection hg with hg
        injection hg with _ hg _
        cases hg)
      have hvbx : v.ownBlock ≠ some bx := fun e => by
        obtain ⟨cur, hc⟩ := own_cells hown e
        rw [hbx] at hc
        injection hc with hc
        injection hc with _ hc _
        cases hc
      have hvlb : v.ownBlock ≠ some lb := fun e => by
        obtain ⟨cur, hc⟩ := own_cells hown e
        rw [show W.heap[lb]? = _ from hbv] at hc
        injection hc with hc
        injection hc with _ hc _
        cases hc
      have hbwS : Below w.heap.size w WS := by rw [← hWS]; exact hbl.setCell (p := ⟨bx, 4, none⟩) (by show w.heap.size ≤ bx; have := HB4.out.size; omega) _
      have hzS : bx < WS.heap.size := by rw [← hWS]; simp only [World.size_setCell]; exact (Array.getElem?_eq_some_iff.1 hbx).1
      have hpl : pre.length ≤ 200 := by omega
      have HBS := Lib.hid hbS
      have HPX := Lib.hid hx.ps
      have HOS := Lib.hid hoS
      have HBW := Lib.hid hbwS
      have HWS := Lib.hid hWS
      clear hk0 hs0 hw0 hbv hown hmm hbl hx hxm hokx hkwx ktt hmax hline hds hrep hbS hoS hbwS
      gi_wp2
      (try rw [HWS.out])
      clear hWS HWS c0' c1' c2' c3' c4' fz hbx
      have SF : Hid (∀ u, Below WS.heap.size WS u → (fun w' : World => w'.cell? ⟨bx, 0, none⟩ = some (.int .i64 x.t.tag) ∧ w'.cell? ⟨bx, 1, none⟩ = some (.int .i64 x.t.key) ∧ w'.cell? ⟨bx, 2, none⟩ = some (.string x.t.text) ∧ w'.cell? ⟨bx, 3, none⟩ = some (.slice x.A0 x.t.ps.length x.c0) ∧ w'.cell? ⟨bx, 4, none⟩ = some (.slice none 0 0)) u) := Lib.hid (fun u hb => ⟨(hb.cell (p := ⟨bx, 0, none⟩) hzS).trans s0, (hb.cell (p := ⟨bx, 1, none⟩) hzS).trans s1, (hb.cell (p := ⟨bx, 2, none⟩) hzS).trans s2, (hb.cell (p := ⟨bx, 3, none⟩) hzS).trans s3, (hb.cell (p := ⟨bx, 4, none⟩) hzS).trans s4⟩)
      refine region_inRound (S := fun w' : World => w'.cell? ⟨bx, 0, none⟩ = some (.int .i64 x.t.tag) ∧ w'.cell? ⟨bx, 1, none⟩ = some (.int .i64 x.t.key) ∧ w'.cell? ⟨bx, 2, none⟩ = some (.string x.t.text) ∧ w'.cell? ⟨bx, 3, none⟩ = some (.slice x.A0 x.t.ps.length x.c0) ∧ w'.cell? ⟨bx, 4, none⟩ = some (.slice none 0 0)) (by kernel_rfl) (by kernel_rfl) (fun ⟨_, _, h⟩ => h) (SF.out _ (Below.drew (Below.refl _ _))) (fun hHeld => ?_)
      have HU := Lib.hid (Below.drew (Below.refl WS.heap.size WS))
      obtain ⟨u0, hu0⟩ : ∃ q, WS.drew = q := ⟨_, rfl⟩
      rw [hu0] at HU hHeld ⊢
      clear hu0
      refine wpAnyH_take (i := 1) (oi := _) (v := ?_) rfl (by kernel_rfl) (by kernel_rfl) (by kernel_rfl) (fun _ _ _ h => h) (Or.inl ⟨by kernel_rfl, ?_⟩) (by assumption) ?_
      rotate_left
      · (intro w hSw; (try dsimp only at hSw); go_simp)
        try with_reducible rfl
      (try simp only [Act.put, List.getElem_toArray, List.getElem_cons_zero, List.getElem_cons_succ, List.setIfInBounds_toArray, List.set_cons_zero, List.set_cons_succ])
      refine wpAnyH_take (i := 2) (oi := _) (v := ?_) rfl (by kernel_rfl) (by kernel_rfl) (by kernel_rfl) (fun _ _ _ h => h) (Or.inl ⟨by kernel_rfl, ?_⟩) (by assumption) ?_
      rotate_left
      · (intro w hSw; (try dsimp only at hSw); go_simp)
        try with_reducible rfl
      (try simp only [Act.put, List.getElem_toArray, List.getElem_cons_zero, List.getElem_cons_succ, List.setIfInBounds_toArray, List.set_cons_zero, List.set_cons_succ])
      refine wpAnyH_take (i := 4) (oi := _) (v := ?_) rfl (by kernel_rfl) (by kernel_rfl) (by kernel_rfl) (fun _ _ _ h => h) (Or.inl ⟨by kernel_rfl, ?_⟩) (by assumption) ?_
      rotate_left
      · (intro w hSw; (try dsimp only at hSw); go_simp)
        try with_reducible rfl
      (try simp only [Act.put, List.getElem_toArray, List.getElem_cons_zero, List.getElem_cons_succ, List.setIfInBounds_toArray, List.set_cons_zero, List.set_cons_succ])
      refine wpAnyH_ready (rs := [0, 3]) (by kernel_rfl) (by simp) ?_
      refine AllReadyH.cons (o := _) rfl (fun K hK => ?_) ?_
      · skip
        have hl0 := (HU.out.cell (p := ⟨lb, 0, none⟩) HBS.out.lt).trans HBS.out.cell
        go_simp
        refine hK.out _ _ hHeld (fun hHeld2 => ?_)
        clear hHeld2 hK K hl0
        (try simp only [Act.put, List.getElem_toArray, List.getElem_cons_zero, List.getElem_cons_succ, List.setIfInBounds_toArray, List.set_cons_zero, List.set_cons_succ])
        refine wpAnyH_ready (rs := [3]) (by kernel_rfl) (by simp) ?_
        refine AllReadyH.cons (o := _) rfl (fun K hK => ?_) AllReadyH.nil
        go_simp
        refine (KR.out _).mono ?_
        rintro e u2 ⟨rfl, hb⟩
        replace HU := Lib.hid (more HU.out (Nat.le_refl _) hb)
        refine hK.out _ _ (SF.out _ HU.out) (fun hHeld2 => ?_)
        clear hHeld2 hK K hHeld hb
        have hHeld := SF.out _ HU.out
        (try simp only [Act.put, List.getElem_toArray, List.getElem_cons_zero, List.getElem_cons_succ, List.setIfInBounds_toArray, List.set_cons_zero, List.set_cons_succ])
        refine wpAnyH_ready (rs := [5]) (by kernel_rfl) (by simp) ?_
        refine AllReadyH.cons (o := _) rfl (fun K hK => ?_) AllReadyH.nil
        go_simp
        refine (KT.out _ (HV.out.next (HBW.out.trans (HU.out.mono HBW.out.size))) (HPX.out.below (HBW.out.trans (HU.out.mono HBW.out.size)))).mono ?_
        rintro e u3 ⟨rfl, hb⟩
        replace HU := Lib.hid (more HU.out (Nat.le_refl _) hb)
        refine hK.out _ _ (SF.out _ HU.out) (fun hHeld2 => ?_)
        clear hHeld2 hK K hHeld hb
        have hHeld := SF.out _ HU.out
        (try simp only [Act.put, List.getElem_toArray, List.getElem_cons_zero, List.getElem_cons_succ, List.setIfInBounds_toArray, List.set_cons_zero, List.set_cons_succ])
        refine wpAnyH_take (i := 6) (oi := _) (v := ?_) rfl (by kernel_rfl) (by kernel_rfl) (by kernel_rfl) (fun _ _ _ h => h) (Or.inl ⟨by kernel_rfl, ?_⟩) (by assumption) ?_
        rotate_left
        · (intro w hSw; (try dsimp only at hSw); go_simp)
          try with_reducible rfl
        (try simp only [Act.put, List.getElem_toArray, List.getElem_cons_zero, List.getElem_cons_succ, List.setIfInBounds_toArray, List.set_cons_zero, List.set_cons_succ])
        refine wpAnyH_ready (rs := [7]) (by kernel_rfl) (by simp) ?_
        refine AllReadyH.cons (o := _) rfl (fun K hK => ?_) AllReadyH.nil
        go_simp
        have hb := Below.alloc (Below.refl u3.heap.size u3) (Nat.le_refl _) (.cells #[.string (dx ++ wx)] 9)
        have hcw : (u3.alloc (.cells #[.string (dx ++ wx)] 9)).cell? ⟨u3.heap.size, 0, none⟩ = some (.string (dx ++ wx)) := by rw [World.cell?_alloc_new]; rfl
        replace HU := Lib.hid (more HU.out (Nat.le_refl _) hb)
        refine hK.out _ _ (SF.out _ HU.out) (fun hHeld2 => ?_)
        clear hHeld2 hK K hHeld hb
        have hHeld := SF.out _ HU.out
        (try simp only [Act.put, List.getElem_toArray, List.getElem_cons_zero, List.getElem_cons_succ, List.setIfInBounds_toArray, List.set_cons_zero, List.set_cons_succ])
        obtain ⟨bs4, hbs⟩ : ∃ q, u3.heap.size = q := ⟨_, rfl⟩
        obtain ⟨u4, hN⟩ : ∃ q, u3.alloc (.cells #[.string (dx ++ wx)] 9) = q := ⟨_, rfl⟩
        rw [hN] at HU hHeld hcw ⊢
        rw [hbs] at hcw ⊢
        have HCW := Lib.hid hcw
        clear hN hbs hcw
        refine wpAnyH_ready (rs := [8]) (by kernel_rfl) (by simp) ?_
        refine AllReadyH.cons (o := _) rfl (fun K hK => ?_) AllReadyH.nil
        refine step_append_text (by rfl) (.tmp 14) (.tmp 21) (by rfl) w.heap.size v (pre.map fun y => lineT y.key) (by rfl) (ownsRow_below HOS.out HU.out) ⟨bs4, 0, none⟩ 1 (dx ++ wx) (by rfl) HCW.out (by rw [List.length_map]; omega) (by have := HBW.out.size; have := HU.out.size; omega) ?_
        intro v' u5 hown8 hgr8
        rw [← HLN.out] at hown8
        obtain ⟨A9, c9, hv9, _⟩ := own_text hown8
        have hgr := Gr.trans (Gr.of_below HU.out v) hgr8
        have hend := HEND.out u5 v' hgr hown8
        obtain ⟨m9, hm9⟩ : ∃ q, ((pre.map fun y => lineT y.key) ++ [lineT x.key]).length = q := ⟨_, rfl⟩
        rw [hm9] at hv9
        subst hv9
        have hS8 : (fun w' : World => w'.cell? ⟨bx, 0, none⟩ = some (.int .i64 x.t.tag) ∧ w'.cell? ⟨bx, 1, none⟩ = some (.int .i64 x.t.key) ∧ w'.cell? ⟨bx, 2, none⟩ = some (.string x.t.text) ∧ w'.cell? ⟨bx, 3, none⟩ = some (.slice x.A0 x.t.ps.length x.c0) ∧ w'.cell? ⟨bx, 4, none⟩ = some (.slice none 0 0)) u5 := ⟨(hgr.cell hzS hvbx).trans s0, (hgr.cell hzS hvbx).trans s1, (hgr.cell hzS hvbx).trans s2, (hgr.cell hzS hvbx).trans s3, (hgr.cell hzS hvbx).trans s4⟩
        have hbx8 : Boxed u5 lb 27 v := (hgr.1.block lb HBS.out.lt (fun e => hvlb e.symm)).trans HBS.out
        refine hK.out _ _ hS8 (fun hHeld2 => ?_)
        clear hHeld2 hK K hHeld hown8 hgr8
        have hHeld := hS8
        have hb8c := hbx8.cell
        have hb8f := hbx8.frozen
        (try simp only [Act.put, List.getElem_toArray, List.getElem_cons_zero, List.getElem_cons_succ, List.setIfInBounds_toArray, List.set_cons_zero, List.set_cons_succ])
        refine wpAnyH_ready (rs := [9]) (by kernel_rfl) (by simp) ?_
        refine AllReadyH.cons (o := _) rfl (fun K hK => ?_) AllReadyH.nil
        go_simp
        have hS9 : (fun w' : World => w'.cell? ⟨bx, 0, none⟩ = some (.int .i64 x.t.tag) ∧ w'.cell? ⟨bx, 1, none⟩ = some (.int .i64 x.t.key) ∧ w'.cell? ⟨bx, 2, none⟩ = some (.string x.t.text) ∧ w'.cell? ⟨bx, 3, none⟩ = some (.slice x.A0 x.t.ps.length x.c0) ∧ w'.cell? ⟨bx, 4, none⟩ = some (.slice none 0 0)) (u5.setCell ⟨lb, 0, none⟩ (.slice A9 m9 c9)) := ⟨(World.cell?_setCell_far _ _ _ _ (by show lb ≠ bx; exact hlbx)).trans hS8.1, (World.cell?_setCell_far _ _ _ _ (by show lb ≠ bx; exact hlbx)).trans hS8.2.1, (World.cell?_setCell_far _ _ _ _ (by show lb ≠ bx; exact hlbx)).trans hS8.2.2.1, (World.cell?_setCell_far _ _ _ _ (by show lb ≠ bx; exact hlbx)).trans hS8.2.2.2.1, (World.cell?_setCell_far _ _ _ _ (by show lb ≠ bx; exact hlbx)).trans hS8.2.2.2.2⟩
        refine hK.out _ _ hS9 (fun hHeld2 => ?_)
        clear hHeld2 hK K hHeld hS8 hS9
        (try simp only [Act.put, List.getElem_toArray, List.getElem_cons_zero, List.getElem_cons_succ, List.setIfInBounds_toArray, List.set_cons_zero, List.set_cons_succ])
        refine wpAnyH_done (by kernel_rfl) ?_ _
        exact hend
      refine AllReadyH.cons (o := _) rfl (fun K hK => ?_) AllReadyH.nil
      go_simp
      refine (KR.out _).mono ?_
      rintro e u6 ⟨rfl, hb⟩
      replace HU := Lib.hid (more HU.out (Nat.le_refl _) hb)
      refine hK.out _ _ (SF.out _ HU.out) (fun hHeld2 => ?_)
      clear hHeld2 hK K hHeld hb
      have hHeld := SF.out _ HU.out
      (try simp only [Act.put, List.getElem_toArray, List.getElem_cons_zero, List.getElem_cons_succ, List.setIfInBounds_toArray, List.set_cons_zero, List.set_cons_succ])
      refine wpAnyH_ready (rs := [0, 5]) (by kernel_rfl) (by simp) ?_
      refine AllReadyH.cons (o := _) rfl (fun K hK => ?_) ?_
      · skip
        have hl0 := (HU.out.cell (p := ⟨lb, 0, none⟩) HBS.out.lt).trans HBS.out.cell
        go_simp
        refine hK.out _ _ hHeld (fun hHeld2 => ?_)
        clear hHeld2 hK K hl0
        (try simp only [Act.put, List.getElem_toArray, List.getElem_cons_zero, List.getElem_cons_succ, List.setIfInBounds_toArray, List.set_cons_zero, List.set_cons_succ])
        refine wpAnyH_ready (rs := [5]) (by kernel_rfl) (by simp) ?_
        refine AllReadyH.cons (o := _) rfl (fun K hK => ?_) AllReadyH.nil
        go_simp
        refine (KT.out _ (HV.out.next (HBW.out.trans (HU.out.mono HBW.out.size))) (HPX.out.below (HBW.out.trans (HU.out.mono HBW.out.size)))).mono ?_
        rintro e u8 ⟨rfl, hb⟩
        replace HU := Lib.hid (more HU.out (Nat.le_refl _) hb)
        refine hK.out _ _ (SF.out _ HU.out) (fun hHeld2 => ?_)
        clear hHeld2 hK K hHeld hb
        have hHeld := SF.out _ HU.out
        (try simp only [Act.put, List.getElem_toArray, List.getElem_cons_zero, List.getElem_cons_succ, List.setIfInBounds_toArray, List.set_cons_zero, List.set_cons_succ])
        refine wpAnyH_take (i := 6) (oi := _) (v := ?_) rfl (by kernel_rfl) (by kernel_rfl) (by kernel_rfl) (fun _ _ _ h => h) (Or.inl ⟨by kernel_rfl, ?_⟩) (by assumption) ?_
        rotate_left
        · (intro w hSw; (try dsimp only at hSw); go_simp)
          try with_reducible rfl
        (try simp only [Act.put, List.getElem_toArray, List.getElem_cons_zero, List.getElem_cons_succ, List.setIfInBounds_toArray, List.set_cons_zero, List.set_cons_succ])
        refine wpAnyH_ready (rs := [7]) (by kernel_rfl) (by simp) ?_
        refine AllReadyH.cons (o := _) rfl (fun K hK => ?_) AllReadyH.nil
        go_simp
        have hb := Below.alloc (Below.refl u8.heap.size u8) (Nat.le_refl _) (.cells #[.string (dx ++ wx)] 9)
        have hcw : (u8.alloc (.cells #[.string (dx ++ wx)] 9)).cell? ⟨u8.heap.size, 0, none⟩ = some (.string (dx ++ wx)) := by rw [World.cell?_alloc_new]; rfl
        replace HU := Lib.hid (more HU.out (Nat.le_refl _) hb)
        refine hK.out _ _ (SF.out _ HU.out) (fun hHeld2 => ?_)
        clear hHeld2 hK K hHeld hb
        have hHeld := SF.out _ HU.out
        (try simp only [Act.put, List.getElem_toArray, List.getElem_cons_zero, List.getElem_cons_succ, List.setIfInBounds_toArray, List.set_cons_zero, List.set_cons_succ])
        obtain ⟨bs9, hbs⟩ : ∃ q, u8.heap.size = q := ⟨_, rfl⟩
        obtain ⟨u9, hN⟩ : ∃ q, u8.alloc (.cells #[.string (dx ++ wx)] 9) = q := ⟨_, rfl⟩
        rw [hN] at HU hHeld hcw ⊢
        rw [hbs] at hcw ⊢
        have HCW := Lib.hid hcw
        clear hN hbs hcw
        refine wpAnyH_ready (rs := [8]) (by kernel_rfl) (by simp) ?_
        refine AllReadyH.cons (o := _) rfl (fun K hK => ?_) AllReadyH.nil
        refine step_append_text (by rfl) (.tmp 14) (.tmp 21) (by rfl) w.heap.size v (pre.map fun y => lineT y.key) (by rfl) (ownsRow_below HOS.out HU.out) ⟨bs9, 0, none⟩ 1 (dx ++ wx) (by rfl) HCW.out (by rw [List.length_map]; omega) (by have := HBW.out.size; have := HU.out.size; omega) ?_
        intro v' u10 hown8 hgr8
        rw [← HLN.out] at hown8
        obtain ⟨A9, c9, hv9, _⟩ := own_text hown8
        have hgr := Gr.trans (Gr.of_below HU.out v) hgr8
        have hend := HEND.out u10 v' hgr hown8
        obtain ⟨m9, hm9⟩ : ∃ q, ((pre.map fun y => lineT y.key) ++ [lineT x.key]).length = q := ⟨_, rfl⟩
        rw [hm9] at hv9
        subst hv9
        have hS8 : (fun w' : World => w'.cell? ⟨bx, 0, none⟩ = some (.int .i64 x.t.tag) ∧ w'.cell? ⟨bx, 1, none⟩ = some (.int .i64 x.t.key) ∧ w'.cell? ⟨bx, 2, none⟩ = some (.string x.t.text) ∧ w'.cell? ⟨bx, 3, none⟩ = some (.slice x.A0 x.t.ps.length x.c0) ∧ w'.cell? ⟨bx, 4, none⟩ = some (.slice none 0 0)) u10 := ⟨(hgr.cell hzS hvbx).trans s0, (hgr.cell hzS hvbx).trans s1, (hgr.cell hzS hvbx).trans s2, (hgr.cell hzS hvbx).trans s3, (hgr.cell hzS hvbx).trans s4⟩
        have hbx8 : Boxed u10 lb 27 v := (hgr.1.block lb HBS.out.lt (fun e => hvlb e.symm)).trans HBS.out
        refine hK.out _ _ hS8 (fun hHeld2 => ?_)
        clear hHeld2 hK K hHeld hown8 hgr8
        have hHeld := hS8
        have hb8c := hbx8.cell
        have hb8f := hbx8.frozen
        (try simp only [Act.put, List.getElem_toArray, List.getElem_cons_zero, List.getElem_cons_succ, List.setIfInBounds_toArray, List.set_cons_zero, List.set_cons_succ])
        refine wpAnyH_ready (rs := [9]) (by kernel_rfl) (by simp) ?_
        refine AllReadyH.cons (o := _) rfl (fun K hK => ?_) AllReadyH.nil
        go_simp
        have hS9 : (fun w' : World => w'.cell? ⟨bx, 0, none⟩ = some (.int .i64 x.t.tag) ∧ w'.cell? ⟨bx, 1, none⟩ = some (.int .i64 x.t.key) ∧ w'.cell? ⟨bx, 2, none⟩ = some (.string x.t.text) ∧ w'.cell? ⟨bx, 3, none⟩ = some (.slice x.A0 x.t.ps.length x.c0) ∧ w'.cell? ⟨bx, 4, none⟩ = some (.slice none 0 0)) (u10.setCell ⟨lb, 0, none⟩ (.slice A9 m9 c9)) := ⟨(World.cell?_setCell_far _ _ _ _ (by show lb ≠ bx; exact hlbx)).trans hS8.1, (World.cell?_setCell_far _ _ _ _ (by show lb ≠ bx; exact hlbx)).trans hS8.2.1, (World.cell?_setCell_far _ _ _ _ (by show lb ≠ bx; exact hlbx)).trans hS8.2.2.1, (World.cell?_setCell_far _ _ _ _ (by show lb ≠ bx; exact hlbx)).trans hS8.2.2.2.1, (World.cell?_setCell_far _ _ _ _ (by show lb ≠ bx; exact hlbx)).trans hS8.2.2.2.2⟩
        refine hK.out _ _ hS9 (fun hHeld2 => ?_)
        clear hHeld2 hK K hHeld hS8 hS9
        (try simp only [Act.put, List.getElem_toArray, List.getElem_cons_zero, List.getElem_cons_succ, List.setIfInBounds_toArray, List.set_cons_zero, List.set_cons_succ])
        refine wpAnyH_done (by kernel_rfl) ?_ _
        exact hend
      refine AllReadyH.cons (o := _) rfl (fun K hK => ?_) AllReadyH.nil
      go_simp
      refine (KT.out _ (HV.out.next (HBW.out.trans (HU.out.mono HBW.out.size))) (HPX.out.below (HBW.out.trans (HU.out.mono HBW.out.size)))).mono ?_
      rintro e u11 ⟨rfl, hb⟩
      replace HU := Lib.hid (more HU.out (Nat.le_refl _) hb)
      refine hK.out _ _ (SF.out _ HU.out) (fun hHeld2 => ?_)
      clear hHeld2 hK K hHeld hb
      have hHeld := SF.out _ HU.out
      (try simp only [Act.put, List.getElem_toArray, List.getElem_cons_zero, List.getElem_cons_succ, List.setIfInBounds_toArray, List.set_cons_zero, List.set_cons_succ])
      refine wpAnyH_take (i := 6) (oi := _) (v := ?_) rfl (by kernel_rfl) (by kernel_rfl) (by kernel_rfl) (fun _ _ _ h => h) (Or.inl ⟨by kernel_rfl, ?_⟩) (by assumption) ?_
      rotate_left
      · (intro w hSw; (try dsimp only at hSw); go_simp)
        try with_reducible rfl
      (try simp only [Act.put, List.getElem_toArray, List.getElem_cons_zero, List.getElem_cons_succ, List.setIfInBounds_toArray, List.set_cons_zero, List.set_cons_succ])
      refine wpAnyH_ready (rs := [0, 7]) (by kernel_rfl) (by simp) ?_
      refine AllReadyH.cons (o := _) rfl (fun K hK => ?_) ?_
      · skip
        have hl0 := (HU.out.cell (p := ⟨lb, 0, none⟩) HBS.out.lt).trans HBS.out.cell
        go_simp
        refine hK.out _ _ hHeld (fun hHeld2 => ?_)
        clear hHeld2 hK K hl0
        (try simp only [Act.put, List.getElem_toArray, List.getElem_cons_zero, List.getElem_cons_succ, List.setIfInBounds_toArray, List.set_cons_zero, List.set_cons_succ])
        refine wpAnyH_ready (rs := [7]) (by kernel_rfl) (by simp) ?_
        refine AllReadyH.cons (o := _) rfl (fun K hK => ?_) AllReadyH.nil
        go_simp
        have hb := Below.alloc (Below.refl u11.heap.size u11) (Nat.le_refl _) (.cells #[.string (dx ++ wx)] 9)
        have hcw : (u11.alloc (.cells #[.string (dx ++ wx)] 9)).cell? ⟨u11.heap.size, 0, none⟩ = some (.string (dx ++ wx)) := by rw [World.cell?_alloc_new]; rfl
        replace HU := Lib.hid (more HU.out (Nat.le_refl _) hb)
        refine hK.out _ _ (SF.out _ HU.out) (fun hHeld2 => ?_)
        clear hHeld2 hK K hHeld hb
        have hHeld := SF.out _ HU.out
        (try simp only [Act.put, List.getElem_toArray, List.getElem_cons_zero, List.getElem_cons_succ, List.setIfInBounds_toArray, List.set_cons_zero, List.set_cons_succ])
        obtain ⟨bs13, hbs⟩ : ∃ q, u11.heap.size = q := ⟨_, rfl⟩
        obtain ⟨u13, hN⟩ : ∃ q, u11.alloc (.cells #[.string (dx ++ wx)] 9) = q := ⟨_, rfl⟩
        rw [hN] at HU hHeld hcw ⊢
        rw [hbs] at hcw ⊢
        have HCW := Lib.hid hcw
        clear hN hbs hcw
        refine wpAnyH_ready (rs := [8]) (by kernel_rfl) (by simp) ?_
        refine AllReadyH.cons (o := _) rfl (fun K hK => ?_) AllReadyH.nil
        refine step_append_text (by rfl) (.tmp 14) (.tmp 21) (by rfl) w.heap.size v (pre.map fun y => lineT y.key) (by rfl) (ownsRow_below HOS.out HU.out) ⟨bs13, 0, none⟩ 1 (dx ++ wx) (by rfl) HCW.out (by rw [List.length_map]; omega) (by have := HBW.out.size; have := HU.out.size; omega) ?_
        intro v' u14 hown8 hgr8
        rw [← HLN.out] at hown8
        obtain ⟨A9, c9, hv9, _⟩ := own_text hown8
        have hgr := Gr.trans (Gr.of_below HU.out v) hgr8
        have hend := HEND.out u14 v' hgr hown8
        obtain ⟨m9, hm9⟩ : ∃ q, ((pre.map fun y => lineT y.key) ++ [lineT x.key]).length = q := ⟨_, rfl⟩
        rw [hm9] at hv9
        subst hv9
        have hS8 : (fun w' : World => w'.cell? ⟨bx, 0, none⟩ = some (.int .i64 x.t.tag) ∧ w'.cell? ⟨bx, 1, none⟩ = some (.int .i64 x.t.key) ∧ w'.cell? ⟨bx, 2, none⟩ = some (.string x.t.text) ∧ w'.cell? ⟨bx, 3, none⟩ = some (.slice x.A0 x.t.ps.length x.c0) ∧ w'.cell? ⟨bx, 4, none⟩ = some (.slice none 0 0)) u14 := ⟨(hgr.cell hzS hvbx).trans s0, (hgr.cell hzS hvbx).trans s1, (hgr.cell hzS hvbx).trans s2, (hgr.cell hzS hvbx).trans s3, (hgr.cell hzS hvbx).trans s4⟩
        have hbx8 : Boxed u14 lb 27 v := (hgr.1.block lb HBS.out.lt (fun e => hvlb e.symm)).trans HBS.out
        refine hK.out _ _ hS8 (fun hHeld2 => ?_)
        clear hHeld2 hK K hHeld hown8 hgr8
        have hHeld := hS8
        have hb8c := hbx8.cell
        have hb8f := hbx8.frozen
        (try simp only [Act.put, List.getElem_toArray, List.getElem_cons_zero, List.getElem_cons_succ, List.setIfInBounds_toArray, List.set_cons_zero, List.set_cons_succ])
        refine wpAnyH_ready (rs := [9]) (by kernel_rfl) (by simp) ?_
        refine AllReadyH.cons (o := _) rfl (fun K hK => ?_) AllReadyH.nil
        go_simp
        have hS9 : (fun w' : World => w'.cell? ⟨bx, 0, none⟩ = some (.int .i64 x.t.tag) ∧ w'.cell? ⟨bx, 1, none⟩ = some (.int .i64 x.t.key) ∧ w'.cell? ⟨bx, 2, none⟩ = some (.string x.t.text) ∧ w'.cell? ⟨bx, 3, none⟩ = some (.slice x.A0 x.t.ps.length x.c0) ∧ w'.cell? ⟨bx, 4, none⟩ = some (.slice none 0 0)) (u14.setCell ⟨lb, 0, none⟩ (.slice A9 m9 c9)) := ⟨(World.cell?_setCell_far _ _ _ _ (by show lb ≠ bx; exact hlbx)).trans hS8.1, (World.cell?_setCell_far _ _ _ _ (by show lb ≠ bx; exact hlbx)).trans hS8.2.1, (World.cell?_setCell_far _ _ _ _ (by show lb ≠ bx; exact hlbx)).trans hS8.2.2.1, (World.cell?_setCell_far _ _ _ _ (by show lb ≠ bx; exact hlbx)).trans hS8.2.2.2.1, (World.cell?_setCell_far _ _ _ _ (by show lb ≠ bx; exact hlbx)).trans hS8.2.2.2.2⟩
        refine hK.out _ _ hS9 (fun hHeld2 => ?_)
        clear hHeld2 hK K hHeld hS8 hS9
        (try simp only [Act.put, List.getElem_toArray, List.getElem_cons_zero, List.getElem_cons_succ, List.setIfInBounds_toArray, List.set_cons_zero, List.set_cons_succ])
        refine wpAnyH_done (by kernel_rfl) ?_ _
        exact hend
      refine AllReadyH.cons (o := _) rfl (fun K hK => ?_) AllReadyH.nil
      go_simp
      have hb := Below.alloc (Below.refl u11.heap.size u11) (Nat.le_refl _) (.cells #[.string (dx ++ wx)] 9)
      have hcw : (u11.alloc (.cells #[.string (dx ++ wx)] 9)).cell? ⟨u11.heap.size, 0, none⟩ = some (.string (dx ++ wx)) := by rw [World.cell?_alloc_new]; rfl
      replace HU := Lib.hid (more HU.out (Nat.le_refl _) hb)
      refine hK.out _ _ (SF.out _ HU.out) (fun hHeld2 => ?_)
      clear hHeld2 hK K hHeld hb
      have hHeld := SF.out _ HU.out
      (try simp only [Act.put, List.getElem_toArray, List.getElem_cons_zero, List.getElem_cons_succ, List.setIfInBounds_toArray, List.set_cons_zero, List.set_cons_succ])
      obtain ⟨bs15, hbs⟩ : ∃ q, u11.heap.size = q := ⟨_, rfl⟩
      obtain ⟨u15, hN⟩ : ∃ q, u11.alloc (.cells #[.string (dx ++ wx)] 9) = q := ⟨_, rfl⟩
      rw [hN] at HU hHeld hcw ⊢
      rw [hbs] at hcw ⊢
      have HCW := Lib.hid hcw
      clear hN hbs hcw
      refine wpAnyH_ready (rs := [0]) (by kernel_rfl) (by simp) ?_
      refine AllReadyH.cons (o := _) rfl (fun K hK => ?_) AllReadyH.nil
      have hl0 := (HU.out.cell (p := ⟨lb, 0, none⟩) HBS.out.lt).trans HBS.out.cell
      go_simp
      refine hK.out _ _ hHeld (fun hHeld2 => ?_)
      clear hHeld2 hK K hl0
      (try simp only [Act.put, List.getElem_toArray, List.getElem_cons_zero, List.getElem_cons_succ, List.setIfInBounds_toArray, List.set_cons_zero, List.set_cons_succ])
      refine wpAnyH_ready (rs := [8]) (by kernel_rfl) (by simp) ?_
      refine AllReadyH.cons (o := _) rfl (fun K hK => ?_) AllReadyH.nil
      refine step_append_text (by rfl) (.tmp 14) (.tmp 21) (by rfl) w.heap.size v (pre.map fun y => lineT y.key) (by rfl) (ownsRow_below HOS.out HU.out) ⟨bs15, 0, none⟩ 1 (dx ++ wx) (by rfl) HCW.out (by rw [List.length_map]; omega) (by have := HBW.out.size; have := HU.out.size; omega) ?_
      intro v' u17 hown8 hgr8
      rw [← HLN.out] at hown8
      obtain ⟨A9, c9, hv9, _⟩ := own_text hown8
      have hgr := Gr.trans (Gr.of_below HU.out v) hgr8
      have hend := HEND.out u17 v' hgr hown8
      obtain ⟨m9, hm9⟩ : ∃ q, ((pre.map fun y => lineT y.key) ++ [lineT x.key]).length = q := ⟨_, rfl⟩
      rw [hm9] at hv9
      subst hv9
      have hS8 : (fun w' : World => w'.cell? ⟨bx, 0, none⟩ = some (.int .i64 x.t.tag) ∧ w'.cell? ⟨bx, 1, none⟩ = some (.int .i64 x.t.key) ∧ w'.cell? ⟨bx, 2, none⟩ = some (.string x.t.text) ∧ w'.cell? ⟨bx, 3, none⟩ = some (.slice x.A0 x.t.ps.length x.c0) ∧ w'.cell? ⟨bx, 4, none⟩ = some (.slice none 0 0)) u17 := ⟨(hgr.cell hzS hvbx).trans s0, (hgr.cell hzS hvbx).trans s1, (hgr.cell hzS hvbx).trans s2, (hgr.cell hzS hvbx).trans s3, (hgr.cell hzS hvbx).trans s4⟩
      have hbx8 : Boxed u17 lb 27 v := (hgr.1.block lb HBS.out.lt (fun e => hvlb e.symm)).trans HBS.out
      refine hK.out _ _ hS8 (fun hHeld2 => ?_)
      clear hHeld2 hK K hHeld hown8 hgr8
      have hHeld := hS8
      have hb8c := hbx8.cell
      have hb8f := hbx8.frozen
      (try simp only [Act.put, List.getElem_toArray, List.getElem_cons_zero, List.getElem_cons_succ, List.setIfInBounds_toArray, List.set_cons_zero, List.set_cons_succ])
      refine wpAnyH_ready (rs := [9]) (by kernel_rfl) (by simp) ?_
      refine AllReadyH.cons (o := _) rfl (fun K hK => ?_) AllReadyH.nil
      go_simp
      have hS9 : (fun w' : World => w'.cell? ⟨bx, 0, none⟩ = some (.int .i64 x.t.tag) ∧ w'.cell? ⟨bx, 1, none⟩ = some (.int .i64 x.t.key) ∧ w'.cell? ⟨bx, 2, none⟩ = some (.string x.t.text) ∧ w'.cell? ⟨bx, 3, none⟩ = some (.slice x.A0 x.t.ps.length x.c0) ∧ w'.cell? ⟨bx, 4, none⟩ = some (.slice none 0 0)) (u17.setCell ⟨lb, 0, none⟩ (.slice A9 m9 c9)) := ⟨(World.cell?_setCell_far _ _ _ _ (by show lb ≠ bx; exact hlbx)).trans hS8.1, (World.cell?_setCell_far _ _ _ _ (by show lb ≠ bx; exact hlbx)).trans hS8.2.1, (World.cell?_setCell_far _ _ _ _ (by show lb ≠ bx; exact hlbx)).trans hS8.2.2.1, (World.cell?_setCell_far _ _ _ _ (by show lb ≠ bx; exact hlbx)).trans hS8.2.2.2.1, (World.cell?_setCell_far _ _ _ _ (by show lb ≠ bx; exact hlbx)).trans hS8.2.2.2.2⟩
      refine hK.out _ _ hS9 (fun hHeld2 => ?_)
      clear hHeld2 hK K hHeld hS8 hS9
      (try simp only [Act.put, List.getElem_toArray, List.getElem_cons_zero, List.getElem_cons_succ, List.setIfInBounds_toArray, List.set_cons_zero, List.set_cons_succ])
      refine wpAnyH_done (by kernel_rfl) ?_ _
      exact hend
    · rintro D xs W hD hS ⟨v, hbv, hown, hmm, hbl⟩ hK
      have hlines : (xs.map fun y => lineT y.key) = outD t 0 := by
        have e : (xs.map fun y => lineT y.key) = (xs.map Pt.key).map lineT := by rw [List.map_map]; rfl
        rw [e, hS]
        rfl
      rw [hlines] at hown
      obtain ⟨A9, c9, rfl, htx⟩ := own_text hown
      have htx2 : TxO (W.putObj D (.deferred none)) w.heap.size (W.putObj D (.deferred none)).heap.size A9 c9 (outD t 0) := fun h0 => by
        obtain ⟨g, e, x1, x2, ho⟩ := htx h0
        exact ⟨g, e, x1, by simpa using x2, own_at ho (fun g2 cur _ hg => World.putObj_heap_other (by rintro rfl; rw [hg] at hK; cases hK))⟩
      have hfin := hbl.grown (grownBy_putObj' W D (.deferred none)) hbl.size (fun k e => by cases e; have := HB4.out.size; omega)
      have hc := hbv.cell
      have HKD := Lib.hid hK
      have HTX := Lib.hid htx2
      have HF := Lib.hid hfin
      clear hown htx htx2 hfin hK hmm hS hlines hbv
      gi_wp2
      refine ⟨by simp, .inl ⟨_, _, rfl, run_takeDeferred HKD.out, ?_⟩⟩
      exact ⟨_, results_tmp rfl _ _ _, HX.out _ _ ⟨A9, c9, rfl, HTX.out, HF.out⟩⟩
    · rintro D c pre W _ _ h _
      exact h.elim
end Go.Proofs.YtagaaeolgecdmaaGreatDoor
