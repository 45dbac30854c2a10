/- LksC, LksD, LksE, LksF in one text. -/
import Derived.Test.YtmfibedcloknlaaGreatDoorLkM3
import Derived.Test.YtmfibedcloknlaaGreatDoorLkM2
import Derived.Deep.RegionHeld3
import Derived.Maps.AppendAt
import Derived.Test.YtmfibedcloknlaaGreatDoorTrnM
namespace Go.Proofs.YtmfibedcloknlaaGreatDoor
open Go.Joins Go.ChangeShapes Go.WideShapes Go.ChangeAt Go.RowKit Go.Deep
open List renaming getElem_toArray → qa, getElem_cons_zero → qb, getElem_cons_succ → qc, setIfInBounds_toArray → qd, set_cons_zero → qe, set_cons_succ → qf
set_option linter.unusedVariables false
set_option linter.unusedSimpArgs false

/-- A row of five numbers of the call's own. -/
def FvX (zs : List Int) (w : World) (e : Ending) (w' : World) : Prop := ∃ g, e = .returned (.slice (some ⟨g, 0, none⟩) 5 5) ∧ LkR w' w.heap.size ⟨g, 5, zs⟩ ∧ Below w.heap.size w w'
theorem lkr_lit {base : Nat} (w : World) (zs : List Int) (h5 : zs.length = 5) (hb : base ≤ w.heap.size) : LkR (w.alloc (.cells (zV zs).toArray 3)) base ⟨w.heap.size, 5, zs⟩ := by
 have h := World.ownsRow_lit (base := base) (e := 3) (size := 1) w (zV zs).toArray 5 hb (by decide) (by simp [zV_len, h5])
 unfold LkR
 dsimp only
 rw [h5]
 simpa using h
set_option maxHeartbeats 1000000 in
theorem textLooks_any (ib ic : Nat) (mark : Int) (w : World) (hin : w.cell? ⟨ib, 4, none⟩ = some (.int .i64 mark)) :
  Calls Tryz.prog 101 #[.slice (some ⟨ib, 0, none⟩) 5 ic] w (FvX [0, 0, 0, 0, mark] w) := by
 have hmk := make5
 have hlt := World.block_lt_of_cell? w _ hin
 simp at hlt
 have hfin := Lib.hid (lkr_lit w [0, 0, 0, 0, mark] rfl (Nat.le_refl _))
 obtain ⟨X, hX⟩ : ∃ X, FvX [0, 0, 0, 0, mark] w = X := ⟨_, rfl⟩
 have HX := Lib.hid hX
 rw [hX]
 clear hX
 go_enter Tryz.func101, Tryz.ntmps101
 go_wp2_with fail
 rw [← HX.out]
 exact ⟨w.heap.size, rfl, hfin.out, Below.alloc (Below.refl _ w) (Nat.le_refl _) _⟩
theorem stepS_take {xs : List Ru} {k : Nat} {x : Ru} (hx : xs[k]? = some x) (tag : Int) (ps : List Pr) (ab : List Int) (s : List Int × List Int) : (xs.take (k + 1)).foldl (stepS tag ps ab) s = stepS tag ps ab ((xs.take k).foldl (stepS tag ps ab) s) x := by
 rw [List.take_add_one, hx, List.foldl_append]
 rfl
theorem stepsS_len (xs : List Ru) (tag : Int) (ps : List Pr) (ab : List Int) : ∀ (s : List Int × List Int), (xs.foldl (stepS tag ps ab) s).1.length = s.1.length ∧ (xs.foldl (stepS tag ps ab) s).2.length = s.2.length := by
 induction xs with
 | nil => intro s; exact ⟨rfl, rfl⟩
 | cons x xs ih => intro s; rw [List.foldl_cons]; exact ⟨(ih _).1.trans (stepS_len tag ps ab s x).1, (ih _).2.trans (stepS_len tag ps ab s x).2⟩
theorem weigh_le (x : Ru) : weighV x ≤ 12 := by
 unfold weighV; split <;> split <;> split <;> omega
theorem lkr_frozen {w : World} {base : Nat} {r : Lk} (h : LkR w base r) : ∀ o, w.frozen? ⟨r.b, o, none⟩ = false := fun o => World.ownsRow.frozenAt h o
set_option maxRecDepth 100000 in
set_option maxHeartbeats 8000000 in
theorem slooks_any (xs : List Ru) (tag key : Int) (text : ByteArray) (ps : List Pr) (A0 A1 GB RA : Option Addr) (n0 c0 n1 c1 gn gc rn rc ib ic : Nat) (ab : List Int) (mark : Int) (w : World) (hp : PrL w A0 ps) (hn : ps.length = n0) (hl : n0 ≤ maxLen) (hab : IntL w GB ab) (hgn : ab.length = gn) (hgl : gn ≤ maxLen)
  (hr : RuL w RA xs) (hrn : xs.length = rn) (hr12 : rn ≤ 12) (hro : ∀ x ∈ xs, ruleB x = true) (hin : w.cell? ⟨ib, 4, none⟩ = some (.int .i64 mark)) :
  Calls Tryz.prog 102 #[.slice RA rn rc, .agg #[.int .i64 tag, .int .i64 key, .string text, .slice A0 n0 c0, .slice A1 n1 c1], .slice GB gn gc, .slice (some ⟨ib, 0, none⟩) 5 ic] w (FvX (rowS xs tag ps ab mark) w) := by
 have hmk := make5
 have hlt := World.block_lt_of_cell? w _ hin
 simp at hlt
 have hlt1 : ib < w.heap.size + 1 := by omega
 have hltb : ib < w.heap.size + 1 + 1 := by omega
 have HM := Lib.hid (fun x (w' : World) (h : Below w.heap.size w w') => meets_any x tag key text ps A0 A1 GB n0 c0 n1 c1 gn gc ab w' (hp.below h) hn hl (hab.below h) hgn hgl)
 have HR := Lib.hid hr
 have HRN := Lib.hid hrn
 have HRO := Lib.hid hro
 obtain ⟨X, hX⟩ : ∃ X, FvX (rowS xs tag ps ab mark) w = X := ⟨_, rfl⟩
 have HX := Lib.hid hX
 rw [hX]
 clear hX hp hn hl hab hgn hgl hr hrn hro
 have hb3 : Below w.heap.size w (((w.alloc (.cells #[.int .i64 tag, .int .i64 key, .string text, .slice A0 n0 c0, .slice A1 n1 c1] 26)).alloc (.cells #[.int .i64 0, .int .i64 0, .int .i64 0, .int .i64 0, .int .i64 mark] 3)).alloc (.cells #[.int .i64 0, .int .i64 0, .int .i64 0, .int .i64 0, .int .i64 0] 3)) := ((Below.alloc (Below.refl _ w) (Nat.le_refl _) _).alloc (by simp) _).alloc (by simp; omega) _
 have ht3 : (((w.alloc (.cells #[.int .i64 tag, .int .i64 key, .string text, .slice A0 n0 c0, .slice A1 n1 c1] 26)).alloc (.cells #[.int .i64 0, .int .i64 0, .int .i64 0, .int .i64 0, .int .i64 mark] 3)).alloc (.cells #[.int .i64 0, .int .i64 0, .int .i64 0, .int .i64 0, .int .i64 0] 3)).heap[w.heap.size]? = some (.cells #[.int .i64 tag, .int .i64 key, .string text, .slice A0 n0 c0, .slice A1 n1 c1] 26) := by
  rw [Below.heap_alloc _ _ _ (by simp; omega), Below.heap_alloc _ _ _ (by simp)]
  exact World.alloc_heap_new _ _
 have ho3 : LkR (((w.alloc (.cells #[.int .i64 tag, .int .i64 key, .string text, .slice A0 n0 c0, .slice A1 n1 c1] 26)).alloc (.cells #[.int .i64 0, .int .i64 0, .int .i64 0, .int .i64 0, .int .i64 mark] 3)).alloc (.cells #[.int .i64 0, .int .i64 0, .int .i64 0, .int .i64 0, .int .i64 0] 3)) w.heap.size ⟨w.heap.size + 1, 5, [0, 0, 0, 0, mark]⟩ := by
  have h := lkr_lit (base := w.heap.size) (w.alloc (.cells #[.int .i64 tag, .int .i64 key, .string text, .slice A0 n0 c0, .slice A1 n1 c1] 26)) [0, 0, 0, 0, mark] rfl (by simp)
  rw [World.size_alloc] at h
  exact h.below (Below.alloc (Below.refl _ _) (Nat.le_refl _) _)
 have hbe3 : LkR (((w.alloc (.cells #[.int .i64 tag, .int .i64 key, .string text, .slice A0 n0 c0, .slice A1 n1 c1] 26)).alloc (.cells #[.int .i64 0, .int .i64 0, .int .i64 0, .int .i64 0, .int .i64 mark] 3)).alloc (.cells #[.int .i64 0, .int .i64 0, .int .i64 0, .int .i64 0, .int .i64 0] 3)) w.heap.size ⟨w.heap.size + 1 + 1, 5, [0, 0, 0, 0, 0]⟩ := by
  have h := lkr_lit (base := w.heap.size) ((w.alloc (.cells #[.int .i64 tag, .int .i64 key, .string text, .slice A0 n0 c0, .slice A1 n1 c1] 26)).alloc (.cells #[.int .i64 0, .int .i64 0, .int .i64 0, .int .i64 0, .int .i64 mark] 3)) [0, 0, 0, 0, 0] rfl (by simp; omega)
  rw [World.size_alloc, World.size_alloc] at h
  exact h
 have hz3 : (((w.alloc (.cells #[.int .i64 tag, .int .i64 key, .string text, .slice A0 n0 c0, .slice A1 n1 c1] 26)).alloc (.cells #[.int .i64 0, .int .i64 0, .int .i64 0, .int .i64 0, .int .i64 mark] 3)).alloc (.cells #[.int .i64 0, .int .i64 0, .int .i64 0, .int .i64 0, .int .i64 0] 3)).heap.size = w.heap.size + 1 + 1 + 1 := by simp
 obtain ⟨w3, hw3⟩ : ∃ q, ((w.alloc (.cells #[.int .i64 tag, .int .i64 key, .string text, .slice A0 n0 c0, .slice A1 n1 c1] 26)).alloc (.cells #[.int .i64 0, .int .i64 0, .int .i64 0, .int .i64 0, .int .i64 mark] 3)).alloc (.cells #[.int .i64 0, .int .i64 0, .int .i64 0, .int .i64 0, .int .i64 0] 3) = q := ⟨_, rfl⟩
 rw [hw3] at hb3 ht3 ho3 hbe3 hz3
 have HB3 := Lib.hid hb3
 have HT3 := Lib.hid ht3
 have HO3 := Lib.hid ho3
 have HBE3 := Lib.hid hbe3
 have HZ3 := Lib.hid hz3
 have HW3 := Lib.hid hw3
 clear hb3 ht3 ho3 hbe3 hz3 hw3
 go_enter Tryz.func102, Tryz.ntmps102
 go_wp2_with fail
 rw [HW3.out]
 go_loopw [11] (fun i wr => ∃ k : Nat, k ≤ rn ∧ i = .int .i64 k ∧ Hid (wr.heap[w.heap.size]? = some (.cells #[.int .i64 tag, .int .i64 key, .string text, .slice A0 n0 c0, .slice A1 n1 c1] 26)) ∧ Hid (LkR wr w.heap.size ⟨w.heap.size + 1, 5, ((xs.take k).foldl (stepS tag ps ab) ([0, 0, 0, 0, mark], [0, 0, 0, 0, 0])).1⟩) ∧ Hid (LkR wr w.heap.size ⟨w.heap.size + 1 + 1, 5, ((xs.take k).foldl (stepS tag ps ab) ([0, 0, 0, 0, mark], [0, 0, 0, 0, 0])).2⟩) ∧ Hid (Below w.heap.size w wr) ∧ w.heap.size + 1 + 1 < wr.heap.size) (fun i _ => rn - (intOf i).toNat)
 case atStart => exact ⟨0, by omega, rfl, HT3, HO3, HBE3, HB3, by rw [HZ3.out]; omega⟩
 case round =>
  obtain ⟨k, hk, rfl, HT, HO, HBE, HB, hzw⟩ := hrel
  have hz0 : w.heap.size < wr.heap.size := by omega
  have hz1 : w.heap.size + 1 < wr.heap.size := by omega
  by_cases hlt2 : k < rn
  ·obtain ⟨x, hx⟩ := at_some (show k < xs.length by rw [HRN.out]; exact hlt2)
   obtain ⟨b, off, rfl, hblt, hcell⟩ := RuL.at_ (HR.out.below HB.out) (by have := HRN.out; omega)
   obtain ⟨c0', c1', c2', c3', c4', c5', c6', c7'⟩ := hcell k x hx
   obtain ⟨hl0, hl4, _⟩ := rule_look (HRO.out x (List.mem_of_getElem? hx))
   have hz12 := weigh_le x
   have hzp := weigh_pos x
   have HST := Lib.hid (stepS_take hx tag ps ab ([0, 0, 0, 0, mark], [0, 0, 0, 0, 0]))
   have hsl := stepsS_len (xs.take k) tag ps ab ([0, 0, 0, 0, mark], [0, 0, 0, 0, 0])
   obtain ⟨sk, hsk⟩ : ∃ q, (xs.take k).foldl (stepS tag ps ab) ([0, 0, 0, 0, mark], [0, 0, 0, 0, 0]) = q := ⟨_, rfl⟩
   rw [hsk] at HO HBE HST hsl
   obtain ⟨so, sb⟩ := sk
   dsimp only at HO HBE hsl
   have hso : so.length = 5 := hsl.1
   have hsb : sb.length = 5 := hsl.2
   have KM0 := Lib.hid (HM.out x)
   have KW0 := Lib.hid (weight_any x)
   have hst : stepS tag ps ab (so, sb) x = if meetS x tag ps ab && decide ((sb[x.l.toNat]?).getD 0 ≤ weighV x + 1) then (so.set x.l.toNat x.g, sb.set x.l.toNat (weighV x + 1)) else (so, sb) := rfl
   rw [hst] at HST
   obtain ⟨v, hv⟩ : ∃ v, meetS x tag ps ab = v := ⟨_, rfl⟩
   obtain ⟨z, hz⟩ : ∃ z, weighV x = z := ⟨_, rfl⟩
   rw [hv] at KM0 HST
   rw [hz] at KW0 hz12 hzp HST
   obtain ⟨xt, xa, xnm, ⟨vk, vn, vs⟩, xl, xg⟩ := x
   dsimp only at c0' c1' c2' c3' c4' c5' c6' c7' hl0 hl4 KM0 KW0 HST
   obtain ⟨ln, hln⟩ : ∃ q : Nat, xl = (q : Int) := ⟨xl.toNat, by omega⟩
   subst hln
   rw [show ((ln : Int)).toNat = ln from rfl] at HST
   have hln5 : ln < 5 := by omega
   obtain ⟨bv, hbv⟩ := at_some (show ln < sb.length by omega)
   rw [hbv, Option.getD_some] at HST
   have hi1 : (0 : Int) ≤ (k : Int) := by omega
   have hi2 : (k : Int) < (rn : Int) := by omega
   have hli1 : (0 : Int) ≤ (ln : Int) := by omega
   have hli2 : (ln : Int) < 5 := by omega
   have q13 : wr.cell? ⟨w.heap.size + 1 + 1, ln, none⟩ = some (.int .i64 bv) := (World.ownsRow.cellAt HBE.out ln (by show ln < sb.length * 1; omega)).trans (zV_at hbv)
   have hbx := Below.alloc (Below.refl wr.heap.size wr) (Nat.le_refl _) (.cells #[.int .i64 xt, .int .i64 xa, .int .i64 xnm, .int .i64 vk, .int .i64 vn, .string vs, .int .i64 ln, .int .i64 xg] 42)
   have e0 : (wr.alloc (.cells #[.int .i64 xt, .int .i64 xa, .int .i64 xnm, .int .i64 vk, .int .i64 vn, .string vs, .int .i64 ln, .int .i64 xg] 42)).cell? ⟨wr.heap.size, 0, none⟩ = some (.int .i64 xt) := by rw [World.cell?_alloc_new]; rfl
   have e1 : (wr.alloc (.cells #[.int .i64 xt, .int .i64 xa, .int .i64 xnm, .int .i64 vk, .int .i64 vn, .string vs, .int .i64 ln, .int .i64 xg] 42)).cell? ⟨wr.heap.size, 1, none⟩ = some (.int .i64 xa) := by rw [World.cell?_alloc_new]; rfl
   have e2 : (wr.alloc (.cells #[.int .i64 xt, .int .i64 xa, .int .i64 xnm, .int .i64 vk, .int .i64 vn, .string vs, .int .i64 ln, .int .i64 xg] 42)).cell? ⟨wr.heap.size, 2, none⟩ = some (.int .i64 xnm) := by rw [World.cell?_alloc_new]; rfl
   have e3 : (wr.alloc (.cells #[.int .i64 xt, .int .i64 xa, .int .i64 xnm, .int .i64 vk, .int .i64 vn, .string vs, .int .i64 ln, .int .i64 xg] 42)).cell? ⟨wr.heap.size, 3, none⟩ = some (.int .i64 vk) := by rw [World.cell?_alloc_new]; rfl
   have e4 : (wr.alloc (.cells #[.int .i64 xt, .int .i64 xa, .int .i64 xnm, .int .i64 vk, .int .i64 vn, .string vs, .int .i64 ln, .int .i64 xg] 42)).cell? ⟨wr.heap.size, 4, none⟩ = some (.int .i64 vn) := by rw [World.cell?_alloc_new]; rfl
   have e5 : (wr.alloc (.cells #[.int .i64 xt, .int .i64 xa, .int .i64 xnm, .int .i64 vk, .int .i64 vn, .string vs, .int .i64 ln, .int .i64 xg] 42)).cell? ⟨wr.heap.size, 5, none⟩ = some (.string vs) := by rw [World.cell?_alloc_new]; rfl
   have e6 : (wr.alloc (.cells #[.int .i64 xt, .int .i64 xa, .int .i64 xnm, .int .i64 vk, .int .i64 vn, .string vs, .int .i64 ln, .int .i64 xg] 42)).cell? ⟨wr.heap.size, 6, none⟩ = some (.int .i64 ln) := by rw [World.cell?_alloc_new]; rfl
   have e7 : (wr.alloc (.cells #[.int .i64 xt, .int .i64 xa, .int .i64 xnm, .int .i64 vk, .int .i64 vn, .string vs, .int .i64 ln, .int .i64 xg] 42)).cell? ⟨wr.heap.size, 7, none⟩ = some (.int .i64 xg) := by rw [World.cell?_alloc_new]; rfl
   have e8 : (wr.alloc (.cells #[.int .i64 xt, .int .i64 xa, .int .i64 xnm, .int .i64 vk, .int .i64 vn, .string vs, .int .i64 ln, .int .i64 xg] 42)).cell? ⟨w.heap.size, 0, none⟩ = some (.int .i64 tag) := (hbx.cell (p := ⟨w.heap.size, 0, none⟩) hz0).trans (by rw [cell_of_row _ w.heap.size 0 _ _ _ HT.out]; rfl)
   have e9 : (wr.alloc (.cells #[.int .i64 xt, .int .i64 xa, .int .i64 xnm, .int .i64 vk, .int .i64 vn, .string vs, .int .i64 ln, .int .i64 xg] 42)).cell? ⟨w.heap.size, 1, none⟩ = some (.int .i64 key) := (hbx.cell (p := ⟨w.heap.size, 1, none⟩) hz0).trans (by rw [cell_of_row _ w.heap.size 1 _ _ _ HT.out]; rfl)
   have e10 : (wr.alloc (.cells #[.int .i64 xt, .int .i64 xa, .int .i64 xnm, .int .i64 vk, .int .i64 vn, .string vs, .int .i64 ln, .int .i64 xg] 42)).cell? ⟨w.heap.size, 2, none⟩ = some (.string text) := (hbx.cell (p := ⟨w.heap.size, 2, none⟩) hz0).trans (by rw [cell_of_row _ w.heap.size 2 _ _ _ HT.out]; rfl)
   have e11 : (wr.alloc (.cells #[.int .i64 xt, .int .i64 xa, .int .i64 xnm, .int .i64 vk, .int .i64 vn, .string vs, .int .i64 ln, .int .i64 xg] 42)).cell? ⟨w.heap.size, 3, none⟩ = some (.slice A0 n0 c0) := (hbx.cell (p := ⟨w.heap.size, 3, none⟩) hz0).trans (by rw [cell_of_row _ w.heap.size 3 _ _ _ HT.out]; rfl)
   have e12 : (wr.alloc (.cells #[.int .i64 xt, .int .i64 xa, .int .i64 xnm, .int .i64 vk, .int .i64 vn, .string vs, .int .i64 ln, .int .i64 xg] 42)).cell? ⟨w.heap.size, 4, none⟩ = some (.slice A1 n1 c1) := (hbx.cell (p := ⟨w.heap.size, 4, none⟩) hz0).trans (by rw [cell_of_row _ w.heap.size 4 _ _ _ HT.out]; rfl)
   have e13 : (wr.alloc (.cells #[.int .i64 xt, .int .i64 xa, .int .i64 xnm, .int .i64 vk, .int .i64 vn, .string vs, .int .i64 ln, .int .i64 xg] 42)).cell? ⟨w.heap.size + 1 + 1, ln, none⟩ = some (.int .i64 bv) := (hbx.cell (p := ⟨w.heap.size + 1 + 1, ln, none⟩) hzw).trans q13
   have hwa : wr.heap.size < (wr.alloc (.cells #[.int .i64 xt, .int .i64 xa, .int .i64 xnm, .int .i64 vk, .int .i64 vn, .string vs, .int .i64 ln, .int .i64 xg] 42)).heap.size := by simp
   obtain ⟨wa, hwa0⟩ : ∃ q, wr.alloc (.cells #[.int .i64 xt, .int .i64 xa, .int .i64 xnm, .int .i64 vk, .int .i64 vn, .string vs, .int .i64 ln, .int .i64 xg] 42) = q := ⟨_, rfl⟩
   rw [hwa0] at hbx hwa e0 e1 e2 e3 e4 e5 e6 e7 e8 e9 e10 e11 e12 e13
   have HWA := Lib.hid hwa0
   have HBX := Lib.hid hbx
   have hw0 : w.heap.size < wa.heap.size := by omega
   have hw2 : w.heap.size + 1 + 1 < wa.heap.size := by omega
   have HBA := Lib.hid (more HB.out (Nat.le_refl _) hbx)
   have KM := Lib.hid (fun w' (h : Below wa.heap.size wa w') => KM0.out w' (more HBA.out (Nat.le_refl _) h))
   have KW := Lib.hid (fun w' => KW0.out w')
   have HSO := Lib.hid hso
   have HSB := Lib.hid hsb
   clear hcell hx hsl hst hv hz hsk hbv hbx hwa0 q13 KM0 KW0 hso hsb hl0 hl4
   cases v
   ·go_wp2_with fail
    rw [HWA.out]
    refine wp_region_held_drew (S := (fun w' : World => Below wa.heap.size wa w' ∧ w'.cell? ⟨wr.heap.size, 0, none⟩ = some (.int .i64 xt) ∧ w'.cell? ⟨wr.heap.size, 1, none⟩ = some (.int .i64 xa) ∧ w'.cell? ⟨wr.heap.size, 2, none⟩ = some (.int .i64 xnm) ∧ w'.cell? ⟨wr.heap.size, 3, none⟩ = some (.int .i64 vk) ∧ w'.cell? ⟨wr.heap.size, 4, none⟩ = some (.int .i64 vn) ∧ w'.cell? ⟨wr.heap.size, 5, none⟩ = some (.string vs) ∧ w'.cell? ⟨wr.heap.size, 6, none⟩ = some (.int .i64 ln) ∧ w'.cell? ⟨wr.heap.size, 7, none⟩ = some (.int .i64 xg) ∧ w'.cell? ⟨w.heap.size, 0, none⟩ = some (.int .i64 tag) ∧ w'.cell? ⟨w.heap.size, 1, none⟩ = some (.int .i64 key) ∧ w'.cell? ⟨w.heap.size, 2, none⟩ = some (.string text) ∧ w'.cell? ⟨w.heap.size, 3, none⟩ = some (.slice A0 n0 c0) ∧ w'.cell? ⟨w.heap.size, 4, none⟩ = some (.slice A1 n1 c1) ∧ w'.cell? ⟨w.heap.size + 1 + 1, ln, none⟩ = some (.int .i64 bv))) (by kernel_rfl) ?_ (fun hHeld => ?_)
    ·exact ⟨Below.drew (Below.refl _ _), e0, e1, e2, e3, e4, e5, e6, e7, e8, e9, e10, e11, e12, e13⟩
    refine wpAnyH_take (i := 0) (oi := _) (v := ?_) rfl (by kernel_rfl) (by kernel_rfl) (by kernel_rfl) (fun _ _ _ h => h) (Or.inl ⟨by kernel_rfl, ?_⟩) (by assumption) ?_
    rotate_left
    ·(intro w hSw; (try dsimp only at hSw); go_simp)
     try with_reducible rfl
    (try simp only [Act.put, qa, qb, qc, qd, qe, qf])
    refine wpAnyH_take (i := 1) (oi := _) (v := ?_) rfl (by kernel_rfl) (by kernel_rfl) (by kernel_rfl) (fun _ _ _ h => h) (Or.inl ⟨by kernel_rfl, ?_⟩) (by assumption) ?_
    rotate_left
    ·(intro w hSw; (try dsimp only at hSw); go_simp)
     try with_reducible rfl
    (try simp only [Act.put, qa, qb, qc, qd, qe, qf])
    refine wpAnyH_take (i := 2) (oi := _) (v := ?_) rfl (by kernel_rfl) (by kernel_rfl) (by kernel_rfl) (fun _ _ _ h => h) (Or.inl ⟨by kernel_rfl, ?_⟩) (by assumption) ?_
    rotate_left
    ·(intro w hSw; (try dsimp only at hSw); go_simp)
     try with_reducible rfl
    (try simp only [Act.put, qa, qb, qc, qd, qe, qf])
    refine wpAnyH_ready (rs := [3]) (by kernel_rfl) (by simp) ?_
    refine AllReadyH.cons (o := _) rfl (fun K hK => ?_) AllReadyH.nil
    go_simp
    have hB0 := hHeld.1
    refine (KM.out _ hB0).mono ?_
    rintro e w' ⟨rfl, hb⟩
    have hS2 : (fun w' : World => Below wa.heap.size wa w' ∧ w'.cell? ⟨wr.heap.size, 0, none⟩ = some (.int .i64 xt) ∧ w'.cell? ⟨wr.heap.size, 1, none⟩ = some (.int .i64 xa) ∧ w'.cell? ⟨wr.heap.size, 2, none⟩ = some (.int .i64 xnm) ∧ w'.cell? ⟨wr.heap.size, 3, none⟩ = some (.int .i64 vk) ∧ w'.cell? ⟨wr.heap.size, 4, none⟩ = some (.int .i64 vn) ∧ w'.cell? ⟨wr.heap.size, 5, none⟩ = some (.string vs) ∧ w'.cell? ⟨wr.heap.size, 6, none⟩ = some (.int .i64 ln) ∧ w'.cell? ⟨wr.heap.size, 7, none⟩ = some (.int .i64 xg) ∧ w'.cell? ⟨w.heap.size, 0, none⟩ = some (.int .i64 tag) ∧ w'.cell? ⟨w.heap.size, 1, none⟩ = some (.int .i64 key) ∧ w'.cell? ⟨w.heap.size, 2, none⟩ = some (.string text) ∧ w'.cell? ⟨w.heap.size, 3, none⟩ = some (.slice A0 n0 c0) ∧ w'.cell? ⟨w.heap.size, 4, none⟩ = some (.slice A1 n1 c1) ∧ w'.cell? ⟨w.heap.size + 1 + 1, ln, none⟩ = some (.int .i64 bv)) w' := by
     obtain ⟨_, d0, d1, d2, d3, d4, d5, d6, d7, d8, d9, d10, d11, d12, d13⟩ := hHeld
     exact ⟨hB0.trans (hb.mono hB0.size), (hb.cell (p := ⟨wr.heap.size, 0, none⟩) (Nat.lt_of_lt_of_le hwa hB0.size)).trans d0, (hb.cell (p := ⟨wr.heap.size, 1, none⟩) (Nat.lt_of_lt_of_le hwa hB0.size)).trans d1, (hb.cell (p := ⟨wr.heap.size, 2, none⟩) (Nat.lt_of_lt_of_le hwa hB0.size)).trans d2, (hb.cell (p := ⟨wr.heap.size, 3, none⟩) (Nat.lt_of_lt_of_le hwa hB0.size)).trans d3, (hb.cell (p := ⟨wr.heap.size, 4, none⟩) (Nat.lt_of_lt_of_le hwa hB0.size)).trans d4, (hb.cell (p := ⟨wr.heap.size, 5, none⟩) (Nat.lt_of_lt_of_le hwa hB0.size)).trans d5, (hb.cell (p := ⟨wr.heap.size, 6, none⟩) (Nat.lt_of_lt_of_le hwa hB0.size)).trans d6, (hb.cell (p := ⟨wr.heap.size, 7, none⟩) (Nat.lt_of_lt_of_le hwa hB0.size)).trans d7, (hb.cell (p := ⟨w.heap.size, 0, none⟩) (Nat.lt_of_lt_of_le hw0 hB0.size)).trans d8, (hb.cell (p := ⟨w.heap.size, 1, none⟩) (Nat.lt_of_lt_of_le hw0 hB0.size)).trans d9, (hb.cell (p := ⟨w.heap.size, 2, none⟩) (Nat.lt_of_lt_of_le hw0 hB0.size)).trans d10, (hb.cell (p := ⟨w.heap.size, 3, none⟩) (Nat.lt_of_lt_of_le hw0 hB0.size)).trans d11, (hb.cell (p := ⟨w.heap.size, 4, none⟩) (Nat.lt_of_lt_of_le hw0 hB0.size)).trans d12, (hb.cell (p := ⟨w.heap.size + 1 + 1, ln, none⟩) (Nat.lt_of_lt_of_le hw2 hB0.size)).trans d13⟩
    refine hK.out _ _ hS2 (fun hHeld2 => ?_)
    clear hHeld2 hK K hb hB0 hHeld
    have hHeld := hS2
    clear hS2
    (try simp only [Act.put, qa, qb, qc, qd, qe, qf])
    refine wpAnyH_take (i := 4) (oi := _) (v := ?_) rfl (by kernel_rfl) (by kernel_rfl) (by kernel_rfl) (fun _ _ _ h => h) (Or.inl ⟨by kernel_rfl, ?_⟩) (by assumption) ?_
    rotate_left
    ·(intro w hSw; (try dsimp only at hSw); go_simp)
     try with_reducible rfl
    (try simp only [Act.put, qa, qb, qc, qd, qe, qf])
    refine wpAnyH_take (i := 5) (oi := _) (v := undef) rfl (by kernel_rfl) (by kernel_rfl) (by kernel_rfl) (fun _ _ _ h => h) (Or.inr ⟨by kernel_rfl, rfl⟩) (by assumption) ?_
    (try simp only [Act.put, qa, qb, qc, qd, qe, qf])
    refine wpAnyH_take (i := 6) (oi := _) (v := undef) rfl (by kernel_rfl) (by kernel_rfl) (by kernel_rfl) (fun _ _ _ h => h) (Or.inr ⟨by kernel_rfl, rfl⟩) (by assumption) ?_
    (try simp only [Act.put, qa, qb, qc, qd, qe, qf])
    refine wpAnyH_take (i := 7) (oi := _) (v := undef) rfl (by kernel_rfl) (by kernel_rfl) (by kernel_rfl) (fun _ _ _ h => h) (Or.inr ⟨by kernel_rfl, rfl⟩) (by assumption) ?_
    (try simp only [Act.put, qa, qb, qc, qd, qe, qf])
    refine wpAnyH_take (i := 8) (oi := _) (v := undef) rfl (by kernel_rfl) (by kernel_rfl) (by kernel_rfl) (fun _ _ _ h => h) (Or.inr ⟨by kernel_rfl, rfl⟩) (by assumption) ?_
    (try simp only [Act.put, qa, qb, qc, qd, qe, qf])
    refine wpAnyH_take (i := 9) (oi := _) (v := undef) rfl (by kernel_rfl) (by kernel_rfl) (by kernel_rfl) (fun _ _ _ h => h) (Or.inr ⟨by kernel_rfl, rfl⟩) (by assumption) ?_
    (try simp only [Act.put, qa, qb, qc, qd, qe, qf])
    refine wpAnyH_take (i := 10) (oi := _) (v := undef) rfl (by kernel_rfl) (by kernel_rfl) (by kernel_rfl) (fun _ _ _ h => h) (Or.inr ⟨by kernel_rfl, rfl⟩) (by assumption) ?_
    (try simp only [Act.put, qa, qb, qc, qd, qe, qf])
    refine wpAnyH_take (i := 11) (oi := _) (v := undef) rfl (by kernel_rfl) (by kernel_rfl) (by kernel_rfl) (fun _ _ _ h => h) (Or.inr ⟨by kernel_rfl, rfl⟩) (by assumption) ?_
    (try simp only [Act.put, qa, qb, qc, qd, qe, qf])
    refine wpAnyH_take (i := 12) (oi := _) (v := undef) rfl (by kernel_rfl) (by kernel_rfl) (by kernel_rfl) (fun _ _ _ h => h) (Or.inr ⟨by kernel_rfl, rfl⟩) (by assumption) ?_
    (try simp only [Act.put, qa, qb, qc, qd, qe, qf])
    refine wpAnyH_take (i := 13) (oi := _) (v := undef) rfl (by kernel_rfl) (by kernel_rfl) (by kernel_rfl) (fun _ _ _ h => h) (Or.inr ⟨by kernel_rfl, rfl⟩) (by assumption) ?_
    (try simp only [Act.put, qa, qb, qc, qd, qe, qf])
    refine wpAnyH_take (i := 14) (oi := _) (v := ?_) rfl (by kernel_rfl) (by kernel_rfl) (by kernel_rfl) (fun _ _ _ h => h) (Or.inl ⟨by kernel_rfl, ?_⟩) (by assumption) ?_
    rotate_left
    ·(intro w hSw; (try dsimp only at hSw); go_simp)
     try with_reducible rfl
    (try simp only [Act.put, qa, qb, qc, qd, qe, qf])
    refine wpAnyH_done (by kernel_rfl) ?_ _
    have HSS := Lib.hid hHeld.1
    go_wp2_with fail
    go_roundw
    case rel =>
     have hst := HST.out
     rw [Bool.false_and, if_neg (by simp)] at hst
     have hbw := more HBX.out (Nat.le_refl _) HSS.out
     exact ⟨k + 1, by omega, by go_num, Lib.hid ((hbw.block _ hz0).trans HT.out), Lib.hid (by rw [hst]; exact HO.out.below hbw), Lib.hid (by rw [hst]; exact HBE.out.below hbw), Lib.hid (more HB.out (Nat.le_refl _) hbw), Nat.lt_of_lt_of_le hzw hbw.size⟩
    case measure => simp [intOf]; omega
   ·have hwz : IntKind.i64.wrap (z + 1) = z + 1 := by rw [IntKind.wrap_i64]; omega
    by_cases hge : bv ≤ z + 1
    ·go_wp2_with fail
     rw [HWA.out]
     refine wp_region_held_drew (S := (fun w' : World => Below wa.heap.size wa w' ∧ w'.cell? ⟨wr.heap.size, 0, none⟩ = some (.int .i64 xt) ∧ w'.cell? ⟨wr.heap.size, 1, none⟩ = some (.int .i64 xa) ∧ w'.cell? ⟨wr.heap.size, 2, none⟩ = some (.int .i64 xnm) ∧ w'.cell? ⟨wr.heap.size, 3, none⟩ = some (.int .i64 vk) ∧ w'.cell? ⟨wr.heap.size, 4, none⟩ = some (.int .i64 vn) ∧ w'.cell? ⟨wr.heap.size, 5, none⟩ = some (.string vs) ∧ w'.cell? ⟨wr.heap.size, 6, none⟩ = some (.int .i64 ln) ∧ w'.cell? ⟨wr.heap.size, 7, none⟩ = some (.int .i64 xg) ∧ w'.cell? ⟨w.heap.size, 0, none⟩ = some (.int .i64 tag) ∧ w'.cell? ⟨w.heap.size, 1, none⟩ = some (.int .i64 key) ∧ w'.cell? ⟨w.heap.size, 2, none⟩ = some (.string text) ∧ w'.cell? ⟨w.heap.size, 3, none⟩ = some (.slice A0 n0 c0) ∧ w'.cell? ⟨w.heap.size, 4, none⟩ = some (.slice A1 n1 c1) ∧ w'.cell? ⟨w.heap.size + 1 + 1, ln, none⟩ = some (.int .i64 bv))) (by kernel_rfl) ?_ (fun hHeld => ?_)
     ·exact ⟨Below.drew (Below.refl _ _), e0, e1, e2, e3, e4, e5, e6, e7, e8, e9, e10, e11, e12, e13⟩
     refine wpAnyH_take (i := 0) (oi := _) (v := ?_) rfl (by kernel_rfl) (by kernel_rfl) (by kernel_rfl) (fun _ _ _ h => h) (Or.inl ⟨by kernel_rfl, ?_⟩) (by assumption) ?_
     rotate_left
     ·(intro w hSw; (try dsimp only at hSw); go_simp)
      try with_reducible rfl
     (try simp only [Act.put, qa, qb, qc, qd, qe, qf])
     refine wpAnyH_take (i := 1) (oi := _) (v := ?_) rfl (by kernel_rfl) (by kernel_rfl) (by kernel_rfl) (fun _ _ _ h => h) (Or.inl ⟨by kernel_rfl, ?_⟩) (by assumption) ?_
     rotate_left
     ·(intro w hSw; (try dsimp only at hSw); go_simp)
      try with_reducible rfl
     (try simp only [Act.put, qa, qb, qc, qd, qe, qf])
     refine wpAnyH_take (i := 2) (oi := _) (v := ?_) rfl (by kernel_rfl) (by kernel_rfl) (by kernel_rfl) (fun _ _ _ h => h) (Or.inl ⟨by kernel_rfl, ?_⟩) (by assumption) ?_
     rotate_left
     ·(intro w hSw; (try dsimp only at hSw); go_simp)
      try with_reducible rfl
     (try simp only [Act.put, qa, qb, qc, qd, qe, qf])
     refine wpAnyH_ready (rs := [3]) (by kernel_rfl) (by simp) ?_
     refine AllReadyH.cons (o := _) rfl (fun K hK => ?_) AllReadyH.nil
     go_simp
     have hB0 := hHeld.1
     refine (KM.out _ hB0).mono ?_
     rintro e w' ⟨rfl, hb⟩
     have hS2 : (fun w' : World => Below wa.heap.size wa w' ∧ w'.cell? ⟨wr.heap.size, 0, none⟩ = some (.int .i64 xt) ∧ w'.cell? ⟨wr.heap.size, 1, none⟩ = some (.int .i64 xa) ∧ w'.cell? ⟨wr.heap.size, 2, none⟩ = some (.int .i64 xnm) ∧ w'.cell? ⟨wr.heap.size, 3, none⟩ = some (.int .i64 vk) ∧ w'.cell? ⟨wr.heap.size, 4, none⟩ = some (.int .i64 vn) ∧ w'.cell? ⟨wr.heap.size, 5, none⟩ = some (.string vs) ∧ w'.cell? ⟨wr.heap.size, 6, none⟩ = some (.int .i64 ln) ∧ w'.cell? ⟨wr.heap.size, 7, none⟩ = some (.int .i64 xg) ∧ w'.cell? ⟨w.heap.size, 0, none⟩ = some (.int .i64 tag) ∧ w'.cell? ⟨w.heap.size, 1, none⟩ = some (.int .i64 key) ∧ w'.cell? ⟨w.heap.size, 2, none⟩ = some (.string text) ∧ w'.cell? ⟨w.heap.size, 3, none⟩ = some (.slice A0 n0 c0) ∧ w'.cell? ⟨w.heap.size, 4, none⟩ = some (.slice A1 n1 c1) ∧ w'.cell? ⟨w.heap.size + 1 + 1, ln, none⟩ = some (.int .i64 bv)) w' := by
      obtain ⟨_, d0, d1, d2, d3, d4, d5, d6, d7, d8, d9, d10, d11, d12, d13⟩ := hHeld
      exact ⟨hB0.trans (hb.mono hB0.size), (hb.cell (p := ⟨wr.heap.size, 0, none⟩) (Nat.lt_of_lt_of_le hwa hB0.size)).trans d0, (hb.cell (p := ⟨wr.heap.size, 1, none⟩) (Nat.lt_of_lt_of_le hwa hB0.size)).trans d1, (hb.cell (p := ⟨wr.heap.size, 2, none⟩) (Nat.lt_of_lt_of_le hwa hB0.size)).trans d2, (hb.cell (p := ⟨wr.heap.size, 3, none⟩) (Nat.lt_of_lt_of_le hwa hB0.size)).trans d3, (hb.cell (p := ⟨wr.heap.size, 4, none⟩) (Nat.lt_of_lt_of_le hwa hB0.size)).trans d4, (hb.cell (p := ⟨wr.heap.size, 5, none⟩) (Nat.lt_of_lt_of_le hwa hB0.size)).trans d5, (hb.cell (p := ⟨wr.heap.size, 6, none⟩) (Nat.lt_of_lt_of_le hwa hB0.size)).trans d6, (hb.cell (p := ⟨wr.heap.size, 7, none⟩) (Nat.lt_of_lt_of_le hwa hB0.size)).trans d7, (hb.cell (p := ⟨w.heap.size, 0, none⟩) (Nat.lt_of_lt_of_le hw0 hB0.size)).trans d8, (hb.cell (p := ⟨w.heap.size, 1, none⟩) (Nat.lt_of_lt_of_le hw0 hB0.size)).trans d9, (hb.cell (p := ⟨w.heap.size, 2, none⟩) (Nat.lt_of_lt_of_le hw0 hB0.size)).trans d10, (hb.cell (p := ⟨w.heap.size, 3, none⟩) (Nat.lt_of_lt_of_le hw0 hB0.size)).trans d11, (hb.cell (p := ⟨w.heap.size, 4, none⟩) (Nat.lt_of_lt_of_le hw0 hB0.size)).trans d12, (hb.cell (p := ⟨w.heap.size + 1 + 1, ln, none⟩) (Nat.lt_of_lt_of_le hw2 hB0.size)).trans d13⟩
     refine hK.out _ _ hS2 (fun hHeld2 => ?_)
     clear hHeld2 hK K hb hB0 hHeld
     have hHeld := hS2
     clear hS2
     (try simp only [Act.put, qa, qb, qc, qd, qe, qf])
     refine wpAnyH_take (i := 4) (oi := _) (v := ?_) rfl (by kernel_rfl) (by kernel_rfl) (by kernel_rfl) (fun _ _ _ h => h) (Or.inl ⟨by kernel_rfl, ?_⟩) (by assumption) ?_
     rotate_left
     ·(intro w hSw; (try dsimp only at hSw); go_simp)
      try with_reducible rfl
     (try simp only [Act.put, qa, qb, qc, qd, qe, qf])
     refine wpAnyH_take (i := 5) (oi := _) (v := ?_) rfl (by kernel_rfl) (by kernel_rfl) (by kernel_rfl) (fun _ _ _ h => h) (Or.inl ⟨by kernel_rfl, ?_⟩) (by assumption) ?_
     rotate_left
     ·(intro w hSw; (try dsimp only at hSw); go_simp)
      try with_reducible rfl
     (try simp only [Act.put, qa, qb, qc, qd, qe, qf])
     refine wpAnyH_take (i := 8) (oi := _) (v := ?_) rfl (by kernel_rfl) (by kernel_rfl) (by kernel_rfl) (fun _ _ _ h => h) (Or.inl ⟨by kernel_rfl, ?_⟩) (by assumption) ?_
     rotate_left
     ·(intro w hSw; (try dsimp only at hSw); go_simp)
      try with_reducible rfl
     (try simp only [Act.put, qa, qb, qc, qd, qe, qf])
     refine wpAnyH_take (i := 9) (oi := _) (v := ?_) rfl (by kernel_rfl) (by kernel_rfl) (by kernel_rfl) (fun _ _ _ h => h) (Or.inl ⟨by kernel_rfl, ?_⟩) (by assumption) ?_
     rotate_left
     ·(intro w hSw; (try dsimp only at hSw); go_simp)
      try with_reducible rfl
     (try simp only [Act.put, qa, qb, qc, qd, qe, qf])
     refine wpAnyH_take (i := 10) (oi := _) (v := ?_) rfl (by kernel_rfl) (by kernel_rfl) (by kernel_rfl) (fun _ _ _ h => h) (Or.inl ⟨by kernel_rfl, ?_⟩) (by assumption) ?_
     rotate_left
     ·(intro w hSw; (try dsimp only at hSw); go_simp)
      try with_reducible rfl
     (try simp only [Act.put, qa, qb, qc, qd, qe, qf])
     refine wpAnyH_take (i := 11) (oi := _) (v := ?_) rfl (by kernel_rfl) (by kernel_rfl) (by kernel_rfl) (fun _ _ _ h => h) (Or.inl ⟨by kernel_rfl, ?_⟩) (by assumption) ?_
     rotate_left
     ·(intro w hSw; (try dsimp only at hSw); go_simp)
      try with_reducible rfl
     (try simp only [Act.put, qa, qb, qc, qd, qe, qf])
     refine wpAnyH_take (i := 12) (oi := _) (v := ?_) rfl (by kernel_rfl) (by kernel_rfl) (by kernel_rfl) (fun _ _ _ h => h) (Or.inl ⟨by kernel_rfl, ?_⟩) (by assumption) ?_
     rotate_left
     ·(intro w hSw; (try dsimp only at hSw); go_simp)
      try with_reducible rfl
     (try simp only [Act.put, qa, qb, qc, qd, qe, qf])
     refine wpAnyH_ready (rs := [6]) (by kernel_rfl) (by simp) ?_
     refine AllReadyH.cons (o := _) rfl (fun K hK => ?_) AllReadyH.nil
     go_simp
     have hB0 := hHeld.1
     refine (KW.out _).mono ?_
     rintro e w' ⟨rfl, hb⟩
     have hS2 : (fun w' : World => Below wa.heap.size wa w' ∧ w'.cell? ⟨wr.heap.size, 0, none⟩ = some (.int .i64 xt) ∧ w'.cell? ⟨wr.heap.size, 1, none⟩ = some (.int .i64 xa) ∧ w'.cell? ⟨wr.heap.size, 2, none⟩ = some (.int .i64 xnm) ∧ w'.cell? ⟨wr.heap.size, 3, none⟩ = some (.int .i64 vk) ∧ w'.cell? ⟨wr.heap.size, 4, none⟩ = some (.int .i64 vn) ∧ w'.cell? ⟨wr.heap.size, 5, none⟩ = some (.string vs) ∧ w'.cell? ⟨wr.heap.size, 6, none⟩ = some (.int .i64 ln) ∧ w'.cell? ⟨wr.heap.size, 7, none⟩ = some (.int .i64 xg) ∧ w'.cell? ⟨w.heap.size, 0, none⟩ = some (.int .i64 tag) ∧ w'.cell? ⟨w.heap.size, 1, none⟩ = some (.int .i64 key) ∧ w'.cell? ⟨w.heap.size, 2, none⟩ = some (.string text) ∧ w'.cell? ⟨w.heap.size, 3, none⟩ = some (.slice A0 n0 c0) ∧ w'.cell? ⟨w.heap.size, 4, none⟩ = some (.slice A1 n1 c1) ∧ w'.cell? ⟨w.heap.size + 1 + 1, ln, none⟩ = some (.int .i64 bv)) w' := by
      obtain ⟨_, d0, d1, d2, d3, d4, d5, d6, d7, d8, d9, d10, d11, d12, d13⟩ := hHeld
      exact ⟨hB0.trans (hb.mono hB0.size), (hb.cell (p := ⟨wr.heap.size, 0, none⟩) (Nat.lt_of_lt_of_le hwa hB0.size)).trans d0, (hb.cell (p := ⟨wr.heap.size, 1, none⟩) (Nat.lt_of_lt_of_le hwa hB0.size)).trans d1, (hb.cell (p := ⟨wr.heap.size, 2, none⟩) (Nat.lt_of_lt_of_le hwa hB0.size)).trans d2, (hb.cell (p := ⟨wr.heap.size, 3, none⟩) (Nat.lt_of_lt_of_le hwa hB0.size)).trans d3, (hb.cell (p := ⟨wr.heap.size, 4, none⟩) (Nat.lt_of_lt_of_le hwa hB0.size)).trans d4, (hb.cell (p := ⟨wr.heap.size, 5, none⟩) (Nat.lt_of_lt_of_le hwa hB0.size)).trans d5, (hb.cell (p := ⟨wr.heap.size, 6, none⟩) (Nat.lt_of_lt_of_le hwa hB0.size)).trans d6, (hb.cell (p := ⟨wr.heap.size, 7, none⟩) (Nat.lt_of_lt_of_le hwa hB0.size)).trans d7, (hb.cell (p := ⟨w.heap.size, 0, none⟩) (Nat.lt_of_lt_of_le hw0 hB0.size)).trans d8, (hb.cell (p := ⟨w.heap.size, 1, none⟩) (Nat.lt_of_lt_of_le hw0 hB0.size)).trans d9, (hb.cell (p := ⟨w.heap.size, 2, none⟩) (Nat.lt_of_lt_of_le hw0 hB0.size)).trans d10, (hb.cell (p := ⟨w.heap.size, 3, none⟩) (Nat.lt_of_lt_of_le hw0 hB0.size)).trans d11, (hb.cell (p := ⟨w.heap.size, 4, none⟩) (Nat.lt_of_lt_of_le hw0 hB0.size)).trans d12, (hb.cell (p := ⟨w.heap.size + 1 + 1, ln, none⟩) (Nat.lt_of_lt_of_le hw2 hB0.size)).trans d13⟩
     refine hK.out _ _ hS2 (fun hHeld2 => ?_)
     clear hHeld2 hK K hb hB0 hHeld
     have hHeld := hS2
     clear hS2
     (try simp only [Act.put, qa, qb, qc, qd, qe, qf])
     refine wpAnyH_take (i := 7) (oi := _) (v := ?_) rfl (by kernel_rfl) (by kernel_rfl) (by kernel_rfl) (fun _ _ _ h => h) (Or.inl ⟨by kernel_rfl, ?_⟩) (by assumption) ?_
     rotate_left
     ·(intro w hSw; (try dsimp only at hSw); go_simp)
      try with_reducible rfl
     (try simp only [Act.put, qa, qb, qc, qd, qe, qf])
     refine wpAnyH_take (i := 13) (oi := _) (v := ?_) rfl (by kernel_rfl) (by kernel_rfl) (by kernel_rfl) (fun _ _ _ h => h) (Or.inl ⟨by kernel_rfl, ?_⟩) (by assumption) ?_
     rotate_left
     ·(intro w hSw; (try dsimp only at hSw); go_simp)
      try with_reducible rfl
     (try simp only [Act.put, qa, qb, qc, qd, qe, qf])
     refine wpAnyH_take (i := 14) (oi := _) (v := ?_) rfl (by kernel_rfl) (by kernel_rfl) (by kernel_rfl) (fun _ _ _ h => h) (Or.inl ⟨by kernel_rfl, ?_⟩) (by assumption) ?_
     rotate_left
     ·(intro w hSw; (try dsimp only at hSw); go_simp)
      try with_reducible rfl
     (try simp only [Act.put, qa, qb, qc, qd, qe, qf])
     refine wpAnyH_done (by kernel_rfl) ?_ _
     have HSS := Lib.hid hHeld.1
     obtain ⟨_, d0, d1, d2, d3, d4, d5, d6, d7, _, _, _, _, _, d13⟩ := hHeld
     have hwa2 := Nat.lt_of_lt_of_le hwa HSS.out.size
     have hw22 := Nat.lt_of_lt_of_le hw2 HSS.out.size
     obtain ⟨w2, hw2e⟩ : ∃ q, w' = q := ⟨_, rfl⟩
     rw [hw2e] at HSS hwa2 hw22 d0 d1 d2 d3 d4 d5 d6 d7 d13
     have HW2 := Lib.hid hw2e
     have HBW := Lib.hid (more HBX.out (Nat.le_refl _) HSS.out)
     have FB := Lib.hid (lkr_frozen (HBE.out.below HBW.out))
     have FO := Lib.hid (lkr_frozen (HO.out.below HBW.out))
     have p0 := d0; have p1 := d1; have p2 := d2; have p3 := d3; have p4 := d4; have p5 := d5; have p6 := d6; have p7 := d7; have p13 := d13
     clear hw2e d0 d1 d2 d3 d4 d5 d6 d7 d13 e0 e1 e2 e3 e4 e5 e6 e7 e8 e9 e10 e11 e12 e13
     have hgd : decide (bv ≤ z + 1) = true := decide_eq_true hge
     have HGE := Lib.hid hge
     go_wp2_with fail
     rw [HW2.out]
     refine wp_region_held_drew (S := (fun w' : World => w'.cell? ⟨wr.heap.size, 0, none⟩ = some (.int .i64 xt) ∧ w'.cell? ⟨wr.heap.size, 1, none⟩ = some (.int .i64 xa) ∧ w'.cell? ⟨wr.heap.size, 2, none⟩ = some (.int .i64 xnm) ∧ w'.cell? ⟨wr.heap.size, 3, none⟩ = some (.int .i64 vk) ∧ w'.cell? ⟨wr.heap.size, 4, none⟩ = some (.int .i64 vn) ∧ w'.cell? ⟨wr.heap.size, 5, none⟩ = some (.string vs) ∧ w'.cell? ⟨wr.heap.size, 6, none⟩ = some (.int .i64 ln) ∧ w'.cell? ⟨wr.heap.size, 7, none⟩ = some (.int .i64 xg) ∧ ∃ u, w'.cell? ⟨w.heap.size + 1 + 1, ln, none⟩ = some u)) (by kernel_rfl) ?_ (fun hHeld => ?_)
     ·exact ⟨p0, p1, p2, p3, p4, p5, p6, p7, _, p13⟩
     obtain ⟨wd, hwd⟩ : ∃ q, w2.drew = q := ⟨_, rfl⟩
     have HD := Lib.hid (show Below w2.heap.size w2 wd by rw [← hwd]; exact Below.drew (Below.refl _ _))
     rw [hwd] at hHeld ⊢
     clear hwd
     refine wpAnyH_take (i := 0) (oi := _) (v := ?_) rfl (by kernel_rfl) (by kernel_rfl) (by kernel_rfl) (fun _ _ _ h => h) (Or.inl ⟨by kernel_rfl, ?_⟩) (by assumption) ?_
     rotate_left
     ·(intro w hSw; (try dsimp only at hSw); go_simp)
      try with_reducible rfl
     (try simp only [Act.put, qa, qb, qc, qd, qe, qf])
     refine wpAnyH_take (i := 1) (oi := _) (v := ?_) rfl (by kernel_rfl) (by kernel_rfl) (by kernel_rfl) (fun _ _ _ h => h) (Or.inl ⟨by kernel_rfl, ?_⟩) (by assumption) ?_
     rotate_left
     ·(intro w hSw; (try dsimp only at hSw); go_simp)
      try with_reducible rfl
     (try simp only [Act.put, qa, qb, qc, qd, qe, qf])
     refine wpAnyH_take (i := 2) (oi := _) (v := ?_) rfl (by kernel_rfl) (by kernel_rfl) (by kernel_rfl) (fun _ _ _ h => h) (Or.inl ⟨by kernel_rfl, ?_⟩) (by assumption) ?_
     rotate_left
     ·(intro w hSw; (try dsimp only at hSw); go_simp)
      try with_reducible rfl
     (try simp only [Act.put, qa, qb, qc, qd, qe, qf])
     refine wpAnyH_take (i := 3) (oi := _) (v := ?_) rfl (by kernel_rfl) (by kernel_rfl) (by kernel_rfl) (fun _ _ _ h => h) (Or.inl ⟨by kernel_rfl, ?_⟩) (by assumption) ?_
     rotate_left
     ·(intro w hSw; (try dsimp only at hSw); go_simp)
      try with_reducible rfl
     (try simp only [Act.put, qa, qb, qc, qd, qe, qf])
     refine wpAnyH_ready (rs := [4]) (by kernel_rfl) (by simp) ?_
     refine AllReadyH.cons (o := _) rfl (fun K hK => ?_) AllReadyH.nil
     go_simp
     refine (KW.out _).mono ?_
     rintro e w5 ⟨rfl, hb⟩
     have HB5 := Lib.hid (more HD.out (Nat.le_refl _) hb)
     have hS2 : (fun w' : World => w'.cell? ⟨wr.heap.size, 0, none⟩ = some (.int .i64 xt) ∧ w'.cell? ⟨wr.heap.size, 1, none⟩ = some (.int .i64 xa) ∧ w'.cell? ⟨wr.heap.size, 2, none⟩ = some (.int .i64 xnm) ∧ w'.cell? ⟨wr.heap.size, 3, none⟩ = some (.int .i64 vk) ∧ w'.cell? ⟨wr.heap.size, 4, none⟩ = some (.int .i64 vn) ∧ w'.cell? ⟨wr.heap.size, 5, none⟩ = some (.string vs) ∧ w'.cell? ⟨wr.heap.size, 6, none⟩ = some (.int .i64 ln) ∧ w'.cell? ⟨wr.heap.size, 7, none⟩ = some (.int .i64 xg) ∧ ∃ u, w'.cell? ⟨w.heap.size + 1 + 1, ln, none⟩ = some u) w5 := by
      obtain ⟨d0, d1, d2, d3, d4, d5, d6, d7, u, d8⟩ := hHeld
      have hs := HD.out.size
      exact ⟨(hb.cell (p := ⟨wr.heap.size, 0, none⟩) (Nat.lt_of_lt_of_le hwa2 hs)).trans d0, (hb.cell (p := ⟨wr.heap.size, 1, none⟩) (Nat.lt_of_lt_of_le hwa2 hs)).trans d1, (hb.cell (p := ⟨wr.heap.size, 2, none⟩) (Nat.lt_of_lt_of_le hwa2 hs)).trans d2, (hb.cell (p := ⟨wr.heap.size, 3, none⟩) (Nat.lt_of_lt_of_le hwa2 hs)).trans d3, (hb.cell (p := ⟨wr.heap.size, 4, none⟩) (Nat.lt_of_lt_of_le hwa2 hs)).trans d4, (hb.cell (p := ⟨wr.heap.size, 5, none⟩) (Nat.lt_of_lt_of_le hwa2 hs)).trans d5, (hb.cell (p := ⟨wr.heap.size, 6, none⟩) (Nat.lt_of_lt_of_le hwa2 hs)).trans d6, (hb.cell (p := ⟨wr.heap.size, 7, none⟩) (Nat.lt_of_lt_of_le hwa2 hs)).trans d7, u, (hb.cell (p := ⟨w.heap.size + 1 + 1, ln, none⟩) (Nat.lt_of_lt_of_le hw22 hs)).trans d8⟩
     refine hK.out _ _ hS2 (fun hHeld2 => ?_)
     clear hHeld2 hK K hb hHeld HD
     have hHeld := hS2
     clear hS2
     (try simp only [Act.put, qa, qb, qc, qd, qe, qf])
     refine wpAnyH_take (i := 5) (oi := _) (v := ?_) rfl (by kernel_rfl) (by kernel_rfl) (by kernel_rfl) (fun _ _ _ h => h) (Or.inl ⟨by kernel_rfl, ?_⟩) (by assumption) ?_
     rotate_left
     ·(intro w hSw; (try dsimp only at hSw); go_simp)
      try with_reducible rfl
     (try simp only [Act.put, qa, qb, qc, qd, qe, qf])
     refine wpAnyH_take (i := 6) (oi := _) (v := ?_) rfl (by kernel_rfl) (by kernel_rfl) (by kernel_rfl) (fun _ _ _ h => h) (Or.inl ⟨by kernel_rfl, ?_⟩) (by assumption) ?_
     rotate_left
     ·(intro w hSw; (try dsimp only at hSw); go_simp)
      try with_reducible rfl
     (try simp only [Act.put, qa, qb, qc, qd, qe, qf])
     have hu := hHeld.2.2.2.2.2.2.2.2
     obtain ⟨u9, hu9⟩ := hu
     have hf9 : w5.frozen? ⟨w.heap.size + 1 + 1, ln, none⟩ = false := (World.frozen?_of_block (a := ⟨w.heap.size + 1 + 1, ln, none⟩) (HB5.out.block _ hw22)).trans (FB.out ln)
     refine wpAnyH_ready (rs := [7]) (by kernel_rfl) (by simp) ?_
     refine AllReadyH.cons (o := _) rfl (fun K hK => ?_) AllReadyH.nil
     go_simp
     have hS2 : (fun w' : World => w'.cell? ⟨wr.heap.size, 0, none⟩ = some (.int .i64 xt) ∧ w'.cell? ⟨wr.heap.size, 1, none⟩ = some (.int .i64 xa) ∧ w'.cell? ⟨wr.heap.size, 2, none⟩ = some (.int .i64 xnm) ∧ w'.cell? ⟨wr.heap.size, 3, none⟩ = some (.int .i64 vk) ∧ w'.cell? ⟨wr.heap.size, 4, none⟩ = some (.int .i64 vn) ∧ w'.cell? ⟨wr.heap.size, 5, none⟩ = some (.string vs) ∧ w'.cell? ⟨wr.heap.size, 6, none⟩ = some (.int .i64 ln) ∧ w'.cell? ⟨wr.heap.size, 7, none⟩ = some (.int .i64 xg) ∧ ∃ u, w'.cell? ⟨w.heap.size + 1 + 1, ln, none⟩ = some u) (w5.setCell ⟨w.heap.size + 1 + 1, ln, none⟩ (.int .i64 (z + 1))) := by
      obtain ⟨d0, d1, d2, d3, d4, d5, d6, d7, _⟩ := hHeld
      have hne : ∀ o, (⟨w.heap.size + 1 + 1, ln, none⟩ : Addr) ≠ ⟨wr.heap.size, o, none⟩ := fun o e => by injection e with e1 e2; omega
      exact ⟨(World.cell?_setCell_other _ _ _ _ (hne 0)).trans d0, (World.cell?_setCell_other _ _ _ _ (hne 1)).trans d1, (World.cell?_setCell_other _ _ _ _ (hne 2)).trans d2, (World.cell?_setCell_other _ _ _ _ (hne 3)).trans d3, (World.cell?_setCell_other _ _ _ _ (hne 4)).trans d4, (World.cell?_setCell_other _ _ _ _ (hne 5)).trans d5, (World.cell?_setCell_other _ _ _ _ (hne 6)).trans d6, (World.cell?_setCell_other _ _ _ _ (hne 7)).trans d7, _, World.cell?_setCell_same _ _ _ hu9⟩
     refine hK.out _ _ hS2 (fun hHeld2 => ?_)
     clear hHeld2 hK K hHeld
     have hHeld := hS2
     clear hS2
     (try simp only [Act.put, qa, qb, qc, qd, qe, qf])
     refine wpAnyH_done (by kernel_rfl) ?_ _
     obtain ⟨d0, d1, d2, d3, d4, d5, d6, d7, _⟩ := hHeld
     have hso := HSO.out
     have hneo : (w.heap.size + 1 : Nat) ≠ w.heap.size + 1 + 1 := by omega
     have HO5 := Lib.hid (((HO.out.below HBW.out).below HB5.out).set_other (p := ⟨w.heap.size + 1 + 1, ln, none⟩) hneo (.int .i64 (z + 1)))
     have HBE5 := Lib.hid (((HBE.out.below HBW.out).below HB5.out).set_ (i := ln) (z + 1))
     have HT5 := Lib.hid ((heap_setCell_other w5 ⟨w.heap.size + 1 + 1, ln, none⟩ w.heap.size (.int .i64 (z + 1)) (by show w.heap.size ≠ w.heap.size + 1 + 1; omega)).trans ((HB5.out.block _ (by omega)).trans ((HBW.out.block _ hz0).trans HT.out)))
     have HB6 := Lib.hid ((more (more HB.out (Nat.le_refl _) HBW.out) (Nat.le_refl _) HB5.out).setCell (p := ⟨w.heap.size + 1 + 1, ln, none⟩) (by show w.heap.size ≤ w.heap.size + 1 + 1; omega) (.int .i64 (z + 1)))
     have hz5 : w.heap.size + 1 + 1 < w5.heap.size := Nat.lt_of_lt_of_le hw22 HB5.out.size
     obtain ⟨w6, hw6⟩ : ∃ q, w5.setCell ⟨w.heap.size + 1 + 1, ln, none⟩ (.int .i64 (z + 1)) = q := ⟨_, rfl⟩
     have hz6 : w.heap.size + 1 + 1 < w6.heap.size := by rw [← hw6, World.size_setCell]; exact hz5
     rw [hw6] at HO5 HBE5 HT5 HB6 d0 d1 d2 d3 d4 d5 d6 d7
     have HW6 := Lib.hid hw6
     obtain ⟨uo, do_⟩ : ∃ u, w6.cell? ⟨w.heap.size + 1, ln, none⟩ = some u := ⟨_, (World.ownsRow.cellAt HO5.out ln (by show ln < so.length * 1; omega)).trans (List.getElem?_eq_getElem (show ln < (zV so).length by rw [zV_len]; omega))⟩
     have fo := lkr_frozen HO5.out ln
     dsimp only at fo
     clear hw6 p0 p1 p2 p3 p4 p5 p6 p7 p13 hge
     rw [HW6.out]
     go_wp2_with fail
     go_roundw
     case rel =>
      have hst := HST.out
      rw [Bool.true_and, if_pos (by simpa using HGE.out)] at hst
      exact ⟨k + 1, by omega, by go_num, Lib.hid ((heap_setCell_other w6 ⟨w.heap.size + 1, ln, none⟩ w.heap.size _ (by show w.heap.size ≠ w.heap.size + 1; omega)).trans HT5.out), Lib.hid (by rw [hst]; exact HO5.out.set_ (i := ln) xg), Lib.hid (by rw [hst]; exact HBE5.out.set_other (p := ⟨w.heap.size + 1, ln, none⟩) (by show w.heap.size + 1 + 1 ≠ w.heap.size + 1; omega) _), Lib.hid (HB6.out.setCell (p := ⟨w.heap.size + 1, ln, none⟩) (by show w.heap.size ≤ w.heap.size + 1; omega) _), by rw [World.size_setCell]; exact hz6⟩
     case measure => simp [intOf]; omega
    ·have hgd : decide (bv ≤ z + 1) = false := decide_eq_false hge
     have hgd2 : decide (z + 1 ≥ bv) = false := decide_eq_false hge
     have hlt9 : z + 1 < bv := by omega
     have HGE := Lib.hid hge
     clear hge
     go_wp2_with fail
     rw [HWA.out]
     refine wp_region_held_drew (S := (fun w' : World => Below wa.heap.size wa w' ∧ w'.cell? ⟨wr.heap.size, 0, none⟩ = some (.int .i64 xt) ∧ w'.cell? ⟨wr.heap.size, 1, none⟩ = some (.int .i64 xa) ∧ w'.cell? ⟨wr.heap.size, 2, none⟩ = some (.int .i64 xnm) ∧ w'.cell? ⟨wr.heap.size, 3, none⟩ = some (.int .i64 vk) ∧ w'.cell? ⟨wr.heap.size, 4, none⟩ = some (.int .i64 vn) ∧ w'.cell? ⟨wr.heap.size, 5, none⟩ = some (.string vs) ∧ w'.cell? ⟨wr.heap.size, 6, none⟩ = some (.int .i64 ln) ∧ w'.cell? ⟨wr.heap.size, 7, none⟩ = some (.int .i64 xg) ∧ w'.cell? ⟨w.heap.size, 0, none⟩ = some (.int .i64 tag) ∧ w'.cell? ⟨w.heap.size, 1, none⟩ = some (.int .i64 key) ∧ w'.cell? ⟨w.heap.size, 2, none⟩ = some (.string text) ∧ w'.cell? ⟨w.heap.size, 3, none⟩ = some (.slice A0 n0 c0) ∧ w'.cell? ⟨w.heap.size, 4, none⟩ = some (.slice A1 n1 c1) ∧ w'.cell? ⟨w.heap.size + 1 + 1, ln, none⟩ = some (.int .i64 bv))) (by kernel_rfl) ?_ (fun hHeld => ?_)
     ·exact ⟨Below.drew (Below.refl _ _), e0, e1, e2, e3, e4, e5, e6, e7, e8, e9, e10, e11, e12, e13⟩
     refine wpAnyH_take (i := 0) (oi := _) (v := ?_) rfl (by kernel_rfl) (by kernel_rfl) (by kernel_rfl) (fun _ _ _ h => h) (Or.inl ⟨by kernel_rfl, ?_⟩) (by assumption) ?_
     rotate_left
     ·(intro w hSw; (try dsimp only at hSw); go_simp)
      try with_reducible rfl
     (try simp only [Act.put, qa, qb, qc, qd, qe, qf])
     refine wpAnyH_take (i := 1) (oi := _) (v := ?_) rfl (by kernel_rfl) (by kernel_rfl) (by kernel_rfl) (fun _ _ _ h => h) (Or.inl ⟨by kernel_rfl, ?_⟩) (by assumption) ?_
     rotate_left
     ·(intro w hSw; (try dsimp only at hSw); go_simp)
      try with_reducible rfl
     (try simp only [Act.put, qa, qb, qc, qd, qe, qf])
     refine wpAnyH_take (i := 2) (oi := _) (v := ?_) rfl (by kernel_rfl) (by kernel_rfl) (by kernel_rfl) (fun _ _ _ h => h) (Or.inl ⟨by kernel_rfl, ?_⟩) (by assumption) ?_
     rotate_left
     ·(intro w hSw; (try dsimp only at hSw); go_simp)
      try with_reducible rfl
     (try simp only [Act.put, qa, qb, qc, qd, qe, qf])
     refine wpAnyH_ready (rs := [3]) (by kernel_rfl) (by simp) ?_
     refine AllReadyH.cons (o := _) rfl (fun K hK => ?_) AllReadyH.nil
     go_simp
     have hB0 := hHeld.1
     refine (KM.out _ hB0).mono ?_
     rintro e w' ⟨rfl, hb⟩
     have hS2 : (fun w' : World => Below wa.heap.size wa w' ∧ w'.cell? ⟨wr.heap.size, 0, none⟩ = some (.int .i64 xt) ∧ w'.cell? ⟨wr.heap.size, 1, none⟩ = some (.int .i64 xa) ∧ w'.cell? ⟨wr.heap.size, 2, none⟩ = some (.int .i64 xnm) ∧ w'.cell? ⟨wr.heap.size, 3, none⟩ = some (.int .i64 vk) ∧ w'.cell? ⟨wr.heap.size, 4, none⟩ = some (.int .i64 vn) ∧ w'.cell? ⟨wr.heap.size, 5, none⟩ = some (.string vs) ∧ w'.cell? ⟨wr.heap.size, 6, none⟩ = some (.int .i64 ln) ∧ w'.cell? ⟨wr.heap.size, 7, none⟩ = some (.int .i64 xg) ∧ w'.cell? ⟨w.heap.size, 0, none⟩ = some (.int .i64 tag) ∧ w'.cell? ⟨w.heap.size, 1, none⟩ = some (.int .i64 key) ∧ w'.cell? ⟨w.heap.size, 2, none⟩ = some (.string text) ∧ w'.cell? ⟨w.heap.size, 3, none⟩ = some (.slice A0 n0 c0) ∧ w'.cell? ⟨w.heap.size, 4, none⟩ = some (.slice A1 n1 c1) ∧ w'.cell? ⟨w.heap.size + 1 + 1, ln, none⟩ = some (.int .i64 bv)) w' := by
      obtain ⟨_, d0, d1, d2, d3, d4, d5, d6, d7, d8, d9, d10, d11, d12, d13⟩ := hHeld
      exact ⟨hB0.trans (hb.mono hB0.size), (hb.cell (p := ⟨wr.heap.size, 0, none⟩) (Nat.lt_of_lt_of_le hwa hB0.size)).trans d0, (hb.cell (p := ⟨wr.heap.size, 1, none⟩) (Nat.lt_of_lt_of_le hwa hB0.size)).trans d1, (hb.cell (p := ⟨wr.heap.size, 2, none⟩) (Nat.lt_of_lt_of_le hwa hB0.size)).trans d2, (hb.cell (p := ⟨wr.heap.size, 3, none⟩) (Nat.lt_of_lt_of_le hwa hB0.size)).trans d3, (hb.cell (p := ⟨wr.heap.size, 4, none⟩) (Nat.lt_of_lt_of_le hwa hB0.size)).trans d4, (hb.cell (p := ⟨wr.heap.size, 5, none⟩) (Nat.lt_of_lt_of_le hwa hB0.size)).trans d5, (hb.cell (p := ⟨wr.heap.size, 6, none⟩) (Nat.lt_of_lt_of_le hwa hB0.size)).trans d6, (hb.cell (p := ⟨wr.heap.size, 7, none⟩) (Nat.lt_of_lt_of_le hwa hB0.size)).trans d7, (hb.cell (p := ⟨w.heap.size, 0, none⟩) (Nat.lt_of_lt_of_le hw0 hB0.size)).trans d8, (hb.cell (p := ⟨w.heap.size, 1, none⟩) (Nat.lt_of_lt_of_le hw0 hB0.size)).trans d9, (hb.cell (p := ⟨w.heap.size, 2, none⟩) (Nat.lt_of_lt_of_le hw0 hB0.size)).trans d10, (hb.cell (p := ⟨w.heap.size, 3, none⟩) (Nat.lt_of_lt_of_le hw0 hB0.size)).trans d11, (hb.cell (p := ⟨w.heap.size, 4, none⟩) (Nat.lt_of_lt_of_le hw0 hB0.size)).trans d12, (hb.cell (p := ⟨w.heap.size + 1 + 1, ln, none⟩) (Nat.lt_of_lt_of_le hw2 hB0.size)).trans d13⟩
     refine hK.out _ _ hS2 (fun hHeld2 => ?_)
     clear hHeld2 hK K hb hB0 hHeld
     have hHeld := hS2
     clear hS2
     (try simp only [Act.put, qa, qb, qc, qd, qe, qf])
     refine wpAnyH_take (i := 4) (oi := _) (v := ?_) rfl (by kernel_rfl) (by kernel_rfl) (by kernel_rfl) (fun _ _ _ h => h) (Or.inl ⟨by kernel_rfl, ?_⟩) (by assumption) ?_
     rotate_left
     ·(intro w hSw; (try dsimp only at hSw); go_simp)
      try with_reducible rfl
     (try simp only [Act.put, qa, qb, qc, qd, qe, qf])
     refine wpAnyH_take (i := 5) (oi := _) (v := ?_) rfl (by kernel_rfl) (by kernel_rfl) (by kernel_rfl) (fun _ _ _ h => h) (Or.inl ⟨by kernel_rfl, ?_⟩) (by assumption) ?_
     rotate_left
     ·(intro w hSw; (try dsimp only at hSw); go_simp)
      try with_reducible rfl
     (try simp only [Act.put, qa, qb, qc, qd, qe, qf])
     refine wpAnyH_take (i := 8) (oi := _) (v := ?_) rfl (by kernel_rfl) (by kernel_rfl) (by kernel_rfl) (fun _ _ _ h => h) (Or.inl ⟨by kernel_rfl, ?_⟩) (by assumption) ?_
     rotate_left
     ·(intro w hSw; (try dsimp only at hSw); go_simp)
      try with_reducible rfl
     (try simp only [Act.put, qa, qb, qc, qd, qe, qf])
     refine wpAnyH_take (i := 9) (oi := _) (v := ?_) rfl (by kernel_rfl) (by kernel_rfl) (by kernel_rfl) (fun _ _ _ h => h) (Or.inl ⟨by kernel_rfl, ?_⟩) (by assumption) ?_
     rotate_left
     ·(intro w hSw; (try dsimp only at hSw); go_simp)
      try with_reducible rfl
     (try simp only [Act.put, qa, qb, qc, qd, qe, qf])
     refine wpAnyH_take (i := 10) (oi := _) (v := ?_) rfl (by kernel_rfl) (by kernel_rfl) (by kernel_rfl) (fun _ _ _ h => h) (Or.inl ⟨by kernel_rfl, ?_⟩) (by assumption) ?_
     rotate_left
     ·(intro w hSw; (try dsimp only at hSw); go_simp)
      try with_reducible rfl
     (try simp only [Act.put, qa, qb, qc, qd, qe, qf])
     refine wpAnyH_take (i := 11) (oi := _) (v := ?_) rfl (by kernel_rfl) (by kernel_rfl) (by kernel_rfl) (fun _ _ _ h => h) (Or.inl ⟨by kernel_rfl, ?_⟩) (by assumption) ?_
     rotate_left
     ·(intro w hSw; (try dsimp only at hSw); go_simp)
      try with_reducible rfl
     (try simp only [Act.put, qa, qb, qc, qd, qe, qf])
     refine wpAnyH_take (i := 12) (oi := _) (v := ?_) rfl (by kernel_rfl) (by kernel_rfl) (by kernel_rfl) (fun _ _ _ h => h) (Or.inl ⟨by kernel_rfl, ?_⟩) (by assumption) ?_
     rotate_left
     ·(intro w hSw; (try dsimp only at hSw); go_simp)
      try with_reducible rfl
     (try simp only [Act.put, qa, qb, qc, qd, qe, qf])
     refine wpAnyH_ready (rs := [6]) (by kernel_rfl) (by simp) ?_
     refine AllReadyH.cons (o := _) rfl (fun K hK => ?_) AllReadyH.nil
     go_simp
     have hB0 := hHeld.1
     refine (KW.out _).mono ?_
     rintro e w' ⟨rfl, hb⟩
     have hS2 : (fun w' : World => Below wa.heap.size wa w' ∧ w'.cell? ⟨wr.heap.size, 0, none⟩ = some (.int .i64 xt) ∧ w'.cell? ⟨wr.heap.size, 1, none⟩ = some (.int .i64 xa) ∧ w'.cell? ⟨wr.heap.size, 2, none⟩ = some (.int .i64 xnm) ∧ w'.cell? ⟨wr.heap.size, 3, none⟩ = some (.int .i64 vk) ∧ w'.cell? ⟨wr.heap.size, 4, none⟩ = some (.int .i64 vn) ∧ w'.cell? ⟨wr.heap.size, 5, none⟩ = some (.string vs) ∧ w'.cell? ⟨wr.heap.size, 6, none⟩ = some (.int .i64 ln) ∧ w'.cell? ⟨wr.heap.size, 7, none⟩ = some (.int .i64 xg) ∧ w'.cell? ⟨w.heap.size, 0, none⟩ = some (.int .i64 tag) ∧ w'.cell? ⟨w.heap.size, 1, none⟩ = some (.int .i64 key) ∧ w'.cell? ⟨w.heap.size, 2, none⟩ = some (.string text) ∧ w'.cell? ⟨w.heap.size, 3, none⟩ = some (.slice A0 n0 c0) ∧ w'.cell? ⟨w.heap.size, 4, none⟩ = some (.slice A1 n1 c1) ∧ w'.cell? ⟨w.heap.size + 1 + 1, ln, none⟩ = some (.int .i64 bv)) w' := by
      obtain ⟨_, d0, d1, d2, d3, d4, d5, d6, d7, d8, d9, d10, d11, d12, d13⟩ := hHeld
      exact ⟨hB0.trans (hb.mono hB0.size), (hb.cell (p := ⟨wr.heap.size, 0, none⟩) (Nat.lt_of_lt_of_le hwa hB0.size)).trans d0, (hb.cell (p := ⟨wr.heap.size, 1, none⟩) (Nat.lt_of_lt_of_le hwa hB0.size)).trans d1, (hb.cell (p := ⟨wr.heap.size, 2, none⟩) (Nat.lt_of_lt_of_le hwa hB0.size)).trans d2, (hb.cell (p := ⟨wr.heap.size, 3, none⟩) (Nat.lt_of_lt_of_le hwa hB0.size)).trans d3, (hb.cell (p := ⟨wr.heap.size, 4, none⟩) (Nat.lt_of_lt_of_le hwa hB0.size)).trans d4, (hb.cell (p := ⟨wr.heap.size, 5, none⟩) (Nat.lt_of_lt_of_le hwa hB0.size)).trans d5, (hb.cell (p := ⟨wr.heap.size, 6, none⟩) (Nat.lt_of_lt_of_le hwa hB0.size)).trans d6, (hb.cell (p := ⟨wr.heap.size, 7, none⟩) (Nat.lt_of_lt_of_le hwa hB0.size)).trans d7, (hb.cell (p := ⟨w.heap.size, 0, none⟩) (Nat.lt_of_lt_of_le hw0 hB0.size)).trans d8, (hb.cell (p := ⟨w.heap.size, 1, none⟩) (Nat.lt_of_lt_of_le hw0 hB0.size)).trans d9, (hb.cell (p := ⟨w.heap.size, 2, none⟩) (Nat.lt_of_lt_of_le hw0 hB0.size)).trans d10, (hb.cell (p := ⟨w.heap.size, 3, none⟩) (Nat.lt_of_lt_of_le hw0 hB0.size)).trans d11, (hb.cell (p := ⟨w.heap.size, 4, none⟩) (Nat.lt_of_lt_of_le hw0 hB0.size)).trans d12, (hb.cell (p := ⟨w.heap.size + 1 + 1, ln, none⟩) (Nat.lt_of_lt_of_le hw2 hB0.size)).trans d13⟩
     refine hK.out _ _ hS2 (fun hHeld2 => ?_)
     clear hHeld2 hK K hb hB0 hHeld
     have hHeld := hS2
     clear hS2
     (try simp only [Act.put, qa, qb, qc, qd, qe, qf])
     refine wpAnyH_take (i := 7) (oi := _) (v := ?_) rfl (by kernel_rfl) (by kernel_rfl) (by kernel_rfl) (fun _ _ _ h => h) (Or.inl ⟨by kernel_rfl, ?_⟩) (by assumption) ?_
     rotate_left
     ·(intro w hSw; (try dsimp only at hSw); go_simp)
      try with_reducible rfl
     (try simp only [Act.put, qa, qb, qc, qd, qe, qf])
     refine wpAnyH_take (i := 13) (oi := _) (v := ?_) rfl (by kernel_rfl) (by kernel_rfl) (by kernel_rfl) (fun _ _ _ h => h) (Or.inl ⟨by kernel_rfl, ?_⟩) (by assumption) ?_
     rotate_left
     ·(intro w hSw; (try dsimp only at hSw); go_simp)
      try with_reducible rfl
     (try simp only [Act.put, qa, qb, qc, qd, qe, qf])
     refine wpAnyH_take (i := 14) (oi := _) (v := ?_) rfl (by kernel_rfl) (by kernel_rfl) (by kernel_rfl) (fun _ _ _ h => h) (Or.inl ⟨by kernel_rfl, ?_⟩) (by assumption) ?_
     rotate_left
     ·(intro w hSw; (try dsimp only at hSw); go_simp)
      try with_reducible rfl
     (try simp only [Act.put, qa, qb, qc, qd, qe, qf])
     refine wpAnyH_done (by kernel_rfl) ?_ _
     have HSS := Lib.hid hHeld.1
     go_wp2_with fail
     go_roundw
     case rel =>
      have hst := HST.out
      rw [Bool.true_and, if_neg (by simpa using HGE.out)] at hst
      have hbw := more HBX.out (Nat.le_refl _) HSS.out
      exact ⟨k + 1, by omega, by go_num, Lib.hid ((hbw.block _ hz0).trans HT.out), Lib.hid (by rw [hst]; exact HO.out.below hbw), Lib.hid (by rw [hst]; exact HBE.out.below hbw), Lib.hid (more HB.out (Nat.le_refl _) hbw), Nat.lt_of_lt_of_le hzw hbw.size⟩
     case measure => simp [intOf]; omega
  ·obtain rfl : k = rn := by omega
   have ho := HO.out
   rw [List.take_of_length_le (by rw [HRN.out]; exact Nat.le_refl _)] at ho
   have HO2 := Lib.hid (show LkR wr w.heap.size ⟨w.heap.size + 1, 5, rowS xs tag ps ab mark⟩ from ho)
   clear ho
   go_wp2_with fail
   rw [← HX.out]
   exact ⟨_, rfl, HO2.out, HB.out⟩
end Go.Proofs.YtmfibedcloknlaaGreatDoor

namespace Go.Proofs.YtmfibedcloknlaaGreatDoor
open Go.Joins Go.ChangeShapes Go.WideShapes Go.ChangeAt Go.RowKit Go.Deep
open List renaming getElem_toArray → qa, getElem_cons_zero → qb, getElem_cons_succ → qc, setIfInBounds_toArray → qd, set_cons_zero → qe, set_cons_succ → qf
set_option linter.unusedVariables false
set_option linter.unusedSimpArgs false

/-- A row of the call's own has grown: nothing else that was there has turned. -/
def Gr (w w' : World) (v v' : Value) : Prop := w.grownBy w' v.ownBlock ∧ (v'.ownBlock = v.ownBlock ∨ ∃ g, v'.ownBlock = some g ∧ w.heap.size ≤ g)
theorem Gr.refl (w : World) (v : Value) : Gr w w v v := ⟨World.grownBy.refl w _, .inl rfl⟩
theorem Gr.trans {a b c : World} {u v x : Value} (h : Gr a b u v) (k : Gr b c v x) : Gr a c u x := by
 refine ⟨⟨k.1.os.trans h.1.os, k.1.tape.trans h.1.tape, k.1.output.trans h.1.output, Nat.le_trans h.1.size k.1.size, fun i hi hr => (k.1.block i (Nat.lt_of_lt_of_le hi h.1.size) (fun e => ?_)).trans (h.1.block i hi hr)⟩, ?_⟩
 ·rcases h.2 with h2 | ⟨g, h2, h3⟩
  ·exact hr (e.trans h2)
  ·rw [h2] at e
   injection e with e
   omega
 ·rcases k.2 with k2 | ⟨g, k2, k3⟩
  ·rcases h.2 with h2 | ⟨g, h2, h3⟩
   ·exact .inl (k2.trans h2)
   ·exact .inr ⟨g, k2.trans h2, h3⟩
  ·exact .inr ⟨g, k2, Nat.le_trans h.1.size k3⟩
theorem Gr.of_below {a b : World} (h : Below a.heap.size a b) (v : Value) : Gr a b v v := ⟨⟨h.os, h.tape, h.output, h.size, fun i hi _ => h.block i hi⟩, .inl rfl⟩
theorem Gr.below {a b : World} {u v : Value} (h : Gr a b u v) {B : Nat} (hB : B ≤ a.heap.size) (hu : ∀ g, u.ownBlock = some g → B ≤ g) : Below B a b := ⟨h.1.os, h.1.tape, h.1.output, h.1.size, fun i hi => h.1.block i (Nat.lt_of_lt_of_le hi hB) (fun e => by have := hu i e.symm; omega)⟩
theorem Gr.cell {a b : World} {u v : Value} (h : Gr a b u v) {k o : Nat} (hk : k < a.heap.size) (hu : u.ownBlock ≠ some k) : b.cell? ⟨k, o, none⟩ = a.cell? ⟨k, o, none⟩ := World.cell?_of_block (a := ⟨k, o, none⟩) (h.1.block k hk (fun e => hu e.symm))
theorem own_ways {w : World} {base n : Nat} {v : Value} {L : List Value} (h : w.ownsRow base 36 1 v n L) : ∃ A c, v = .slice A n c := own_form h
theorem infoRw : (Tryz.prog.info? 36).map (fun i => (i.zero, i.size, i.bytes)) = some (some (.slice none 0 0), 1, 24) := infoRwL
theorem intV_one (ns : List Nat) : ∀ u ∈ intV ns, u.oneCell' = true := fun u hu => by obtain ⟨z, _, rfl⟩ := List.mem_map.1 hu; rfl
theorem way_form {w : World} {base n : Nat} {v : Value} {xs : List Value} (h : w.ownsRow base 3 1 v n xs) (h0 : v.ownBlock ≠ none) : ∃ g c, v = .slice (some ⟨g, 0, none⟩) n c := by
 rcases h.2 with ⟨rfl, _⟩ | ⟨g, cap, cur, rfl, _⟩
 ·simp [Value.ownBlock] at h0
 ·exact ⟨g, cap, rfl⟩
/-- A way's copy, in a region that draws its order. -/
theorem step_clone_way {w : World} {ops : Array Oper} {o : Oper} {a : Act} {K : Act → World → Prop} {Q : Exit → Act → World → Prop} {E : Prop} (hgd : o.guard = none) (s x : Operand) (ho : o.op = .call { callee := .builtin .append, args := #[s, x], argTypes := #[36, 36] }) (base b : Nat) (hs : a.eval s = .slice (some ⟨b, 0, none⟩) 0 0) (hown : w.ownsRow base 3 1 (.slice (some ⟨b, 0, none⟩) 0 0) 0 []) (lo g cw wl : Nat) (way : List Nat) (hx : a.eval x = .slice (some ⟨g, 0, none⟩) wl cw) (hwl : way.length = wl) (hway : WayR lo w (some ⟨g, 0, none⟩) cw way) (hl : wl ≤ 1000) (hbase : base ≤ w.heap.size)
  (h : ∀ b2 c2 w2, WayR base w2 (some ⟨b2, 0, none⟩) c2 way → w.grownBy w2 (some b) → K (a.put o.dst (.slice (some ⟨b2, 0, none⟩) wl c2)) w2) : if Region.wanted o (yielded ops a.tmps) = true then Oper.wp Tryz.prog o a w K Q else E := by
 have hw : Region.wanted o (yielded ops a.tmps) = true := by simp [Region.wanted, hgd]
 rw [if_pos hw]
 obtain ⟨i0, hi0, hz0, hz1, hz2⟩ := info_parts infoInt
 obtain ⟨v', w', hr, hown', hg, _, hat⟩ := run_append_own_at (P := Tryz.prog) w base 36 o.type 3 i0 _ 1 8 Tryz.underlying36 hi0 hz0 hz1 hz2 rfl (by omega) (.slice (some ⟨b, 0, none⟩) 0 0) 0 [] hown ⟨g, 0, none⟩ wl cw (intV way) (by rw [← hwl]; exact intV_length way) (fun j u hu => by
  have h1 := hway.cellAt j (by have := (List.getElem?_eq_some_iff.1 hu).1; rw [intV_length] at this; omega)
  rw [Addr.add_lit, Nat.zero_add]
  exact h1.trans hu) (intV_one way) (by simp only [maxLen]; omega) (by omega) hbase
 unfold Oper.wp execOp
 simp only [ho, resolve, invoke, builtin, Sem.run_bind, Sem.run_pure, Result.andThen_ok, List.map_toArray, List.map_cons, List.map_nil, hs, hx, hr]
 rw [Nat.zero_add, List.nil_append] at hown'
 obtain ⟨g2, c2, rfl⟩ := way_form hown' (by rcases hat with e | e <;> rw [e] <;> simp [Value.ownBlock])
 exact h g2 c2 w' (by unfold WayR; rw [hwl]; exact hown') hg
/-- A way's next number, in a region that draws its order. -/
theorem step_add_way {w : World} {ops : Array Oper} {o : Oper} {a : Act} {K : Act → World → Prop} {Q : Exit → Act → World → Prop} {E : Prop} (hgd : o.guard = none) (s x : Operand) (ho : o.op = .call { callee := .builtin .append, args := #[s, x], argTypes := #[36, 36] }) (base b c n : Nat) (way : List Nat) (hs : a.eval s = .slice (some ⟨b, 0, none⟩) n c) (hn : way.length = n) (hway : WayR base w (some ⟨b, 0, none⟩) c way) (ad : Addr) (c3 k : Nat) (hx : a.eval x = .slice (some ad) 1 c3) (hc : w.cell? ad = some (.int .i64 k)) (hl : n ≤ 1000) (hbase : base ≤ w.heap.size)
  (h : ∀ b2 c2 w2, WayR base w2 (some ⟨b2, 0, none⟩) c2 (way ++ [k]) → w.grownBy w2 (some b) → K (a.put o.dst (.slice (some ⟨b2, 0, none⟩) (n + 1) c2)) w2) : if Region.wanted o (yielded ops a.tmps) = true then Oper.wp Tryz.prog o a w K Q else E := by
 have hw : Region.wanted o (yielded ops a.tmps) = true := by simp [Region.wanted, hgd]
 rw [if_pos hw]
 obtain ⟨i0, hi0, hz0, hz1, hz2⟩ := info_parts infoInt
 obtain ⟨v', w', hr, hown', hg, _, hat⟩ := run_append_own_at (P := Tryz.prog) w base 36 o.type 3 i0 _ 1 8 Tryz.underlying36 hi0 hz0 hz1 hz2 rfl (by omega) (.slice (some ⟨b, 0, none⟩) n c) n (intV way) (by rw [← hn]; exact hway) ad 1 c3 [.int .i64 k] rfl (fun j u hu => by
  match j with
  | 0 => simp at hu; subst hu; simpa [Addr.add] using hc
  | j + 1 => simp at hu) (fun u hu => by simp at hu; subst hu; rfl) (by simp only [maxLen]; omega) (by omega) hbase
 unfold Oper.wp execOp
 simp only [ho, resolve, invoke, builtin, Sem.run_bind, Sem.run_pure, Result.andThen_ok, List.map_toArray, List.map_cons, List.map_nil, hs, hx, hr]
 rw [intV_append] at hown'
 obtain ⟨g2, c2, rfl⟩ := way_form hown' (by rcases hat with e | e <;> rw [e] <;> simp [Value.ownBlock])
 exact h g2 c2 w' (by unfold WayR; rw [List.length_append, hn]; exact hown') hg
/-- A row more, in a list of operations. -/
theorem wp_add_row {w : World} {ops : Array Oper} {rest : List Oper} {o : Oper} {a : Act} {Q : Exit → Act → World → Prop} (hgd : o.guard = none) (s x : Operand) (ho : o.op = .call { callee := .builtin .append, args := #[s, x], argTypes := #[30, 30] }) (base n : Nat) (v y : Value) (L : List Value) (hs : a.eval s = v) (hn : L.length = n) (hown : w.ownsRow base 36 1 v n L) (ad : Addr) (c3 : Nat) (hx : a.eval x = .slice (some ad) 1 c3) (hc : w.cell? ad = some y) (hy : y.oneCell' = true) (hl : n ≤ 100000) (hbase : base ≤ w.heap.size)
  (h : ∀ A2 c2 w2, w2.ownsRow base 36 1 (.slice A2 (n + 1) c2) (n + 1) (L ++ [y]) → Gr w w2 v (.slice A2 (n + 1) c2) → wpList Tryz.prog ops Q rest (a.put o.dst (.slice A2 (n + 1) c2)) w2) : wpList Tryz.prog ops Q (o :: rest) a w := by
 obtain ⟨i0, hi0, hz0, hz1, hz2⟩ := info_parts infoRw
 refine wpList_append_own_at w hgd s x _ ho base 36 i0 _ 1 24 Tryz.underlying30 hi0 hz0 hz1 hz2 rfl (by omega) v n L hs hown ad 1 c3 [y] hx rfl (fun j u hu => by
  match j with
  | 0 => simp at hu; subst hu; simpa [Addr.add] using hc
  | j + 1 => simp at hu) (fun u hu => by simp at hu; subst hu; exact hy) (by simp only [maxLen]; omega) (by omega) hbase ?_
 intro v' w' hown' hg _ hat
 obtain ⟨A2, c2, rfl⟩ := own_ways hown'
 exact h A2 c2 w' hown' ⟨hg, hat.imp id fun e => ⟨_, e, Nat.le_refl _⟩⟩
theorem later6 {P : Prop} {F G : Nat → Nat → Nat → Nat → Nat → Nat → World → Prop} (h : Hid (∀ a b c d e f w, F a b c d e f w → G a b c d e f w) → P) (ht : ∀ a b c d e f w, F a b c d e f w → G a b c d e f w) : P := h (Lib.hid ht)
theorem FvX.front {zs : List Int} {w W w' : World} {e : Ending} (h : FvX zs W e w') (hb : Below w.heap.size w W) : FvX zs w e w' := by
 obtain ⟨g, rfl, h1, h2⟩ := h
 exact ⟨g, rfl, h1.mono hb.size, more hb (Nat.le_refl _) h2⟩
theorem way_gr {lo base n : Nat} {w w' : World} {A : Option Addr} {c : Nat} {ns : List Nat} {v v' : Value} {L : List Value} (h : WayR lo w A c ns) (hg : Gr w w' v v') (ho : w.ownsRow base 36 1 v n L) : WayR lo w' A c ns :=
 h.moved fun g cur _ hb => hg.1.block g (Array.getElem?_eq_some_iff.1 hb).1 (fun e => by
  obtain ⟨cur2, hc⟩ := own_cells ho e.symm
  rw [hb] at hc
  injection hc with hc
  injection hc with _ hc _
  exact absurd hc (by decide))
theorem box_gr {base n g : Nat} {w w' : World} {v v' : Value} {L : List Value} {cur : Array Value} {e : TypeId} (hb : w.heap[g]? = some (.cells cur e (0, 0))) (he : e ≠ 36) (hg : Gr w w' v v') (ho : w.ownsRow base 36 1 v n L) : w'.heap[g]? = some (.cells cur e (0, 0)) :=
 (hg.1.block g (Array.getElem?_eq_some_iff.1 hb).1 (fun e2 => by
  obtain ⟨cur2, hc⟩ := own_cells ho e2.symm
  rw [hb] at hc
  injection hc with hc
  injection hc with _ hc _
  exact he hc)).trans hb
theorem LkW.own {xss : List (List Int)} {base c : Nat} {A : Option Addr} {w : World} (h : LkW xss base A c w) : ∃ L : List Value, w.ownsRow base 36 1 (.slice A xss.length c) xss.length L := by
 obtain ⟨rs, _, h2, _⟩ := h
 exact ⟨_, h2⟩
set_option maxHeartbeats 1000000 in
theorem looksOf_any (xs : List Ru) (tag key : Int) (text : ByteArray) (ps : List Pr) (A0 A1 GB RA : Option Addr) (n0 c0 n1 c1 gn gc rn rc ib ic : Nat) (ab : List Int) (mark : Int) (w : World) (hp : PrL w A0 ps) (hn : ps.length = n0) (hl : n0 ≤ maxLen) (hab : IntL w GB ab) (hgn : ab.length = gn) (hgl : gn ≤ maxLen)
  (hr : RuL w RA xs) (hrn : xs.length = rn) (hr12 : rn ≤ 12) (hro : ∀ x ∈ xs, ruleB x = true) (hin : w.cell? ⟨ib, 4, none⟩ = some (.int .i64 mark)) :
  Calls Tryz.prog 76 #[.slice RA rn rc, .agg #[.int .i64 tag, .int .i64 key, .string text, .slice A0 n0 c0, .slice A1 n1 c1], .slice GB gn gc, .slice (some ⟨ib, 0, none⟩) 5 ic] w (FvX (ownS xs tag ps ab mark) w) := by
 have hlt := World.block_lt_of_cell? w _ hin
 have K1 := Lib.hid (fun w' (h : Below w.heap.size w w') => textLooks_any ib ic mark w' ((h.cell (p := ⟨ib, 4, none⟩) hlt).trans hin))
 have K2 := Lib.hid (fun w' (h : Below w.heap.size w w') => slooks_any xs tag key text ps A0 A1 GB RA n0 c0 n1 c1 gn gc rn rc ib ic ab mark w' (hp.below h) hn hl (hab.below h) hgn hgl (hr.below h) hrn hr12 hro ((h.cell (p := ⟨ib, 4, none⟩) hlt).trans hin))
 have ho : ownS xs tag ps ab mark = if tag < 0 then [0, 0, 0, 0, mark] else rowS xs tag ps ab mark := rfl
 obtain ⟨X, hX⟩ : ∃ X, FvX (ownS xs tag ps ab mark) w = X := ⟨_, rfl⟩
 have HX := Lib.hid hX
 rw [hX]
 by_cases h0 : tag < 0
 ·rw [if_pos h0] at ho
  have HO := Lib.hid ho
  clear hp hn hab hgn hr hrn hro hin hX ho hlt
  go_enter Tryz.func76, Tryz.ntmps76
  go_wp2_with fail
  refine (K1.out _ (by go_grown)).mono ?_
  rintro e w1 ⟨g, rfl, h1, h2⟩
  have HF := Lib.hid (FvX.front (w := w) ⟨g, rfl, h1, h2⟩ (by go_grown))
  clear h1 h2
  go_wp2_with fail
  rw [← HX.out, HO.out]
  exact HF.out
 ·rw [if_neg h0] at ho
  have HO := Lib.hid ho
  clear hp hn hab hgn hr hrn hro hin hX ho hlt
  go_enter Tryz.func76, Tryz.ntmps76
  go_wp2_with fail
  refine (K2.out _ (by go_grown)).mono ?_
  rintro e w1 ⟨g, rfl, h1, h2⟩
  have HF := Lib.hid (FvX.front (w := w) ⟨g, rfl, h1, h2⟩ (by go_grown))
  clear h1 h2
  go_wp2_with fail
  rw [← HX.out, HO.out]
  exact HF.out
theorem natI_app (ns : List Nat) (k : Nat) : natI ns ++ [(k : Int)] = natI (ns ++ [k]) := by simp [natI]
theorem len_sizeL : ∀ ks : List Tr, ks.length ≤ sizeL ks
 | [] => by simp
 | x :: xs => by
  have h1 := len_sizeL xs
  have h2 := sizeT_pos x
  simp only [sizeL, List.length_cons]
  omega
/-- What allLooks answers. -/
def AlX (zss : List (List Int)) (base : Nat) (v : Value) (w : World) (e : Ending) (w' : World) : Prop := ∃ B d, e = .returned (.slice B zss.length d) ∧ LkW zss base B d w' ∧ Gr w w' v (.slice B zss.length d)
def AlT (xs : List Ru) (rn : Nat) (RA : Option Addr) (rc : Nat) (w0 : World) (base : Nat) (t : Tr) : Prop := ∀ (ab : List Nat) (g cw ib ic : Nat) (ins : List Int) (mark : Int) (A0 A1 : Option Addr) (c0 c1 : Nat) (yss : List (List Int)) (B : Option Addr) (d : Nat) (w : World), base ≤ w.heap.size → Below w0.heap.size w0 w → WayR w0.heap.size w (some ⟨g, 0, none⟩) cw ab → LkR w w0.heap.size ⟨ib, ic, ins⟩ → ins.length = 5 → ins[4]? = some mark → PrL w0 A0 t.ps → TrL w0 0 A1 t.ks → LkW yss base B d w → yss.length + sizeT t ≤ 1000 → ab.length + sizeT t ≤ 1000 →
 Calls Tryz.prog 39 #[.slice RA rn rc, .agg #[.int .i64 t.tag, .int .i64 t.key, .string t.text, .slice A0 t.ps.length c0, .slice A1 t.ks.length c1], .slice (some ⟨g, 0, none⟩) ab.length cw, .slice (some ⟨ib, 0, none⟩) 5 ic, .slice B yss.length d] w (AlX (yss ++ lksT xs (natI ab) mark t) base (.slice B yss.length d) w)
set_option maxRecDepth 100000 in
set_option maxHeartbeats 8000000 in
theorem sall_any (sh : ByteArray → Bool) (xs : List Ru) (rn : Nat) (hrn : xs.length = rn) (hr12 : rn ≤ 12) (hro : ∀ x ∈ xs, ruleB x = true) (w0 : World) (base : Nat) (hbase : w0.heap.size ≤ base) (RA : Option Addr) (rc : Nat) (hr : RuL w0 RA xs) : ∀ t : Tr, vpT sh t = true → SmT t → AlT xs rn RA rc w0 base t := Tr.by_kids fun t ih hv hsm ab g cw ib ic ins mark A0 A1 c0 c1 yss B d w hbw hlow hway hin hin5 hin4 hp hk hout hyl hal => by
 obtain ⟨s0, s1, s2, s3, s4⟩ := hsm.open_
 have HI := Lib.hid (fun x hx => ih x hx (vp_kid hv hx) (s4 x hx))
 have HW := Lib.hid (vp_ways hv)
 have HE := Lib.hid (lksT_eq xs (natI ab) mark t)
 have HLN := Lib.hid (lksT_len xs t (natI ab) mark)
 have hci : w.cell? ⟨ib, 4, none⟩ = some (.int .i64 mark) := (World.ownsRow.cellAt hin 4 (by show 4 < ins.length * 1; omega)).trans (zV_at hin4)
 have hio : IntL w (some ⟨g, 0, none⟩) (natI ab) := IntL.of_row hway
 have hkz := sizeT_eq t
 obtain ⟨zss, hzss⟩ : ∃ q, lksT xs (natI ab) mark t = q := ⟨_, rfl⟩
 rw [hzss] at HE HLN ⊢
 obtain ⟨X, hX⟩ : ∃ X, AlX (yss ++ zss) base (.slice B yss.length d) w = X := ⟨_, rfl⟩
 have HX := Lib.hid hX
 rw [hX]
 obtain ⟨tag, key, text, ps, ks⟩ := t
 dsimp only [Tr.tag, Tr.key, Tr.text, Tr.ps, Tr.ks] at s1 s3 HW HE hp hk hkz ⊢
 replace HI := Lib.hid (show ∀ x ∈ ks, _ from HI.out)
 obtain ⟨np, hnp⟩ : ∃ n, ps.length = n := ⟨_, rfl⟩
 obtain ⟨n, hn⟩ : ∃ n, ks.length = n := ⟨_, rfl⟩
 obtain ⟨gn, hgn⟩ : ∃ n, ab.length = n := ⟨_, rfl⟩
 rw [hnp] at s1 ⊢
 rw [hn] at s3 ⊢
 rw [hgn] at hal ⊢
 unfold maxLen at s3
 have hb1 : Below w.heap.size w (w.alloc (.cells #[.int .i64 tag, .int .i64 key, .string text, .slice A0 np c0, .slice A1 n c1] 26)) := Below.alloc (Below.refl _ w) (Nat.le_refl _) _
 have hz0 := hlow.size
 have K1 := Lib.hid (fun w' (h : Below w.heap.size w w') => looksOf_any xs tag key text ps A0 A1 (some ⟨g, 0, none⟩) RA np c0 n c1 gn cw rn rc ib ic (natI ab) mark w' (hp.below (hlow.trans (h.mono hlow.size))) hnp s1 (hio.below h) ((natI_len ab).trans hgn) (by unfold maxLen; omega) (hr.below (hlow.trans (h.mono hlow.size))) hrn hr12 hro ((h.cell (p := ⟨ib, 4, none⟩) (World.block_lt_of_cell? w _ hci)).trans hci))
 have HT1 := Lib.hid (show (w.alloc (.cells #[.int .i64 tag, .int .i64 key, .string text, .slice A0 np c0, .slice A1 n c1] 26)).heap[w.heap.size]? = some (.cells #[.int .i64 tag, .int .i64 key, .string text, .slice A0 np c0, .slice A1 n c1] 26) from World.alloc_heap_new _ _)
 have HB1 := Lib.hid hb1
 have HN := Lib.hid hn
 have HGN := Lib.hid hgn
 have HKS := Lib.hid (show n ≤ sizeL ks by rw [← hn]; exact len_sizeL ks)
 have HKZ := Lib.hid hkz
 have HWAY := Lib.hid hway
 have HK := Lib.hid hk
 have HOUT := Lib.hid hout
 have HLOW := Lib.hid hlow
 have HYL := Lib.hid hyl
 have HAL := Lib.hid hal
 clear ih hv hsm hway hin hin5 hin4 hp hk hout hlow hyl hci hio hkz hzss hX hnp hn hgn hb1 s0 s2 s4 hro hr
 go_enter Tryz.func39, Tryz.ntmps39
 go_wp2_with fail
 refine (K1.out _ HB1.out).mono ?_
 rintro e w1 ⟨g1, rfl, hf1, hfb⟩
 have HB2 := Lib.hid (more HB1.out (Nat.le_refl _) hfb)
 have HF1 := Lib.hid (hf1.mono (base' := w.heap.size) (by simp))
 have HT2 := Lib.hid ((hfb.block _ (by simp)).trans HT1.out)
 clear hf1 hfb K1
 have hol := ownS_len xs tag ps (natI ab) mark
 obtain ⟨mk, hmk⟩ := at_some (show 4 < (ownS xs tag ps (natI ab) mark).length by omega)
 have he := HE.out
 rw [hmk, Option.getD_some] at he
 obtain ⟨o5, ho5⟩ : ∃ q, ownS xs tag ps (natI ab) mark = q := ⟨_, rfl⟩
 rw [ho5] at HF1 hol hmk he
 have HE2 := Lib.hid he
 have HOL := Lib.hid hol
 have HMK := Lib.hid hmk
 obtain ⟨rs, q1, q2', q3, q4⟩ := HOUT.out
 have q2 := ownsRow_below q2' HB2.out
 have HRS := Lib.hid (show (rs.map Lk.zs = yss ∧ ∀ r ∈ rs, LkR w1 base r ∧ r.b < w.heap.size) ∧ rs.Pairwise (fun a b => a.b ≠ b.b) from ⟨⟨q1, fun r hr => ⟨(q3 r hr).below HB2.out, (q3 r hr).lt.2⟩⟩, q4⟩)
 have hbx := Below.alloc (Below.refl w1.heap.size w1) (Nat.le_refl _) (.cells #[.slice (some ⟨g1, 0, none⟩) 5 5] 36)
 have HO3 := Lib.hid (ownsRow_below q2 hbx)
 have HC3 := Lib.hid (show (w1.alloc (.cells #[.slice (some ⟨g1, 0, none⟩) 5 5] 36)).cell? ⟨w1.heap.size, 0, none⟩ = some (.slice (some ⟨g1, 0, none⟩) 5 5) by rw [World.cell?_alloc_new]; rfl)
 have HL3 := Lib.hid (show (rs.map Lk.hv).length = yss.length by rw [← q1]; simp)
 have HBX := Lib.hid hbx
 have hz1 := HB2.out.size
 have hle : yss.length ≤ 100000 := by have := HYL.out; omega
 clear q1 q2 q2' q3 q4 hbx hol hmk he ho5
 go_wp2_with (at_builtin; refine wp_add_row rfl (.tmp 18) (.tmp 20) rfl base yss.length (.slice B yss.length d) (.slice (some ⟨g1, 0, none⟩) 5 5) (rs.map Lk.hv) rfl HL3.out HO3.out ⟨w1.heap.size, 0, none⟩ 1 rfl HC3.out rfl hle (by simp; omega) ?_)
 intro A3 c3 w3 hown3 hg3
 have hbw3 : Below w.heap.size w (w1.alloc (.cells #[.slice (some ⟨g1, 0, none⟩) 5 5] 36)) := more HB2.out (Nat.le_refl _) HBX.out
 have HF3 := Lib.hid (HF1.out.below HBX.out)
 have HG3 := Lib.hid ((Gr.of_below hbw3 (.slice B yss.length d)).trans hg3)
 have HLW3 := Lib.hid (show LkW (yss ++ [o5]) base A3 c3 w3 from ⟨rs ++ [⟨g1, 5, o5⟩], by rw [List.map_append, HRS.out.1.1]; rfl, by
  rw [List.length_append, List.map_append, List.map_cons, List.map_nil, show Lk.hv ⟨g1, 5, o5⟩ = .slice (some ⟨g1, 0, none⟩) o5.length 5 from rfl, HOL.out]
  exact hown3, fun r hr => by
   rcases List.mem_append.1 hr with hr | hr
   ·exact ((HRS.out.1.2 r hr).1.below HBX.out).grown HO3.out hg3.1
   ·obtain rfl := List.mem_singleton.1 hr
    exact (HF3.out.grown HO3.out hg3.1).mono hbw, List.pairwise_append.2 ⟨HRS.out.2, List.pairwise_singleton _ _, fun a ha b hb => by
   obtain rfl := List.mem_singleton.1 hb
   have h1 := (HRS.out.1.2 a ha).2
   have h2 := HF3.out.lt.1
   dsimp only at h2 ⊢
   omega⟩⟩)
 have HF4 := Lib.hid ((HF3.out.grown HO3.out hg3.1).mono (base' := w0.heap.size) hz0)
 have HT4 := Lib.hid (box_gr ((HBX.out.block _ (by have := (Array.getElem?_eq_some_iff.1 HT2.out).1; omega)).trans HT2.out) (by decide) hg3 HO3.out)
 have hvg : ∀ g, (Value.slice B yss.length d).ownBlock = some g → w0.heap.size ≤ g := fun g e => by
  obtain ⟨L, hL⟩ := HOUT.out.own
  have := (World.ownsRow.lt hL g e).1
  omega
 have HVG := Lib.hid hvg
 clear hown3 hg3 hbw3 hvg
 go_wp2_with fail
 go_loopw [4, 12] (fun ll i wr => ∃ (k : Nat) (cur : List (List Int)), k ≤ n ∧ i = .int .i64 k ∧ (∃ B' d', ll = .slice B' cur.length d' ∧ Hid (LkW cur base B' d' wr) ∧ Hid (Gr w wr (.slice B yss.length d) (.slice B' cur.length d'))) ∧ Hid (cur ++ lksL xs (natI ab ++ [tag]) mk (ks.drop k) = yss ++ zss) ∧ Hid (wr.heap[w.heap.size]? = some (.cells #[.int .i64 tag, .int .i64 key, .string text, .slice A0 np c0, .slice A1 n c1] 26)) ∧ Hid (LkR wr w0.heap.size ⟨g1, 5, o5⟩)) (fun _ i _ => n - (intOf i).toNat)
 case atStart => exact ⟨0, yss ++ [o5], by omega, rfl, ⟨A3, c3, by rw [List.length_append]; rfl, HLW3, by rw [List.length_append]; exact HG3⟩, Lib.hid (by rw [HE2.out, List.append_assoc]; rfl), HT4, HF4⟩
 case round =>
  obtain ⟨k, cur, hk, rfl, ⟨B', d', rfl, HLW, HGR⟩, HQ, HT, HF⟩ := hrel
  have hlowr : Below w0.heap.size w0 wr := HLOW.out.trans (HGR.out.below hz0 HVG.out)
  have hwr := HGR.out.1.size
  have hzw : w.heap.size < wr.heap.size := (Array.getElem?_eq_some_iff.1 HT.out).1
  by_cases hlt : k < n
  ·obtain ⟨x, hx⟩ := at_some (show k < ks.length by rw [HN.out]; exact hlt)
   rcases HW.out with ⟨_, hk0⟩ | ⟨ht0, ht4, _⟩
   ·rw [hk0] at hx; simp at hx
   obtain ⟨tn, htn⟩ : ∃ k : Nat, tag = (k : Int) := ⟨tag.toNat, by omega⟩
   subst htn
   have hq := HQ.out
   rw [lksL_drop hx, natI_app] at hq
   have HQ2 := Lib.hid hq
   have hzl := lksT_len xs x (natI (ab ++ [tn])) mk
   have hxs := sizeT_kid (t := .mk tn key text ps ks) (List.mem_of_getElem? hx)
   have hlen : cur.length + sizeT x + (lksL xs (natI (ab ++ [tn])) mk (ks.drop (k + 1))).length = yss.length + zss.length := by
    have e := congrArg List.length HQ2.out
    rw [List.length_append, List.length_append, List.length_append, hzl] at e
    omega
   have hcl : cur.length + sizeT x ≤ 1000 := by have h1 := HLN.out; have h2 := HYL.out; omega
   have hal2 : (ab ++ [tn]).length + sizeT x ≤ 1000 := by rw [List.length_append, HGN.out, List.length_singleton]; omega
   have HWG := Lib.hid (by obtain ⟨L, hL⟩ := HOUT.out.own; exact way_gr HWAY.out HGR.out hL : WayR w0.heap.size wr (some ⟨g, 0, none⟩) cw ab)
   obtain ⟨b, off, B0, d0, B1, d1, hA1, hblt, _, e0, e1, e2, e3, e4, hp, _, hks⟩ := HK.out.at_ hx
   subst hA1
   replace e0 := (hlowr.cell (p := ⟨b, _, none⟩) hblt).trans e0
   replace e1 := (hlowr.cell (p := ⟨b, _, none⟩) hblt).trans e1
   replace e2 := (hlowr.cell (p := ⟨b, _, none⟩) hblt).trans e2
   replace e3 := (hlowr.cell (p := ⟨b, _, none⟩) hblt).trans e3
   replace e4 := (hlowr.cell (p := ⟨b, _, none⟩) hblt).trans e4
   have hbr : b < wr.heap.size := Nat.lt_of_lt_of_le hblt hlowr.size
   have a0 : wr.cell? ⟨w.heap.size, 0, none⟩ = some (.int .i64 tn) := by rw [cell_of_row _ w.heap.size 0 _ _ _ HT.out]; rfl
   have a4 : wr.cell? ⟨w.heap.size, 4, none⟩ = some (.slice (some ⟨b, off, none⟩) n c1) := by rw [cell_of_row _ w.heap.size 4 _ _ _ HT.out]; rfl
   have KI := Lib.hid (fun b3 c3 u hu h1 h2 h3 h4 h5 => HI.out x (List.mem_of_getElem? hx) (ab ++ [tn]) b3 c3 g1 5 o5 mk B0 B1 d0 d1 cur B' d' u hu h1 h2 h3 HOL.out HMK.out h4 h5)
   have HP2 := Lib.hid hp
   have HK2 := Lib.hid hks
   have HXK := Lib.hid hx
   have hi1 : (0 : Int) ≤ (k : Int) := by omega
   have hi2 : (k : Int) < (n : Int) := by omega
   have HCL := Lib.hid (And.intro hcl hal2)
   have HLR := Lib.hid hlowr
   have hgn1 : gn ≤ 1000 := by omega
   obtain ⟨xt, xk, xs', xp, xq⟩ := x
   dsimp only [Tr.tag, Tr.key, Tr.text, Tr.ps, Tr.ks] at e0 e1 e2 e3 e4 KI HP2 HK2
   have SF := Lib.hid (show ∀ u, Below wr.heap.size wr u → (fun w' : World => w'.cell? ⟨w.heap.size, 0, none⟩ = some (.int .i64 tn) ∧ w'.cell? ⟨w.heap.size, 4, none⟩ = some (.slice (some ⟨b, off, none⟩) n c1) ∧ w'.cell? ⟨b, off + k * 5, none⟩ = some (.int .i64 xt) ∧ w'.cell? ⟨b, off + k * 5 + 1, none⟩ = some (.int .i64 xk) ∧ w'.cell? ⟨b, off + k * 5 + 2, none⟩ = some (.string xs') ∧ w'.cell? ⟨b, off + k * 5 + 3, none⟩ = some (.slice B0 xp.length d0) ∧ w'.cell? ⟨b, off + k * 5 + 4, none⟩ = some (.slice B1 xq.length d1)) u from fun u hu => ⟨(hu.cell (p := ⟨w.heap.size, 0, none⟩) hzw).trans a0, (hu.cell (p := ⟨w.heap.size, 4, none⟩) hzw).trans a4, (hu.cell (p := ⟨b, _, none⟩) hbr).trans e0, (hu.cell (p := ⟨b, _, none⟩) hbr).trans e1, (hu.cell (p := ⟨b, _, none⟩) hbr).trans e2, (hu.cell (p := ⟨b, _, none⟩) hbr).trans e3, (hu.cell (p := ⟨b, _, none⟩) hbr).trans e4⟩)
   clear hx hp hks hq hzl hxs hlen hcl hal2 hlowr ht0 ht4
   go_wp2_with fail
   apply later6 (F := fun b5 b2 c2 b9 b3 c3 u4 => Below wr.heap.size wr u4 ∧ WayR wr.heap.size u4 (some ⟨b3, 0, none⟩) c3 (ab ++ [tn]))
   ·intro hTail
    have HU := Lib.hid (Below.drew (Below.refl wr.heap.size wr))
    refine wp_region_held_drew (S := (fun w' : World => w'.cell? ⟨w.heap.size, 0, none⟩ = some (.int .i64 tn) ∧ w'.cell? ⟨w.heap.size, 4, none⟩ = some (.slice (some ⟨b, off, none⟩) n c1) ∧ w'.cell? ⟨b, off + k * 5, none⟩ = some (.int .i64 xt) ∧ w'.cell? ⟨b, off + k * 5 + 1, none⟩ = some (.int .i64 xk) ∧ w'.cell? ⟨b, off + k * 5 + 2, none⟩ = some (.string xs') ∧ w'.cell? ⟨b, off + k * 5 + 3, none⟩ = some (.slice B0 xp.length d0) ∧ w'.cell? ⟨b, off + k * 5 + 4, none⟩ = some (.slice B1 xq.length d1))) (by kernel_rfl) (SF.out _ HU.out) (fun hHeld => ?_)
    obtain ⟨u0, hu0⟩ : ∃ q, wr.drew = q := ⟨_, rfl⟩
    rw [hu0] at HU hHeld ⊢
    clear hu0
    refine wpAnyH_take (i := 0) (oi := _) (v := ?_) rfl (by kernel_rfl) (by kernel_rfl) (by kernel_rfl) (fun _ _ _ h => h) (Or.inl ⟨by kernel_rfl, ?_⟩) (by assumption) ?_
    rotate_left
    ·(intro w hSw; (try dsimp only at hSw); go_simp)
     try with_reducible rfl
    (try simp only [Act.put, qa, qb, qc, qd, qe, qf])
    refine wpAnyH_take (i := 1) (oi := _) (v := ?_) rfl (by kernel_rfl) (by kernel_rfl) (by kernel_rfl) (fun _ _ _ h => h) (Or.inl ⟨by kernel_rfl, ?_⟩) (by assumption) ?_
    rotate_left
    ·(intro w hSw; (try dsimp only at hSw); go_simp)
     try with_reducible rfl
    (try simp only [Act.put, qa, qb, qc, qd, qe, qf])
    refine wpAnyH_take (i := 2) (oi := _) (v := ?_) rfl (by kernel_rfl) (by kernel_rfl) (by kernel_rfl) (fun _ _ _ h => h) (Or.inl ⟨by kernel_rfl, ?_⟩) (by assumption) ?_
    rotate_left
    ·(intro w hSw; (try dsimp only at hSw); go_simp)
     try with_reducible rfl
    (try simp only [Act.put, qa, qb, qc, qd, qe, qf])
    refine wpAnyH_take (i := 3) (oi := _) (v := ?_) rfl (by kernel_rfl) (by kernel_rfl) (by kernel_rfl) (fun _ _ _ h => h) (Or.inl ⟨by kernel_rfl, ?_⟩) (by assumption) ?_
    rotate_left
    ·(intro w hSw; (try dsimp only at hSw); go_simp)
     try with_reducible rfl
    (try simp only [Act.put, qa, qb, qc, qd, qe, qf])
    refine wpAnyH_take (i := 4) (oi := _) (v := ?_) rfl (by kernel_rfl) (by kernel_rfl) (by kernel_rfl) (fun _ _ _ h => h) (Or.inl ⟨by kernel_rfl, ?_⟩) (by assumption) ?_
    rotate_left
    ·(intro w hSw; (try dsimp only at hSw); go_simp)
     try with_reducible rfl
    (try simp only [Act.put, qa, qb, qc, qd, qe, qf])
    refine wpAnyH_take (i := 5) (oi := _) (v := ?_) rfl (by kernel_rfl) (by kernel_rfl) (by kernel_rfl) (fun _ _ _ h => h) (Or.inl ⟨by kernel_rfl, ?_⟩) (by assumption) ?_
    rotate_left
    ·(intro w hSw; (try dsimp only at hSw); go_simp)
     try with_reducible rfl
    (try simp only [Act.put, qa, qb, qc, qd, qe, qf])
    refine wpAnyH_take (i := 7) (oi := _) (v := ?_) rfl (by kernel_rfl) (by kernel_rfl) (by kernel_rfl) (fun _ _ _ h => h) (Or.inl ⟨by kernel_rfl, ?_⟩) (by assumption) ?_
    rotate_left
    ·(intro w hSw; (try dsimp only at hSw); go_simp)
     try with_reducible rfl
    (try simp only [Act.put, qa, qb, qc, qd, qe, qf])
    refine wpAnyH_take (i := 9) (oi := _) (v := ?_) rfl (by kernel_rfl) (by kernel_rfl) (by kernel_rfl) (fun _ _ _ h => h) (Or.inl ⟨by kernel_rfl, ?_⟩) (by assumption) ?_
    rotate_left
    ·(intro w hSw; (try dsimp only at hSw); go_simp)
     try with_reducible rfl
    (try simp only [Act.put, qa, qb, qc, qd, qe, qf])
    refine wpAnyH_take (i := 10) (oi := _) (v := ?_) rfl (by kernel_rfl) (by kernel_rfl) (by kernel_rfl) (fun _ _ _ h => h) (Or.inl ⟨by kernel_rfl, ?_⟩) (by assumption) ?_
    rotate_left
    ·(intro w hSw; (try dsimp only at hSw); go_simp)
     try with_reducible rfl
    (try simp only [Act.put, qa, qb, qc, qd, qe, qf])
    refine wpAnyH_take (i := 13) (oi := _) (v := ?_) rfl (by kernel_rfl) (by kernel_rfl) (by kernel_rfl) (fun _ _ _ h => h) (Or.inl ⟨by kernel_rfl, ?_⟩) (by assumption) ?_
    rotate_left
    ·(intro w hSw; (try dsimp only at hSw); go_simp)
     try with_reducible rfl
    (try simp only [Act.put, qa, qb, qc, qd, qe, qf])
    refine wpAnyH_take (i := 14) (oi := _) (v := ?_) rfl (by kernel_rfl) (by kernel_rfl) (by kernel_rfl) (fun _ _ _ h => h) (Or.inl ⟨by kernel_rfl, ?_⟩) (by assumption) ?_
    rotate_left
    ·(intro w hSw; (try dsimp only at hSw); go_simp)
     try with_reducible rfl
    (try simp only [Act.put, qa, qb, qc, qd, qe, qf])
    refine wpAnyH_ready (rs := [6, 11]) (by kernel_rfl) (by simp) ?_
    refine AllReadyH.cons (o := _) rfl (fun K hK => ?_) ?_
    ·skip
     go_simp
     (try have h59 := World.block_lt_of_cell? _ _ HC9.out)
     (try dsimp only at h59)
     have hb := Below.alloc (Below.refl u0.heap.size u0) (Nat.le_refl _) (.cells #[] 3)
     have HOA := Lib.hid (show (u0.alloc (.cells #[] 3)).ownsRow wr.heap.size 3 1 (.slice (some ⟨u0.heap.size, 0, none⟩) 0 0) 0 [] from ⟨rfl, .inr ⟨u0.heap.size, 0, #[], rfl, HU.out.size, World.alloc_heap_new u0 _, Nat.le_refl _, by decide, rfl, rfl⟩⟩)
     (try have HC9 := Lib.hid ((hb.cell (p := ⟨b9, 0, none⟩) (World.block_lt_of_cell? _ _ HC9.out)).trans HC9.out))
     replace HU := Lib.hid (more HU.out (Nat.le_refl _) hb)
     refine hK.out _ _ (SF.out _ HU.out) (fun hHeld2 => ?_)
     clear hHeld2 hK K hHeld
     have hHeld := SF.out _ HU.out
     (try simp only [Act.put, qa, qb, qc, qd, qe, qf])
     obtain ⟨b5, hb5⟩ : ∃ q, u0.heap.size = q := ⟨_, rfl⟩
     obtain ⟨u1, hN⟩ : ∃ q, u0.alloc (.cells #[] 3) = q := ⟨_, rfl⟩
     rw [hN] at HOA HU hHeld ⊢
     (try rw [hN] at HC9)
     rw [hb5] at HOA ⊢
     (try rw [hb5] at h59)
     clear hN hb hb5
     refine wpAnyH_ready (rs := [8, 11]) (by kernel_rfl) (by simp) ?_
     refine AllReadyH.cons (o := _) rfl (fun K hK => ?_) ?_
     ·skip
      refine step_clone_way (by rfl) (.tmp 35) (.tmp 36) (by rfl) wr.heap.size b5 (by rfl) HOA.out w0.heap.size g cw gn ab (by rfl) HGN.out ((HWG.out).later HU.out) (by omega) HU.out.size ?_
      intro b2 c2 u2 hw2 hg2
      replace HU := Lib.hid (HU.out.grown hg2 HU.out.size (fun k e => by cases e; exact (HOA.out.lt b5 rfl).1))
      (try replace HC9 := Lib.hid ((World.cell?_of_block (a := ⟨b9, 0, none⟩) (hg2.block b9 (World.block_lt_of_cell? _ _ HC9.out) (fun e => by injection e with e; omega))).trans HC9.out))
      have HW2 := Lib.hid hw2
      refine hK.out _ _ (SF.out _ HU.out) (fun hHeld2 => ?_)
      clear hHeld2 hK K hHeld
      have hHeld := SF.out _ HU.out
      (try simp only [Act.put, qa, qb, qc, qd, qe, qf])
      clear hw2 hg2
      refine wpAnyH_ready (rs := [11]) (by kernel_rfl) (by simp) ?_
      refine AllReadyH.cons (o := _) rfl (fun K hK => ?_) AllReadyH.nil
      go_simp
      (try have h59 : b5 < u2.heap.size := (HOA.out.lt b5 rfl).2)
      have hb := Below.alloc (Below.refl u2.heap.size u2) (Nat.le_refl _) (.cells #[.int .i64 tn] 3)
      have HC9 := Lib.hid (show (u2.alloc (.cells #[.int .i64 tn] 3)).cell? ⟨u2.heap.size, 0, none⟩ = some (.int .i64 tn) by rw [World.cell?_alloc_new]; rfl)
      (try replace HOA := Lib.hid (ownsRow_below HOA.out hb))
      (try replace HW2 := Lib.hid (HW2.out.later hb))
      replace HU := Lib.hid (more HU.out (Nat.le_refl _) hb)
      refine hK.out _ _ (SF.out _ HU.out) (fun hHeld2 => ?_)
      clear hHeld2 hK K hHeld
      have hHeld := SF.out _ HU.out
      (try simp only [Act.put, qa, qb, qc, qd, qe, qf])
      obtain ⟨b9, hb9⟩ : ∃ q, u2.heap.size = q := ⟨_, rfl⟩
      obtain ⟨u3, hN⟩ : ∃ q, u2.alloc (.cells #[.int .i64 tn] 3) = q := ⟨_, rfl⟩
      rw [hN] at HC9 HU hHeld ⊢
      (try rw [hN] at HOA)
      (try rw [hN] at HW2)
      rw [hb9] at HC9 ⊢
      (try rw [hb9] at h59)
      clear hN hb hb9
      refine wpAnyH_ready (rs := [12]) (by kernel_rfl) (by simp) ?_
      refine AllReadyH.cons (o := _) rfl (fun K hK => ?_) AllReadyH.nil
      refine step_add_way (by rfl) (.tmp 37) (.tmp 40) (by rfl) wr.heap.size b2 c2 gn ab (by rfl) HGN.out HW2.out ⟨b9, 0, none⟩ 1 tn (by rfl) HC9.out (by omega) HU.out.size ?_
      intro b3 c3 u4 hw3 hg3
      replace HU := Lib.hid (HU.out.grown hg3 HU.out.size (fun k e => by cases e; exact (HW2.out.lt b2 rfl).1))
      have HW3 := Lib.hid hw3
      refine hK.out _ _ (SF.out _ HU.out) (fun hHeld2 => ?_)
      clear hHeld2 hK K hHeld
      have hHeld := SF.out _ HU.out
      (try simp only [Act.put, qa, qb, qc, qd, qe, qf])
      clear hw3 hg3 HC9 HOA HW2
      exact hTail.out b5 b2 c2 b9 b3 c3 u4 ⟨HU.out, HW3.out⟩
     refine AllReadyH.cons (o := _) rfl (fun K hK => ?_) AllReadyH.nil
     go_simp
     (try have h59 : b5 < u1.heap.size := (HOA.out.lt b5 rfl).2)
     have hb := Below.alloc (Below.refl u1.heap.size u1) (Nat.le_refl _) (.cells #[.int .i64 tn] 3)
     have HC9 := Lib.hid (show (u1.alloc (.cells #[.int .i64 tn] 3)).cell? ⟨u1.heap.size, 0, none⟩ = some (.int .i64 tn) by rw [World.cell?_alloc_new]; rfl)
     (try replace HOA := Lib.hid (ownsRow_below HOA.out hb))
     (try replace HW2 := Lib.hid (HW2.out.later hb))
     replace HU := Lib.hid (more HU.out (Nat.le_refl _) hb)
     refine hK.out _ _ (SF.out _ HU.out) (fun hHeld2 => ?_)
     clear hHeld2 hK K hHeld
     have hHeld := SF.out _ HU.out
     (try simp only [Act.put, qa, qb, qc, qd, qe, qf])
     obtain ⟨b9, hb9⟩ : ∃ q, u1.heap.size = q := ⟨_, rfl⟩
     obtain ⟨u5, hN⟩ : ∃ q, u1.alloc (.cells #[.int .i64 tn] 3) = q := ⟨_, rfl⟩
     rw [hN] at HC9 HU hHeld ⊢
     (try rw [hN] at HOA)
     (try rw [hN] at HW2)
     rw [hb9] at HC9 ⊢
     (try rw [hb9] at h59)
     clear hN hb hb9
     refine wpAnyH_ready (rs := [8]) (by kernel_rfl) (by simp) ?_
     refine AllReadyH.cons (o := _) rfl (fun K hK => ?_) AllReadyH.nil
     refine step_clone_way (by rfl) (.tmp 35) (.tmp 36) (by rfl) wr.heap.size b5 (by rfl) HOA.out w0.heap.size g cw gn ab (by rfl) HGN.out ((HWG.out).later HU.out) (by omega) HU.out.size ?_
     intro b2 c2 u6 hw2 hg2
     replace HU := Lib.hid (HU.out.grown hg2 HU.out.size (fun k e => by cases e; exact (HOA.out.lt b5 rfl).1))
     (try replace HC9 := Lib.hid ((World.cell?_of_block (a := ⟨b9, 0, none⟩) (hg2.block b9 (World.block_lt_of_cell? _ _ HC9.out) (fun e => by injection e with e; omega))).trans HC9.out))
     have HW2 := Lib.hid hw2
     refine hK.out _ _ (SF.out _ HU.out) (fun hHeld2 => ?_)
     clear hHeld2 hK K hHeld
     have hHeld := SF.out _ HU.out
     (try simp only [Act.put, qa, qb, qc, qd, qe, qf])
     clear hw2 hg2
     refine wpAnyH_ready (rs := [12]) (by kernel_rfl) (by simp) ?_
     refine AllReadyH.cons (o := _) rfl (fun K hK => ?_) AllReadyH.nil
     refine step_add_way (by rfl) (.tmp 37) (.tmp 40) (by rfl) wr.heap.size b2 c2 gn ab (by rfl) HGN.out HW2.out ⟨b9, 0, none⟩ 1 tn (by rfl) HC9.out (by omega) HU.out.size ?_
     intro b3 c3 u7 hw3 hg3
     replace HU := Lib.hid (HU.out.grown hg3 HU.out.size (fun k e => by cases e; exact (HW2.out.lt b2 rfl).1))
     have HW3 := Lib.hid hw3
     refine hK.out _ _ (SF.out _ HU.out) (fun hHeld2 => ?_)
     clear hHeld2 hK K hHeld
     have hHeld := SF.out _ HU.out
     (try simp only [Act.put, qa, qb, qc, qd, qe, qf])
     clear hw3 hg3 HC9 HOA HW2
     exact hTail.out b5 b2 c2 b9 b3 c3 u7 ⟨HU.out, HW3.out⟩
    refine AllReadyH.cons (o := _) rfl (fun K hK => ?_) AllReadyH.nil
    go_simp
    (try have h59 : b5 < u0.heap.size := (HOA.out.lt b5 rfl).2)
    have hb := Below.alloc (Below.refl u0.heap.size u0) (Nat.le_refl _) (.cells #[.int .i64 tn] 3)
    have HC9 := Lib.hid (show (u0.alloc (.cells #[.int .i64 tn] 3)).cell? ⟨u0.heap.size, 0, none⟩ = some (.int .i64 tn) by rw [World.cell?_alloc_new]; rfl)
    (try replace HOA := Lib.hid (ownsRow_below HOA.out hb))
    (try replace HW2 := Lib.hid (HW2.out.later hb))
    replace HU := Lib.hid (more HU.out (Nat.le_refl _) hb)
    refine hK.out _ _ (SF.out _ HU.out) (fun hHeld2 => ?_)
    clear hHeld2 hK K hHeld
    have hHeld := SF.out _ HU.out
    (try simp only [Act.put, qa, qb, qc, qd, qe, qf])
    obtain ⟨b9, hb9⟩ : ∃ q, u0.heap.size = q := ⟨_, rfl⟩
    obtain ⟨u8, hN⟩ : ∃ q, u0.alloc (.cells #[.int .i64 tn] 3) = q := ⟨_, rfl⟩
    rw [hN] at HC9 HU hHeld ⊢
    (try rw [hN] at HOA)
    (try rw [hN] at HW2)
    rw [hb9] at HC9 ⊢
    (try rw [hb9] at h59)
    clear hN hb hb9
    refine wpAnyH_ready (rs := [6]) (by kernel_rfl) (by simp) ?_
    refine AllReadyH.cons (o := _) rfl (fun K hK => ?_) AllReadyH.nil
    go_simp
    (try have h59 := World.block_lt_of_cell? _ _ HC9.out)
    (try dsimp only at h59)
    have hb := Below.alloc (Below.refl u8.heap.size u8) (Nat.le_refl _) (.cells #[] 3)
    have HOA := Lib.hid (show (u8.alloc (.cells #[] 3)).ownsRow wr.heap.size 3 1 (.slice (some ⟨u8.heap.size, 0, none⟩) 0 0) 0 [] from ⟨rfl, .inr ⟨u8.heap.size, 0, #[], rfl, HU.out.size, World.alloc_heap_new u8 _, Nat.le_refl _, by decide, rfl, rfl⟩⟩)
    (try have HC9 := Lib.hid ((hb.cell (p := ⟨b9, 0, none⟩) (World.block_lt_of_cell? _ _ HC9.out)).trans HC9.out))
    replace HU := Lib.hid (more HU.out (Nat.le_refl _) hb)
    refine hK.out _ _ (SF.out _ HU.out) (fun hHeld2 => ?_)
    clear hHeld2 hK K hHeld
    have hHeld := SF.out _ HU.out
    (try simp only [Act.put, qa, qb, qc, qd, qe, qf])
    obtain ⟨b5, hb5⟩ : ∃ q, u8.heap.size = q := ⟨_, rfl⟩
    obtain ⟨u9, hN⟩ : ∃ q, u8.alloc (.cells #[] 3) = q := ⟨_, rfl⟩
    rw [hN] at HOA HU hHeld ⊢
    (try rw [hN] at HC9)
    rw [hb5] at HOA ⊢
    (try rw [hb5] at h59)
    clear hN hb hb5
    refine wpAnyH_ready (rs := [8]) (by kernel_rfl) (by simp) ?_
    refine AllReadyH.cons (o := _) rfl (fun K hK => ?_) AllReadyH.nil
    refine step_clone_way (by rfl) (.tmp 35) (.tmp 36) (by rfl) wr.heap.size b5 (by rfl) HOA.out w0.heap.size g cw gn ab (by rfl) HGN.out ((HWG.out).later HU.out) (by omega) HU.out.size ?_
    intro b2 c2 u10 hw2 hg2
    replace HU := Lib.hid (HU.out.grown hg2 HU.out.size (fun k e => by cases e; exact (HOA.out.lt b5 rfl).1))
    (try replace HC9 := Lib.hid ((World.cell?_of_block (a := ⟨b9, 0, none⟩) (hg2.block b9 (World.block_lt_of_cell? _ _ HC9.out) (fun e => by injection e with e; omega))).trans HC9.out))
    have HW2 := Lib.hid hw2
    refine hK.out _ _ (SF.out _ HU.out) (fun hHeld2 => ?_)
    clear hHeld2 hK K hHeld
    have hHeld := SF.out _ HU.out
    (try simp only [Act.put, qa, qb, qc, qd, qe, qf])
    clear hw2 hg2
    refine wpAnyH_ready (rs := [12]) (by kernel_rfl) (by simp) ?_
    refine AllReadyH.cons (o := _) rfl (fun K hK => ?_) AllReadyH.nil
    refine step_add_way (by rfl) (.tmp 37) (.tmp 40) (by rfl) wr.heap.size b2 c2 gn ab (by rfl) HGN.out HW2.out ⟨b9, 0, none⟩ 1 tn (by rfl) HC9.out (by omega) HU.out.size ?_
    intro b3 c3 u11 hw3 hg3
    replace HU := Lib.hid (HU.out.grown hg3 HU.out.size (fun k e => by cases e; exact (HW2.out.lt b2 rfl).1))
    have HW3 := Lib.hid hw3
    refine hK.out _ _ (SF.out _ HU.out) (fun hHeld2 => ?_)
    clear hHeld2 hK K hHeld
    have hHeld := SF.out _ HU.out
    (try simp only [Act.put, qa, qb, qc, qd, qe, qf])
    clear hw3 hg3 HC9 HOA HW2
    exact hTail.out b5 b2 c2 b9 b3 c3 u11 ⟨HU.out, HW3.out⟩
   ·rintro b5 b2 c2 b9 b3 c3' u4 ⟨hbu, hw4⟩
    have hHeld := SF.out _ hbu
    have HBU := Lib.hid hbu
    have hszu := hbu.size
    have K5 := Lib.hid (KI.out b3 c3' u4 (by omega) (HLR.out.trans (hbu.mono HLR.out.size)) (row_mono hw4 HLR.out.size) (HF.out.below hbu) HP2.out HK2.out (HLW.out.below hbu) HCL.out.1 HCL.out.2)
    clear hbu hw4
    refine wpAnyH_ready (rs := [15]) (by kernel_rfl) (by simp) ?_
    refine AllReadyH.cons (o := _) rfl (fun K hK => ?_) AllReadyH.nil
    go_simp
    have K6 := K5.out
    rw [List.length_append, HGN.out, List.length_singleton] at K6
    refine K6.mono ?_
    rintro e w5 ⟨B5, d5, rfl, h5, hg5⟩
    obtain ⟨L5, hL5⟩ := HLW.out.own
    have hgr := (Gr.of_below HBU.out (.slice B' cur.length d')).trans hg5
    have ht5 := box_gr HT.out (by decide) hgr hL5
    have hub : (Value.slice B' cur.length d').ownBlock ≠ some b := fun e => by have := (World.ownsRow.lt hL5 b e).1; omega
    have hS5 : (fun w' : World => w'.cell? ⟨w.heap.size, 0, none⟩ = some (.int .i64 tn) ∧ w'.cell? ⟨w.heap.size, 4, none⟩ = some (.slice (some ⟨b, off, none⟩) n c1) ∧ w'.cell? ⟨b, off + k * 5, none⟩ = some (.int .i64 xt) ∧ w'.cell? ⟨b, off + k * 5 + 1, none⟩ = some (.int .i64 xk) ∧ w'.cell? ⟨b, off + k * 5 + 2, none⟩ = some (.string xs') ∧ w'.cell? ⟨b, off + k * 5 + 3, none⟩ = some (.slice B0 xp.length d0) ∧ w'.cell? ⟨b, off + k * 5 + 4, none⟩ = some (.slice B1 xq.length d1)) w5 := ⟨by rw [cell_of_row _ w.heap.size 0 _ _ _ ht5]; rfl, by rw [cell_of_row _ w.heap.size 4 _ _ _ ht5]; rfl, (hgr.cell hbr hub).trans e0, (hgr.cell hbr hub).trans e1, (hgr.cell hbr hub).trans e2, (hgr.cell hbr hub).trans e3, (hgr.cell hbr hub).trans e4⟩
    refine hK.out _ _ hS5 (fun hHeld2 => ?_)
    clear hHeld2 hK K hHeld
    have hHeld := hS5
    have HL5 := Lib.hid h5
    have HG5 := Lib.hid (HGR.out.trans hgr)
    have HT5 := Lib.hid ht5
    have HF5 := Lib.hid (HF.out.grown hL5 hgr.1)
    clear h5 hg5 hgr ht5 hS5 hub K6
    (try simp only [Act.put, qa, qb, qc, qd, qe, qf])
    refine wpAnyH_take (i := 16) (oi := _) (v := ?_) rfl (by kernel_rfl) (by kernel_rfl) (by kernel_rfl) (fun _ _ _ h => h) (Or.inl ⟨by kernel_rfl, ?_⟩) (by assumption) ?_
    rotate_left
    ·(intro w hSw; (try dsimp only at hSw); go_simp)
     try with_reducible rfl
    (try simp only [Act.put, qa, qb, qc, qd, qe, qf])
    refine wpAnyH_done (by kernel_rfl) ?_ _
    obtain ⟨q5, hq5⟩ : ∃ q, cur ++ lksT xs (natI (ab ++ [tn])) mk (.mk xt xk xs' xp xq) = q := ⟨_, rfl⟩
    rw [hq5] at HL5 HG5 ⊢
    have HQ5 := Lib.hid hq5
    clear hq5
    go_wp2_with fail
    go_roundw
    case rel => exact ⟨k + 1, q5, by omega, by go_num, ⟨B5, d5, by rw [← HQ5.out, List.length_append], HL5, HG5⟩, Lib.hid (by rw [← HQ5.out, natI_app, List.append_assoc]; exact HQ2.out), HT5, HF5⟩
    case measure => simp [intOf]; omega
  ·obtain rfl : k = n := by omega
   have hq := HQ.out
   rw [drop_none (by rw [HN.out]; omega), lksL_nil, List.append_nil] at hq
   have HQ3 := Lib.hid hq
   have a4 : wr.cell? ⟨w.heap.size, 4, none⟩ = some (.slice A1 k c1) := by rw [cell_of_row _ w.heap.size 4 _ _ _ HT.out]; rfl
   clear hq
   go_wp2_with fail
   rw [← HX.out, ← HQ3.out]
   exact ⟨B', d', rfl, HLW.out, HGR.out⟩
end Go.Proofs.YtmfibedcloknlaaGreatDoor

namespace Go.Proofs.YtmfibedcloknlaaGreatDoor
open Go.Joins Go.ChangeShapes Go.WideShapes Go.ChangeAt Go.RowKit Go.Deep
open List renaming getElem_toArray → qa, getElem_cons_zero → qb, getElem_cons_succ → qc, setIfInBounds_toArray → qd, set_cons_zero → qe, set_cons_succ → qf
set_option linter.unusedVariables false
set_option linter.unusedSimpArgs false

theorem later3 {P : Prop} {F G : Nat → Nat → Nat → World → Prop} (h : Hid (∀ a b c w, F a b c w → G a b c w) → P) (ht : ∀ a b c w, F a b c w → G a b c w) : P := h (Lib.hid ht)
set_option maxRecDepth 100000 in
set_option maxHeartbeats 8000000 in
theorem sLooksAll_any (t : Tr) (xs : List Ru) (rn : Nat) (hsm : SmT t) (hrn : xs.length = rn) (hrl : rn ≤ maxLen) : ∀ (A0 A1 RA : Option Addr) (c0 c1 rc : Nat) (w : World), PrL w A0 t.ps → TrL w 0 A1 t.ks → RuL w RA xs →
  Calls Tryz.prog 9 #[.agg #[.int .i64 t.tag, .int .i64 t.key, .string t.text, .slice A0 t.ps.length c0, .slice A1 t.ks.length c1], .slice RA rn rc] w (LkX (lookV xs t) w) := by
 intro A0 A1 RA c0 c1 rc w hp hk hr
 have k1 := fun w hp hk => svalidTree_any t hsm A0 A1 c0 c1 w hp hk
 have hb1 : Below w.heap.size w (w.alloc (.cells #[.int .i64 t.tag, .int .i64 t.key, .string t.text, .slice A0 t.ps.length c0, .slice A1 t.ks.length c1] 26)) := Below.alloc (Below.refl _ w) (Nat.le_refl _) _
 have a0 : (w.alloc (.cells #[.int .i64 t.tag, .int .i64 t.key, .string t.text, .slice A0 t.ps.length c0, .slice A1 t.ks.length c1] 26)).cell? ⟨w.heap.size, 0, none⟩ = some (.int .i64 t.tag) := by rw [World.cell?_alloc_new]; rfl
 have a1 : (w.alloc (.cells #[.int .i64 t.tag, .int .i64 t.key, .string t.text, .slice A0 t.ps.length c0, .slice A1 t.ks.length c1] 26)).cell? ⟨w.heap.size, 1, none⟩ = some (.int .i64 t.key) := by rw [World.cell?_alloc_new]; rfl
 have a2 : (w.alloc (.cells #[.int .i64 t.tag, .int .i64 t.key, .string t.text, .slice A0 t.ps.length c0, .slice A1 t.ks.length c1] 26)).cell? ⟨w.heap.size, 2, none⟩ = some (.string t.text) := by rw [World.cell?_alloc_new]; rfl
 have a3 : (w.alloc (.cells #[.int .i64 t.tag, .int .i64 t.key, .string t.text, .slice A0 t.ps.length c0, .slice A1 t.ks.length c1] 26)).cell? ⟨w.heap.size, 3, none⟩ = some (.slice A0 t.ps.length c0) := by rw [World.cell?_alloc_new]; rfl
 have a4 : (w.alloc (.cells #[.int .i64 t.tag, .int .i64 t.key, .string t.text, .slice A0 t.ps.length c0, .slice A1 t.ks.length c1] 26)).cell? ⟨w.heap.size, 4, none⟩ = some (.slice A1 t.ks.length c1) := by rw [World.cell?_alloc_new]; rfl
 have hz1 : w.heap.size < (w.alloc (.cells #[.int .i64 t.tag, .int .i64 t.key, .string t.text, .slice A0 t.ps.length c0, .slice A1 t.ks.length c1] 26)).heap.size := by simp
 obtain ⟨X, hX⟩ : ∃ X, LkX (lookV xs t) w = X := ⟨_, rfl⟩
 have HX := Lib.hid hX
 rw [hX]
 obtain ⟨w1, hw1⟩ : ∃ q, w.alloc (.cells #[.int .i64 t.tag, .int .i64 t.key, .string t.text, .slice A0 t.ps.length c0, .slice A1 t.ks.length c1] 26) = q := ⟨_, rfl⟩
 rw [hw1] at hb1 a0 a1 a2 a3 a4 hz1
 have K1 := Lib.hid (k1 w1 (hp.below hb1) (hk.below hb1))
 have HB1 := Lib.hid hb1
 have HP := Lib.hid hp
 have HK := Lib.hid hk
 have HR := Lib.hid hr
 have HSM := Lib.hid hsm
 have HRN := Lib.hid hrn
 have HW1 := Lib.hid hw1
 obtain ⟨ok, hok⟩ : ∃ v, treeOkB t = v := ⟨_, rfl⟩
 obtain ⟨ok2, hok2⟩ : ∃ v, rulesB xs = v := ⟨_, rfl⟩
 rw [hok] at K1
 have HOK := Lib.hid hok
 have HOK2 := Lib.hid hok2
 have K2 := Lib.hid (fun w (h : RuL w RA xs) => vrules_any RA rc rn xs w h hrn hrl)
 rw [hok2] at K2
 clear hw1 k1 hb1 hp hk hr hsm hX hok hok2 hrn
 obtain ⟨tag, key, text, ps, ks⟩ := t
 dsimp only [Tr.tag, Tr.key, Tr.text, Tr.ps, Tr.ks] at K1 HP HK HW1 a0 a1 a2 a3 a4 ⊢
 obtain ⟨np, hnp⟩ : ∃ n, ps.length = n := ⟨_, rfl⟩
 obtain ⟨n1, hnk⟩ : ∃ n, ks.length = n := ⟨_, rfl⟩
 rw [hnp] at K1 HW1 a3 ⊢
 rw [hnk] at K1 HW1 a4 ⊢
 have HNP := Lib.hid hnp
 have HNK := Lib.hid hnk
 clear hnp hnk
 go_enter Tryz.func9, Tryz.ntmps9
 go_wp2_with fail
 rw [HW1.out]
 refine K1.out.mono ?_
 rintro e w2 ⟨rfl, hb⟩
 replace a0 := (hb.cell (p := ⟨w.heap.size, 0, none⟩) hz1).trans a0
 replace a1 := (hb.cell (p := ⟨w.heap.size, 1, none⟩) hz1).trans a1
 replace a2 := (hb.cell (p := ⟨w.heap.size, 2, none⟩) hz1).trans a2
 replace a3 := (hb.cell (p := ⟨w.heap.size, 3, none⟩) hz1).trans a3
 replace a4 := (hb.cell (p := ⟨w.heap.size, 4, none⟩) hz1).trans a4
 have HB2 := Lib.hid (more HB1.out (Nat.le_refl _) hb)
 have hz2 := Nat.lt_of_lt_of_le hz1 hb.size
 clear hb K1 hz1 HW1 HB1
 cases ok
 ·have HV := Lib.hid (show lookV xs (.mk tag key text ps ks) = [] by unfold lookV; rw [HOK.out]; rfl)
  go_wp2_with fail
  rw [← HX.out, HV.out]
  exact lkx_nil HB2.out
 go_wp2_with fail
 refine (K2.out _ (HR.out.below HB2.out)).mono ?_
 rintro e w3 ⟨rfl, hb⟩
 replace a0 := (hb.cell (p := ⟨w.heap.size, 0, none⟩) hz2).trans a0
 replace a1 := (hb.cell (p := ⟨w.heap.size, 1, none⟩) hz2).trans a1
 replace a2 := (hb.cell (p := ⟨w.heap.size, 2, none⟩) hz2).trans a2
 replace a3 := (hb.cell (p := ⟨w.heap.size, 3, none⟩) hz2).trans a3
 replace a4 := (hb.cell (p := ⟨w.heap.size, 4, none⟩) hz2).trans a4
 have HB3 := Lib.hid (more HB2.out (Nat.le_refl _) hb)
 have hz3 := Nat.lt_of_lt_of_le hz2 hb.size
 clear hb K2 hz2 HB2
 cases ok2
 ·have HV := Lib.hid (show lookV xs (.mk tag key text ps ks) = [] by unfold lookV; rw [HOK.out, HOK2.out]; rfl)
  go_wp2_with fail
  rw [← HX.out, HV.out]
  exact lkx_nil HB3.out
 have HV := Lib.hid (show lookV xs (.mk tag key text ps ks) = lksT xs [] 0 (.mk tag key text ps ks) by unfold lookV; rw [HOK.out, HOK2.out]; rfl)
 have hro := rules_ok HOK2.out
 have HRO := Lib.hid hro.2
 have hr12 : rn ≤ 12 := by rw [← HRN.out]; exact hro.1
 have HVP := Lib.hid (vp_of_ok HOK.out)
 have HSZ := Lib.hid (size_small9 HOK.out)
 have HSAME := Lib.hid HV.out.symm
 obtain ⟨xss, hxss⟩ : ∃ q, lookV xs (.mk tag key text ps ks) = q := ⟨_, rfl⟩
 rw [hxss] at HSAME HX
 have SF := Lib.hid (show ∀ u, Below w3.heap.size w3 u → (fun w' : World => w'.cell? ⟨w.heap.size, 0, none⟩ = some (.int .i64 tag) ∧ w'.cell? ⟨w.heap.size, 1, none⟩ = some (.int .i64 key) ∧ w'.cell? ⟨w.heap.size, 2, none⟩ = some (.string text) ∧ w'.cell? ⟨w.heap.size, 3, none⟩ = some (.slice A0 np c0) ∧ w'.cell? ⟨w.heap.size, 4, none⟩ = some (.slice A1 n1 c1)) u from fun u hu => ⟨(hu.cell (p := ⟨w.heap.size, 0, none⟩) hz3).trans a0, (hu.cell (p := ⟨w.heap.size, 1, none⟩) hz3).trans a1, (hu.cell (p := ⟨w.heap.size, 2, none⟩) hz3).trans a2, (hu.cell (p := ⟨w.heap.size, 3, none⟩) hz3).trans a3, (hu.cell (p := ⟨w.heap.size, 4, none⟩) hz3).trans a4⟩)
 clear hro hxss
 go_wp2_with fail
 apply later3 (F := fun b2 b3 b4 u => Below w3.heap.size w3 u ∧ WayR w3.heap.size u (some ⟨b2, 0, none⟩) 0 [] ∧ LkR u w3.heap.size ⟨b3, 5, [0, 0, 0, 0, 0]⟩ ∧ LkW [] w3.heap.size (some ⟨b4, 0, none⟩) 0 u)
 ·intro hTail
  have HU := Lib.hid (Below.drew (Below.refl w3.heap.size w3))
  refine wp_region_held_drew (S := (fun w' : World => w'.cell? ⟨w.heap.size, 0, none⟩ = some (.int .i64 tag) ∧ w'.cell? ⟨w.heap.size, 1, none⟩ = some (.int .i64 key) ∧ w'.cell? ⟨w.heap.size, 2, none⟩ = some (.string text) ∧ w'.cell? ⟨w.heap.size, 3, none⟩ = some (.slice A0 np c0) ∧ w'.cell? ⟨w.heap.size, 4, none⟩ = some (.slice A1 n1 c1))) (by kernel_rfl) (SF.out _ HU.out) (fun hHeld => ?_)
  obtain ⟨u0, hu0⟩ : ∃ q, w3.drew = q := ⟨_, rfl⟩
  rw [hu0] at HU hHeld ⊢
  clear hu0
  refine wpAnyH_take (i := 0) (oi := _) (v := ?_) rfl (by kernel_rfl) (by kernel_rfl) (by kernel_rfl) (fun _ _ _ h => h) (Or.inl ⟨by kernel_rfl, ?_⟩) (by assumption) ?_
  rotate_left
  ·(intro w hSw; (try dsimp only at hSw); go_simp)
   try with_reducible rfl
  (try simp only [Act.put, qa, qb, qc, qd, qe, qf])
  refine wpAnyH_take (i := 1) (oi := _) (v := ?_) rfl (by kernel_rfl) (by kernel_rfl) (by kernel_rfl) (fun _ _ _ h => h) (Or.inl ⟨by kernel_rfl, ?_⟩) (by assumption) ?_
  rotate_left
  ·(intro w hSw; (try dsimp only at hSw); go_simp)
   try with_reducible rfl
  (try simp only [Act.put, qa, qb, qc, qd, qe, qf])
  refine wpAnyH_ready (rs := [2, 3, 4]) (by kernel_rfl) (by simp) ?_
  refine AllReadyH.cons (o := _) rfl (fun K hK => ?_) ?_
  ·skip
   go_simp
   have HA := Lib.hid (show WayR w3.heap.size (u0.alloc (.cells #[] 3)) (some ⟨u0.heap.size, 0, none⟩) 0 [] from ⟨rfl, .inr ⟨_, 0, #[], rfl, HU.out.size, World.alloc_heap_new _ _, Nat.le_refl _, by decide, rfl, rfl⟩⟩)
   have hb := Below.alloc (Below.refl u0.heap.size u0) (Nat.le_refl _) (.cells #[] 3)
   replace HU := Lib.hid (more HU.out (Nat.le_refl _) hb)
   (try replace HZ5 := Lib.hid (HZ5.out.below hb))
   (try replace HL0 := Lib.hid (HL0.out.below hb))
   refine hK.out _ _ (SF.out _ HU.out) (fun hHeld2 => ?_)
   clear hHeld2 hK K hHeld
   have hHeld := SF.out _ HU.out
   (try simp only [Act.put, qa, qb, qc, qd, qe, qf])
   obtain ⟨b2, hb5⟩ : ∃ q, u0.heap.size = q := ⟨_, rfl⟩
   obtain ⟨u1, hN⟩ : ∃ q, u0.alloc (.cells #[] 3) = q := ⟨_, rfl⟩
   rw [hN] at HU hHeld ⊢
   (try rw [hN] at HA)
   (try rw [hN] at HZ5)
   (try rw [hN] at HL0)
   rw [hb5] at HA ⊢
   clear hN hb hb5
   refine wpAnyH_ready (rs := [3, 4]) (by kernel_rfl) (by simp) ?_
   refine AllReadyH.cons (o := _) rfl (fun K hK => ?_) ?_
   ·skip
    have hmk := make5
    go_simp
    have HZ5 := Lib.hid (show LkR (u1.alloc (.cells #[.int .i64 0, .int .i64 0, .int .i64 0, .int .i64 0, .int .i64 0] 3)) w3.heap.size ⟨u1.heap.size, 5, [0, 0, 0, 0, 0]⟩ from lkr_lit _ [0, 0, 0, 0, 0] rfl HU.out.size)
    have hb := Below.alloc (Below.refl u1.heap.size u1) (Nat.le_refl _) (.cells #[.int .i64 0, .int .i64 0, .int .i64 0, .int .i64 0, .int .i64 0] 3)
    replace HU := Lib.hid (more HU.out (Nat.le_refl _) hb)
    (try replace HA := Lib.hid (HA.out.later hb))
    (try replace HL0 := Lib.hid (HL0.out.below hb))
    refine hK.out _ _ (SF.out _ HU.out) (fun hHeld2 => ?_)
    clear hHeld2 hK K hHeld
    have hHeld := SF.out _ HU.out
    (try simp only [Act.put, qa, qb, qc, qd, qe, qf])
    obtain ⟨b3, hb5⟩ : ∃ q, u1.heap.size = q := ⟨_, rfl⟩
    obtain ⟨u2, hN⟩ : ∃ q, u1.alloc (.cells #[.int .i64 0, .int .i64 0, .int .i64 0, .int .i64 0, .int .i64 0] 3) = q := ⟨_, rfl⟩
    rw [hN] at HU hHeld ⊢
    (try rw [hN] at HA)
    (try rw [hN] at HZ5)
    (try rw [hN] at HL0)
    rw [hb5] at HZ5 ⊢
    clear hN hb hb5
    refine wpAnyH_ready (rs := [4]) (by kernel_rfl) (by simp) ?_
    refine AllReadyH.cons (o := _) rfl (fun K hK => ?_) AllReadyH.nil
    go_simp
    have HL0 := Lib.hid (show LkW [] w3.heap.size (some ⟨u2.heap.size, 0, none⟩) 0 (u2.alloc (.cells #[] 36)) from ⟨[], rfl, ⟨rfl, .inr ⟨_, 0, #[], rfl, HU.out.size, World.alloc_heap_new _ _, Nat.le_refl _, by decide, rfl, rfl⟩⟩, by simp, List.Pairwise.nil⟩)
    have hb := Below.alloc (Below.refl u2.heap.size u2) (Nat.le_refl _) (.cells #[] 36)
    replace HU := Lib.hid (more HU.out (Nat.le_refl _) hb)
    (try replace HA := Lib.hid (HA.out.later hb))
    (try replace HZ5 := Lib.hid (HZ5.out.below hb))
    refine hK.out _ _ (SF.out _ HU.out) (fun hHeld2 => ?_)
    clear hHeld2 hK K hHeld
    have hHeld := SF.out _ HU.out
    (try simp only [Act.put, qa, qb, qc, qd, qe, qf])
    obtain ⟨b4, hb5⟩ : ∃ q, u2.heap.size = q := ⟨_, rfl⟩
    obtain ⟨u3, hN⟩ : ∃ q, u2.alloc (.cells #[] 36) = q := ⟨_, rfl⟩
    rw [hN] at HU hHeld ⊢
    (try rw [hN] at HA)
    (try rw [hN] at HZ5)
    (try rw [hN] at HL0)
    rw [hb5] at HL0 ⊢
    clear hN hb hb5
    exact hTail.out b2 b3 b4 u3 ⟨HU.out, HA.out, HZ5.out, HL0.out⟩
   refine AllReadyH.cons (o := _) rfl (fun K hK => ?_) AllReadyH.nil
   go_simp
   have HL0 := Lib.hid (show LkW [] w3.heap.size (some ⟨u1.heap.size, 0, none⟩) 0 (u1.alloc (.cells #[] 36)) from ⟨[], rfl, ⟨rfl, .inr ⟨_, 0, #[], rfl, HU.out.size, World.alloc_heap_new _ _, Nat.le_refl _, by decide, rfl, rfl⟩⟩, by simp, List.Pairwise.nil⟩)
   have hb := Below.alloc (Below.refl u1.heap.size u1) (Nat.le_refl _) (.cells #[] 36)
   replace HU := Lib.hid (more HU.out (Nat.le_refl _) hb)
   (try replace HA := Lib.hid (HA.out.later hb))
   (try replace HZ5 := Lib.hid (HZ5.out.below hb))
   refine hK.out _ _ (SF.out _ HU.out) (fun hHeld2 => ?_)
   clear hHeld2 hK K hHeld
   have hHeld := SF.out _ HU.out
   (try simp only [Act.put, qa, qb, qc, qd, qe, qf])
   obtain ⟨b4, hb5⟩ : ∃ q, u1.heap.size = q := ⟨_, rfl⟩
   obtain ⟨u4, hN⟩ : ∃ q, u1.alloc (.cells #[] 36) = q := ⟨_, rfl⟩
   rw [hN] at HU hHeld ⊢
   (try rw [hN] at HA)
   (try rw [hN] at HZ5)
   (try rw [hN] at HL0)
   rw [hb5] at HL0 ⊢
   clear hN hb hb5
   refine wpAnyH_ready (rs := [3]) (by kernel_rfl) (by simp) ?_
   refine AllReadyH.cons (o := _) rfl (fun K hK => ?_) AllReadyH.nil
   have hmk := make5
   go_simp
   have HZ5 := Lib.hid (show LkR (u4.alloc (.cells #[.int .i64 0, .int .i64 0, .int .i64 0, .int .i64 0, .int .i64 0] 3)) w3.heap.size ⟨u4.heap.size, 5, [0, 0, 0, 0, 0]⟩ from lkr_lit _ [0, 0, 0, 0, 0] rfl HU.out.size)
   have hb := Below.alloc (Below.refl u4.heap.size u4) (Nat.le_refl _) (.cells #[.int .i64 0, .int .i64 0, .int .i64 0, .int .i64 0, .int .i64 0] 3)
   replace HU := Lib.hid (more HU.out (Nat.le_refl _) hb)
   (try replace HA := Lib.hid (HA.out.later hb))
   (try replace HL0 := Lib.hid (HL0.out.below hb))
   refine hK.out _ _ (SF.out _ HU.out) (fun hHeld2 => ?_)
   clear hHeld2 hK K hHeld
   have hHeld := SF.out _ HU.out
   (try simp only [Act.put, qa, qb, qc, qd, qe, qf])
   obtain ⟨b3, hb5⟩ : ∃ q, u4.heap.size = q := ⟨_, rfl⟩
   obtain ⟨u5, hN⟩ : ∃ q, u4.alloc (.cells #[.int .i64 0, .int .i64 0, .int .i64 0, .int .i64 0, .int .i64 0] 3) = q := ⟨_, rfl⟩
   rw [hN] at HU hHeld ⊢
   (try rw [hN] at HA)
   (try rw [hN] at HZ5)
   (try rw [hN] at HL0)
   rw [hb5] at HZ5 ⊢
   clear hN hb hb5
   exact hTail.out b2 b3 b4 u5 ⟨HU.out, HA.out, HZ5.out, HL0.out⟩
  refine AllReadyH.cons (o := _) rfl (fun K hK => ?_) ?_
  ·skip
   have hmk := make5
   go_simp
   have HZ5 := Lib.hid (show LkR (u0.alloc (.cells #[.int .i64 0, .int .i64 0, .int .i64 0, .int .i64 0, .int .i64 0] 3)) w3.heap.size ⟨u0.heap.size, 5, [0, 0, 0, 0, 0]⟩ from lkr_lit _ [0, 0, 0, 0, 0] rfl HU.out.size)
   have hb := Below.alloc (Below.refl u0.heap.size u0) (Nat.le_refl _) (.cells #[.int .i64 0, .int .i64 0, .int .i64 0, .int .i64 0, .int .i64 0] 3)
   replace HU := Lib.hid (more HU.out (Nat.le_refl _) hb)
   (try replace HA := Lib.hid (HA.out.later hb))
   (try replace HL0 := Lib.hid (HL0.out.below hb))
   refine hK.out _ _ (SF.out _ HU.out) (fun hHeld2 => ?_)
   clear hHeld2 hK K hHeld
   have hHeld := SF.out _ HU.out
   (try simp only [Act.put, qa, qb, qc, qd, qe, qf])
   obtain ⟨b3, hb5⟩ : ∃ q, u0.heap.size = q := ⟨_, rfl⟩
   obtain ⟨u6, hN⟩ : ∃ q, u0.alloc (.cells #[.int .i64 0, .int .i64 0, .int .i64 0, .int .i64 0, .int .i64 0] 3) = q := ⟨_, rfl⟩
   rw [hN] at HU hHeld ⊢
   (try rw [hN] at HA)
   (try rw [hN] at HZ5)
   (try rw [hN] at HL0)
   rw [hb5] at HZ5 ⊢
   clear hN hb hb5
   refine wpAnyH_ready (rs := [2, 4]) (by kernel_rfl) (by simp) ?_
   refine AllReadyH.cons (o := _) rfl (fun K hK => ?_) ?_
   ·skip
    go_simp
    have HA := Lib.hid (show WayR w3.heap.size (u6.alloc (.cells #[] 3)) (some ⟨u6.heap.size, 0, none⟩) 0 [] from ⟨rfl, .inr ⟨_, 0, #[], rfl, HU.out.size, World.alloc_heap_new _ _, Nat.le_refl _, by decide, rfl, rfl⟩⟩)
    have hb := Below.alloc (Below.refl u6.heap.size u6) (Nat.le_refl _) (.cells #[] 3)
    replace HU := Lib.hid (more HU.out (Nat.le_refl _) hb)
    (try replace HZ5 := Lib.hid (HZ5.out.below hb))
    (try replace HL0 := Lib.hid (HL0.out.below hb))
    refine hK.out _ _ (SF.out _ HU.out) (fun hHeld2 => ?_)
    clear hHeld2 hK K hHeld
    have hHeld := SF.out _ HU.out
    (try simp only [Act.put, qa, qb, qc, qd, qe, qf])
    obtain ⟨b2, hb5⟩ : ∃ q, u6.heap.size = q := ⟨_, rfl⟩
    obtain ⟨u7, hN⟩ : ∃ q, u6.alloc (.cells #[] 3) = q := ⟨_, rfl⟩
    rw [hN] at HU hHeld ⊢
    (try rw [hN] at HA)
    (try rw [hN] at HZ5)
    (try rw [hN] at HL0)
    rw [hb5] at HA ⊢
    clear hN hb hb5
    refine wpAnyH_ready (rs := [4]) (by kernel_rfl) (by simp) ?_
    refine AllReadyH.cons (o := _) rfl (fun K hK => ?_) AllReadyH.nil
    go_simp
    have HL0 := Lib.hid (show LkW [] w3.heap.size (some ⟨u7.heap.size, 0, none⟩) 0 (u7.alloc (.cells #[] 36)) from ⟨[], rfl, ⟨rfl, .inr ⟨_, 0, #[], rfl, HU.out.size, World.alloc_heap_new _ _, Nat.le_refl _, by decide, rfl, rfl⟩⟩, by simp, List.Pairwise.nil⟩)
    have hb := Below.alloc (Below.refl u7.heap.size u7) (Nat.le_refl _) (.cells #[] 36)
    replace HU := Lib.hid (more HU.out (Nat.le_refl _) hb)
    (try replace HA := Lib.hid (HA.out.later hb))
    (try replace HZ5 := Lib.hid (HZ5.out.below hb))
    refine hK.out _ _ (SF.out _ HU.out) (fun hHeld2 => ?_)
    clear hHeld2 hK K hHeld
    have hHeld := SF.out _ HU.out
    (try simp only [Act.put, qa, qb, qc, qd, qe, qf])
    obtain ⟨b4, hb5⟩ : ∃ q, u7.heap.size = q := ⟨_, rfl⟩
    obtain ⟨u8, hN⟩ : ∃ q, u7.alloc (.cells #[] 36) = q := ⟨_, rfl⟩
    rw [hN] at HU hHeld ⊢
    (try rw [hN] at HA)
    (try rw [hN] at HZ5)
    (try rw [hN] at HL0)
    rw [hb5] at HL0 ⊢
    clear hN hb hb5
    exact hTail.out b2 b3 b4 u8 ⟨HU.out, HA.out, HZ5.out, HL0.out⟩
   refine AllReadyH.cons (o := _) rfl (fun K hK => ?_) AllReadyH.nil
   go_simp
   have HL0 := Lib.hid (show LkW [] w3.heap.size (some ⟨u6.heap.size, 0, none⟩) 0 (u6.alloc (.cells #[] 36)) from ⟨[], rfl, ⟨rfl, .inr ⟨_, 0, #[], rfl, HU.out.size, World.alloc_heap_new _ _, Nat.le_refl _, by decide, rfl, rfl⟩⟩, by simp, List.Pairwise.nil⟩)
   have hb := Below.alloc (Below.refl u6.heap.size u6) (Nat.le_refl _) (.cells #[] 36)
   replace HU := Lib.hid (more HU.out (Nat.le_refl _) hb)
   (try replace HA := Lib.hid (HA.out.later hb))
   (try replace HZ5 := Lib.hid (HZ5.out.below hb))
   refine hK.out _ _ (SF.out _ HU.out) (fun hHeld2 => ?_)
   clear hHeld2 hK K hHeld
   have hHeld := SF.out _ HU.out
   (try simp only [Act.put, qa, qb, qc, qd, qe, qf])
   obtain ⟨b4, hb5⟩ : ∃ q, u6.heap.size = q := ⟨_, rfl⟩
   obtain ⟨u9, hN⟩ : ∃ q, u6.alloc (.cells #[] 36) = q := ⟨_, rfl⟩
   rw [hN] at HU hHeld ⊢
   (try rw [hN] at HA)
   (try rw [hN] at HZ5)
   (try rw [hN] at HL0)
   rw [hb5] at HL0 ⊢
   clear hN hb hb5
   refine wpAnyH_ready (rs := [2]) (by kernel_rfl) (by simp) ?_
   refine AllReadyH.cons (o := _) rfl (fun K hK => ?_) AllReadyH.nil
   go_simp
   have HA := Lib.hid (show WayR w3.heap.size (u9.alloc (.cells #[] 3)) (some ⟨u9.heap.size, 0, none⟩) 0 [] from ⟨rfl, .inr ⟨_, 0, #[], rfl, HU.out.size, World.alloc_heap_new _ _, Nat.le_refl _, by decide, rfl, rfl⟩⟩)
   have hb := Below.alloc (Below.refl u9.heap.size u9) (Nat.le_refl _) (.cells #[] 3)
   replace HU := Lib.hid (more HU.out (Nat.le_refl _) hb)
   (try replace HZ5 := Lib.hid (HZ5.out.below hb))
   (try replace HL0 := Lib.hid (HL0.out.below hb))
   refine hK.out _ _ (SF.out _ HU.out) (fun hHeld2 => ?_)
   clear hHeld2 hK K hHeld
   have hHeld := SF.out _ HU.out
   (try simp only [Act.put, qa, qb, qc, qd, qe, qf])
   obtain ⟨b2, hb5⟩ : ∃ q, u9.heap.size = q := ⟨_, rfl⟩
   obtain ⟨u10, hN⟩ : ∃ q, u9.alloc (.cells #[] 3) = q := ⟨_, rfl⟩
   rw [hN] at HU hHeld ⊢
   (try rw [hN] at HA)
   (try rw [hN] at HZ5)
   (try rw [hN] at HL0)
   rw [hb5] at HA ⊢
   clear hN hb hb5
   exact hTail.out b2 b3 b4 u10 ⟨HU.out, HA.out, HZ5.out, HL0.out⟩
  refine AllReadyH.cons (o := _) rfl (fun K hK => ?_) AllReadyH.nil
  go_simp
  have HL0 := Lib.hid (show LkW [] w3.heap.size (some ⟨u0.heap.size, 0, none⟩) 0 (u0.alloc (.cells #[] 36)) from ⟨[], rfl, ⟨rfl, .inr ⟨_, 0, #[], rfl, HU.out.size, World.alloc_heap_new _ _, Nat.le_refl _, by decide, rfl, rfl⟩⟩, by simp, List.Pairwise.nil⟩)
  have hb := Below.alloc (Below.refl u0.heap.size u0) (Nat.le_refl _) (.cells #[] 36)
  replace HU := Lib.hid (more HU.out (Nat.le_refl _) hb)
  (try replace HA := Lib.hid (HA.out.later hb))
  (try replace HZ5 := Lib.hid (HZ5.out.below hb))
  refine hK.out _ _ (SF.out _ HU.out) (fun hHeld2 => ?_)
  clear hHeld2 hK K hHeld
  have hHeld := SF.out _ HU.out
  (try simp only [Act.put, qa, qb, qc, qd, qe, qf])
  obtain ⟨b4, hb5⟩ : ∃ q, u0.heap.size = q := ⟨_, rfl⟩
  obtain ⟨u11, hN⟩ : ∃ q, u0.alloc (.cells #[] 36) = q := ⟨_, rfl⟩
  rw [hN] at HU hHeld ⊢
  (try rw [hN] at HA)
  (try rw [hN] at HZ5)
  (try rw [hN] at HL0)
  rw [hb5] at HL0 ⊢
  clear hN hb hb5
  refine wpAnyH_ready (rs := [2, 3]) (by kernel_rfl) (by simp) ?_
  refine AllReadyH.cons (o := _) rfl (fun K hK => ?_) ?_
  ·skip
   go_simp
   have HA := Lib.hid (show WayR w3.heap.size (u11.alloc (.cells #[] 3)) (some ⟨u11.heap.size, 0, none⟩) 0 [] from ⟨rfl, .inr ⟨_, 0, #[], rfl, HU.out.size, World.alloc_heap_new _ _, Nat.le_refl _, by decide, rfl, rfl⟩⟩)
   have hb := Below.alloc (Below.refl u11.heap.size u11) (Nat.le_refl _) (.cells #[] 3)
   replace HU := Lib.hid (more HU.out (Nat.le_refl _) hb)
   (try replace HZ5 := Lib.hid (HZ5.out.below hb))
   (try replace HL0 := Lib.hid (HL0.out.below hb))
   refine hK.out _ _ (SF.out _ HU.out) (fun hHeld2 => ?_)
   clear hHeld2 hK K hHeld
   have hHeld := SF.out _ HU.out
   (try simp only [Act.put, qa, qb, qc, qd, qe, qf])
   obtain ⟨b2, hb5⟩ : ∃ q, u11.heap.size = q := ⟨_, rfl⟩
   obtain ⟨u12, hN⟩ : ∃ q, u11.alloc (.cells #[] 3) = q := ⟨_, rfl⟩
   rw [hN] at HU hHeld ⊢
   (try rw [hN] at HA)
   (try rw [hN] at HZ5)
   (try rw [hN] at HL0)
   rw [hb5] at HA ⊢
   clear hN hb hb5
   refine wpAnyH_ready (rs := [3]) (by kernel_rfl) (by simp) ?_
   refine AllReadyH.cons (o := _) rfl (fun K hK => ?_) AllReadyH.nil
   have hmk := make5
   go_simp
   have HZ5 := Lib.hid (show LkR (u12.alloc (.cells #[.int .i64 0, .int .i64 0, .int .i64 0, .int .i64 0, .int .i64 0] 3)) w3.heap.size ⟨u12.heap.size, 5, [0, 0, 0, 0, 0]⟩ from lkr_lit _ [0, 0, 0, 0, 0] rfl HU.out.size)
   have hb := Below.alloc (Below.refl u12.heap.size u12) (Nat.le_refl _) (.cells #[.int .i64 0, .int .i64 0, .int .i64 0, .int .i64 0, .int .i64 0] 3)
   replace HU := Lib.hid (more HU.out (Nat.le_refl _) hb)
   (try replace HA := Lib.hid (HA.out.later hb))
   (try replace HL0 := Lib.hid (HL0.out.below hb))
   refine hK.out _ _ (SF.out _ HU.out) (fun hHeld2 => ?_)
   clear hHeld2 hK K hHeld
   have hHeld := SF.out _ HU.out
   (try simp only [Act.put, qa, qb, qc, qd, qe, qf])
   obtain ⟨b3, hb5⟩ : ∃ q, u12.heap.size = q := ⟨_, rfl⟩
   obtain ⟨u13, hN⟩ : ∃ q, u12.alloc (.cells #[.int .i64 0, .int .i64 0, .int .i64 0, .int .i64 0, .int .i64 0] 3) = q := ⟨_, rfl⟩
   rw [hN] at HU hHeld ⊢
   (try rw [hN] at HA)
   (try rw [hN] at HZ5)
   (try rw [hN] at HL0)
   rw [hb5] at HZ5 ⊢
   clear hN hb hb5
   exact hTail.out b2 b3 b4 u13 ⟨HU.out, HA.out, HZ5.out, HL0.out⟩
  refine AllReadyH.cons (o := _) rfl (fun K hK => ?_) AllReadyH.nil
  have hmk := make5
  go_simp
  have HZ5 := Lib.hid (show LkR (u11.alloc (.cells #[.int .i64 0, .int .i64 0, .int .i64 0, .int .i64 0, .int .i64 0] 3)) w3.heap.size ⟨u11.heap.size, 5, [0, 0, 0, 0, 0]⟩ from lkr_lit _ [0, 0, 0, 0, 0] rfl HU.out.size)
  have hb := Below.alloc (Below.refl u11.heap.size u11) (Nat.le_refl _) (.cells #[.int .i64 0, .int .i64 0, .int .i64 0, .int .i64 0, .int .i64 0] 3)
  replace HU := Lib.hid (more HU.out (Nat.le_refl _) hb)
  (try replace HA := Lib.hid (HA.out.later hb))
  (try replace HL0 := Lib.hid (HL0.out.below hb))
  refine hK.out _ _ (SF.out _ HU.out) (fun hHeld2 => ?_)
  clear hHeld2 hK K hHeld
  have hHeld := SF.out _ HU.out
  (try simp only [Act.put, qa, qb, qc, qd, qe, qf])
  obtain ⟨b3, hb5⟩ : ∃ q, u11.heap.size = q := ⟨_, rfl⟩
  obtain ⟨u14, hN⟩ : ∃ q, u11.alloc (.cells #[.int .i64 0, .int .i64 0, .int .i64 0, .int .i64 0, .int .i64 0] 3) = q := ⟨_, rfl⟩
  rw [hN] at HU hHeld ⊢
  (try rw [hN] at HA)
  (try rw [hN] at HZ5)
  (try rw [hN] at HL0)
  rw [hb5] at HZ5 ⊢
  clear hN hb hb5
  refine wpAnyH_ready (rs := [2]) (by kernel_rfl) (by simp) ?_
  refine AllReadyH.cons (o := _) rfl (fun K hK => ?_) AllReadyH.nil
  go_simp
  have HA := Lib.hid (show WayR w3.heap.size (u14.alloc (.cells #[] 3)) (some ⟨u14.heap.size, 0, none⟩) 0 [] from ⟨rfl, .inr ⟨_, 0, #[], rfl, HU.out.size, World.alloc_heap_new _ _, Nat.le_refl _, by decide, rfl, rfl⟩⟩)
  have hb := Below.alloc (Below.refl u14.heap.size u14) (Nat.le_refl _) (.cells #[] 3)
  replace HU := Lib.hid (more HU.out (Nat.le_refl _) hb)
  (try replace HZ5 := Lib.hid (HZ5.out.below hb))
  (try replace HL0 := Lib.hid (HL0.out.below hb))
  refine hK.out _ _ (SF.out _ HU.out) (fun hHeld2 => ?_)
  clear hHeld2 hK K hHeld
  have hHeld := SF.out _ HU.out
  (try simp only [Act.put, qa, qb, qc, qd, qe, qf])
  obtain ⟨b2, hb5⟩ : ∃ q, u14.heap.size = q := ⟨_, rfl⟩
  obtain ⟨u15, hN⟩ : ∃ q, u14.alloc (.cells #[] 3) = q := ⟨_, rfl⟩
  rw [hN] at HU hHeld ⊢
  (try rw [hN] at HA)
  (try rw [hN] at HZ5)
  (try rw [hN] at HL0)
  rw [hb5] at HA ⊢
  clear hN hb hb5
  exact hTail.out b2 b3 b4 u15 ⟨HU.out, HA.out, HZ5.out, HL0.out⟩
 ·rintro b2 b3 b4 u ⟨hbu, ha, hz5, hl0⟩
  have hHeld := SF.out _ hbu
  have HBU := Lib.hid hbu
  have HA := Lib.hid ha
  have HZ5 := Lib.hid hz5
  have HL0 := Lib.hid hl0
  have hszu := hbu.size
  clear hbu ha hz5 hl0
  refine wpAnyH_ready (rs := [5]) (by kernel_rfl) (by simp) ?_
  refine AllReadyH.cons (o := _) rfl (fun K hK => ?_) AllReadyH.nil
  go_simp
  have hlk := sall_any shownB xs rn HRN.out hr12 HRO.out w3 w3.heap.size (Nat.le_refl _) RA rc (HR.out.below HB3.out) (.mk tag key text ps ks) HVP.out HSM.out [] b2 0 b3 5 [0, 0, 0, 0, 0] 0 A0 A1 c0 c1 [] (some ⟨b4, 0, none⟩) 0 u hszu HBU.out HA.out HZ5.out rfl rfl (HP.out.below HB3.out) (HK.out.below HB3.out) HL0.out (by have := HSZ.out; simp only [List.length_nil]; omega) (by have := HSZ.out; simp only [List.length_nil]; omega)
  dsimp only [Tr.tag, Tr.key, Tr.text, Tr.ps, Tr.ks, List.length_nil] at hlk
  rw [HNP.out, HNK.out, List.nil_append, show natI [] = [] from rfl, HSAME.out] at hlk
  refine hlk.mono ?_
  rintro e w5 ⟨B5, d5, rfl, h5, hg5⟩
  have hbl4 : ∀ g, (Value.slice (some ⟨b4, 0, none⟩) 0 0).ownBlock = some g → w3.heap.size ≤ g := fun g e => by
   obtain ⟨L, hL⟩ := HL0.out.own
   exact (World.ownsRow.lt hL g e).1
  have hb5 : Below w3.heap.size w3 w5 := HBU.out.trans (hg5.below hszu hbl4)
  have HX5 := Lib.hid (show LkX xss w (.returned (.slice B5 xss.length d5)) w5 by
   obtain ⟨rs, q1, q2, q3, q4⟩ := h5
   have hsz := HB3.out.size
   exact ⟨B5, d5, rfl, ⟨rs, q1, row_mono q2 hsz, fun r hr => (q3 r hr).mono hsz, q4⟩, more HB3.out (Nat.le_refl _) hb5⟩)
  refine hK.out _ _ (SF.out _ hb5) (fun hHeld2 => ?_)
  have hHeld3 := SF.out _ hb5
  clear hHeld2 hK K hHeld h5 hg5 hb5 hlk hbl4
  have hHeld := hHeld3
  clear hHeld3
  (try simp only [Act.put, qa, qb, qc, qd, qe, qf])
  refine wpAnyH_take (i := 6) (oi := _) (v := ?_) rfl (by kernel_rfl) (by kernel_rfl) (by kernel_rfl) (fun _ _ _ h => h) (Or.inl ⟨by kernel_rfl, ?_⟩) (by assumption) ?_
  rotate_left
  ·(intro w hSw; (try dsimp only at hSw); go_simp)
   try with_reducible rfl
  (try simp only [Act.put, qa, qb, qc, qd, qe, qf])
  refine wpAnyH_done (by kernel_rfl) ?_ _
  go_wp2_with fail
  rw [← HX.out]
  exact HX5.out
end Go.Proofs.YtmfibedcloknlaaGreatDoor

namespace Go.Proofs.YtmfibedcloknlaaGreatDoor
open Go.Joins Go.ChangeShapes Go.WideShapes Go.ChangeAt Go.RowKit Go.Deep
set_option linter.unusedVariables false
set_option linter.unusedSimpArgs false

theorem LkW.rows {xss : List (List Int)} {base c : Nat} {A : Option Addr} {W : World} (h : LkW xss base A c W) : RwO W base W.heap.size A c xss := fun h0 => by
 obtain ⟨rs, h1, h2, h3, h4⟩ := h
 have hrl : rs.length = xss.length := by rw [← h1, List.length_map]
 obtain ⟨g, hgA⟩ : ∃ g, A = some ⟨g, 0, none⟩ := by
  rcases h2.2 with ⟨_, h0'⟩ | ⟨g, cap, cur, e, _⟩
  ·omega
  ·injection e with e; exact ⟨g, e⟩
 subst hgA
 have hg := World.ownsRow.lt h2 g rfl
 have hne : ∀ r ∈ rs, r.b ≠ g := fun r hr e => by
  obtain ⟨cur, hc⟩ := own_cells h2 (g := g) rfl
  obtain ⟨cur2, hc2⟩ := own_cells (h3 r hr) (g := r.b) rfl
  rw [e, hc] at hc2
  injection hc2 with hc2
  injection hc2 with _ hc2 _
  cases hc2
 have at_ : ∀ i, i < rs.length → ∃ r, rs[i]? = some r ∧ r ∈ rs := fun i hi => ⟨rs[i], List.getElem?_eq_getElem hi, List.getElem_mem hi⟩
 let P : Nat → Nat := fun i => ((rs[i]?).map Lk.b).getD 0
 have hP : ∀ i r, rs[i]? = some r → P i = r.b := fun i r hr => by show ((rs[i]?).map Lk.b).getD 0 = r.b; rw [hr]; rfl
 refine ⟨g, _, P, fun i => P i + 1, rfl, hg.1, hg.2, row_mono h2 (Nat.zero_le _), ⟨fun i zs hz => ?_, fun i hi => ?_, fun i j hi hj hij => ?_⟩⟩
 ·rw [← h1, List.getElem?_map] at hz
  obtain ⟨r, hr, rfl⟩ := Option.map_eq_some_iff.1 hz
  have hm := List.mem_of_getElem? hr
  refine ⟨some ⟨r.b, 0, none⟩, r.c, by rw [List.getElem?_map, hr]; rfl, fun _ => ⟨r.b, rfl, by rw [hP i r hr]; exact Nat.le_refl _, by show r.b < P i + 1; rw [hP i r hr]; omega, row_mono (h3 r hm) (Nat.zero_le _)⟩⟩
 ·obtain ⟨r, hr, hm⟩ := at_ i (by omega)
  have hl := (h3 r hm).lt
  have hn := hne r hm
  rw [hP i r hr]
  omega
 ·obtain ⟨r, hr, hm⟩ := at_ i (by omega)
  obtain ⟨q, hq, hm2⟩ := at_ j (by omega)
  have hap : r.b ≠ q.b := by
   have hi' := (List.getElem?_eq_some_iff.1 hr)
   have hj' := (List.getElem?_eq_some_iff.1 hq)
   rcases (by omega : i < j ∨ j < i) with hlt | hlt
   ·have := List.pairwise_iff_getElem.1 h4 i j hi'.1 hj'.1 hlt
    rw [hi'.2, hj'.2] at this
    exact this
   ·have := List.pairwise_iff_getElem.1 h4 j i hj'.1 hi'.1 hlt
    rw [hi'.2, hj'.2] at this
    exact fun e => this e.symm
  rw [hP i r hr, hP j q hq]
  omega
theorem lookV_len (xs : List Ru) (t : Tr) : (lookV xs t).length ≤ 200 := by
 unfold lookV
 split
 ·rename_i h
  rw [Bool.and_eq_true] at h
  rw [lksT_len]
  exact size_small9 h.1
 ·simp
theorem lookV_five (xs : List Ru) (t : Tr) : ∀ y ∈ lookV xs t, y.length = 5 := by
 unfold lookV
 split
 ·exact lksT_five xs t [] 0
 ·simp
end Go.Proofs.YtmfibedcloknlaaGreatDoor
