/- Histories: one step back and ahead, by the document. -/
import Derived.Test.YtkofajjlkhamkaaHsoD
namespace Go.Proofs.Ytkofajjlkhamkaa
open Go.Joins Go.ChangeShapes Go.WideShapes Go.ChangeAt Go.RowKit Go.Deep
set_option linter.unusedVariables false
set_option linter.unusedSimpArgs false

/-- A history none of whose rows is nil. -/
def HiN (w : World) (x : Hi) (A0 : Option Addr) (c0 : Nat) (A1 : Option Addr) (c1 : Nat) (A2 : Option Addr) (c2 : Nat) : Prop :=
  CeN w A0 x.now ∧ StN w A1 x.back ∧ StN w A2 x.ahead ∧ x.now.length ≤ c0 ∧ x.back.length ≤ c1 ∧ x.ahead.length ≤ c2
theorem HiL.zero {w : World} : HiL w zeroH none 0 none 0 none 0 := ⟨CeL.nil, StL.nil, StL.nil, Nat.le_refl _, Nat.le_refl _, Nat.le_refl _⟩
/-- What the document's answer. -/
def SuX (r : Hi × Bool) (w : World) (e : Ending) (w' : World) : Prop :=
  ∃ B0 d0 B1 d1 B2 d2, e = .returned (.tuple #[.agg #[.slice B0 r.1.now.length d0, .slice B1 r.1.back.length d1, .slice B2 r.1.ahead.length d2], .bool r.2]) ∧ HiL w' r.1 B0 d0 B1 d1 B2 d2 ∧ Below w.heap.size w w'
theorem undoH_eq {x : Hi} {k : Nat} {z : List Ce} (hk : x.back.length = k + 1) (hz : x.back[k]? = some z) : undoH x = ⟨z, x.back.take k, x.ahead ++ [x.now]⟩ := by
  unfold undoH
  have h1 : x.back.getLastD [] = z := by
    rw [List.getLastD_eq_getLast?, List.getLast?_eq_getElem?, hk, Nat.add_sub_cancel, hz]
    rfl
  have h2 : x.back.dropLast = x.back.take k := by rw [List.dropLast_eq_take, hk, Nat.add_sub_cancel]
  rw [h1, h2]
set_option maxHeartbeats 4000000 in
set_option maxRecDepth 100000 in
theorem sundo_any (A0 A1 A2 : Option Addr) (c0 c1 c2 n m q : Nat) (x : Hi) (w : World) (h : HiN w x A0 c0 A1 c1 A2 c2) (hsm : SmH x) (hn : x.now.length = n) (hm : x.back.length = m) (hq : x.ahead.length = q) :
    Calls Try.prog 6 #[.agg #[.slice A0 n c0, .slice A1 m c1, .slice A2 q c2]] w (SuX (undoV x) w) := by
  have k0 := fun w h1 h2 h3 => svhist_any A0 A1 A2 n m q c0 c1 c2 x w h1 h2 h3 hn hm hq (by have := hsm.1.1; unfold maxLen; omega) (by have := hsm.2.1.1; omega) (by have := hsm.2.2.1; omega)
  have hl : CeL w A0 x.now ∧ StL w A1 x.back ∧ StL w A2 x.ahead := ⟨h.1.cel, h.2.1.stl (fun xs hx => by have := (hsm.2.1.2 xs hx).1; unfold maxLen; omega), h.2.2.1.stl (fun xs hx => by have := (hsm.2.2.2 xs hx).1; unfold maxLen; omega)⟩
  have hl' : ∀ w', Below w.heap.size w w' → CeL w' A0 x.now ∧ StL w' A1 x.back ∧ StL w' A2 x.ahead := fun w' hb => ⟨hl.1.below hb, hl.2.1.below hb, hl.2.2.below hb⟩
  have HZ := Lib.hid (show ∀ w', Below w.heap.size w w' → SuX (zeroH, false) w (.returned (.tuple #[.agg #[.slice none 0 0, .slice none 0 0, .slice none 0 0], .bool false])) w' from fun w' hb => ⟨none, 0, none, 0, none, 0, rfl, HiL.zero, hb⟩)
  obtain ⟨ok, hok⟩ : ∃ v, histB x = v := ⟨_, rfl⟩
  rw [hok] at k0
  have K0 := Lib.hid k0
  have hv : undoV x = if (ok && decide (0 < x.back.length)) = true then (undoH x, true) else (zeroH, false) := by unfold undoV; rw [hok]
  clear k0
  cases ok
  · rw [Bool.false_and, if_neg (by decide)] at hv
    have HVV := Lib.hid hv
    have hb0 : Below w.heap.size w ((w.alloc (.cells #[.slice A0 n c0, .slice A1 m c1, .slice A2 q c2] 30)).alloc (.cells #[.slice none 0 0, .slice none 0 0, .slice none 0 0] 30)) := by go_grown
    have hz : ((w.alloc (.cells #[.slice A0 n c0, .slice A1 m c1, .slice A2 q c2] 30)).alloc (.cells #[.slice none 0 0, .slice none 0 0, .slice none 0 0] 30)).heap.size = w.heap.size + 2 := by simp
    have a0 : ((w.alloc (.cells #[.slice A0 n c0, .slice A1 m c1, .slice A2 q c2] 30)).alloc (.cells #[.slice none 0 0, .slice none 0 0, .slice none 0 0] 30)).cell? ⟨w.heap.size, 0, none⟩ = some (.slice A0 n c0) := by go_simp
    have z0 : ((w.alloc (.cells #[.slice A0 n c0, .slice A1 m c1, .slice A2 q c2] 30)).alloc (.cells #[.slice none 0 0, .slice none 0 0, .slice none 0 0] 30)).cell? ⟨w.heap.size + 1, 0, none⟩ = some (.slice none 0 0) := by go_simp
    have a1 : ((w.alloc (.cells #[.slice A0 n c0, .slice A1 m c1, .slice A2 q c2] 30)).alloc (.cells #[.slice none 0 0, .slice none 0 0, .slice none 0 0] 30)).cell? ⟨w.heap.size, 1, none⟩ = some (.slice A1 m c1) := by go_simp
    have z1 : ((w.alloc (.cells #[.slice A0 n c0, .slice A1 m c1, .slice A2 q c2] 30)).alloc (.cells #[.slice none 0 0, .slice none 0 0, .slice none 0 0] 30)).cell? ⟨w.heap.size + 1, 1, none⟩ = some (.slice none 0 0) := by go_simp
    have a2 : ((w.alloc (.cells #[.slice A0 n c0, .slice A1 m c1, .slice A2 q c2] 30)).alloc (.cells #[.slice none 0 0, .slice none 0 0, .slice none 0 0] 30)).cell? ⟨w.heap.size, 2, none⟩ = some (.slice A2 q c2) := by go_simp
    have z2 : ((w.alloc (.cells #[.slice A0 n c0, .slice A1 m c1, .slice A2 q c2] 30)).alloc (.cells #[.slice none 0 0, .slice none 0 0, .slice none 0 0] 30)).cell? ⟨w.heap.size + 1, 2, none⟩ = some (.slice none 0 0) := by go_simp
    have zf : ∀ o, ((w.alloc (.cells #[.slice A0 n c0, .slice A1 m c1, .slice A2 q c2] 30)).alloc (.cells #[.slice none 0 0, .slice none 0 0, .slice none 0 0] 30)).frozen? ⟨w.heap.size + 1, o, none⟩ = false := fun o => by go_simp
    have HL0 := Lib.hid (hl' _ hb0)
    have HB := Lib.hid hb0
    obtain ⟨wd, hwd⟩ : ∃ qq, ((w.alloc (.cells #[.slice A0 n c0, .slice A1 m c1, .slice A2 q c2] 30)).alloc (.cells #[.slice none 0 0, .slice none 0 0, .slice none 0 0] 30)) = qq := ⟨_, rfl⟩
    rw [hwd] at HL0 HB a0 a1 a2 z0 z1 z2 zf hz
    have hlt_wd : w.heap.size + 1 < wd.heap.size := by omega
    have HZD := Lib.hid hz
    clear hv hb0 hz h hl hl' hok hn hm hq hsm
    go_enter Try.func6, Try.ntmps6
    go_wp2_with fail
    (try rw [hwd])
    clear hwd
    have t1 := K0.out wd HL0.out.1 HL0.out.2.1 HL0.out.2.2
    clear K0 HL0
    refine t1.mono ?_
    rintro e w1 ⟨rfl, hb⟩
    replace a0 := (hb.cell (p := ⟨w.heap.size, 0, none⟩) (by show w.heap.size < _; omega)).trans a0
    replace z0 := (hb.cell (p := ⟨w.heap.size + 1, 0, none⟩) hlt_wd).trans z0
    replace a1 := (hb.cell (p := ⟨w.heap.size, 1, none⟩) (by show w.heap.size < _; omega)).trans a1
    replace z1 := (hb.cell (p := ⟨w.heap.size + 1, 1, none⟩) hlt_wd).trans z1
    replace a2 := (hb.cell (p := ⟨w.heap.size, 2, none⟩) (by show w.heap.size < _; omega)).trans a2
    replace z2 := (hb.cell (p := ⟨w.heap.size + 1, 2, none⟩) hlt_wd).trans z2
    replace zf := fun o => (hb.frozen (p := ⟨w.heap.size + 1, o, none⟩) hlt_wd).trans (zf o)
    replace HB := Lib.hid (more HB.out (Nat.le_refl _) hb)
    have hlt_w1 := Nat.lt_of_lt_of_le hlt_wd hb.size
    have hsz_w1 := hb.size
    clear hb
    go_wp2_with fail
    refine bodyPost_ret (v := .tuple #[.agg #[.slice none 0 0, .slice none 0 0, .slice none 0 0], .bool false]) (by simp [results, Try.results6, go_sem, *]) rfl (by rw [HVV.out]; exact HZ.out _ (((HB.out.setCell (p := ⟨w.heap.size + 1, 0, none⟩) (by simp) _).setCell (p := ⟨w.heap.size + 1, 1, none⟩) (by simp) _).setCell (p := ⟨w.heap.size + 1, 2, none⟩) (by simp) _))
  by_cases h0 : m = 0
  · rw [decide_eq_false (show ¬ 0 < x.back.length by omega), if_neg (by decide)] at hv
    have HVV := Lib.hid hv
    have d1 : ((m : Int) == 0) = true := beq_iff_eq.2 (by omega)
    clear h0
    have hb0 : Below w.heap.size w ((w.alloc (.cells #[.slice A0 n c0, .slice A1 m c1, .slice A2 q c2] 30)).alloc (.cells #[.slice none 0 0, .slice none 0 0, .slice none 0 0] 30)) := by go_grown
    have hz : ((w.alloc (.cells #[.slice A0 n c0, .slice A1 m c1, .slice A2 q c2] 30)).alloc (.cells #[.slice none 0 0, .slice none 0 0, .slice none 0 0] 30)).heap.size = w.heap.size + 2 := by simp
    have a0 : ((w.alloc (.cells #[.slice A0 n c0, .slice A1 m c1, .slice A2 q c2] 30)).alloc (.cells #[.slice none 0 0, .slice none 0 0, .slice none 0 0] 30)).cell? ⟨w.heap.size, 0, none⟩ = some (.slice A0 n c0) := by go_simp
    have z0 : ((w.alloc (.cells #[.slice A0 n c0, .slice A1 m c1, .slice A2 q c2] 30)).alloc (.cells #[.slice none 0 0, .slice none 0 0, .slice none 0 0] 30)).cell? ⟨w.heap.size + 1, 0, none⟩ = some (.slice none 0 0) := by go_simp
    have a1 : ((w.alloc (.cells #[.slice A0 n c0, .slice A1 m c1, .slice A2 q c2] 30)).alloc (.cells #[.slice none 0 0, .slice none 0 0, .slice none 0 0] 30)).cell? ⟨w.heap.size, 1, none⟩ = some (.slice A1 m c1) := by go_simp
    have z1 : ((w.alloc (.cells #[.slice A0 n c0, .slice A1 m c1, .slice A2 q c2] 30)).alloc (.cells #[.slice none 0 0, .slice none 0 0, .slice none 0 0] 30)).cell? ⟨w.heap.size + 1, 1, none⟩ = some (.slice none 0 0) := by go_simp
    have a2 : ((w.alloc (.cells #[.slice A0 n c0, .slice A1 m c1, .slice A2 q c2] 30)).alloc (.cells #[.slice none 0 0, .slice none 0 0, .slice none 0 0] 30)).cell? ⟨w.heap.size, 2, none⟩ = some (.slice A2 q c2) := by go_simp
    have z2 : ((w.alloc (.cells #[.slice A0 n c0, .slice A1 m c1, .slice A2 q c2] 30)).alloc (.cells #[.slice none 0 0, .slice none 0 0, .slice none 0 0] 30)).cell? ⟨w.heap.size + 1, 2, none⟩ = some (.slice none 0 0) := by go_simp
    have zf : ∀ o, ((w.alloc (.cells #[.slice A0 n c0, .slice A1 m c1, .slice A2 q c2] 30)).alloc (.cells #[.slice none 0 0, .slice none 0 0, .slice none 0 0] 30)).frozen? ⟨w.heap.size + 1, o, none⟩ = false := fun o => by go_simp
    have HL0 := Lib.hid (hl' _ hb0)
    have HB := Lib.hid hb0
    obtain ⟨wd, hwd⟩ : ∃ qq, ((w.alloc (.cells #[.slice A0 n c0, .slice A1 m c1, .slice A2 q c2] 30)).alloc (.cells #[.slice none 0 0, .slice none 0 0, .slice none 0 0] 30)) = qq := ⟨_, rfl⟩
    rw [hwd] at HL0 HB a0 a1 a2 z0 z1 z2 zf hz
    have hlt_wd : w.heap.size + 1 < wd.heap.size := by omega
    have HZD := Lib.hid hz
    clear hv hb0 hz h hl hl' hok hn hm hq hsm
    go_enter Try.func6, Try.ntmps6
    go_wp2_with fail
    (try rw [hwd])
    clear hwd
    have t1 := K0.out wd HL0.out.1 HL0.out.2.1 HL0.out.2.2
    clear K0 HL0
    refine t1.mono ?_
    rintro e w1 ⟨rfl, hb⟩
    replace a0 := (hb.cell (p := ⟨w.heap.size, 0, none⟩) (by show w.heap.size < _; omega)).trans a0
    replace z0 := (hb.cell (p := ⟨w.heap.size + 1, 0, none⟩) hlt_wd).trans z0
    replace a1 := (hb.cell (p := ⟨w.heap.size, 1, none⟩) (by show w.heap.size < _; omega)).trans a1
    replace z1 := (hb.cell (p := ⟨w.heap.size + 1, 1, none⟩) hlt_wd).trans z1
    replace a2 := (hb.cell (p := ⟨w.heap.size, 2, none⟩) (by show w.heap.size < _; omega)).trans a2
    replace z2 := (hb.cell (p := ⟨w.heap.size + 1, 2, none⟩) hlt_wd).trans z2
    replace zf := fun o => (hb.frozen (p := ⟨w.heap.size + 1, o, none⟩) hlt_wd).trans (zf o)
    replace HB := Lib.hid (more HB.out (Nat.le_refl _) hb)
    have hlt_w1 := Nat.lt_of_lt_of_le hlt_wd hb.size
    have hsz_w1 := hb.size
    clear hb
    go_wp2_with fail
    refine bodyPost_ret (v := .tuple #[.agg #[.slice none 0 0, .slice none 0 0, .slice none 0 0], .bool false]) (by simp [results, Try.results6, go_sem, *]) rfl (by rw [HVV.out]; exact HZ.out _ (((HB.out.setCell (p := ⟨w.heap.size + 1, 0, none⟩) (by simp) _).setCell (p := ⟨w.heap.size + 1, 1, none⟩) (by simp) _).setCell (p := ⟨w.heap.size + 1, 2, none⟩) (by simp) _))
  rw [decide_eq_true (show 0 < x.back.length by omega), if_pos (by decide)] at hv
  have HVV := Lib.hid hv
  have d1 : ((m : Int) == 0) = false := beq_eq_false_iff_ne.2 (by omega)
  obtain ⟨k, hkk⟩ : ∃ k, x.back.length = k + 1 := ⟨x.back.length - 1, by omega⟩
  obtain ⟨z, hzz⟩ := at_some (show k < x.back.length by omega)
  obtain ⟨b, off, rfl, hblt, hcell⟩ := h.2.1 (by omega)
  obtain ⟨D0, e0, f0, hce, hcd⟩ := hcell k z hzz
  have hpts := hist_parts hok
  have hsz := hpts.2.2.1 z (List.mem_of_getElem? hzz)
  have hst : StN w (some ⟨b, off, none⟩) (x.back.take k) := fun h0 => ⟨b, off, rfl, hblt, fun i xs hx => by
    rw [List.getElem?_take] at hx
    split at hx
    · exact hcell i xs hx
    · cases hx⟩
  have hbl : (x.back.take k).length = k := by rw [List.length_take]; omega
  obtain ⟨u, hu⟩ : ∃ u, z.length = u := ⟨_, rfl⟩
  rw [hu] at f0
  have HK9 := Lib.hid (show m = k + 1 by omega)
  have hkl : k ≤ 6 := by omega
  have hmk : (m : Int) - 1 = (k : Int) := by omega
  have hkm : (k : Int) < (m : Int) := by omega
  have hk0 : (0 : Int) ≤ (k : Int) := by omega
  have hkc : (k : Int) ≤ (c1 : Int) := by have := h.2.2.2.2.1; omega
  have ew : IntKind.i64.wrap ((k : Nat) : Int) = (k : Int) := IntWalk.i64_in _ (by omega)
  have kz := fun w h => (copyStore_any D0 e0 u z w h hu (by have := hsz.1; omega) hsz.2).mono fun e w' h => h.own
  rw [hu] at kz
  have kt := fun w h => copyStores_any (some ⟨b, off, none⟩) c1 k (x.back.take k) w h hbl (by omega) (fun xs hx => hpts.2.2.1 xs (List.mem_of_mem_take hx))
  have ko := fun w h => copyStores_any A2 c2 q x.ahead w h hq (by omega) hpts.2.2.2
  have kn := fun w h => (copyStore_any A0 c0 n x.now w h hn (by have := hpts.1.1; omega) hpts.1.2).mono fun e w' h => h.own
  rw [hn] at kn
  have KZ := Lib.hid (fun W (hb : Below w.heap.size w W) => kz W (hce.below hb))
  have KT := Lib.hid (fun W (hb : Below w.heap.size w W) => kt W (hst.below hb))
  have KO := Lib.hid (fun W (hb : Below w.heap.size w W) => ko W (h.2.2.1.below hb))
  have KN := Lib.hid (fun W (hb : Below w.heap.size w W) => kn W (h.1.below hb))
  have HP := Lib.hid (And.intro hpts hsz)
  have HU := Lib.hid (show x.back.length = k + 1 ∧ x.back[k]? = some z from ⟨hkk, hzz⟩)
  have HLN := Lib.hid (show z.length = u ∧ (x.back.take k).length = k ∧ x.ahead.length = q ∧ x.now.length = n from ⟨hu, hbl, hq, hn⟩)
  have hb0 : Below w.heap.size w ((w.alloc (.cells #[.slice A0 n c0, .slice (some ⟨b, off, none⟩) m c1, .slice A2 q c2] 30)).alloc (.cells #[.slice none 0 0, .slice none 0 0, .slice none 0 0] 30)) := by go_grown
  have hz : ((w.alloc (.cells #[.slice A0 n c0, .slice (some ⟨b, off, none⟩) m c1, .slice A2 q c2] 30)).alloc (.cells #[.slice none 0 0, .slice none 0 0, .slice none 0 0] 30)).heap.size = w.heap.size + 2 := by simp
  have a0 : ((w.alloc (.cells #[.slice A0 n c0, .slice (some ⟨b, off, none⟩) m c1, .slice A2 q c2] 30)).alloc (.cells #[.slice none 0 0, .slice none 0 0, .slice none 0 0] 30)).cell? ⟨w.heap.size, 0, none⟩ = some (.slice A0 n c0) := by go_simp
  have z0 : ((w.alloc (.cells #[.slice A0 n c0, .slice (some ⟨b, off, none⟩) m c1, .slice A2 q c2] 30)).alloc (.cells #[.slice none 0 0, .slice none 0 0, .slice none 0 0] 30)).cell? ⟨w.heap.size + 1, 0, none⟩ = some (.slice none 0 0) := by go_simp
  have a1 : ((w.alloc (.cells #[.slice A0 n c0, .slice (some ⟨b, off, none⟩) m c1, .slice A2 q c2] 30)).alloc (.cells #[.slice none 0 0, .slice none 0 0, .slice none 0 0] 30)).cell? ⟨w.heap.size, 1, none⟩ = some (.slice (some ⟨b, off, none⟩) m c1) := by go_simp
  have z1 : ((w.alloc (.cells #[.slice A0 n c0, .slice (some ⟨b, off, none⟩) m c1, .slice A2 q c2] 30)).alloc (.cells #[.slice none 0 0, .slice none 0 0, .slice none 0 0] 30)).cell? ⟨w.heap.size + 1, 1, none⟩ = some (.slice none 0 0) := by go_simp
  have a2 : ((w.alloc (.cells #[.slice A0 n c0, .slice (some ⟨b, off, none⟩) m c1, .slice A2 q c2] 30)).alloc (.cells #[.slice none 0 0, .slice none 0 0, .slice none 0 0] 30)).cell? ⟨w.heap.size, 2, none⟩ = some (.slice A2 q c2) := by go_simp
  have z2 : ((w.alloc (.cells #[.slice A0 n c0, .slice (some ⟨b, off, none⟩) m c1, .slice A2 q c2] 30)).alloc (.cells #[.slice none 0 0, .slice none 0 0, .slice none 0 0] 30)).cell? ⟨w.heap.size + 1, 2, none⟩ = some (.slice none 0 0) := by go_simp
  have zf : ∀ o, ((w.alloc (.cells #[.slice A0 n c0, .slice (some ⟨b, off, none⟩) m c1, .slice A2 q c2] 30)).alloc (.cells #[.slice none 0 0, .slice none 0 0, .slice none 0 0] 30)).frozen? ⟨w.heap.size + 1, o, none⟩ = false := fun o => by go_simp
  have HL0 := Lib.hid (hl' _ hb0)
  have HB := Lib.hid hb0
  obtain ⟨wd, hwd⟩ : ∃ qq, ((w.alloc (.cells #[.slice A0 n c0, .slice (some ⟨b, off, none⟩) m c1, .slice A2 q c2] 30)).alloc (.cells #[.slice none 0 0, .slice none 0 0, .slice none 0 0] 30)) = qq := ⟨_, rfl⟩
  rw [hwd] at HL0 HB a0 a1 a2 z0 z1 z2 zf hz
  have hlt_wd : w.heap.size + 1 < wd.heap.size := by omega
  have HZD := Lib.hid hz
  have hrow := (hb0.cell (p := ⟨b, off + k, none⟩) hblt).trans f0
  rw [hwd] at hrow
  clear hv hb0 hz h hl hl' hok hn hm hq hsm hcell hzz hkk hce hcd hst hbl hu kz kt ko kn hpts hsz f0
  go_enter Try.func6, Try.ntmps6
  go_wp2_with fail
  (try rw [hwd])
  clear hwd
  have t1 := K0.out wd HL0.out.1 HL0.out.2.1 HL0.out.2.2
  clear K0 HL0
  refine t1.mono ?_
  rintro e w1 ⟨rfl, hb⟩
  replace a0 := (hb.cell (p := ⟨w.heap.size, 0, none⟩) (by show w.heap.size < _; omega)).trans a0
  replace z0 := (hb.cell (p := ⟨w.heap.size + 1, 0, none⟩) hlt_wd).trans z0
  replace a1 := (hb.cell (p := ⟨w.heap.size, 1, none⟩) (by show w.heap.size < _; omega)).trans a1
  replace z1 := (hb.cell (p := ⟨w.heap.size + 1, 1, none⟩) hlt_wd).trans z1
  replace a2 := (hb.cell (p := ⟨w.heap.size, 2, none⟩) (by show w.heap.size < _; omega)).trans a2
  replace z2 := (hb.cell (p := ⟨w.heap.size + 1, 2, none⟩) hlt_wd).trans z2
  replace zf := fun o => (hb.frozen (p := ⟨w.heap.size + 1, o, none⟩) hlt_wd).trans (zf o)
  replace HB := Lib.hid (more HB.out (Nat.le_refl _) hb)
  have hlt_w1 := Nat.lt_of_lt_of_le hlt_wd hb.size
  have hsz_w1 := hb.size
  replace hrow := (hb.cell (p := ⟨b, off + k, none⟩) (by show b < _; omega)).trans hrow
  clear hb
  go_wp2_with fail
  have hbd : Below w1.heap.size w1 w1.drew := Below.drew (Below.refl _ _)
  have hHeld0 : (fun w' : World => w'.cell? ⟨w.heap.size, 0, none⟩ = some (.slice A0 n c0) ∧ w'.cell? ⟨w.heap.size, 1, none⟩ = some (.slice (some ⟨b, off, none⟩) m c1) ∧ w'.cell? ⟨w.heap.size, 2, none⟩ = some (.slice A2 q c2) ∧ w'.cell? ⟨b, off + k, none⟩ = some (.slice D0 u e0)) w1.drew := ⟨a0, a1, a2, hrow⟩
  refine wp_region_held_drew (S := fun w' : World => w'.cell? ⟨w.heap.size, 0, none⟩ = some (.slice A0 n c0) ∧ w'.cell? ⟨w.heap.size, 1, none⟩ = some (.slice (some ⟨b, off, none⟩) m c1) ∧ w'.cell? ⟨w.heap.size, 2, none⟩ = some (.slice A2 q c2) ∧ w'.cell? ⟨b, off + k, none⟩ = some (.slice D0 u e0)) (by kernel_rfl) hHeld0 (fun hHeld => ?_)
  clear hHeld0
  replace z0 := (hbd.cell (p := ⟨w.heap.size + 1, 0, none⟩) hlt_w1).trans z0
  replace z1 := (hbd.cell (p := ⟨w.heap.size + 1, 1, none⟩) hlt_w1).trans z1
  replace z2 := (hbd.cell (p := ⟨w.heap.size + 1, 2, none⟩) hlt_w1).trans z2
  replace zf := fun o => (hbd.frozen (p := ⟨w.heap.size + 1, o, none⟩) hlt_w1).trans (zf o)
  replace HB := Lib.hid (more HB.out (Nat.le_refl _) hbd)
  obtain ⟨v0, hv0⟩ : ∃ qq, w1.drew = qq := ⟨_, rfl⟩
  have hsz_v0 : w1.heap.size ≤ w1.drew.heap.size := hbd.size
  have hlt_v0 : w.heap.size + 1 < w1.drew.heap.size := hlt_w1
  rw [hv0] at HB hHeld z0 z1 z2 zf hsz_v0 hlt_v0 ⊢
  clear hbd hv0 a0 a1 a2 hrow
  refine wpAnyH_take (i := 0) (oi := _) (v := ?_) rfl (by kernel_rfl) (by kernel_rfl) (by kernel_rfl) (fun _ _ _ h => h) (Or.inl ⟨by kernel_rfl, ?_⟩) (by assumption) ?_
  rotate_left
  · (intro w hSw; (try dsimp only at hSw); go_simp)
    try with_reducible rfl
  (try simp only [Act.put, List.getElem_toArray, List.getElem_cons_zero, List.getElem_cons_succ, List.setIfInBounds_toArray, List.set_cons_zero, List.set_cons_succ])
  refine wpAnyH_take (i := 1) (oi := _) (v := ?_) rfl (by kernel_rfl) (by kernel_rfl) (by kernel_rfl) (fun _ _ _ h => h) (Or.inl ⟨by kernel_rfl, ?_⟩) (by assumption) ?_
  rotate_left
  · (intro w hSw; (try dsimp only at hSw); go_simp)
    try with_reducible rfl
  (try simp only [Act.put, List.getElem_toArray, List.getElem_cons_zero, List.getElem_cons_succ, List.setIfInBounds_toArray, List.set_cons_zero, List.set_cons_succ])
  refine wpAnyH_take (i := 2) (oi := _) (v := ?_) rfl (by kernel_rfl) (by kernel_rfl) (by kernel_rfl) (fun _ _ _ h => h) (Or.inl ⟨by kernel_rfl, ?_⟩) (by assumption) ?_
  rotate_left
  · (intro w hSw; (try dsimp only at hSw); go_simp)
    try with_reducible rfl
  (try simp only [Act.put, List.getElem_toArray, List.getElem_cons_zero, List.getElem_cons_succ, List.setIfInBounds_toArray, List.set_cons_zero, List.set_cons_succ])
  refine wpAnyH_take (i := 3) (oi := _) (v := ?_) rfl (by kernel_rfl) (by kernel_rfl) (by kernel_rfl) (fun _ _ _ h => h) (Or.inl ⟨by kernel_rfl, ?_⟩) (by assumption) ?_
  rotate_left
  · (intro w hSw; (try dsimp only at hSw); go_simp)
    try with_reducible rfl
  (try simp only [Act.put, List.getElem_toArray, List.getElem_cons_zero, List.getElem_cons_succ, List.setIfInBounds_toArray, List.set_cons_zero, List.set_cons_succ])
  refine wpAnyH_take (i := 4) (oi := _) (v := ?_) rfl (by kernel_rfl) (by kernel_rfl) (by kernel_rfl) (fun _ _ _ h => h) (Or.inl ⟨by kernel_rfl, ?_⟩) (by assumption) ?_
  rotate_left
  · (intro w hSw; (try dsimp only at hSw); go_simp)
    try with_reducible rfl
  (try simp only [Act.put, List.getElem_toArray, List.getElem_cons_zero, List.getElem_cons_succ, List.setIfInBounds_toArray, List.set_cons_zero, List.set_cons_succ])
  refine wpAnyH_take (i := 6) (oi := _) (v := ?_) rfl (by kernel_rfl) (by kernel_rfl) (by kernel_rfl) (fun _ _ _ h => h) (Or.inl ⟨by kernel_rfl, ?_⟩) (by assumption) ?_
  rotate_left
  · (intro w hSw; (try dsimp only at hSw); go_simp)
    try with_reducible rfl
  (try simp only [Act.put, List.getElem_toArray, List.getElem_cons_zero, List.getElem_cons_succ, List.setIfInBounds_toArray, List.set_cons_zero, List.set_cons_succ])
  refine wpAnyH_take (i := 7) (oi := _) (v := ?_) rfl (by kernel_rfl) (by kernel_rfl) (by kernel_rfl) (fun _ _ _ h => h) (Or.inl ⟨by kernel_rfl, ?_⟩) (by assumption) ?_
  rotate_left
  · (intro w hSw; (try dsimp only at hSw); go_simp)
    try with_reducible rfl
  (try simp only [Act.put, List.getElem_toArray, List.getElem_cons_zero, List.getElem_cons_succ, List.setIfInBounds_toArray, List.set_cons_zero, List.set_cons_succ])
  refine wpAnyH_take (i := 8) (oi := _) (v := ?_) rfl (by kernel_rfl) (by kernel_rfl) (by kernel_rfl) (fun _ _ _ h => h) (Or.inl ⟨by kernel_rfl, ?_⟩) (by assumption) ?_
  rotate_left
  · (intro w hSw; (try dsimp only at hSw); go_simp)
    try with_reducible rfl
  (try simp only [Act.put, List.getElem_toArray, List.getElem_cons_zero, List.getElem_cons_succ, List.setIfInBounds_toArray, List.set_cons_zero, List.set_cons_succ])
  refine wpAnyH_take (i := 9) (oi := _) (v := ?_) rfl (by kernel_rfl) (by kernel_rfl) (by kernel_rfl) (fun _ _ _ h => h) (Or.inl ⟨by kernel_rfl, ?_⟩) (by assumption) ?_
  rotate_left
  · (intro w hSw; (try dsimp only at hSw); go_simp)
    try with_reducible rfl
  (try simp only [Act.put, List.getElem_toArray, List.getElem_cons_zero, List.getElem_cons_succ, List.setIfInBounds_toArray, List.set_cons_zero, List.set_cons_succ])
  refine wpAnyH_take (i := 11) (oi := _) (v := ?_) rfl (by kernel_rfl) (by kernel_rfl) (by kernel_rfl) (fun _ _ _ h => h) (Or.inl ⟨by kernel_rfl, ?_⟩) (by assumption) ?_
  rotate_left
  · (intro w hSw; (try dsimp only at hSw); go_simp)
    try with_reducible rfl
  (try simp only [Act.put, List.getElem_toArray, List.getElem_cons_zero, List.getElem_cons_succ, List.setIfInBounds_toArray, List.set_cons_zero, List.set_cons_succ])
  refine wpAnyH_take (i := 12) (oi := _) (v := ?_) rfl (by kernel_rfl) (by kernel_rfl) (by kernel_rfl) (fun _ _ _ h => h) (Or.inl ⟨by kernel_rfl, ?_⟩) (by assumption) ?_
  rotate_left
  · (intro w hSw; (try dsimp only at hSw); go_simp)
    try with_reducible rfl
  (try simp only [Act.put, List.getElem_toArray, List.getElem_cons_zero, List.getElem_cons_succ, List.setIfInBounds_toArray, List.set_cons_zero, List.set_cons_succ])
  refine wpAnyH_take (i := 14) (oi := _) (v := ?_) rfl (by kernel_rfl) (by kernel_rfl) (by kernel_rfl) (fun _ _ _ h => h) (Or.inl ⟨by kernel_rfl, ?_⟩) (by assumption) ?_
  rotate_left
  · (intro w hSw; (try dsimp only at hSw); go_simp)
    try with_reducible rfl
  (try simp only [Act.put, List.getElem_toArray, List.getElem_cons_zero, List.getElem_cons_succ, List.setIfInBounds_toArray, List.set_cons_zero, List.set_cons_succ])
  refine wpAnyH_take (i := 15) (oi := _) (v := ?_) rfl (by kernel_rfl) (by kernel_rfl) (by kernel_rfl) (fun _ _ _ h => h) (Or.inl ⟨by kernel_rfl, ?_⟩) (by assumption) ?_
  rotate_left
  · (intro w hSw; (try dsimp only at hSw); go_simp)
    try with_reducible rfl
  (try simp only [Act.put, List.getElem_toArray, List.getElem_cons_zero, List.getElem_cons_succ, List.setIfInBounds_toArray, List.set_cons_zero, List.set_cons_succ])
  refine wpAnyH_ready (rs := [5]) (by kernel_rfl) (by simp) ?_
  refine AllReadyH.cons (o := _) rfl (fun K hK => ?_) AllReadyH.nil
  go_simp
  have t1 := KZ.out v0 HB.out
  refine t1.mono ?_
  clear t1
  rintro e v1 ⟨bZ, cZ, rfl, hnew, hb⟩
  replace z0 := (hb.cell (p := ⟨w.heap.size + 1, 0, none⟩) hlt_v0).trans z0
  replace z1 := (hb.cell (p := ⟨w.heap.size + 1, 1, none⟩) hlt_v0).trans z1
  replace z2 := (hb.cell (p := ⟨w.heap.size + 1, 2, none⟩) hlt_v0).trans z2
  replace zf := fun o => (hb.frozen (p := ⟨w.heap.size + 1, o, none⟩) hlt_v0).trans (zf o)
  have hHeld3 : (fun w' : World => w'.cell? ⟨w.heap.size, 0, none⟩ = some (.slice A0 n c0) ∧ w'.cell? ⟨w.heap.size, 1, none⟩ = some (.slice (some ⟨b, off, none⟩) m c1) ∧ w'.cell? ⟨w.heap.size, 2, none⟩ = some (.slice A2 q c2) ∧ w'.cell? ⟨b, off + k, none⟩ = some (.slice D0 u e0)) v1 := ⟨(hb.cell (p := ⟨w.heap.size, 0, none⟩) (by show w.heap.size < _; omega)).trans hHeld.1, (hb.cell (p := ⟨w.heap.size, 1, none⟩) (by show w.heap.size < _; omega)).trans hHeld.2.1, (hb.cell (p := ⟨w.heap.size, 2, none⟩) (by show w.heap.size < _; omega)).trans hHeld.2.2.1, (hb.cell (p := ⟨b, off + k, none⟩) (by show b < _; omega)).trans hHeld.2.2.2⟩
  have hlt_v1 : w.heap.size + 1 < v1.heap.size := Nat.lt_of_lt_of_le hlt_v0 hb.size
  have hsz_v1 := hb.size
  replace HB := Lib.hid (more HB.out (Nat.le_refl _) hb)
  have IZ := Lib.hid hnew
  obtain ⟨sZ, hsZ⟩ : ∃ qq, v0.heap.size = qq := ⟨_, rfl⟩
  have HEZ := Lib.hid hsZ
  rw [hsZ] at IZ
  refine hK.out _ _ hHeld3 (fun hHeld2 => ?_)
  clear hHeld2 hHeld hK K hb hnew hsZ
  have hHeld := hHeld3
  clear hHeld3
  (try simp only [Act.put, List.getElem_toArray, List.getElem_cons_zero, List.getElem_cons_succ, List.setIfInBounds_toArray, List.set_cons_zero, List.set_cons_succ])
  refine wpAnyH_ready (rs := [10]) (by kernel_rfl) (by simp) ?_
  refine AllReadyH.cons (o := _) rfl (fun K hK => ?_) AllReadyH.nil
  go_simp
  have t1 := KT.out v1 HB.out
  refine t1.mono ?_
  clear t1
  rintro e v2 ⟨bT, cT, rfl, hnew, hb⟩
  replace z0 := (hb.cell (p := ⟨w.heap.size + 1, 0, none⟩) hlt_v1).trans z0
  replace z1 := (hb.cell (p := ⟨w.heap.size + 1, 1, none⟩) hlt_v1).trans z1
  replace z2 := (hb.cell (p := ⟨w.heap.size + 1, 2, none⟩) hlt_v1).trans z2
  replace zf := fun o => (hb.frozen (p := ⟨w.heap.size + 1, o, none⟩) hlt_v1).trans (zf o)
  have hHeld3 : (fun w' : World => w'.cell? ⟨w.heap.size, 0, none⟩ = some (.slice A0 n c0) ∧ w'.cell? ⟨w.heap.size, 1, none⟩ = some (.slice (some ⟨b, off, none⟩) m c1) ∧ w'.cell? ⟨w.heap.size, 2, none⟩ = some (.slice A2 q c2) ∧ w'.cell? ⟨b, off + k, none⟩ = some (.slice D0 u e0)) v2 := ⟨(hb.cell (p := ⟨w.heap.size, 0, none⟩) (by show w.heap.size < _; omega)).trans hHeld.1, (hb.cell (p := ⟨w.heap.size, 1, none⟩) (by show w.heap.size < _; omega)).trans hHeld.2.1, (hb.cell (p := ⟨w.heap.size, 2, none⟩) (by show w.heap.size < _; omega)).trans hHeld.2.2.1, (hb.cell (p := ⟨b, off + k, none⟩) (by show b < _; omega)).trans hHeld.2.2.2⟩
  replace IZ := Lib.hid (IZ.out.below hb)
  have hlt_v2 : w.heap.size + 1 < v2.heap.size := Nat.lt_of_lt_of_le hlt_v1 hb.size
  have hsz_v2 := hb.size
  replace HB := Lib.hid (more HB.out (Nat.le_refl _) hb)
  have IT := Lib.hid hnew
  obtain ⟨sT, hsT⟩ : ∃ qq, v1.heap.size = qq := ⟨_, rfl⟩
  have HET := Lib.hid hsT
  rw [hsT] at IT
  have hbT := IT.out.lt
  have htT : bT < v2.heap.size := hbT.2
  refine hK.out _ _ hHeld3 (fun hHeld2 => ?_)
  clear hHeld2 hHeld hK K hb hnew hsT
  have hHeld := hHeld3
  clear hHeld3
  (try simp only [Act.put, List.getElem_toArray, List.getElem_cons_zero, List.getElem_cons_succ, List.setIfInBounds_toArray, List.set_cons_zero, List.set_cons_succ])
  refine wpAnyH_ready (rs := [13]) (by kernel_rfl) (by simp) ?_
  refine AllReadyH.cons (o := _) rfl (fun K hK => ?_) AllReadyH.nil
  go_simp
  have t1 := KO.out v2 HB.out
  refine t1.mono ?_
  clear t1
  rintro e v3 ⟨bO, cO, rfl, hnew, hb⟩
  replace z0 := (hb.cell (p := ⟨w.heap.size + 1, 0, none⟩) hlt_v2).trans z0
  replace z1 := (hb.cell (p := ⟨w.heap.size + 1, 1, none⟩) hlt_v2).trans z1
  replace z2 := (hb.cell (p := ⟨w.heap.size + 1, 2, none⟩) hlt_v2).trans z2
  replace zf := fun o => (hb.frozen (p := ⟨w.heap.size + 1, o, none⟩) hlt_v2).trans (zf o)
  have hHeld3 : (fun w' : World => w'.cell? ⟨w.heap.size, 0, none⟩ = some (.slice A0 n c0) ∧ w'.cell? ⟨w.heap.size, 1, none⟩ = some (.slice (some ⟨b, off, none⟩) m c1) ∧ w'.cell? ⟨w.heap.size, 2, none⟩ = some (.slice A2 q c2) ∧ w'.cell? ⟨b, off + k, none⟩ = some (.slice D0 u e0)) v3 := ⟨(hb.cell (p := ⟨w.heap.size, 0, none⟩) (by show w.heap.size < _; omega)).trans hHeld.1, (hb.cell (p := ⟨w.heap.size, 1, none⟩) (by show w.heap.size < _; omega)).trans hHeld.2.1, (hb.cell (p := ⟨w.heap.size, 2, none⟩) (by show w.heap.size < _; omega)).trans hHeld.2.2.1, (hb.cell (p := ⟨b, off + k, none⟩) (by show b < _; omega)).trans hHeld.2.2.2⟩
  replace IZ := Lib.hid (IZ.out.below hb)
  replace IT := Lib.hid (IT.out.below hb)
  have hlt_v3 : w.heap.size + 1 < v3.heap.size := Nat.lt_of_lt_of_le hlt_v2 hb.size
  have hsz_v3 := hb.size
  replace HB := Lib.hid (more HB.out (Nat.le_refl _) hb)
  have IO := Lib.hid hnew
  obtain ⟨sO, hsO⟩ : ∃ qq, v2.heap.size = qq := ⟨_, rfl⟩
  have HEO := Lib.hid hsO
  rw [hsO] at IO
  have hbO := IO.out.lt
  have htO : bO < v3.heap.size := hbO.2
  refine hK.out _ _ hHeld3 (fun hHeld2 => ?_)
  clear hHeld2 hHeld hK K hb hnew hsO
  have hHeld := hHeld3
  clear hHeld3
  (try simp only [Act.put, List.getElem_toArray, List.getElem_cons_zero, List.getElem_cons_succ, List.setIfInBounds_toArray, List.set_cons_zero, List.set_cons_succ])
  refine wpAnyH_ready (rs := [16]) (by kernel_rfl) (by simp) ?_
  refine AllReadyH.cons (o := _) rfl (fun K hK => ?_) AllReadyH.nil
  go_simp
  have t1 := KN.out v3 HB.out
  refine t1.mono ?_
  clear t1
  rintro e v4 ⟨bN, cN, rfl, hnew, hb⟩
  replace z0 := (hb.cell (p := ⟨w.heap.size + 1, 0, none⟩) hlt_v3).trans z0
  replace z1 := (hb.cell (p := ⟨w.heap.size + 1, 1, none⟩) hlt_v3).trans z1
  replace z2 := (hb.cell (p := ⟨w.heap.size + 1, 2, none⟩) hlt_v3).trans z2
  replace zf := fun o => (hb.frozen (p := ⟨w.heap.size + 1, o, none⟩) hlt_v3).trans (zf o)
  have hHeld3 : (fun w' : World => w'.cell? ⟨w.heap.size, 0, none⟩ = some (.slice A0 n c0) ∧ w'.cell? ⟨w.heap.size, 1, none⟩ = some (.slice (some ⟨b, off, none⟩) m c1) ∧ w'.cell? ⟨w.heap.size, 2, none⟩ = some (.slice A2 q c2) ∧ w'.cell? ⟨b, off + k, none⟩ = some (.slice D0 u e0)) v4 := ⟨(hb.cell (p := ⟨w.heap.size, 0, none⟩) (by show w.heap.size < _; omega)).trans hHeld.1, (hb.cell (p := ⟨w.heap.size, 1, none⟩) (by show w.heap.size < _; omega)).trans hHeld.2.1, (hb.cell (p := ⟨w.heap.size, 2, none⟩) (by show w.heap.size < _; omega)).trans hHeld.2.2.1, (hb.cell (p := ⟨b, off + k, none⟩) (by show b < _; omega)).trans hHeld.2.2.2⟩
  replace IZ := Lib.hid (IZ.out.below hb)
  replace IT := Lib.hid (IT.out.below hb)
  replace IO := Lib.hid (IO.out.below hb)
  have hlt_v4 : w.heap.size + 1 < v4.heap.size := Nat.lt_of_lt_of_le hlt_v3 hb.size
  have hsz_v4 := hb.size
  replace HB := Lib.hid (more HB.out (Nat.le_refl _) hb)
  have IN := Lib.hid hnew
  obtain ⟨sN, hsN⟩ : ∃ qq, v3.heap.size = qq := ⟨_, rfl⟩
  have HEN := Lib.hid hsN
  rw [hsN] at IN
  refine hK.out _ _ hHeld3 (fun hHeld2 => ?_)
  clear hHeld2 hHeld hK K hb hnew hsN
  have hHeld := hHeld3
  clear hHeld3
  (try simp only [Act.put, List.getElem_toArray, List.getElem_cons_zero, List.getElem_cons_succ, List.setIfInBounds_toArray, List.set_cons_zero, List.set_cons_succ])
  refine wpAnyH_ready (rs := [17]) (by kernel_rfl) (by simp) ?_
  refine AllReadyH.cons (o := _) rfl (fun K hK => ?_) AllReadyH.nil
  go_simp
  have hb := Below.alloc (Below.refl v4.heap.size v4) (Nat.le_refl _) (.cells #[.slice (some ⟨bN, 0, none⟩) n cN] 27)
  have hcl : (v4.alloc (.cells #[.slice (some ⟨bN, 0, none⟩) n cN] 27)).cell? ⟨v4.heap.size, 0, none⟩ = some (.slice (some ⟨bN, 0, none⟩) n cN) := by rw [World.cell?_alloc_new]; rfl
  obtain ⟨v5, hnew⟩ : ∃ v, v4.alloc (.cells #[.slice (some ⟨bN, 0, none⟩) n cN] 27) = v := ⟨_, rfl⟩
  rw [hnew] at hb hcl ⊢
  replace z0 := (hb.cell (p := ⟨w.heap.size + 1, 0, none⟩) hlt_v4).trans z0
  replace z1 := (hb.cell (p := ⟨w.heap.size + 1, 1, none⟩) hlt_v4).trans z1
  replace z2 := (hb.cell (p := ⟨w.heap.size + 1, 2, none⟩) hlt_v4).trans z2
  replace zf := fun o => (hb.frozen (p := ⟨w.heap.size + 1, o, none⟩) hlt_v4).trans (zf o)
  have hHeld3 : (fun w' : World => w'.cell? ⟨w.heap.size, 0, none⟩ = some (.slice A0 n c0) ∧ w'.cell? ⟨w.heap.size, 1, none⟩ = some (.slice (some ⟨b, off, none⟩) m c1) ∧ w'.cell? ⟨w.heap.size, 2, none⟩ = some (.slice A2 q c2) ∧ w'.cell? ⟨b, off + k, none⟩ = some (.slice D0 u e0)) v5 := ⟨(hb.cell (p := ⟨w.heap.size, 0, none⟩) (by show w.heap.size < _; omega)).trans hHeld.1, (hb.cell (p := ⟨w.heap.size, 1, none⟩) (by show w.heap.size < _; omega)).trans hHeld.2.1, (hb.cell (p := ⟨w.heap.size, 2, none⟩) (by show w.heap.size < _; omega)).trans hHeld.2.2.1, (hb.cell (p := ⟨b, off + k, none⟩) (by show b < _; omega)).trans hHeld.2.2.2⟩
  replace IZ := Lib.hid (IZ.out.below hb)
  replace IT := Lib.hid (IT.out.below hb)
  replace IO := Lib.hid (IO.out.below hb)
  replace IN := Lib.hid (IN.out.below hb)
  have hlt_v5 : w.heap.size + 1 < v5.heap.size := Nat.lt_of_lt_of_le hlt_v4 hb.size
  have hsz_v5 := hb.size
  replace HB := Lib.hid (more HB.out (Nat.le_refl _) hb)
  obtain ⟨bl, hbl⟩ : ∃ v, v4.heap.size = v := ⟨_, rfl⟩
  rw [hbl] at hcl ⊢
  have HCL := Lib.hid hcl
  have HBL := Lib.hid hbl
  have hbll : bl < v5.heap.size := World.block_lt_of_cell? _ _ hcl
  refine hK.out _ _ hHeld3 (fun hHeld2 => ?_)
  clear hHeld2 hHeld hK K hb hcl hnew hbl
  have hHeld := hHeld3
  clear hHeld3
  (try simp only [Act.put, List.getElem_toArray, List.getElem_cons_zero, List.getElem_cons_succ, List.setIfInBounds_toArray, List.set_cons_zero, List.set_cons_succ])
  refine wpAnyH_ready (rs := [18]) (by kernel_rfl) (by simp) ?_
  refine AllReadyH.cons (o := _) rfl (fun K hK => ?_) AllReadyH.nil
  refine step_add_st (by rfl) (.tmp 32) (.tmp 36) (by rfl) sO bO cO q (x.ahead) (by rfl) HLN.out.2.2.1 IO.out ⟨bl, 0, none⟩ 1 sN bN cN n (x.now) HLN.out.2.2.2 IN.out (by have := HEO.out; have := HEN.out; omega) (by rfl) HCL.out (by have h1 := HP.out.1.2.1; have h2 := HLN.out.2.2.1; omega) (by have := HEO.out; omega) ?_
  intro bx cx v6 hss hg hM hat
  obtain ⟨M, hM⟩ := hM
  have hrl := IO.out.lt
  have ht := Turn.of_grown (lo := bO) (hi := bO + 1) hg (Nat.le_refl _) (Nat.lt_succ_self _)
  have hsr := HEO.out
  have hsz_v6 := ht.size
  replace z0 := (ht.cell (o := 0) hlt_v5 (by omega)).trans z0
  replace z1 := (ht.cell (o := 1) hlt_v5 (by omega)).trans z1
  replace z2 := (ht.cell (o := 2) hlt_v5 (by omega)).trans z2
  replace zf := fun o => (World.frozen?_of_block (a := ⟨w.heap.size + 1, o, none⟩) (ht.block (w.heap.size + 1) hlt_v5 (by omega))).trans (zf o)
  have hHeld3 : (fun w' : World => w'.cell? ⟨w.heap.size, 0, none⟩ = some (.slice A0 n c0) ∧ w'.cell? ⟨w.heap.size, 1, none⟩ = some (.slice (some ⟨b, off, none⟩) m c1) ∧ w'.cell? ⟨w.heap.size, 2, none⟩ = some (.slice A2 q c2) ∧ w'.cell? ⟨b, off + k, none⟩ = some (.slice D0 u e0)) v6 := ⟨(ht.cell (k := w.heap.size) (o := 0) (by omega) (by omega)).trans hHeld.1, (ht.cell (k := w.heap.size) (o := 1) (by omega) (by omega)).trans hHeld.2.1, (ht.cell (k := w.heap.size) (o := 2) (by omega) (by omega)).trans hHeld.2.2.1, (ht.cell (k := b) (o := off + k) (by omega) (by omega)).trans hHeld.2.2.2⟩
  replace IZ := Lib.hid (IZ.out.grownS hg hM)
  replace IT := Lib.hid (IT.out.grownS hg hM (by have := HET.out; have := htT; omega))
  have hlt_v6 : w.heap.size + 1 < v6.heap.size := Nat.lt_of_lt_of_le hlt_v5 ht.size
  replace HB := Lib.hid (HB.out.trans (ht.below (by have := HEO.out; omega) (by omega)))
  have IX := Lib.hid hss
  refine hK.out _ _ hHeld3 (fun hHeld2 => ?_)
  clear hHeld2 hHeld hK K hss hg hM ht hat IO IN
  have hHeld := hHeld3
  clear hHeld3
  (try simp only [Act.put, List.getElem_toArray, List.getElem_cons_zero, List.getElem_cons_succ, List.setIfInBounds_toArray, List.set_cons_zero, List.set_cons_succ])
  refine wpAnyH_take (i := 19) (oi := _) (v := ?_) rfl (by kernel_rfl) (by kernel_rfl) (by kernel_rfl) (fun _ _ _ h => h) (Or.inl ⟨by kernel_rfl, ?_⟩) (by assumption) ?_
  rotate_left
  · (intro w hSw; (try dsimp only at hSw); go_simp)
    try with_reducible rfl
  (try simp only [Act.put, List.getElem_toArray, List.getElem_cons_zero, List.getElem_cons_succ, List.setIfInBounds_toArray, List.set_cons_zero, List.set_cons_succ])
  refine wpAnyH_ready (rs := [20]) (by kernel_rfl) (by simp) ?_
  refine AllReadyH.cons (o := _) rfl (fun K hK => ?_) AllReadyH.nil
  have kk : ∀ (y : World) (j i : Nat) (u : Value) (bb : Nat), bb ≠ w.heap.size + 1 → (y.setCell ⟨w.heap.size + 1, j, none⟩ u).cell? ⟨bb, i, none⟩ = y.cell? ⟨bb, i, none⟩ := fun y j i u bb hne => World.cell?_setCell_other _ _ _ _ (by intro e; injection e with e1 e2; omega)
  have hSS : ∀ p0 p1 p2, (fun w' : World => w'.cell? ⟨w.heap.size, 0, none⟩ = some (.slice A0 n c0) ∧ w'.cell? ⟨w.heap.size, 1, none⟩ = some (.slice (some ⟨b, off, none⟩) m c1) ∧ w'.cell? ⟨w.heap.size, 2, none⟩ = some (.slice A2 q c2) ∧ w'.cell? ⟨b, off + k, none⟩ = some (.slice D0 u e0)) (((v6.setCell ⟨w.heap.size + 1, 0, none⟩ (p0)).setCell ⟨w.heap.size + 1, 1, none⟩ (p1)).setCell ⟨w.heap.size + 1, 2, none⟩ (p2)) := fun p0 p1 p2 => by
    refine ⟨?_, ?_, ?_, ?_⟩
    all_goals (rw [kk _ _ _ _ _ (by omega), kk _ _ _ _ _ (by omega), kk _ _ _ _ _ (by omega)])
    · exact hHeld.1
    · exact hHeld.2.1
    · exact hHeld.2.2.1
    · exact hHeld.2.2.2
  go_simp
  refine hK.out _ _ (hSS _ _ _) (fun hHeld2 => ?_)
  clear hHeld
  have hHeld := hHeld2
  clear hHeld2 hK K hSS kk
  (try simp only [Act.put, List.getElem_toArray, List.getElem_cons_zero, List.getElem_cons_succ, List.setIfInBounds_toArray, List.set_cons_zero, List.set_cons_succ])
  refine wpAnyH_take (i := 21) (oi := _) (v := ?_) rfl (by kernel_rfl) (by kernel_rfl) (by kernel_rfl) (fun _ _ _ h => h) (Or.inl ⟨by kernel_rfl, ?_⟩) (by assumption) ?_
  rotate_left
  · (intro w hSw; (try dsimp only at hSw); go_simp)
    try with_reducible rfl
  (try simp only [Act.put, List.getElem_toArray, List.getElem_cons_zero, List.getElem_cons_succ, List.setIfInBounds_toArray, List.set_cons_zero, List.set_cons_succ])
  refine wpAnyH_done (by kernel_rfl) ?_ _
  clear hHeld
  go_wp2_with fail
  have ht : ∀ p0 p1 p2, Turn (w.heap.size + 1) (w.heap.size + 2) v6 (((v6.setCell ⟨w.heap.size + 1, 0, none⟩ (p0)).setCell ⟨w.heap.size + 1, 1, none⟩ (p1)).setCell ⟨w.heap.size + 1, 2, none⟩ (p2)) := fun p0 p1 p2 => ((turn_set v6 ⟨w.heap.size + 1, 0, none⟩ p0).trans (turn_set _ ⟨w.heap.size + 1, 1, none⟩ p1)).trans (turn_set _ ⟨w.heap.size + 1, 2, none⟩ p2)
  have hbs : ∀ p0 p1 p2, Below (w.heap.size + 1) v6 (((v6.setCell ⟨w.heap.size + 1, 0, none⟩ (p0)).setCell ⟨w.heap.size + 1, 1, none⟩ (p1)).setCell ⟨w.heap.size + 1, 2, none⟩ (p2)) := fun p0 p1 p2 => (ht p0 p1 p2).below (Nat.le_refl _) (by omega)
  refine bodyPost_ret (v := .tuple #[.agg #[.slice (some ⟨bZ, 0, none⟩) u cZ, .slice (some ⟨bT, 0, none⟩) k cT, .slice (some ⟨bx, 0, none⟩) (q + 1) cx], .bool true]) (by simp [results, Try.results6, go_sem, *]) rfl ?_
  rw [HVV.out]
  have hzd := HZD.out
  have t0 := ht (.slice (some ⟨bZ, 0, none⟩) u cZ) (.slice (some ⟨bT, 0, none⟩) k cT) (.slice (some ⟨bx, 0, none⟩) (q + 1) cx)
  have hBx := HB.out.trans ((hbs (.slice (some ⟨bZ, 0, none⟩) u cZ) (.slice (some ⟨bT, 0, none⟩) k cT) (.slice (some ⟨bx, 0, none⟩) (q + 1) cx)).mono (by omega))
  have eZ := HEZ.out
  have eT := HET.out
  have eO := HEO.out
  obtain ⟨⟨p0, p1, p2, p3⟩, p4⟩ := HP.out
  have g0 := (IZ.out.turn t0 (by omega)).cel p4.2
  have g1 := (IT.out.turn t0 (by omega)).stl (fun xs hx => p2 xs (List.mem_of_mem_take hx))
  have g2 := (IX.out.turn t0 (by omega)).stl (fun xs hx => by
    rcases List.mem_append.1 hx with hx | hx
    · exact p3 xs hx
    · simp at hx; subst hx; exact p0)
  obtain ⟨l0, l1, l2, l3⟩ := HLN.out
  rw [undoH_eq HU.out.1 HU.out.2]
  refine ⟨some ⟨bZ, 0, none⟩, cZ, some ⟨bT, 0, none⟩, cT, some ⟨bx, 0, none⟩, cx, ?_, ⟨g0.1, g1.1, g2.1, g0.2, g1.2, g2.2⟩, hBx⟩
  show _ = Ending.returned (.tuple #[.agg #[.slice _ z.length _, .slice _ (x.back.take k).length _, .slice _ (x.ahead ++ [x.now]).length _], .bool true])
  rw [l0, l1, List.length_append, l2]
  rfl
set_option maxHeartbeats 4000000 in
set_option maxRecDepth 100000 in
theorem sredo_any (A0 A1 A2 : Option Addr) (c0 c1 c2 n m q : Nat) (x : Hi) (w : World) (h : HiN w x A0 c0 A1 c1 A2 c2) (hsm : SmH x) (hn : x.now.length = n) (hm : x.back.length = m) (hq : x.ahead.length = q) :
    Calls Try.prog 12 #[.agg #[.slice A0 n c0, .slice A1 m c1, .slice A2 q c2]] w (SuX (redoV x) w) := by
  have k0 := fun w h1 h2 h3 => svhist_any A0 A1 A2 n m q c0 c1 c2 x w h1 h2 h3 hn hm hq (by have := hsm.1.1; unfold maxLen; omega) (by have := hsm.2.1.1; omega) (by have := hsm.2.2.1; omega)
  have hl : CeL w A0 x.now ∧ StL w A1 x.back ∧ StL w A2 x.ahead := ⟨h.1.cel, h.2.1.stl (fun xs hx => by have := (hsm.2.1.2 xs hx).1; unfold maxLen; omega), h.2.2.1.stl (fun xs hx => by have := (hsm.2.2.2 xs hx).1; unfold maxLen; omega)⟩
  have hl' : ∀ w', Below w.heap.size w w' → CeL w' A0 x.now ∧ StL w' A1 x.back ∧ StL w' A2 x.ahead := fun w' hb => ⟨hl.1.below hb, hl.2.1.below hb, hl.2.2.below hb⟩
  have HZ := Lib.hid (show ∀ w', Below w.heap.size w w' → SuX (zeroH, false) w (.returned (.tuple #[.agg #[.slice none 0 0, .slice none 0 0, .slice none 0 0], .bool false])) w' from fun w' hb => ⟨none, 0, none, 0, none, 0, rfl, HiL.zero, hb⟩)
  obtain ⟨ok, hok⟩ : ∃ v, histB x = v := ⟨_, rfl⟩
  rw [hok] at k0
  have K0 := Lib.hid k0
  have hv : redoV x = if (ok && decide (0 < x.ahead.length)) = true then (turnH (undoH (turnH x)), true) else (zeroH, false) := by unfold redoV; rw [hok]
  clear k0
  cases ok
  · rw [Bool.false_and, if_neg (by decide)] at hv
    have HVV := Lib.hid hv
    have hb0 : Below w.heap.size w ((w.alloc (.cells #[.slice A0 n c0, .slice A1 m c1, .slice A2 q c2] 30)).alloc (.cells #[.slice none 0 0, .slice none 0 0, .slice none 0 0] 30)) := by go_grown
    have hz : ((w.alloc (.cells #[.slice A0 n c0, .slice A1 m c1, .slice A2 q c2] 30)).alloc (.cells #[.slice none 0 0, .slice none 0 0, .slice none 0 0] 30)).heap.size = w.heap.size + 2 := by simp
    have a0 : ((w.alloc (.cells #[.slice A0 n c0, .slice A1 m c1, .slice A2 q c2] 30)).alloc (.cells #[.slice none 0 0, .slice none 0 0, .slice none 0 0] 30)).cell? ⟨w.heap.size, 0, none⟩ = some (.slice A0 n c0) := by go_simp
    have z0 : ((w.alloc (.cells #[.slice A0 n c0, .slice A1 m c1, .slice A2 q c2] 30)).alloc (.cells #[.slice none 0 0, .slice none 0 0, .slice none 0 0] 30)).cell? ⟨w.heap.size + 1, 0, none⟩ = some (.slice none 0 0) := by go_simp
    have a1 : ((w.alloc (.cells #[.slice A0 n c0, .slice A1 m c1, .slice A2 q c2] 30)).alloc (.cells #[.slice none 0 0, .slice none 0 0, .slice none 0 0] 30)).cell? ⟨w.heap.size, 1, none⟩ = some (.slice A1 m c1) := by go_simp
    have z1 : ((w.alloc (.cells #[.slice A0 n c0, .slice A1 m c1, .slice A2 q c2] 30)).alloc (.cells #[.slice none 0 0, .slice none 0 0, .slice none 0 0] 30)).cell? ⟨w.heap.size + 1, 1, none⟩ = some (.slice none 0 0) := by go_simp
    have a2 : ((w.alloc (.cells #[.slice A0 n c0, .slice A1 m c1, .slice A2 q c2] 30)).alloc (.cells #[.slice none 0 0, .slice none 0 0, .slice none 0 0] 30)).cell? ⟨w.heap.size, 2, none⟩ = some (.slice A2 q c2) := by go_simp
    have z2 : ((w.alloc (.cells #[.slice A0 n c0, .slice A1 m c1, .slice A2 q c2] 30)).alloc (.cells #[.slice none 0 0, .slice none 0 0, .slice none 0 0] 30)).cell? ⟨w.heap.size + 1, 2, none⟩ = some (.slice none 0 0) := by go_simp
    have zf : ∀ o, ((w.alloc (.cells #[.slice A0 n c0, .slice A1 m c1, .slice A2 q c2] 30)).alloc (.cells #[.slice none 0 0, .slice none 0 0, .slice none 0 0] 30)).frozen? ⟨w.heap.size + 1, o, none⟩ = false := fun o => by go_simp
    have HL0 := Lib.hid (hl' _ hb0)
    have HB := Lib.hid hb0
    obtain ⟨wd, hwd⟩ : ∃ qq, ((w.alloc (.cells #[.slice A0 n c0, .slice A1 m c1, .slice A2 q c2] 30)).alloc (.cells #[.slice none 0 0, .slice none 0 0, .slice none 0 0] 30)) = qq := ⟨_, rfl⟩
    rw [hwd] at HL0 HB a0 a1 a2 z0 z1 z2 zf hz
    have hlt_wd : w.heap.size + 1 < wd.heap.size := by omega
    have HZD := Lib.hid hz
    clear hv hb0 hz h hl hl' hok hn hm hq hsm
    go_enter Try.func12, Try.ntmps12
    go_wp2_with fail
    (try rw [hwd])
    clear hwd
    have t1 := K0.out wd HL0.out.1 HL0.out.2.1 HL0.out.2.2
    clear K0 HL0
    refine t1.mono ?_
    rintro e w1 ⟨rfl, hb⟩
    replace a0 := (hb.cell (p := ⟨w.heap.size, 0, none⟩) (by show w.heap.size < _; omega)).trans a0
    replace z0 := (hb.cell (p := ⟨w.heap.size + 1, 0, none⟩) hlt_wd).trans z0
    replace a1 := (hb.cell (p := ⟨w.heap.size, 1, none⟩) (by show w.heap.size < _; omega)).trans a1
    replace z1 := (hb.cell (p := ⟨w.heap.size + 1, 1, none⟩) hlt_wd).trans z1
    replace a2 := (hb.cell (p := ⟨w.heap.size, 2, none⟩) (by show w.heap.size < _; omega)).trans a2
    replace z2 := (hb.cell (p := ⟨w.heap.size + 1, 2, none⟩) hlt_wd).trans z2
    replace zf := fun o => (hb.frozen (p := ⟨w.heap.size + 1, o, none⟩) hlt_wd).trans (zf o)
    replace HB := Lib.hid (more HB.out (Nat.le_refl _) hb)
    have hlt_w1 := Nat.lt_of_lt_of_le hlt_wd hb.size
    have hsz_w1 := hb.size
    clear hb
    go_wp2_with fail
    refine bodyPost_ret (v := .tuple #[.agg #[.slice none 0 0, .slice none 0 0, .slice none 0 0], .bool false]) (by simp [results, Try.results12, go_sem, *]) rfl (by rw [HVV.out]; exact HZ.out _ (((HB.out.setCell (p := ⟨w.heap.size + 1, 0, none⟩) (by simp) _).setCell (p := ⟨w.heap.size + 1, 1, none⟩) (by simp) _).setCell (p := ⟨w.heap.size + 1, 2, none⟩) (by simp) _))
  by_cases h0 : q = 0
  · rw [decide_eq_false (show ¬ 0 < x.ahead.length by omega), if_neg (by decide)] at hv
    have HVV := Lib.hid hv
    have d1 : ((q : Int) == 0) = true := beq_iff_eq.2 (by omega)
    clear h0
    have hb0 : Below w.heap.size w ((w.alloc (.cells #[.slice A0 n c0, .slice A1 m c1, .slice A2 q c2] 30)).alloc (.cells #[.slice none 0 0, .slice none 0 0, .slice none 0 0] 30)) := by go_grown
    have hz : ((w.alloc (.cells #[.slice A0 n c0, .slice A1 m c1, .slice A2 q c2] 30)).alloc (.cells #[.slice none 0 0, .slice none 0 0, .slice none 0 0] 30)).heap.size = w.heap.size + 2 := by simp
    have a0 : ((w.alloc (.cells #[.slice A0 n c0, .slice A1 m c1, .slice A2 q c2] 30)).alloc (.cells #[.slice none 0 0, .slice none 0 0, .slice none 0 0] 30)).cell? ⟨w.heap.size, 0, none⟩ = some (.slice A0 n c0) := by go_simp
    have z0 : ((w.alloc (.cells #[.slice A0 n c0, .slice A1 m c1, .slice A2 q c2] 30)).alloc (.cells #[.slice none 0 0, .slice none 0 0, .slice none 0 0] 30)).cell? ⟨w.heap.size + 1, 0, none⟩ = some (.slice none 0 0) := by go_simp
    have a1 : ((w.alloc (.cells #[.slice A0 n c0, .slice A1 m c1, .slice A2 q c2] 30)).alloc (.cells #[.slice none 0 0, .slice none 0 0, .slice none 0 0] 30)).cell? ⟨w.heap.size, 1, none⟩ = some (.slice A1 m c1) := by go_simp
    have z1 : ((w.alloc (.cells #[.slice A0 n c0, .slice A1 m c1, .slice A2 q c2] 30)).alloc (.cells #[.slice none 0 0, .slice none 0 0, .slice none 0 0] 30)).cell? ⟨w.heap.size + 1, 1, none⟩ = some (.slice none 0 0) := by go_simp
    have a2 : ((w.alloc (.cells #[.slice A0 n c0, .slice A1 m c1, .slice A2 q c2] 30)).alloc (.cells #[.slice none 0 0, .slice none 0 0, .slice none 0 0] 30)).cell? ⟨w.heap.size, 2, none⟩ = some (.slice A2 q c2) := by go_simp
    have z2 : ((w.alloc (.cells #[.slice A0 n c0, .slice A1 m c1, .slice A2 q c2] 30)).alloc (.cells #[.slice none 0 0, .slice none 0 0, .slice none 0 0] 30)).cell? ⟨w.heap.size + 1, 2, none⟩ = some (.slice none 0 0) := by go_simp
    have zf : ∀ o, ((w.alloc (.cells #[.slice A0 n c0, .slice A1 m c1, .slice A2 q c2] 30)).alloc (.cells #[.slice none 0 0, .slice none 0 0, .slice none 0 0] 30)).frozen? ⟨w.heap.size + 1, o, none⟩ = false := fun o => by go_simp
    have HL0 := Lib.hid (hl' _ hb0)
    have HB := Lib.hid hb0
    obtain ⟨wd, hwd⟩ : ∃ qq, ((w.alloc (.cells #[.slice A0 n c0, .slice A1 m c1, .slice A2 q c2] 30)).alloc (.cells #[.slice none 0 0, .slice none 0 0, .slice none 0 0] 30)) = qq := ⟨_, rfl⟩
    rw [hwd] at HL0 HB a0 a1 a2 z0 z1 z2 zf hz
    have hlt_wd : w.heap.size + 1 < wd.heap.size := by omega
    have HZD := Lib.hid hz
    clear hv hb0 hz h hl hl' hok hn hm hq hsm
    go_enter Try.func12, Try.ntmps12
    go_wp2_with fail
    (try rw [hwd])
    clear hwd
    have t1 := K0.out wd HL0.out.1 HL0.out.2.1 HL0.out.2.2
    clear K0 HL0
    refine t1.mono ?_
    rintro e w1 ⟨rfl, hb⟩
    replace a0 := (hb.cell (p := ⟨w.heap.size, 0, none⟩) (by show w.heap.size < _; omega)).trans a0
    replace z0 := (hb.cell (p := ⟨w.heap.size + 1, 0, none⟩) hlt_wd).trans z0
    replace a1 := (hb.cell (p := ⟨w.heap.size, 1, none⟩) (by show w.heap.size < _; omega)).trans a1
    replace z1 := (hb.cell (p := ⟨w.heap.size + 1, 1, none⟩) hlt_wd).trans z1
    replace a2 := (hb.cell (p := ⟨w.heap.size, 2, none⟩) (by show w.heap.size < _; omega)).trans a2
    replace z2 := (hb.cell (p := ⟨w.heap.size + 1, 2, none⟩) hlt_wd).trans z2
    replace zf := fun o => (hb.frozen (p := ⟨w.heap.size + 1, o, none⟩) hlt_wd).trans (zf o)
    replace HB := Lib.hid (more HB.out (Nat.le_refl _) hb)
    have hlt_w1 := Nat.lt_of_lt_of_le hlt_wd hb.size
    have hsz_w1 := hb.size
    clear hb
    go_wp2_with fail
    refine bodyPost_ret (v := .tuple #[.agg #[.slice none 0 0, .slice none 0 0, .slice none 0 0], .bool false]) (by simp [results, Try.results12, go_sem, *]) rfl (by rw [HVV.out]; exact HZ.out _ (((HB.out.setCell (p := ⟨w.heap.size + 1, 0, none⟩) (by simp) _).setCell (p := ⟨w.heap.size + 1, 1, none⟩) (by simp) _).setCell (p := ⟨w.heap.size + 1, 2, none⟩) (by simp) _))
  rw [decide_eq_true (show 0 < x.ahead.length by omega), if_pos (by decide)] at hv
  have HVV := Lib.hid hv
  have d1 : ((q : Int) == 0) = false := beq_eq_false_iff_ne.2 (by omega)
  obtain ⟨k, hkk⟩ : ∃ k, x.ahead.length = k + 1 := ⟨x.ahead.length - 1, by omega⟩
  obtain ⟨z, hzz⟩ := at_some (show k < x.ahead.length by omega)
  obtain ⟨b, off, rfl, hblt, hcell⟩ := h.2.2.1 (by omega)
  obtain ⟨D0, e0, f0, hce, hcd⟩ := hcell k z hzz
  have hpts := hist_parts hok
  have hsz := hpts.2.2.2 z (List.mem_of_getElem? hzz)
  have hst : StN w (some ⟨b, off, none⟩) (x.ahead.take k) := fun h0 => ⟨b, off, rfl, hblt, fun i xs hx => by
    rw [List.getElem?_take] at hx
    split at hx
    · exact hcell i xs hx
    · cases hx⟩
  have hbl : (x.ahead.take k).length = k := by rw [List.length_take]; omega
  obtain ⟨u, hu⟩ : ∃ u, z.length = u := ⟨_, rfl⟩
  rw [hu] at f0
  have HK9 := Lib.hid (show q = k + 1 by omega)
  have hkl : k ≤ 6 := by omega
  have hmk : (q : Int) - 1 = (k : Int) := by omega
  have hkm : (k : Int) < (q : Int) := by omega
  have hk0 : (0 : Int) ≤ (k : Int) := by omega
  have hkc : (k : Int) ≤ (c2 : Int) := by have := h.2.2.2.2.2; omega
  have ew : IntKind.i64.wrap ((k : Nat) : Int) = (k : Int) := IntWalk.i64_in _ (by omega)
  have kz := fun w h => (copyStore_any D0 e0 u z w h hu (by have := hsz.1; omega) hsz.2).mono fun e w' h => h.own
  rw [hu] at kz
  have kt := fun w h => copyStores_any (some ⟨b, off, none⟩) c2 k (x.ahead.take k) w h hbl (by omega) (fun xs hx => hpts.2.2.2 xs (List.mem_of_mem_take hx))
  have ko := fun w h => copyStores_any A1 c1 m x.back w h hm (by omega) hpts.2.2.1
  have kn := fun w h => (copyStore_any A0 c0 n x.now w h hn (by have := hpts.1.1; omega) hpts.1.2).mono fun e w' h => h.own
  rw [hn] at kn
  have KZ := Lib.hid (fun W (hb : Below w.heap.size w W) => kz W (hce.below hb))
  have KT := Lib.hid (fun W (hb : Below w.heap.size w W) => kt W (hst.below hb))
  have KO := Lib.hid (fun W (hb : Below w.heap.size w W) => ko W (h.2.1.below hb))
  have KN := Lib.hid (fun W (hb : Below w.heap.size w W) => kn W (h.1.below hb))
  have HP := Lib.hid (And.intro hpts hsz)
  have HU := Lib.hid (show x.ahead.length = k + 1 ∧ x.ahead[k]? = some z from ⟨hkk, hzz⟩)
  have HLN := Lib.hid (show z.length = u ∧ (x.ahead.take k).length = k ∧ x.back.length = m ∧ x.now.length = n from ⟨hu, hbl, hm, hn⟩)
  have hb0 : Below w.heap.size w ((w.alloc (.cells #[.slice A0 n c0, .slice A1 m c1, .slice (some ⟨b, off, none⟩) q c2] 30)).alloc (.cells #[.slice none 0 0, .slice none 0 0, .slice none 0 0] 30)) := by go_grown
  have hz : ((w.alloc (.cells #[.slice A0 n c0, .slice A1 m c1, .slice (some ⟨b, off, none⟩) q c2] 30)).alloc (.cells #[.slice none 0 0, .slice none 0 0, .slice none 0 0] 30)).heap.size = w.heap.size + 2 := by simp
  have a0 : ((w.alloc (.cells #[.slice A0 n c0, .slice A1 m c1, .slice (some ⟨b, off, none⟩) q c2] 30)).alloc (.cells #[.slice none 0 0, .slice none 0 0, .slice none 0 0] 30)).cell? ⟨w.heap.size, 0, none⟩ = some (.slice A0 n c0) := by go_simp
  have z0 : ((w.alloc (.cells #[.slice A0 n c0, .slice A1 m c1, .slice (some ⟨b, off, none⟩) q c2] 30)).alloc (.cells #[.slice none 0 0, .slice none 0 0, .slice none 0 0] 30)).cell? ⟨w.heap.size + 1, 0, none⟩ = some (.slice none 0 0) := by go_simp
  have a1 : ((w.alloc (.cells #[.slice A0 n c0, .slice A1 m c1, .slice (some ⟨b, off, none⟩) q c2] 30)).alloc (.cells #[.slice none 0 0, .slice none 0 0, .slice none 0 0] 30)).cell? ⟨w.heap.size, 1, none⟩ = some (.slice A1 m c1) := by go_simp
  have z1 : ((w.alloc (.cells #[.slice A0 n c0, .slice A1 m c1, .slice (some ⟨b, off, none⟩) q c2] 30)).alloc (.cells #[.slice none 0 0, .slice none 0 0, .slice none 0 0] 30)).cell? ⟨w.heap.size + 1, 1, none⟩ = some (.slice none 0 0) := by go_simp
  have a2 : ((w.alloc (.cells #[.slice A0 n c0, .slice A1 m c1, .slice (some ⟨b, off, none⟩) q c2] 30)).alloc (.cells #[.slice none 0 0, .slice none 0 0, .slice none 0 0] 30)).cell? ⟨w.heap.size, 2, none⟩ = some (.slice (some ⟨b, off, none⟩) q c2) := by go_simp
  have z2 : ((w.alloc (.cells #[.slice A0 n c0, .slice A1 m c1, .slice (some ⟨b, off, none⟩) q c2] 30)).alloc (.cells #[.slice none 0 0, .slice none 0 0, .slice none 0 0] 30)).cell? ⟨w.heap.size + 1, 2, none⟩ = some (.slice none 0 0) := by go_simp
  have zf : ∀ o, ((w.alloc (.cells #[.slice A0 n c0, .slice A1 m c1, .slice (some ⟨b, off, none⟩) q c2] 30)).alloc (.cells #[.slice none 0 0, .slice none 0 0, .slice none 0 0] 30)).frozen? ⟨w.heap.size + 1, o, none⟩ = false := fun o => by go_simp
  have HL0 := Lib.hid (hl' _ hb0)
  have HB := Lib.hid hb0
  obtain ⟨wd, hwd⟩ : ∃ qq, ((w.alloc (.cells #[.slice A0 n c0, .slice A1 m c1, .slice (some ⟨b, off, none⟩) q c2] 30)).alloc (.cells #[.slice none 0 0, .slice none 0 0, .slice none 0 0] 30)) = qq := ⟨_, rfl⟩
  rw [hwd] at HL0 HB a0 a1 a2 z0 z1 z2 zf hz
  have hlt_wd : w.heap.size + 1 < wd.heap.size := by omega
  have HZD := Lib.hid hz
  have hrow := (hb0.cell (p := ⟨b, off + k, none⟩) hblt).trans f0
  rw [hwd] at hrow
  clear hv hb0 hz h hl hl' hok hn hm hq hsm hcell hzz hkk hce hcd hst hbl hu kz kt ko kn hpts hsz f0
  go_enter Try.func12, Try.ntmps12
  go_wp2_with fail
  (try rw [hwd])
  clear hwd
  have t1 := K0.out wd HL0.out.1 HL0.out.2.1 HL0.out.2.2
  clear K0 HL0
  refine t1.mono ?_
  rintro e w1 ⟨rfl, hb⟩
  replace a0 := (hb.cell (p := ⟨w.heap.size, 0, none⟩) (by show w.heap.size < _; omega)).trans a0
  replace z0 := (hb.cell (p := ⟨w.heap.size + 1, 0, none⟩) hlt_wd).trans z0
  replace a1 := (hb.cell (p := ⟨w.heap.size, 1, none⟩) (by show w.heap.size < _; omega)).trans a1
  replace z1 := (hb.cell (p := ⟨w.heap.size + 1, 1, none⟩) hlt_wd).trans z1
  replace a2 := (hb.cell (p := ⟨w.heap.size, 2, none⟩) (by show w.heap.size < _; omega)).trans a2
  replace z2 := (hb.cell (p := ⟨w.heap.size + 1, 2, none⟩) hlt_wd).trans z2
  replace zf := fun o => (hb.frozen (p := ⟨w.heap.size + 1, o, none⟩) hlt_wd).trans (zf o)
  replace HB := Lib.hid (more HB.out (Nat.le_refl _) hb)
  have hlt_w1 := Nat.lt_of_lt_of_le hlt_wd hb.size
  have hsz_w1 := hb.size
  replace hrow := (hb.cell (p := ⟨b, off + k, none⟩) (by show b < _; omega)).trans hrow
  clear hb
  go_wp2_with fail
  have hbd : Below w1.heap.size w1 w1.drew := Below.drew (Below.refl _ _)
  have hHeld0 : (fun w' : World => w'.cell? ⟨w.heap.size, 0, none⟩ = some (.slice A0 n c0) ∧ w'.cell? ⟨w.heap.size, 1, none⟩ = some (.slice A1 m c1) ∧ w'.cell? ⟨w.heap.size, 2, none⟩ = some (.slice (some ⟨b, off, none⟩) q c2) ∧ w'.cell? ⟨b, off + k, none⟩ = some (.slice D0 u e0)) w1.drew := ⟨a0, a1, a2, hrow⟩
  refine wp_region_held_drew (S := fun w' : World => w'.cell? ⟨w.heap.size, 0, none⟩ = some (.slice A0 n c0) ∧ w'.cell? ⟨w.heap.size, 1, none⟩ = some (.slice A1 m c1) ∧ w'.cell? ⟨w.heap.size, 2, none⟩ = some (.slice (some ⟨b, off, none⟩) q c2) ∧ w'.cell? ⟨b, off + k, none⟩ = some (.slice D0 u e0)) (by kernel_rfl) hHeld0 (fun hHeld => ?_)
  clear hHeld0
  replace z0 := (hbd.cell (p := ⟨w.heap.size + 1, 0, none⟩) hlt_w1).trans z0
  replace z1 := (hbd.cell (p := ⟨w.heap.size + 1, 1, none⟩) hlt_w1).trans z1
  replace z2 := (hbd.cell (p := ⟨w.heap.size + 1, 2, none⟩) hlt_w1).trans z2
  replace zf := fun o => (hbd.frozen (p := ⟨w.heap.size + 1, o, none⟩) hlt_w1).trans (zf o)
  replace HB := Lib.hid (more HB.out (Nat.le_refl _) hbd)
  obtain ⟨v0, hv0⟩ : ∃ qq, w1.drew = qq := ⟨_, rfl⟩
  have hsz_v0 : w1.heap.size ≤ w1.drew.heap.size := hbd.size
  have hlt_v0 : w.heap.size + 1 < w1.drew.heap.size := hlt_w1
  rw [hv0] at HB hHeld z0 z1 z2 zf hsz_v0 hlt_v0 ⊢
  clear hbd hv0 a0 a1 a2 hrow
  refine wpAnyH_take (i := 0) (oi := _) (v := ?_) rfl (by kernel_rfl) (by kernel_rfl) (by kernel_rfl) (fun _ _ _ h => h) (Or.inl ⟨by kernel_rfl, ?_⟩) (by assumption) ?_
  rotate_left
  · (intro w hSw; (try dsimp only at hSw); go_simp)
    try with_reducible rfl
  (try simp only [Act.put, List.getElem_toArray, List.getElem_cons_zero, List.getElem_cons_succ, List.setIfInBounds_toArray, List.set_cons_zero, List.set_cons_succ])
  refine wpAnyH_take (i := 1) (oi := _) (v := ?_) rfl (by kernel_rfl) (by kernel_rfl) (by kernel_rfl) (fun _ _ _ h => h) (Or.inl ⟨by kernel_rfl, ?_⟩) (by assumption) ?_
  rotate_left
  · (intro w hSw; (try dsimp only at hSw); go_simp)
    try with_reducible rfl
  (try simp only [Act.put, List.getElem_toArray, List.getElem_cons_zero, List.getElem_cons_succ, List.setIfInBounds_toArray, List.set_cons_zero, List.set_cons_succ])
  refine wpAnyH_take (i := 2) (oi := _) (v := ?_) rfl (by kernel_rfl) (by kernel_rfl) (by kernel_rfl) (fun _ _ _ h => h) (Or.inl ⟨by kernel_rfl, ?_⟩) (by assumption) ?_
  rotate_left
  · (intro w hSw; (try dsimp only at hSw); go_simp)
    try with_reducible rfl
  (try simp only [Act.put, List.getElem_toArray, List.getElem_cons_zero, List.getElem_cons_succ, List.setIfInBounds_toArray, List.set_cons_zero, List.set_cons_succ])
  refine wpAnyH_take (i := 3) (oi := _) (v := ?_) rfl (by kernel_rfl) (by kernel_rfl) (by kernel_rfl) (fun _ _ _ h => h) (Or.inl ⟨by kernel_rfl, ?_⟩) (by assumption) ?_
  rotate_left
  · (intro w hSw; (try dsimp only at hSw); go_simp)
    try with_reducible rfl
  (try simp only [Act.put, List.getElem_toArray, List.getElem_cons_zero, List.getElem_cons_succ, List.setIfInBounds_toArray, List.set_cons_zero, List.set_cons_succ])
  refine wpAnyH_take (i := 4) (oi := _) (v := ?_) rfl (by kernel_rfl) (by kernel_rfl) (by kernel_rfl) (fun _ _ _ h => h) (Or.inl ⟨by kernel_rfl, ?_⟩) (by assumption) ?_
  rotate_left
  · (intro w hSw; (try dsimp only at hSw); go_simp)
    try with_reducible rfl
  (try simp only [Act.put, List.getElem_toArray, List.getElem_cons_zero, List.getElem_cons_succ, List.setIfInBounds_toArray, List.set_cons_zero, List.set_cons_succ])
  refine wpAnyH_take (i := 6) (oi := _) (v := ?_) rfl (by kernel_rfl) (by kernel_rfl) (by kernel_rfl) (fun _ _ _ h => h) (Or.inl ⟨by kernel_rfl, ?_⟩) (by assumption) ?_
  rotate_left
  · (intro w hSw; (try dsimp only at hSw); go_simp)
    try with_reducible rfl
  (try simp only [Act.put, List.getElem_toArray, List.getElem_cons_zero, List.getElem_cons_succ, List.setIfInBounds_toArray, List.set_cons_zero, List.set_cons_succ])
  refine wpAnyH_take (i := 7) (oi := _) (v := ?_) rfl (by kernel_rfl) (by kernel_rfl) (by kernel_rfl) (fun _ _ _ h => h) (Or.inl ⟨by kernel_rfl, ?_⟩) (by assumption) ?_
  rotate_left
  · (intro w hSw; (try dsimp only at hSw); go_simp)
    try with_reducible rfl
  (try simp only [Act.put, List.getElem_toArray, List.getElem_cons_zero, List.getElem_cons_succ, List.setIfInBounds_toArray, List.set_cons_zero, List.set_cons_succ])
  refine wpAnyH_take (i := 9) (oi := _) (v := ?_) rfl (by kernel_rfl) (by kernel_rfl) (by kernel_rfl) (fun _ _ _ h => h) (Or.inl ⟨by kernel_rfl, ?_⟩) (by assumption) ?_
  rotate_left
  · (intro w hSw; (try dsimp only at hSw); go_simp)
    try with_reducible rfl
  (try simp only [Act.put, List.getElem_toArray, List.getElem_cons_zero, List.getElem_cons_succ, List.setIfInBounds_toArray, List.set_cons_zero, List.set_cons_succ])
  refine wpAnyH_take (i := 10) (oi := _) (v := ?_) rfl (by kernel_rfl) (by kernel_rfl) (by kernel_rfl) (fun _ _ _ h => h) (Or.inl ⟨by kernel_rfl, ?_⟩) (by assumption) ?_
  rotate_left
  · (intro w hSw; (try dsimp only at hSw); go_simp)
    try with_reducible rfl
  (try simp only [Act.put, List.getElem_toArray, List.getElem_cons_zero, List.getElem_cons_succ, List.setIfInBounds_toArray, List.set_cons_zero, List.set_cons_succ])
  refine wpAnyH_take (i := 14) (oi := _) (v := ?_) rfl (by kernel_rfl) (by kernel_rfl) (by kernel_rfl) (fun _ _ _ h => h) (Or.inl ⟨by kernel_rfl, ?_⟩) (by assumption) ?_
  rotate_left
  · (intro w hSw; (try dsimp only at hSw); go_simp)
    try with_reducible rfl
  (try simp only [Act.put, List.getElem_toArray, List.getElem_cons_zero, List.getElem_cons_succ, List.setIfInBounds_toArray, List.set_cons_zero, List.set_cons_succ])
  refine wpAnyH_take (i := 15) (oi := _) (v := ?_) rfl (by kernel_rfl) (by kernel_rfl) (by kernel_rfl) (fun _ _ _ h => h) (Or.inl ⟨by kernel_rfl, ?_⟩) (by assumption) ?_
  rotate_left
  · (intro w hSw; (try dsimp only at hSw); go_simp)
    try with_reducible rfl
  (try simp only [Act.put, List.getElem_toArray, List.getElem_cons_zero, List.getElem_cons_succ, List.setIfInBounds_toArray, List.set_cons_zero, List.set_cons_succ])
  refine wpAnyH_take (i := 16) (oi := _) (v := ?_) rfl (by kernel_rfl) (by kernel_rfl) (by kernel_rfl) (fun _ _ _ h => h) (Or.inl ⟨by kernel_rfl, ?_⟩) (by assumption) ?_
  rotate_left
  · (intro w hSw; (try dsimp only at hSw); go_simp)
    try with_reducible rfl
  (try simp only [Act.put, List.getElem_toArray, List.getElem_cons_zero, List.getElem_cons_succ, List.setIfInBounds_toArray, List.set_cons_zero, List.set_cons_succ])
  refine wpAnyH_take (i := 17) (oi := _) (v := ?_) rfl (by kernel_rfl) (by kernel_rfl) (by kernel_rfl) (fun _ _ _ h => h) (Or.inl ⟨by kernel_rfl, ?_⟩) (by assumption) ?_
  rotate_left
  · (intro w hSw; (try dsimp only at hSw); go_simp)
    try with_reducible rfl
  (try simp only [Act.put, List.getElem_toArray, List.getElem_cons_zero, List.getElem_cons_succ, List.setIfInBounds_toArray, List.set_cons_zero, List.set_cons_succ])
  refine wpAnyH_ready (rs := [5]) (by kernel_rfl) (by simp) ?_
  refine AllReadyH.cons (o := _) rfl (fun K hK => ?_) AllReadyH.nil
  go_simp
  have t1 := KZ.out v0 HB.out
  refine t1.mono ?_
  clear t1
  rintro e v1 ⟨bZ, cZ, rfl, hnew, hb⟩
  replace z0 := (hb.cell (p := ⟨w.heap.size + 1, 0, none⟩) hlt_v0).trans z0
  replace z1 := (hb.cell (p := ⟨w.heap.size + 1, 1, none⟩) hlt_v0).trans z1
  replace z2 := (hb.cell (p := ⟨w.heap.size + 1, 2, none⟩) hlt_v0).trans z2
  replace zf := fun o => (hb.frozen (p := ⟨w.heap.size + 1, o, none⟩) hlt_v0).trans (zf o)
  have hHeld3 : (fun w' : World => w'.cell? ⟨w.heap.size, 0, none⟩ = some (.slice A0 n c0) ∧ w'.cell? ⟨w.heap.size, 1, none⟩ = some (.slice A1 m c1) ∧ w'.cell? ⟨w.heap.size, 2, none⟩ = some (.slice (some ⟨b, off, none⟩) q c2) ∧ w'.cell? ⟨b, off + k, none⟩ = some (.slice D0 u e0)) v1 := ⟨(hb.cell (p := ⟨w.heap.size, 0, none⟩) (by show w.heap.size < _; omega)).trans hHeld.1, (hb.cell (p := ⟨w.heap.size, 1, none⟩) (by show w.heap.size < _; omega)).trans hHeld.2.1, (hb.cell (p := ⟨w.heap.size, 2, none⟩) (by show w.heap.size < _; omega)).trans hHeld.2.2.1, (hb.cell (p := ⟨b, off + k, none⟩) (by show b < _; omega)).trans hHeld.2.2.2⟩
  have hlt_v1 : w.heap.size + 1 < v1.heap.size := Nat.lt_of_lt_of_le hlt_v0 hb.size
  have hsz_v1 := hb.size
  replace HB := Lib.hid (more HB.out (Nat.le_refl _) hb)
  have IZ := Lib.hid hnew
  obtain ⟨sZ, hsZ⟩ : ∃ qq, v0.heap.size = qq := ⟨_, rfl⟩
  have HEZ := Lib.hid hsZ
  rw [hsZ] at IZ
  refine hK.out _ _ hHeld3 (fun hHeld2 => ?_)
  clear hHeld2 hHeld hK K hb hnew hsZ
  have hHeld := hHeld3
  clear hHeld3
  (try simp only [Act.put, List.getElem_toArray, List.getElem_cons_zero, List.getElem_cons_succ, List.setIfInBounds_toArray, List.set_cons_zero, List.set_cons_succ])
  refine wpAnyH_ready (rs := [8]) (by kernel_rfl) (by simp) ?_
  refine AllReadyH.cons (o := _) rfl (fun K hK => ?_) AllReadyH.nil
  go_simp
  have t1 := KO.out v1 HB.out
  refine t1.mono ?_
  clear t1
  rintro e v2 ⟨bO, cO, rfl, hnew, hb⟩
  replace z0 := (hb.cell (p := ⟨w.heap.size + 1, 0, none⟩) hlt_v1).trans z0
  replace z1 := (hb.cell (p := ⟨w.heap.size + 1, 1, none⟩) hlt_v1).trans z1
  replace z2 := (hb.cell (p := ⟨w.heap.size + 1, 2, none⟩) hlt_v1).trans z2
  replace zf := fun o => (hb.frozen (p := ⟨w.heap.size + 1, o, none⟩) hlt_v1).trans (zf o)
  have hHeld3 : (fun w' : World => w'.cell? ⟨w.heap.size, 0, none⟩ = some (.slice A0 n c0) ∧ w'.cell? ⟨w.heap.size, 1, none⟩ = some (.slice A1 m c1) ∧ w'.cell? ⟨w.heap.size, 2, none⟩ = some (.slice (some ⟨b, off, none⟩) q c2) ∧ w'.cell? ⟨b, off + k, none⟩ = some (.slice D0 u e0)) v2 := ⟨(hb.cell (p := ⟨w.heap.size, 0, none⟩) (by show w.heap.size < _; omega)).trans hHeld.1, (hb.cell (p := ⟨w.heap.size, 1, none⟩) (by show w.heap.size < _; omega)).trans hHeld.2.1, (hb.cell (p := ⟨w.heap.size, 2, none⟩) (by show w.heap.size < _; omega)).trans hHeld.2.2.1, (hb.cell (p := ⟨b, off + k, none⟩) (by show b < _; omega)).trans hHeld.2.2.2⟩
  replace IZ := Lib.hid (IZ.out.below hb)
  have hlt_v2 : w.heap.size + 1 < v2.heap.size := Nat.lt_of_lt_of_le hlt_v1 hb.size
  have hsz_v2 := hb.size
  replace HB := Lib.hid (more HB.out (Nat.le_refl _) hb)
  have IO := Lib.hid hnew
  obtain ⟨sO, hsO⟩ : ∃ qq, v1.heap.size = qq := ⟨_, rfl⟩
  have HEO := Lib.hid hsO
  rw [hsO] at IO
  have hbO := IO.out.lt
  have htO : bO < v2.heap.size := hbO.2
  refine hK.out _ _ hHeld3 (fun hHeld2 => ?_)
  clear hHeld2 hHeld hK K hb hnew hsO
  have hHeld := hHeld3
  clear hHeld3
  (try simp only [Act.put, List.getElem_toArray, List.getElem_cons_zero, List.getElem_cons_succ, List.setIfInBounds_toArray, List.set_cons_zero, List.set_cons_succ])
  refine wpAnyH_ready (rs := [11]) (by kernel_rfl) (by simp) ?_
  refine AllReadyH.cons (o := _) rfl (fun K hK => ?_) AllReadyH.nil
  go_simp
  have t1 := KN.out v2 HB.out
  refine t1.mono ?_
  clear t1
  rintro e v3 ⟨bN, cN, rfl, hnew, hb⟩
  replace z0 := (hb.cell (p := ⟨w.heap.size + 1, 0, none⟩) hlt_v2).trans z0
  replace z1 := (hb.cell (p := ⟨w.heap.size + 1, 1, none⟩) hlt_v2).trans z1
  replace z2 := (hb.cell (p := ⟨w.heap.size + 1, 2, none⟩) hlt_v2).trans z2
  replace zf := fun o => (hb.frozen (p := ⟨w.heap.size + 1, o, none⟩) hlt_v2).trans (zf o)
  have hHeld3 : (fun w' : World => w'.cell? ⟨w.heap.size, 0, none⟩ = some (.slice A0 n c0) ∧ w'.cell? ⟨w.heap.size, 1, none⟩ = some (.slice A1 m c1) ∧ w'.cell? ⟨w.heap.size, 2, none⟩ = some (.slice (some ⟨b, off, none⟩) q c2) ∧ w'.cell? ⟨b, off + k, none⟩ = some (.slice D0 u e0)) v3 := ⟨(hb.cell (p := ⟨w.heap.size, 0, none⟩) (by show w.heap.size < _; omega)).trans hHeld.1, (hb.cell (p := ⟨w.heap.size, 1, none⟩) (by show w.heap.size < _; omega)).trans hHeld.2.1, (hb.cell (p := ⟨w.heap.size, 2, none⟩) (by show w.heap.size < _; omega)).trans hHeld.2.2.1, (hb.cell (p := ⟨b, off + k, none⟩) (by show b < _; omega)).trans hHeld.2.2.2⟩
  replace IZ := Lib.hid (IZ.out.below hb)
  replace IO := Lib.hid (IO.out.below hb)
  have hlt_v3 : w.heap.size + 1 < v3.heap.size := Nat.lt_of_lt_of_le hlt_v2 hb.size
  have hsz_v3 := hb.size
  replace HB := Lib.hid (more HB.out (Nat.le_refl _) hb)
  have IN := Lib.hid hnew
  obtain ⟨sN, hsN⟩ : ∃ qq, v2.heap.size = qq := ⟨_, rfl⟩
  have HEN := Lib.hid hsN
  rw [hsN] at IN
  refine hK.out _ _ hHeld3 (fun hHeld2 => ?_)
  clear hHeld2 hHeld hK K hb hnew hsN
  have hHeld := hHeld3
  clear hHeld3
  (try simp only [Act.put, List.getElem_toArray, List.getElem_cons_zero, List.getElem_cons_succ, List.setIfInBounds_toArray, List.set_cons_zero, List.set_cons_succ])
  refine wpAnyH_ready (rs := [12]) (by kernel_rfl) (by simp) ?_
  refine AllReadyH.cons (o := _) rfl (fun K hK => ?_) AllReadyH.nil
  go_simp
  have hb := Below.alloc (Below.refl v3.heap.size v3) (Nat.le_refl _) (.cells #[.slice (some ⟨bN, 0, none⟩) n cN] 27)
  have hcl : (v3.alloc (.cells #[.slice (some ⟨bN, 0, none⟩) n cN] 27)).cell? ⟨v3.heap.size, 0, none⟩ = some (.slice (some ⟨bN, 0, none⟩) n cN) := by rw [World.cell?_alloc_new]; rfl
  obtain ⟨v4, hnew⟩ : ∃ v, v3.alloc (.cells #[.slice (some ⟨bN, 0, none⟩) n cN] 27) = v := ⟨_, rfl⟩
  rw [hnew] at hb hcl ⊢
  replace z0 := (hb.cell (p := ⟨w.heap.size + 1, 0, none⟩) hlt_v3).trans z0
  replace z1 := (hb.cell (p := ⟨w.heap.size + 1, 1, none⟩) hlt_v3).trans z1
  replace z2 := (hb.cell (p := ⟨w.heap.size + 1, 2, none⟩) hlt_v3).trans z2
  replace zf := fun o => (hb.frozen (p := ⟨w.heap.size + 1, o, none⟩) hlt_v3).trans (zf o)
  have hHeld3 : (fun w' : World => w'.cell? ⟨w.heap.size, 0, none⟩ = some (.slice A0 n c0) ∧ w'.cell? ⟨w.heap.size, 1, none⟩ = some (.slice A1 m c1) ∧ w'.cell? ⟨w.heap.size, 2, none⟩ = some (.slice (some ⟨b, off, none⟩) q c2) ∧ w'.cell? ⟨b, off + k, none⟩ = some (.slice D0 u e0)) v4 := ⟨(hb.cell (p := ⟨w.heap.size, 0, none⟩) (by show w.heap.size < _; omega)).trans hHeld.1, (hb.cell (p := ⟨w.heap.size, 1, none⟩) (by show w.heap.size < _; omega)).trans hHeld.2.1, (hb.cell (p := ⟨w.heap.size, 2, none⟩) (by show w.heap.size < _; omega)).trans hHeld.2.2.1, (hb.cell (p := ⟨b, off + k, none⟩) (by show b < _; omega)).trans hHeld.2.2.2⟩
  replace IZ := Lib.hid (IZ.out.below hb)
  replace IO := Lib.hid (IO.out.below hb)
  replace IN := Lib.hid (IN.out.below hb)
  have hlt_v4 : w.heap.size + 1 < v4.heap.size := Nat.lt_of_lt_of_le hlt_v3 hb.size
  have hsz_v4 := hb.size
  replace HB := Lib.hid (more HB.out (Nat.le_refl _) hb)
  obtain ⟨bl, hbl⟩ : ∃ v, v3.heap.size = v := ⟨_, rfl⟩
  rw [hbl] at hcl ⊢
  have HCL := Lib.hid hcl
  have HBL := Lib.hid hbl
  have hbll : bl < v4.heap.size := World.block_lt_of_cell? _ _ hcl
  refine hK.out _ _ hHeld3 (fun hHeld2 => ?_)
  clear hHeld2 hHeld hK K hb hcl hnew hbl
  have hHeld := hHeld3
  clear hHeld3
  (try simp only [Act.put, List.getElem_toArray, List.getElem_cons_zero, List.getElem_cons_succ, List.setIfInBounds_toArray, List.set_cons_zero, List.set_cons_succ])
  refine wpAnyH_ready (rs := [13]) (by kernel_rfl) (by simp) ?_
  refine AllReadyH.cons (o := _) rfl (fun K hK => ?_) AllReadyH.nil
  refine step_add_st (by rfl) (.tmp 27) (.tmp 31) (by rfl) sO bO cO m (x.back) (by rfl) HLN.out.2.2.1 IO.out ⟨bl, 0, none⟩ 1 sN bN cN n (x.now) HLN.out.2.2.2 IN.out (by have := HEO.out; have := HEN.out; omega) (by rfl) HCL.out (by have h1 := HP.out.1.2.1; have h2 := HLN.out.2.2.1; omega) (by have := HEO.out; omega) ?_
  intro bx cx v5 hss hg hM hat
  obtain ⟨M, hM⟩ := hM
  have hrl := IO.out.lt
  have ht := Turn.of_grown (lo := bO) (hi := bO + 1) hg (Nat.le_refl _) (Nat.lt_succ_self _)
  have hsr := HEO.out
  have hsz_v5 := ht.size
  replace z0 := (ht.cell (o := 0) hlt_v4 (by omega)).trans z0
  replace z1 := (ht.cell (o := 1) hlt_v4 (by omega)).trans z1
  replace z2 := (ht.cell (o := 2) hlt_v4 (by omega)).trans z2
  replace zf := fun o => (World.frozen?_of_block (a := ⟨w.heap.size + 1, o, none⟩) (ht.block (w.heap.size + 1) hlt_v4 (by omega))).trans (zf o)
  have hHeld3 : (fun w' : World => w'.cell? ⟨w.heap.size, 0, none⟩ = some (.slice A0 n c0) ∧ w'.cell? ⟨w.heap.size, 1, none⟩ = some (.slice A1 m c1) ∧ w'.cell? ⟨w.heap.size, 2, none⟩ = some (.slice (some ⟨b, off, none⟩) q c2) ∧ w'.cell? ⟨b, off + k, none⟩ = some (.slice D0 u e0)) v5 := ⟨(ht.cell (k := w.heap.size) (o := 0) (by omega) (by omega)).trans hHeld.1, (ht.cell (k := w.heap.size) (o := 1) (by omega) (by omega)).trans hHeld.2.1, (ht.cell (k := w.heap.size) (o := 2) (by omega) (by omega)).trans hHeld.2.2.1, (ht.cell (k := b) (o := off + k) (by omega) (by omega)).trans hHeld.2.2.2⟩
  replace IZ := Lib.hid (IZ.out.grownS hg hM)
  have hlt_v5 : w.heap.size + 1 < v5.heap.size := Nat.lt_of_lt_of_le hlt_v4 ht.size
  replace HB := Lib.hid (HB.out.trans (ht.below (by have := HEO.out; omega) (by omega)))
  have IX := Lib.hid hss
  refine hK.out _ _ hHeld3 (fun hHeld2 => ?_)
  clear hHeld2 hHeld hK K hss hg hM ht hat IO IN
  have hHeld := hHeld3
  clear hHeld3
  (try simp only [Act.put, List.getElem_toArray, List.getElem_cons_zero, List.getElem_cons_succ, List.setIfInBounds_toArray, List.set_cons_zero, List.set_cons_succ])
  refine wpAnyH_ready (rs := [18]) (by kernel_rfl) (by simp) ?_
  refine AllReadyH.cons (o := _) rfl (fun K hK => ?_) AllReadyH.nil
  go_simp
  have t1 := KT.out v5 HB.out
  refine t1.mono ?_
  clear t1
  rintro e v6 ⟨bT, cT, rfl, hnew, hb⟩
  replace z0 := (hb.cell (p := ⟨w.heap.size + 1, 0, none⟩) hlt_v5).trans z0
  replace z1 := (hb.cell (p := ⟨w.heap.size + 1, 1, none⟩) hlt_v5).trans z1
  replace z2 := (hb.cell (p := ⟨w.heap.size + 1, 2, none⟩) hlt_v5).trans z2
  replace zf := fun o => (hb.frozen (p := ⟨w.heap.size + 1, o, none⟩) hlt_v5).trans (zf o)
  have hHeld3 : (fun w' : World => w'.cell? ⟨w.heap.size, 0, none⟩ = some (.slice A0 n c0) ∧ w'.cell? ⟨w.heap.size, 1, none⟩ = some (.slice A1 m c1) ∧ w'.cell? ⟨w.heap.size, 2, none⟩ = some (.slice (some ⟨b, off, none⟩) q c2) ∧ w'.cell? ⟨b, off + k, none⟩ = some (.slice D0 u e0)) v6 := ⟨(hb.cell (p := ⟨w.heap.size, 0, none⟩) (by show w.heap.size < _; omega)).trans hHeld.1, (hb.cell (p := ⟨w.heap.size, 1, none⟩) (by show w.heap.size < _; omega)).trans hHeld.2.1, (hb.cell (p := ⟨w.heap.size, 2, none⟩) (by show w.heap.size < _; omega)).trans hHeld.2.2.1, (hb.cell (p := ⟨b, off + k, none⟩) (by show b < _; omega)).trans hHeld.2.2.2⟩
  replace IZ := Lib.hid (IZ.out.below hb)
  replace IX := Lib.hid (IX.out.below hb)
  have hlt_v6 : w.heap.size + 1 < v6.heap.size := Nat.lt_of_lt_of_le hlt_v5 hb.size
  have hsz_v6 := hb.size
  replace HB := Lib.hid (more HB.out (Nat.le_refl _) hb)
  have IT := Lib.hid hnew
  obtain ⟨sT, hsT⟩ : ∃ qq, v5.heap.size = qq := ⟨_, rfl⟩
  have HET := Lib.hid hsT
  rw [hsT] at IT
  have hbT := IT.out.lt
  have htT : bT < v6.heap.size := hbT.2
  refine hK.out _ _ hHeld3 (fun hHeld2 => ?_)
  clear hHeld2 hHeld hK K hb hnew hsT
  have hHeld := hHeld3
  clear hHeld3
  (try simp only [Act.put, List.getElem_toArray, List.getElem_cons_zero, List.getElem_cons_succ, List.setIfInBounds_toArray, List.set_cons_zero, List.set_cons_succ])
  refine wpAnyH_take (i := 19) (oi := _) (v := ?_) rfl (by kernel_rfl) (by kernel_rfl) (by kernel_rfl) (fun _ _ _ h => h) (Or.inl ⟨by kernel_rfl, ?_⟩) (by assumption) ?_
  rotate_left
  · (intro w hSw; (try dsimp only at hSw); go_simp)
    try with_reducible rfl
  (try simp only [Act.put, List.getElem_toArray, List.getElem_cons_zero, List.getElem_cons_succ, List.setIfInBounds_toArray, List.set_cons_zero, List.set_cons_succ])
  refine wpAnyH_ready (rs := [20]) (by kernel_rfl) (by simp) ?_
  refine AllReadyH.cons (o := _) rfl (fun K hK => ?_) AllReadyH.nil
  have kk : ∀ (y : World) (j i : Nat) (u : Value) (bb : Nat), bb ≠ w.heap.size + 1 → (y.setCell ⟨w.heap.size + 1, j, none⟩ u).cell? ⟨bb, i, none⟩ = y.cell? ⟨bb, i, none⟩ := fun y j i u bb hne => World.cell?_setCell_other _ _ _ _ (by intro e; injection e with e1 e2; omega)
  have hSS : ∀ p0 p1 p2, (fun w' : World => w'.cell? ⟨w.heap.size, 0, none⟩ = some (.slice A0 n c0) ∧ w'.cell? ⟨w.heap.size, 1, none⟩ = some (.slice A1 m c1) ∧ w'.cell? ⟨w.heap.size, 2, none⟩ = some (.slice (some ⟨b, off, none⟩) q c2) ∧ w'.cell? ⟨b, off + k, none⟩ = some (.slice D0 u e0)) (((v6.setCell ⟨w.heap.size + 1, 0, none⟩ (p0)).setCell ⟨w.heap.size + 1, 1, none⟩ (p1)).setCell ⟨w.heap.size + 1, 2, none⟩ (p2)) := fun p0 p1 p2 => by
    refine ⟨?_, ?_, ?_, ?_⟩
    all_goals (rw [kk _ _ _ _ _ (by omega), kk _ _ _ _ _ (by omega), kk _ _ _ _ _ (by omega)])
    · exact hHeld.1
    · exact hHeld.2.1
    · exact hHeld.2.2.1
    · exact hHeld.2.2.2
  go_simp
  refine hK.out _ _ (hSS _ _ _) (fun hHeld2 => ?_)
  clear hHeld
  have hHeld := hHeld2
  clear hHeld2 hK K hSS kk
  (try simp only [Act.put, List.getElem_toArray, List.getElem_cons_zero, List.getElem_cons_succ, List.setIfInBounds_toArray, List.set_cons_zero, List.set_cons_succ])
  refine wpAnyH_take (i := 21) (oi := _) (v := ?_) rfl (by kernel_rfl) (by kernel_rfl) (by kernel_rfl) (fun _ _ _ h => h) (Or.inl ⟨by kernel_rfl, ?_⟩) (by assumption) ?_
  rotate_left
  · (intro w hSw; (try dsimp only at hSw); go_simp)
    try with_reducible rfl
  (try simp only [Act.put, List.getElem_toArray, List.getElem_cons_zero, List.getElem_cons_succ, List.setIfInBounds_toArray, List.set_cons_zero, List.set_cons_succ])
  refine wpAnyH_done (by kernel_rfl) ?_ _
  clear hHeld
  go_wp2_with fail
  have ht : ∀ p0 p1 p2, Turn (w.heap.size + 1) (w.heap.size + 2) v6 (((v6.setCell ⟨w.heap.size + 1, 0, none⟩ (p0)).setCell ⟨w.heap.size + 1, 1, none⟩ (p1)).setCell ⟨w.heap.size + 1, 2, none⟩ (p2)) := fun p0 p1 p2 => ((turn_set v6 ⟨w.heap.size + 1, 0, none⟩ p0).trans (turn_set _ ⟨w.heap.size + 1, 1, none⟩ p1)).trans (turn_set _ ⟨w.heap.size + 1, 2, none⟩ p2)
  have hbs : ∀ p0 p1 p2, Below (w.heap.size + 1) v6 (((v6.setCell ⟨w.heap.size + 1, 0, none⟩ (p0)).setCell ⟨w.heap.size + 1, 1, none⟩ (p1)).setCell ⟨w.heap.size + 1, 2, none⟩ (p2)) := fun p0 p1 p2 => (ht p0 p1 p2).below (Nat.le_refl _) (by omega)
  refine bodyPost_ret (v := .tuple #[.agg #[.slice (some ⟨bZ, 0, none⟩) u cZ, .slice (some ⟨bx, 0, none⟩) (m + 1) cx, .slice (some ⟨bT, 0, none⟩) k cT], .bool true]) (by simp [results, Try.results12, go_sem, *]) rfl ?_
  rw [HVV.out]
  have hzd := HZD.out
  have t0 := ht (.slice (some ⟨bZ, 0, none⟩) u cZ) (.slice (some ⟨bx, 0, none⟩) (m + 1) cx) (.slice (some ⟨bT, 0, none⟩) k cT)
  have hBx := HB.out.trans ((hbs (.slice (some ⟨bZ, 0, none⟩) u cZ) (.slice (some ⟨bx, 0, none⟩) (m + 1) cx) (.slice (some ⟨bT, 0, none⟩) k cT)).mono (by omega))
  have eZ := HEZ.out
  have eT := HET.out
  have eO := HEO.out
  obtain ⟨⟨p0, p1, p2, p3⟩, p4⟩ := HP.out
  have g0 := (IZ.out.turn t0 (by omega)).cel p4.2
  have g1 := (IT.out.turn t0 (by omega)).stl (fun xs hx => p3 xs (List.mem_of_mem_take hx))
  have g2 := (IX.out.turn t0 (by omega)).stl (fun xs hx => by
    rcases List.mem_append.1 hx with hx | hx
    · exact p2 xs hx
    · simp at hx; subst hx; exact p0)
  obtain ⟨l0, l1, l2, l3⟩ := HLN.out
  rw [undoH_eq (x := turnH x) HU.out.1 HU.out.2]
  refine ⟨some ⟨bZ, 0, none⟩, cZ, some ⟨bx, 0, none⟩, cx, some ⟨bT, 0, none⟩, cT, ?_, ⟨g0.1, g2.1, g1.1, g0.2, g2.2, g1.2⟩, hBx⟩
  show _ = Ending.returned (.tuple #[.agg #[.slice _ z.length _, .slice _ (x.back ++ [x.now]).length _, .slice _ (x.ahead.take k).length _], .bool true])
  rw [l0, l1, List.length_append, l2]
  rfl
end Go.Proofs.Ytkofajjlkhamkaa
