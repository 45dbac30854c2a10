/- Trees drawn: source.whole, DrawTreeSize. -/
import Derived.Test.YtpkhpaioddommaaDoorDrwT5
import Derived.Deep.RegionHeld3
namespace Go.Proofs.YtpkhpaioddommaaDoor
open Go.Joins Go.ChangeShapes Go.WideShapes Go.ChangeAt Go.RowKit Go.Deep
set_option linter.unusedVariables false
set_option linter.unusedSimpArgs false

theorem root_two {w5 : World} {lo l1 h1 l2 h2 z : Nat} {c1 c2 : List Value} {x y : Tr} {e : TypeId} (hx : TrD w5 l1 h1 c1 x) (hy : TrD w5 l2 h2 c2 y) (b1 : h1 ≤ w5.heap.size) (b2 : h2 ≤ w5.heap.size) (o1 : lo ≤ l1) (o2 : lo ≤ l2) (o3 : lo ≤ w5.heap.size) (hz : z = w5.heap.size) :
    TrD (w5.alloc (.cells (c1 ++ c2).toArray e)) lo (w5.alloc (.cells (c1 ++ c2).toArray e)).heap.size [.int .i64 0, .int .i64 (-1), .string ⟨#[]⟩, .slice none 0 0, .slice (some ⟨z, 0, none⟩) 2 2] (.mk 0 (-1) ⟨#[]⟩ [] [x, y]) := by
  subst hz
  have n1 := hx.len
  have n2 := hy.len
  have hsz : w5.heap.size < (w5.alloc (.cells (c1 ++ c2).toArray e)).heap.size := by simp
  have hx' := TrD.mono o1 (Nat.le_of_lt (Nat.lt_of_le_of_lt b1 hsz)) (hx.alloc b1 (.cells (c1 ++ c2).toArray e))
  have hy' := TrD.mono o2 (Nat.le_of_lt (Nat.lt_of_le_of_lt b2 hsz)) (hy.alloc b2 (.cells (c1 ++ c2).toArray e))
  refine TrD.mk (ps := []) (ks := [x, y]) none 0 _ 2 (fun i => if i = 0 then c1 else c2) (fun h => absurd h (by simp)) (fun _ => ⟨_, 0, rfl, o3, hsz, fun i hi j u hu => ?_⟩) (fun i t ht => ?_) (fun _ => .inl rfl)
  · have hi2 : i < 2 := hi
    have hl := lit_cells w5 (c1 ++ c2) e (0 + i * 5 + j) u
    have ha : ((⟨w5.heap.size, 0, none⟩ : Addr).add ((0 + i * 5 + j : Nat) : Nat)) = ⟨w5.heap.size, 0 + i * 5 + j, none⟩ := by simp [Addr.add] <;> (intros; omega)
    rw [ha] at hl
    refine hl ?_
    rcases (by omega : i = 0 ∨ i = 1) with rfl | rfl
    · simp only [if_pos] at hu
      have hj : j < c1.length := (List.getElem?_eq_some_iff.1 hu).1
      rw [List.getElem?_append_left (by omega), ← hu]
      congr 1
      omega
    · simp only [Nat.one_ne_zero, if_false] at hu
      rw [List.getElem?_append_right (by omega), ← hu]
      congr 1
      omega
  · match i, ht with
    | 0, ht => simp at ht; subst ht; exact hx'
    | 1, ht => simp at ht; subst ht; exact hy'
    | k + 2, ht => simp at ht
theorem past5 {w3 : World} {R b q : Nat} {u0 u1 u2 u3 u4 v : Value} {O : Obj} (hne : b ≠ R) (hlt : b < w3.heap.size) (h : w3.cell? ⟨b, q, none⟩ = some v) :
    ((((((w3.setCell ⟨R, 0, none⟩ u0).setCell ⟨R, 1, none⟩ u1).setCell ⟨R, 2, none⟩ u2).setCell ⟨R, 3, none⟩ u3).setCell ⟨R, 4, none⟩ u4).alloc O).cell? ⟨b, q, none⟩ = some v := by
  have k : ∀ (x : World) (j : Nat) (u : Value), (x.setCell ⟨R, j, none⟩ u).cell? ⟨b, q, none⟩ = x.cell? ⟨b, q, none⟩ := fun x j u => World.cell?_setCell_other _ _ _ _ (by intro e; injection e with e1 e2; omega)
  refine (Below.cell (Below.alloc (Below.refl _ _) (Nat.le_refl _) O) (p := ⟨b, q, none⟩) (by simpa [World.setCell] using hlt)).trans ?_
  rw [k, k, k, k, k]
  exact h
set_option maxHeartbeats 8000000 in
set_option maxRecDepth 100000 in
theorem whole_any (g : Nat) (A : Option Addr) (len cap : Nat) (w : World) (hs : St g A len cap w) :
    Calls Tryd.prog 46 #[.pointer (some ⟨g, 0, none⟩)] w (TreeX g A len cap w) := by
  have HG := Lib.hid hs.lt
  have hgw := hs.lt
  have HS0 := Lib.hid (hs.alloc (.cells #[.int .i64 0, .int .i64 0, .string ⟨#[]⟩, .slice none 0 0, .slice none 0 0] 26))
  have HK0 := Lib.hid ((Keep.refl g w.heap.size w).alloc (Nat.le_refl _) (.cells #[.int .i64 0, .int .i64 0, .string ⟨#[]⟩, .slice none 0 0, .slice none 0 0] 26))
  have r0 : (w.alloc (.cells #[.int .i64 0, .int .i64 0, .string ⟨#[]⟩, .slice none 0 0, .slice none 0 0] 26)).cell? ⟨w.heap.size, 0, none⟩ = some (.int .i64 0) := by go_simp
  have r1 : (w.alloc (.cells #[.int .i64 0, .int .i64 0, .string ⟨#[]⟩, .slice none 0 0, .slice none 0 0] 26)).cell? ⟨w.heap.size, 1, none⟩ = some (.int .i64 0) := by go_simp
  have r2 : (w.alloc (.cells #[.int .i64 0, .int .i64 0, .string ⟨#[]⟩, .slice none 0 0, .slice none 0 0] 26)).cell? ⟨w.heap.size, 2, none⟩ = some (.string ⟨#[]⟩) := by go_simp
  have r3 : (w.alloc (.cells #[.int .i64 0, .int .i64 0, .string ⟨#[]⟩, .slice none 0 0, .slice none 0 0] 26)).cell? ⟨w.heap.size, 3, none⟩ = some (.slice none 0 0) := by go_simp
  have r4 : (w.alloc (.cells #[.int .i64 0, .int .i64 0, .string ⟨#[]⟩, .slice none 0 0, .slice none 0 0] 26)).cell? ⟨w.heap.size, 4, none⟩ = some (.slice none 0 0) := by go_simp
  have rf : ∀ o, (w.alloc (.cells #[.int .i64 0, .int .i64 0, .string ⟨#[]⟩, .slice none 0 0, .slice none 0 0] 26)).frozen? ⟨w.heap.size, o, none⟩ = false := fun o => by go_simp
  have hz : w.heap.size < (w.alloc (.cells #[.int .i64 0, .int .i64 0, .string ⟨#[]⟩, .slice none 0 0, .slice none 0 0] 26)).heap.size := by simp
  obtain ⟨wc, hwc⟩ : ∃ wc, w.alloc (.cells #[.int .i64 0, .int .i64 0, .string ⟨#[]⟩, .slice none 0 0, .slice none 0 0] 26) = wc := ⟨_, rfl⟩
  rw [hwc] at HS0 HK0 r0 r1 r2 r3 r4 rf hz
  clear hs
  go_enter Tryd.func46, Tryd.ntmps46
  go_wp2_with fail
  refine (tree_any 4 4 g A len cap wc (by omega) (by omega) (by omega) HS0.out).mono ?_
  rintro e w2 ⟨A0, c0, A1, c1, ⟨tag, key, text, ps, ks⟩, rfl, hT, hGd, hs, hk⟩
  simp only [Tr.tag, Tr.key, Tr.text, Tr.ps, Tr.ks] at hT ⊢
  replace r0 := (hk.cell.1 w.heap.size 0 (by first | omega | (simp; done) | (simp; omega)) (by first | omega | (simp; done) | (simp; omega))).trans r0
  replace r1 := (hk.cell.1 w.heap.size 1 (by first | omega | (simp; done) | (simp; omega)) (by first | omega | (simp; done) | (simp; omega))).trans r1
  replace r2 := (hk.cell.1 w.heap.size 2 (by first | omega | (simp; done) | (simp; omega)) (by first | omega | (simp; done) | (simp; omega))).trans r2
  replace r3 := (hk.cell.1 w.heap.size 3 (by first | omega | (simp; done) | (simp; omega)) (by first | omega | (simp; done) | (simp; omega))).trans r3
  replace r4 := (hk.cell.1 w.heap.size 4 (by first | omega | (simp; done) | (simp; omega)) (by first | omega | (simp; done) | (simp; omega))).trans r4
  replace rf := fun o => (hk.cell.2 w.heap.size o (by first | omega | (simp; done) | (simp; omega)) (by first | omega | (simp; done) | (simp; omega))).trans (rf o)
  have hz2 : w.heap.size < w2.heap.size := Nat.lt_of_lt_of_le hz hk.size
  have HK2 := Lib.hid (HK0.out.more (Nat.le_refl _) hk)
  have HS2 := Lib.hid hs
  have HT := Lib.hid hT
  have HGd := Lib.hid hGd
  have hg2 : g < w2.heap.size := hs.lt
  clear hT hGd hs hk HS0 HK0
  replace r0 : (w2.alloc (.cells #[.int .i64 tag, .int .i64 key, .string text, .slice A0 ps.length c0, .slice A1 ks.length c1] 26)).cell? ⟨w.heap.size, 0, none⟩ = some (.int .i64 0) := (Below.cell (Below.alloc (Below.refl w2.heap.size w2) (Nat.le_refl _) (.cells #[.int .i64 tag, .int .i64 key, .string text, .slice A0 ps.length c0, .slice A1 ks.length c1] 26)) (p := ⟨w.heap.size, 0, none⟩) (by first | omega | (simp; done) | (simp; omega))).trans r0
  replace r1 : (w2.alloc (.cells #[.int .i64 tag, .int .i64 key, .string text, .slice A0 ps.length c0, .slice A1 ks.length c1] 26)).cell? ⟨w.heap.size, 1, none⟩ = some (.int .i64 0) := (Below.cell (Below.alloc (Below.refl w2.heap.size w2) (Nat.le_refl _) (.cells #[.int .i64 tag, .int .i64 key, .string text, .slice A0 ps.length c0, .slice A1 ks.length c1] 26)) (p := ⟨w.heap.size, 1, none⟩) (by first | omega | (simp; done) | (simp; omega))).trans r1
  replace r2 : (w2.alloc (.cells #[.int .i64 tag, .int .i64 key, .string text, .slice A0 ps.length c0, .slice A1 ks.length c1] 26)).cell? ⟨w.heap.size, 2, none⟩ = some (.string ⟨#[]⟩) := (Below.cell (Below.alloc (Below.refl w2.heap.size w2) (Nat.le_refl _) (.cells #[.int .i64 tag, .int .i64 key, .string text, .slice A0 ps.length c0, .slice A1 ks.length c1] 26)) (p := ⟨w.heap.size, 2, none⟩) (by first | omega | (simp; done) | (simp; omega))).trans r2
  replace r3 : (w2.alloc (.cells #[.int .i64 tag, .int .i64 key, .string text, .slice A0 ps.length c0, .slice A1 ks.length c1] 26)).cell? ⟨w.heap.size, 3, none⟩ = some (.slice none 0 0) := (Below.cell (Below.alloc (Below.refl w2.heap.size w2) (Nat.le_refl _) (.cells #[.int .i64 tag, .int .i64 key, .string text, .slice A0 ps.length c0, .slice A1 ks.length c1] 26)) (p := ⟨w.heap.size, 3, none⟩) (by first | omega | (simp; done) | (simp; omega))).trans r3
  replace r4 : (w2.alloc (.cells #[.int .i64 tag, .int .i64 key, .string text, .slice A0 ps.length c0, .slice A1 ks.length c1] 26)).cell? ⟨w.heap.size, 4, none⟩ = some (.slice none 0 0) := (Below.cell (Below.alloc (Below.refl w2.heap.size w2) (Nat.le_refl _) (.cells #[.int .i64 tag, .int .i64 key, .string text, .slice A0 ps.length c0, .slice A1 ks.length c1] 26)) (p := ⟨w.heap.size, 4, none⟩) (by first | omega | (simp; done) | (simp; omega))).trans r4
  replace rf : ∀ o, (w2.alloc (.cells #[.int .i64 tag, .int .i64 key, .string text, .slice A0 ps.length c0, .slice A1 ks.length c1] 26)).frozen? ⟨w.heap.size, o, none⟩ = false := fun o => (Below.frozen (Below.alloc (Below.refl w2.heap.size w2) (Nat.le_refl _) (.cells #[.int .i64 tag, .int .i64 key, .string text, .slice A0 ps.length c0, .slice A1 ks.length c1] 26)) (p := ⟨w.heap.size, o, none⟩) (by first | omega | (simp; done) | (simp; omega))).trans (rf o)
  have o0 : (w2.alloc (.cells #[.int .i64 tag, .int .i64 key, .string text, .slice A0 ps.length c0, .slice A1 ks.length c1] 26)).cell? ⟨w2.heap.size, 0, none⟩ = some (.int .i64 tag) := by go_simp
  have o1 : (w2.alloc (.cells #[.int .i64 tag, .int .i64 key, .string text, .slice A0 ps.length c0, .slice A1 ks.length c1] 26)).cell? ⟨w2.heap.size, 1, none⟩ = some (.int .i64 key) := by go_simp
  have o2 : (w2.alloc (.cells #[.int .i64 tag, .int .i64 key, .string text, .slice A0 ps.length c0, .slice A1 ks.length c1] 26)).cell? ⟨w2.heap.size, 2, none⟩ = some (.string text) := by go_simp
  have o3 : (w2.alloc (.cells #[.int .i64 tag, .int .i64 key, .string text, .slice A0 ps.length c0, .slice A1 ks.length c1] 26)).cell? ⟨w2.heap.size, 3, none⟩ = some (.slice A0 ps.length c0) := by go_simp
  have o4 : (w2.alloc (.cells #[.int .i64 tag, .int .i64 key, .string text, .slice A0 ps.length c0, .slice A1 ks.length c1] 26)).cell? ⟨w2.heap.size, 4, none⟩ = some (.slice A1 ks.length c1) := by go_simp
  have of_ : ∀ o, (w2.alloc (.cells #[.int .i64 tag, .int .i64 key, .string text, .slice A0 ps.length c0, .slice A1 ks.length c1] 26)).frozen? ⟨w2.heap.size, o, none⟩ = false := fun o => by go_simp
  obtain ⟨wd, hwd⟩ : ∃ wd, w2.alloc (.cells #[.int .i64 tag, .int .i64 key, .string text, .slice A0 ps.length c0, .slice A1 ks.length c1] 26) = wd := ⟨_, rfl⟩
  have HKd := Lib.hid (HK2.out.alloc (Nat.le_of_lt hz2) (.cells #[.int .i64 tag, .int .i64 key, .string text, .slice A0 ps.length c0, .slice A1 ks.length c1] 26))
  have HSd := Lib.hid (HS2.out.alloc (.cells #[.int .i64 tag, .int .i64 key, .string text, .slice A0 ps.length c0, .slice A1 ks.length c1] 26))
  have HTd := Lib.hid (HT.out.alloc (Nat.le_refl _) (.cells #[.int .i64 tag, .int .i64 key, .string text, .slice A0 ps.length c0, .slice A1 ks.length c1] 26))
  have hz3 : w2.heap.size < (w2.alloc (.cells #[.int .i64 tag, .int .i64 key, .string text, .slice A0 ps.length c0, .slice A1 ks.length c1] 26)).heap.size := by simp
  rw [hwd] at r0 r1 r2 r3 r4 rf o0 o1 o2 o3 o4 of_ HKd HSd HTd hz3
  clear HK2 HS2 HT
  by_cases htag : tag = -1
  · subst htag
    go_wp2_with fail
    refine (pick_any g A len cap 5 _ HSd.out (by omega)).mono ?_
    rintro e wp ⟨r, rfl, p, q, hs, hk⟩
    have hwz := hk.size
    replace r0 := (hk.cell.1 w.heap.size 0 (by first | omega | (simp; done) | (simp; omega)) (by first | omega | (simp; done) | (simp; omega))).trans r0
    replace r1 := (hk.cell.1 w.heap.size 1 (by first | omega | (simp; done) | (simp; omega)) (by first | omega | (simp; done) | (simp; omega))).trans r1
    replace r2 := (hk.cell.1 w.heap.size 2 (by first | omega | (simp; done) | (simp; omega)) (by first | omega | (simp; done) | (simp; omega))).trans r2
    replace r3 := (hk.cell.1 w.heap.size 3 (by first | omega | (simp; done) | (simp; omega)) (by first | omega | (simp; done) | (simp; omega))).trans r3
    replace r4 := (hk.cell.1 w.heap.size 4 (by first | omega | (simp; done) | (simp; omega)) (by first | omega | (simp; done) | (simp; omega))).trans r4
    replace rf := fun o => (hk.cell.2 w.heap.size o (by first | omega | (simp; done) | (simp; omega)) (by first | omega | (simp; done) | (simp; omega))).trans (rf o)
    replace o0 := (hk.cell.1 w2.heap.size 0 (by first | omega | (simp; done) | (simp; omega)) (by first | omega | (simp; done) | (simp; omega))).trans o0
    replace o1 := (hk.cell.1 w2.heap.size 1 (by first | omega | (simp; done) | (simp; omega)) (by first | omega | (simp; done) | (simp; omega))).trans o1
    replace o2 := (hk.cell.1 w2.heap.size 2 (by first | omega | (simp; done) | (simp; omega)) (by first | omega | (simp; done) | (simp; omega))).trans o2
    replace o3 := (hk.cell.1 w2.heap.size 3 (by first | omega | (simp; done) | (simp; omega)) (by first | omega | (simp; done) | (simp; omega))).trans o3
    replace o4 := (hk.cell.1 w2.heap.size 4 (by first | omega | (simp; done) | (simp; omega)) (by first | omega | (simp; done) | (simp; omega))).trans o4
    replace of_ := fun o => (hk.cell.2 w2.heap.size o (by first | omega | (simp; done) | (simp; omega)) (by first | omega | (simp; done) | (simp; omega))).trans (of_ o)
    have HKp := Lib.hid (HKd.out.more (by omega) hk)
    have HTp := Lib.hid (HTd.out.kept fun b h1 h2 => hk.block b (by omega) (by omega))
    have HSp := Lib.hid hs
    clear HKd HSd HTd hs hk hwd q
    by_cases hr : 0 < r
    · have hr1 : decide (r > 0) = true := by simpa using hr
      go_wp2_with fail
      go_region_held3 (fun w' => w'.cell? ⟨w2.heap.size, 0, none⟩ = some (.int .i64 (-1)) ∧ w'.cell? ⟨w2.heap.size, 1, none⟩ = some (.int .i64 key) ∧ w'.cell? ⟨w2.heap.size, 2, none⟩ = some (.string text) ∧ w'.cell? ⟨w2.heap.size, 3, none⟩ = some (.slice A0 ps.length c0) ∧ w'.cell? ⟨w2.heap.size, 4, none⟩ = some (.slice A1 ks.length c1)) (first | go_keep | exact ⟨past5 (by omega) (by omega) o0, past5 (by omega) (by omega) o1, past5 (by omega) (by omega) o2, past5 (by omega) (by omega) o3, past5 (by omega) (by omega) o4⟩) (first | (go_at_call 78; (with_reducible refine (tree_any 2 2 g A len cap _ (by omega) (by omega) (by omega) (by first | exact HSp.out | exact HSp.out.drew | exact HSp.out.drewN _)).mono ?_); rintro e w3 ⟨B0, d0, B1, d1, ⟨tag2, key2, text2, ps2, ks2⟩, rfl, hT2, hG2, hs2, hk2⟩; simp only [Tr.tag, Tr.key, Tr.text, Tr.ps, Tr.ks] at hT2 ⊢; have hb2 : Keep g wp.heap.size wp w3 := ⟨hk2.os, hk2.tape, hk2.output, hk2.size, hk2.block⟩; have hT2' : TrD w3 wp.heap.size w3.heap.size [.int .i64 tag2, .int .i64 key2, .string text2, .slice B0 ps2.length d0, .slice B1 ks2.length d1] (.mk tag2 key2 text2 ps2 ks2) := hT2; have hsz3 : wp.heap.size ≤ w3.heap.size := hb2.size; have hsz2 : w2.heap.size < w3.heap.size := (by omega); have hszw : w.heap.size < w3.heap.size := (by omega); replace o0 := (hb2.cell.1 w2.heap.size 0 (by first | omega | (simp; done) | (simp; omega)) (by first | omega | (simp; done) | (simp; omega))).trans o0; replace o1 := (hb2.cell.1 w2.heap.size 1 (by first | omega | (simp; done) | (simp; omega)) (by first | omega | (simp; done) | (simp; omega))).trans o1; replace o2 := (hb2.cell.1 w2.heap.size 2 (by first | omega | (simp; done) | (simp; omega)) (by first | omega | (simp; done) | (simp; omega))).trans o2; replace o3 := (hb2.cell.1 w2.heap.size 3 (by first | omega | (simp; done) | (simp; omega)) (by first | omega | (simp; done) | (simp; omega))).trans o3; replace o4 := (hb2.cell.1 w2.heap.size 4 (by first | omega | (simp; done) | (simp; omega)) (by first | omega | (simp; done) | (simp; omega))).trans o4; replace r0 := (hb2.cell.1 w.heap.size 0 (by first | omega | (simp; done) | (simp; omega)) (by first | omega | (simp; done) | (simp; omega))).trans r0; replace r1 := (hb2.cell.1 w.heap.size 1 (by first | omega | (simp; done) | (simp; omega)) (by first | omega | (simp; done) | (simp; omega))).trans r1; replace r2 := (hb2.cell.1 w.heap.size 2 (by first | omega | (simp; done) | (simp; omega)) (by first | omega | (simp; done) | (simp; omega))).trans r2; replace r3 := (hb2.cell.1 w.heap.size 3 (by first | omega | (simp; done) | (simp; omega)) (by first | omega | (simp; done) | (simp; omega))).trans r3; replace r4 := (hb2.cell.1 w.heap.size 4 (by first | omega | (simp; done) | (simp; omega)) (by first | omega | (simp; done) | (simp; omega))).trans r4; replace rf := fun o => (hb2.cell.2 w.heap.size o (by first | omega | (simp; done) | (simp; omega)) (by first | omega | (simp; done) | (simp; omega))).trans (rf o); have HT2 := Lib.hid hT2'; have HG2 := Lib.hid hG2; have HS2 := Lib.hid hs2; have HB2 := Lib.hid hb2; clear hT2 hT2' hG2 hs2 hk2 hb2))
      go_wp2_with fail
      have hsz5 : ((((((w3.setCell ⟨w.heap.size, 0, none⟩ (.int .i64 0)).setCell ⟨w.heap.size, 1, none⟩ (.int .i64 (-1))).setCell ⟨w.heap.size, 2, none⟩ (.string ⟨#[]⟩)).setCell ⟨w.heap.size, 3, none⟩ (.slice none 0 0)).setCell ⟨w.heap.size, 4, none⟩ (.slice (some ⟨w3.heap.size, 0, none⟩) 2 2))).heap.size = w3.heap.size := by simp [World.setCell]
      have HT3 := Lib.hid (HTp.out.kept fun b h1 h2 => HB2.out.block b (by omega) (by omega))
      have HK3 := Lib.hid (HKp.out.more (Nat.le_refl _) HB2.out)
      refine bodyPost_ret (v := .agg #[.int .i64 0, .int .i64 (-1), .string ⟨#[]⟩, .slice none 0 0, .slice (some ⟨w3.heap.size, 0, none⟩) 2 2]) (by simp [results, Tryd.results46, go_sem, *]) rfl ⟨none, 0, some ⟨w3.heap.size, 0, none⟩, 2, .mk 0 (-1) ⟨#[]⟩ [] [.mk (-1) key text ps ks, .mk tag2 key2 text2 ps2 ks2], rfl, ?_, ?_, ?_, ?_⟩
      · refine root_two (c1 := [.int .i64 (-1), .int .i64 key, .string text, .slice A0 ps.length c0, .slice A1 ks.length c1]) (c2 := [.int .i64 tag2, .int .i64 key2, .string text2, .slice B0 ps2.length d0, .slice B1 ks2.length d1]) (l1 := wc.heap.size) (h1 := w2.heap.size) (l2 := wp.heap.size) (h2 := w3.heap.size) ?_ ?_ (by omega) (by omega) (by omega) (by omega) (by omega) hsz5.symm
        · refine TrD.stored (TrD.stored (TrD.stored (TrD.stored (TrD.stored HT3.out ?_ _) ?_ _) ?_ _) ?_ _) ?_ _
          all_goals first | omega | (simp; done) | (simp; omega)
        · refine TrD.stored (TrD.stored (TrD.stored (TrD.stored (TrD.stored HT2.out ?_ _) ?_ _) ?_ _) ?_ _) ?_ _
          all_goals first | omega | (simp; done) | (simp; omega)
      · refine .mk (by decide) (by simp) (by simp) (by simp) ?_ (by omega)
        intro x hx
        simp only [List.mem_cons, List.not_mem_nil, or_false] at hx
        rcases hx with rfl | rfl
        · exact HGd.out
        · exact HG2.out
      · exact (((((HS2.out.set_ HG.out _).set_ HG.out _).set_ HG.out _).set_ HG.out _).set_ HG.out _).alloc _
      · exact (((((HK3.out.set_ (.inr (Nat.le_refl _)) _).set_ (.inr (Nat.le_refl _)) _).set_ (.inr (Nat.le_refl _)) _).set_ (.inr (Nat.le_refl _)) _).set_ (.inr (Nat.le_refl _)) _).alloc (by rw [hsz5]; omega) _
    · have hr1 : decide (r > 0) = false := by simpa using hr
      go_wp2_with fail
      refine bodyPost_ret (v := .agg #[.int .i64 (-1), .int .i64 key, .string text, .slice A0 ps.length c0, .slice A1 ks.length c1]) (by simp [results, Tryd.results46, go_sem, *]) rfl ⟨A0, c0, A1, c1, .mk (-1) key text ps ks, rfl, ?_, HGd.out, ?_, ?_⟩
      · refine TrD.mono (lo := wc.heap.size) (by omega) ?_ (TrD.stored (TrD.stored (TrD.stored (TrD.stored (TrD.stored HTp.out ?_ _) ?_ _) ?_ _) ?_ _) ?_ _)
        all_goals first | omega | (simp; done) | (simp; omega) | (simp [World.setCell]; omega)
      · exact ((((HSp.out.set_ HG.out _).set_ HG.out _).set_ HG.out _).set_ HG.out _).set_ HG.out _
      · exact ((((HKp.out.set_ (.inr (Nat.le_refl _)) _).set_ (.inr (Nat.le_refl _)) _).set_ (.inr (Nat.le_refl _)) _).set_ (.inr (Nat.le_refl _)) _).set_ (.inr (Nat.le_refl _)) _
  · go_wp2_with fail
    refine bodyPost_ret (v := .agg #[.int .i64 tag, .int .i64 key, .string text, .slice A0 ps.length c0, .slice A1 ks.length c1]) (by simp [results, Tryd.results46, go_sem, *]) rfl ⟨A0, c0, A1, c1, .mk tag key text ps ks, rfl, ?_, HGd.out, ?_, ?_⟩
    · refine TrD.mono (lo := wc.heap.size) (by omega) ?_ (TrD.stored (TrD.stored (TrD.stored (TrD.stored (TrD.stored HTd.out ?_ _) ?_ _) ?_ _) ?_ _) ?_ _)
      all_goals first | omega | (simp; done) | (simp; omega) | (simp [World.setCell]; omega)
    · exact ((((HSd.out.set_ HG.out _).set_ HG.out _).set_ HG.out _).set_ HG.out _).set_ HG.out _
    · exact ((((HKd.out.set_ (.inr (Nat.le_refl _)) _).set_ (.inr (Nat.le_refl _)) _).set_ (.inr (Nat.le_refl _)) _).set_ (.inr (Nat.le_refl _)) _).set_ (.inr (Nat.le_refl _)) _

theorem Code.next {w w' : World} {A : Option Addr} {len : Nat} (h : Code w w.heap.size A len) (hb : Below w.heap.size w w') : Code w' w'.heap.size A len := fun h0 => by
  obtain ⟨b, off, rfl, hbg, hc⟩ := h h0
  refine ⟨b, off, rfl, Nat.lt_of_lt_of_le hbg hb.size, fun i hi => ?_⟩
  obtain ⟨c, h1, h2, h3⟩ := hc i hi
  exact ⟨c, h1, h2, (hb.cell (p := ⟨b, off + i, none⟩) hbg).trans h3⟩
def DrawTX (w : World) (e : Ending) (w' : World) : Prop :=
  ∃ (A0 : Option Addr) (c0 : Nat) (A1 : Option Addr) (c1 : Nat) (t : Tr), e = .returned (.agg #[.int .i64 t.tag, .int .i64 t.key, .string t.text, .slice A0 t.ps.length c0, .slice A1 t.ks.length c1]) ∧
    TrD w' w.heap.size w'.heap.size [.int .i64 t.tag, .int .i64 t.key, .string t.text, .slice A0 t.ps.length c0, .slice A1 t.ks.length c1] t ∧ GdT t ∧ Below w.heap.size w w'
set_option maxHeartbeats 8000000 in
set_option maxRecDepth 100000 in
theorem DrawTreeSize_any (A : Option Addr) (len cap : Nat) (w : World) (hc : Code w w.heap.size A len) (hl : len ≤ maxLen) :
    Calls Tryd.prog 15 #[.slice A len cap] w (DrawTX w) := by
  have hb0 := Below.alloc (Below.refl w.heap.size w) (Nat.le_refl _) (.cells #[.int .i64 0, .int .i64 0, .string ⟨#[]⟩, .slice none 0 0, .slice none 0 0] 26)
  have HB0 := Lib.hid hb0
  have r0 : (w.alloc (.cells #[.int .i64 0, .int .i64 0, .string ⟨#[]⟩, .slice none 0 0, .slice none 0 0] 26)).cell? ⟨w.heap.size, 0, none⟩ = some (.int .i64 0) := by go_simp
  have r1 : (w.alloc (.cells #[.int .i64 0, .int .i64 0, .string ⟨#[]⟩, .slice none 0 0, .slice none 0 0] 26)).cell? ⟨w.heap.size, 1, none⟩ = some (.int .i64 0) := by go_simp
  have r2 : (w.alloc (.cells #[.int .i64 0, .int .i64 0, .string ⟨#[]⟩, .slice none 0 0, .slice none 0 0] 26)).cell? ⟨w.heap.size, 2, none⟩ = some (.string ⟨#[]⟩) := by go_simp
  have r3 : (w.alloc (.cells #[.int .i64 0, .int .i64 0, .string ⟨#[]⟩, .slice none 0 0, .slice none 0 0] 26)).cell? ⟨w.heap.size, 3, none⟩ = some (.slice none 0 0) := by go_simp
  have r4 : (w.alloc (.cells #[.int .i64 0, .int .i64 0, .string ⟨#[]⟩, .slice none 0 0, .slice none 0 0] 26)).cell? ⟨w.heap.size, 4, none⟩ = some (.slice none 0 0) := by go_simp
  have rf : ∀ o, (w.alloc (.cells #[.int .i64 0, .int .i64 0, .string ⟨#[]⟩, .slice none 0 0, .slice none 0 0] 26)).frozen? ⟨w.heap.size, o, none⟩ = false := fun o => by go_simp
  have hz : w.heap.size < (w.alloc (.cells #[.int .i64 0, .int .i64 0, .string ⟨#[]⟩, .slice none 0 0, .slice none 0 0] 26)).heap.size := by simp
  have HC := Lib.hid (Code.next hc hb0)
  obtain ⟨wc, hwc⟩ : ∃ wc, w.alloc (.cells #[.int .i64 0, .int .i64 0, .string ⟨#[]⟩, .slice none 0 0, .slice none 0 0] 26) = wc := ⟨_, rfl⟩
  rw [hwc] at HC HB0 r0 r1 r2 r3 r4 rf hz
  clear hc hb0
  go_enter Tryd.func15, Tryd.ntmps15
  have HS := Lib.hid (St.new (cap := cap) HC.out hl)
  go_wp2_with fail
  refine (newSource_any A len cap wc).mono ?_
  rintro e w1 ⟨rfl, rfl⟩
  have hb1 := Below.alloc (Below.refl wc.heap.size wc) (Nat.le_refl _) (.cells #[.slice A len cap, .int .i64 0, .int .i64 4000] 88)
  have HB1 := Lib.hid hb1
  have hz1 : wc.heap.size < (wc.alloc (.cells #[.slice A len cap, .int .i64 0, .int .i64 4000] 88)).heap.size := by simp
  replace r0 := (hb1.cell (p := ⟨w.heap.size, 0, none⟩) hz).trans r0
  replace r1 := (hb1.cell (p := ⟨w.heap.size, 1, none⟩) hz).trans r1
  replace r2 := (hb1.cell (p := ⟨w.heap.size, 2, none⟩) hz).trans r2
  replace r3 := (hb1.cell (p := ⟨w.heap.size, 3, none⟩) hz).trans r3
  replace r4 := (hb1.cell (p := ⟨w.heap.size, 4, none⟩) hz).trans r4
  replace rf := fun o => (hb1.frozen (p := ⟨w.heap.size, o, none⟩) hz).trans (rf o)
  clear hb1
  obtain ⟨w1, hw1⟩ : ∃ w1, wc.alloc (.cells #[.slice A len cap, .int .i64 0, .int .i64 4000] 88) = w1 := ⟨_, rfl⟩
  rw [hw1] at HS HB1 r0 r1 r2 r3 r4 rf hz1 ⊢
  clear hw1
  go_wp2_with fail
  refine (whole_any wc.heap.size A len cap w1 HS.out).mono ?_
  rintro e w2 ⟨A0, c0, A1, c1, ⟨tag, key, text, ps, ks⟩, rfl, hT, hGd, hs, hk⟩
  simp only [Tr.tag, Tr.key, Tr.text, Tr.ps, Tr.ks] at hT ⊢
  replace r0 := (hk.cell.1 w.heap.size 0 (by first | omega | (simp; done) | (simp; omega)) (by first | omega | (simp; done) | (simp; omega))).trans r0
  replace r1 := (hk.cell.1 w.heap.size 1 (by first | omega | (simp; done) | (simp; omega)) (by first | omega | (simp; done) | (simp; omega))).trans r1
  replace r2 := (hk.cell.1 w.heap.size 2 (by first | omega | (simp; done) | (simp; omega)) (by first | omega | (simp; done) | (simp; omega))).trans r2
  replace r3 := (hk.cell.1 w.heap.size 3 (by first | omega | (simp; done) | (simp; omega)) (by first | omega | (simp; done) | (simp; omega))).trans r3
  replace r4 := (hk.cell.1 w.heap.size 4 (by first | omega | (simp; done) | (simp; omega)) (by first | omega | (simp; done) | (simp; omega))).trans r4
  replace rf := fun o => (hk.cell.2 w.heap.size o (by first | omega | (simp; done) | (simp; omega)) (by first | omega | (simp; done) | (simp; omega))).trans (rf o)
  have HT := Lib.hid hT
  have HGd := Lib.hid hGd
  have HB2 := Lib.hid ((HB0.out.trans (HB1.out.mono (Nat.le_of_lt hz))).trans ((hk.mono (Nat.le_of_lt (Nat.lt_trans hz hz1))).below (Nat.le_of_lt hz)))
  have hz2 := hk.size
  clear hT hGd hs hk HB0 HB1 HS HC
  go_wp2_with fail
  refine bodyPost_ret (v := .agg #[.int .i64 tag, .int .i64 key, .string text, .slice A0 ps.length c0, .slice A1 ks.length c1]) (by simp [results, Tryd.results15, go_sem, *]) rfl ⟨A0, c0, A1, c1, .mk tag key text ps ks, rfl, ?_, HGd.out, ?_⟩
  · refine TrD.mono (lo := w1.heap.size) (by omega) ?_ (TrD.stored (TrD.stored (TrD.stored (TrD.stored (TrD.stored HT.out ?_ _) ?_ _) ?_ _) ?_ _) ?_ _)
    all_goals first | omega | (simp; done) | (simp; omega) | (simp [World.setCell])
  · exact HB2.out.trans ⟨rfl, rfl, rfl, by simp [World.setCell], fun k hk => by repeat rw [heap_setCell_other _ _ _ _ (by show k ≠ w.heap.size; omega)]⟩
end Go.Proofs.YtpkhpaioddommaaDoor
