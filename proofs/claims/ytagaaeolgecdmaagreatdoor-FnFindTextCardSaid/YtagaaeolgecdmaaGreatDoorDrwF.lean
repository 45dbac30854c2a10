/- Trees and texts drawn: DrawFindText. -/
import Derived.Test.YtagaaeolgecdmaaGreatDoorDrwN
import Derived.Test.YtagaaeolgecdmaaGreatDoorDrTM
import Derived.Test.YtagaaeolgecdmaaGreatDoorGd1
import Derived.Test.YtagaaeolgecdmaaGreatDoorTxt2
import Derived.Deep.RegionHeld3
import Derived.RangeFuncRecord
namespace Go.Proofs.YtagaaeolgecdmaaGreatDoor
open Go.Joins Go.ChangeShapes Go.WideShapes Go.ChangeAt Go.RowKit Go.Deep
set_option linter.unusedVariables false
set_option linter.unusedSimpArgs false

theorem five_cells' {w : World} {b : Nat} {v0 v1 v2 v3 v4 : Value} {e : TypeId} (h : w.heap[b]? = some (.cells #[v0, v1, v2, v3, v4] e (0, 0))) : w.cell? ⟨b, 0, none⟩ = some v0 ∧ w.cell? ⟨b, 1, none⟩ = some v1 ∧ w.cell? ⟨b, 2, none⟩ = some v2 ∧ w.cell? ⟨b, 3, none⟩ = some v3 ∧ w.cell? ⟨b, 4, none⟩ = some v4 := by
  refine ⟨?_, ?_, ?_, ?_, ?_⟩ <;> simp [World.cell?, h]
theorem set5_cell {w : World} {R b q : Nat} {v0 v1 v2 v3 v4 v : Value} (hne : b ≠ R) (h : w.cell? ⟨b, q, none⟩ = some v) : (((((w.setCell ⟨R, 0, none⟩ v0).setCell ⟨R, 1, none⟩ v1).setCell ⟨R, 2, none⟩ v2).setCell ⟨R, 3, none⟩ v3).setCell ⟨R, 4, none⟩ v4).cell? ⟨b, q, none⟩ = some v := by
  have k : ∀ (x : World) (j : Nat) (u : Value), (x.setCell ⟨R, j, none⟩ u).cell? ⟨b, q, none⟩ = x.cell? ⟨b, q, none⟩ := fun x j u => World.cell?_setCell_other _ _ _ _ (by intro e; injection e with e1 e2; omega)
  rw [k, k, k, k, k]
  exact h
theorem pick_all (g : Nat) (A : Option Addr) (len cap : Nat) (n : Int) (w : World) (hs : St g A len cap w) (hn : n ≤ 1000000) :
    Calls Tryz.prog 52 #[.pointer (some ⟨g, 0, none⟩), .int .i64 n] w (Picked g A len cap n w) := by
  by_cases h : n ≤ 256
  · exact pick_any g A len cap n w hs h
  · exact pick_big g A len cap n w hs (by omega) hn
theorem str4b {w : World} {L : Nat} (h : w.heap[L]? = some (.cells #[.string ⟨#[97]⟩, .string ⟨#[]⟩, .string ⟨#[108, 111, 110, 103, 32, 116, 101, 120, 116, 32, 49, 50, 51, 52]⟩, .string ⟨#[98, 32, 99]⟩] 9)) (r : Int) (h0 : 0 ≤ r) (h4 : r < 4) : ∃ ss : ByteArray, ss.size ≤ 14 ∧ w.cell? ⟨L, r.toNat, none⟩ = some (.string ss) := by
  rcases (by omega : r = 0 ∨ r = 1 ∨ r = 2 ∨ r = 3) with rfl | rfl | rfl | rfl
  all_goals refine ⟨_, ?_, cell_of_row _ _ _ _ _ _ h⟩
  all_goals decide
theorem sizeL_bd (m : Nat) : ∀ ks : List Tr, (∀ x ∈ ks, sizeT x ≤ m) → sizeL ks ≤ ks.length * m
  | [], _ => by simp [sizeL]
  | x :: xs, h => by
    have h1 := h x (by simp)
    have h2 := sizeL_bd m xs (fun y hy => h y (List.mem_cons_of_mem _ hy))
    simp only [sizeL, List.length_cons]
    rw [Nat.add_mul]
    omega
theorem GdD.sizes {d : Nat} {t : Tr} (h : GdD d t) : sizeT t ≤ 11 ^ d := by
  induction h with
  | @mk d tag key text ps ks h0 h1 h2 h3 h4 h5 ih =>
    have h6 := sizeL_bd (11 ^ d) ks ih
    have h7 : ks.length * 11 ^ d ≤ 10 * 11 ^ d := Nat.mul_le_mul_right _ h3
    have h8 : 1 ≤ 11 ^ d := Nat.one_le_pow _ _ (by omega)
    simp only [sizeT]
    rw [Nat.pow_succ]
    omega
theorem GdD.texts {t : Tr} (h : GdD 6 t) : (textT t).size ≤ 1000000000 := by
  have h1 := h.sizes
  have h2 := textT_size t h.gd
  have h3 : 11 ^ 6 = 1771561 := by decide
  omega
def DrawFX (w : World) (e : Ending) (w' : World) : Prop :=
  ∃ (A0 : Option Addr) (c0 : Nat) (A1 : Option Addr) (c1 : Nat) (t : Tr) (s : ByteArray), e = .returned (.tuple #[.agg #[.int .i64 t.tag, .int .i64 t.key, .string t.text, .slice A0 t.ps.length c0, .slice A1 t.ks.length c1], .string s]) ∧ PrL w' A0 t.ps ∧ TrL w' 0 A1 t.ks ∧ GdT t ∧ s.size ≤ 20000 ∧ Below w.heap.size w w'
set_option maxHeartbeats 8000000 in
set_option maxRecDepth 100000 in
theorem DrawFindText_any (A : Option Addr) (len cap : Nat) (w : World) (hc : Code w w.heap.size A len) (hl : len ≤ maxLen) :
    Calls Tryz.prog 20 #[.slice A len cap] w (DrawFX w) := by
  have hb0 := Below.alloc (Below.refl w.heap.size w) (Nat.le_refl _) (.cells #[.int .i64 0, .int .i64 0, .string ⟨#[]⟩, .slice none 0 0, .slice none 0 0] 32)
  have HB0 := Lib.hid hb0
  have r0 : (w.alloc (.cells #[.int .i64 0, .int .i64 0, .string ⟨#[]⟩, .slice none 0 0, .slice none 0 0] 32)).cell? ⟨w.heap.size, 0, none⟩ = some (.int .i64 0) := by go_simp
  have r1 : (w.alloc (.cells #[.int .i64 0, .int .i64 0, .string ⟨#[]⟩, .slice none 0 0, .slice none 0 0] 32)).cell? ⟨w.heap.size, 1, none⟩ = some (.int .i64 0) := by go_simp
  have r2 : (w.alloc (.cells #[.int .i64 0, .int .i64 0, .string ⟨#[]⟩, .slice none 0 0, .slice none 0 0] 32)).cell? ⟨w.heap.size, 2, none⟩ = some (.string ⟨#[]⟩) := by go_simp
  have r3 : (w.alloc (.cells #[.int .i64 0, .int .i64 0, .string ⟨#[]⟩, .slice none 0 0, .slice none 0 0] 32)).cell? ⟨w.heap.size, 3, none⟩ = some (.slice none 0 0) := by go_simp
  have r4 : (w.alloc (.cells #[.int .i64 0, .int .i64 0, .string ⟨#[]⟩, .slice none 0 0, .slice none 0 0] 32)).cell? ⟨w.heap.size, 4, none⟩ = some (.slice none 0 0) := by go_simp
  have rf : ∀ o, (w.alloc (.cells #[.int .i64 0, .int .i64 0, .string ⟨#[]⟩, .slice none 0 0, .slice none 0 0] 32)).frozen? ⟨w.heap.size, o, none⟩ = false := fun o => by go_simp
  have hz : w.heap.size < (w.alloc (.cells #[.int .i64 0, .int .i64 0, .string ⟨#[]⟩, .slice none 0 0, .slice none 0 0] 32)).heap.size := by simp
  have HC := Lib.hid (Code.next hc hb0)
  obtain ⟨wc, hwc⟩ : ∃ wc, w.alloc (.cells #[.int .i64 0, .int .i64 0, .string ⟨#[]⟩, .slice none 0 0, .slice none 0 0] 32) = wc := ⟨_, rfl⟩
  rw [hwc] at HC HB0 r0 r1 r2 r3 r4 rf hz
  clear hc hb0
  go_enter Tryz.func20, Tryz.ntmps20
  have HS := Lib.hid (St.new (cap := cap) HC.out hl)
  go_wp2_with fail
  refine (newSource_any A len cap wc).mono ?_
  rintro e w1 ⟨rfl, rfl⟩
  have hb1 := Below.alloc (Below.refl wc.heap.size wc) (Nat.le_refl _) (.cells #[.slice A len cap, .int .i64 0, .int .i64 4000] 112)
  have HB1 := Lib.hid hb1
  have hz1 : wc.heap.size < (wc.alloc (.cells #[.slice A len cap, .int .i64 0, .int .i64 4000] 112)).heap.size := by simp
  replace r0 := (hb1.cell (p := ⟨w.heap.size, 0, none⟩) hz).trans r0
  replace r1 := (hb1.cell (p := ⟨w.heap.size, 1, none⟩) hz).trans r1
  replace r2 := (hb1.cell (p := ⟨w.heap.size, 2, none⟩) hz).trans r2
  replace r3 := (hb1.cell (p := ⟨w.heap.size, 3, none⟩) hz).trans r3
  replace r4 := (hb1.cell (p := ⟨w.heap.size, 4, none⟩) hz).trans r4
  replace rf := fun o => (hb1.frozen (p := ⟨w.heap.size, o, none⟩) hz).trans (rf o)
  clear hb1
  obtain ⟨w1, hw1⟩ : ∃ w1, wc.alloc (.cells #[.slice A len cap, .int .i64 0, .int .i64 4000] 112) = w1 := ⟨_, rfl⟩
  rw [hw1] at HS HB1 r0 r1 r2 r3 r4 rf hz1 ⊢
  clear hw1
  go_wp2_with fail
  refine (whole_deep wc.heap.size A len cap w1 HS.out).mono ?_
  rintro e w2 ⟨A0, c0, A1, c1, ⟨tag, key, text, ps, ks⟩, rfl, hT, hGd, hs, hk⟩
  simp only [Tr.tag, Tr.key, Tr.text, Tr.ps, Tr.ks] at hT ⊢
  replace r0 := (hk.cell.1 w.heap.size 0 (by first | omega | (simp; done) | (simp; omega)) (by first | omega | (simp; done) | (simp; omega))).trans r0
  replace r1 := (hk.cell.1 w.heap.size 1 (by first | omega | (simp; done) | (simp; omega)) (by first | omega | (simp; done) | (simp; omega))).trans r1
  replace r2 := (hk.cell.1 w.heap.size 2 (by first | omega | (simp; done) | (simp; omega)) (by first | omega | (simp; done) | (simp; omega))).trans r2
  replace r3 := (hk.cell.1 w.heap.size 3 (by first | omega | (simp; done) | (simp; omega)) (by first | omega | (simp; done) | (simp; omega))).trans r3
  replace r4 := (hk.cell.1 w.heap.size 4 (by first | omega | (simp; done) | (simp; omega)) (by first | omega | (simp; done) | (simp; omega))).trans r4
  replace rf := fun o => (hk.cell.2 w.heap.size o (by first | omega | (simp; done) | (simp; omega)) (by first | omega | (simp; done) | (simp; omega))).trans (rf o)
  have HGd := Lib.hid hGd
  have hz2 := hk.size
  have HBa := Lib.hid ((HB0.out.trans (HB1.out.mono (Nat.le_of_lt hz))).trans ((hk.mono (Nat.le_of_lt (Nat.lt_trans hz hz1))).below (Nat.le_of_lt hz)))
  have hgw := hs.lt
  have hb3 := Below.alloc (Below.refl w2.heap.size w2) (Nat.le_refl _) (.cells #[.int .i64 tag, .int .i64 key, .string text, .slice A0 ps.length c0, .slice A1 ks.length c1] 32)
  have hbx : (w2.alloc (.cells #[.int .i64 tag, .int .i64 key, .string text, .slice A0 ps.length c0, .slice A1 ks.length c1] 32)).heap[w2.heap.size]? = some (.cells #[.int .i64 tag, .int .i64 key, .string text, .slice A0 ps.length c0, .slice A1 ks.length c1] 32) := World.alloc_heap_new w2 _
  obtain ⟨o0, o1, o2, o3, o4⟩ := five_cells' hbx
  replace r0 := (hb3.cell (p := ⟨w.heap.size, 0, none⟩) (by show w.heap.size < w2.heap.size; omega)).trans r0
  replace r1 := (hb3.cell (p := ⟨w.heap.size, 1, none⟩) (by show w.heap.size < w2.heap.size; omega)).trans r1
  replace r2 := (hb3.cell (p := ⟨w.heap.size, 2, none⟩) (by show w.heap.size < w2.heap.size; omega)).trans r2
  replace r3 := (hb3.cell (p := ⟨w.heap.size, 3, none⟩) (by show w.heap.size < w2.heap.size; omega)).trans r3
  replace r4 := (hb3.cell (p := ⟨w.heap.size, 4, none⟩) (by show w.heap.size < w2.heap.size; omega)).trans r4
  replace rf := fun o => (hb3.frozen (p := ⟨w.heap.size, o, none⟩) (by show w.heap.size < w2.heap.size; omega)).trans (rf o)
  have HT3 := Lib.hid (TrD.kept (fun b _ h2 => hb3.block b h2) hT)
  have HS3 := Lib.hid (hs.below hb3)
  have HB3 := Lib.hid (HBa.out.trans (hb3.mono (by omega)))
  have hsm := gsm _ hGd.gd
  have htx := hGd.texts
  have htv := textT_max hGd.gd
  have k1 := fun w hk => stextOf_any (.mk tag key text ps ks) hsm A0 A1 c0 c1 w hk (by unfold maxLen; omega)
  have k2 := fun w hp hk => svalidTree_any (.mk tag key text ps ks) hsm A0 A1 c0 c1 w hp hk
  generalize textT (.mk tag key text ps ks) = tx at k1 htx htv
  generalize treeOkB (.mk tag key text ps ks) = ok at k2 htv
  dsimp only [Tr.tag, Tr.key, Tr.text, Tr.ps, Tr.ks] at k1 k2
  have K1 := Lib.hid k1
  have K2 := Lib.hid k2
  obtain ⟨n, hn⟩ : ∃ n, tx.size = n := ⟨_, rfl⟩
  rw [hn] at htx htv
  have HN := Lib.hid hn
  obtain ⟨w3, hw3⟩ : ∃ w3, w2.alloc (.cells #[.int .i64 tag, .int .i64 key, .string text, .slice A0 ps.length c0, .slice A1 ks.length c1] 32) = w3 := ⟨_, rfl⟩
  have hz3 : w3.heap.size = w2.heap.size + 1 := by rw [← hw3]; simp
  rw [hw3] at o0 o1 o2 o3 o4 r0 r1 r2 r3 r4 rf HT3 HS3 HB3
  have HW3 := Lib.hid hw3
  have htl : PrL w3 A0 ps ∧ TrL w3 0 A1 ks := by
    obtain ⟨F0, f0, F1, f1, hfe, hp7, hk7, _⟩ := HT3.out.lies (by omega)
    simp only [Tr.tag, Tr.key, Tr.text, Tr.ps, Tr.ks, List.cons.injEq, Value.slice.injEq, true_and, and_true] at hfe hp7 hk7
    obtain ⟨⟨rfl, rfl⟩, rfl, rfl⟩ := hfe
    exact ⟨hp7, hk7⟩
  have HTL := Lib.hid htl
  have HTV := Lib.hid htv
  clear hT hGd hs hk HB0 HB1 HS HC hb3 hbx hw3 HBa hsm k1 k2 htl htv hn
  go_wp2_with fail
  rw [HW3.out]
  refine (K1.out _ HTL.out.2).mono ?_
  rintro e w4 ⟨rfl, hb⟩
  have HTL4 := Lib.hid (And.intro (HTL.out.1.below hb) (HTL.out.2.below hb))
  replace o0 := (hb.cell (p := ⟨w2.heap.size, 0, none⟩) (by show w2.heap.size < w3.heap.size; omega)).trans o0
  replace r0 := (hb.cell (p := ⟨w.heap.size, 0, none⟩) (by show w.heap.size < w3.heap.size; omega)).trans r0
  replace o1 := (hb.cell (p := ⟨w2.heap.size, 1, none⟩) (by show w2.heap.size < w3.heap.size; omega)).trans o1
  replace r1 := (hb.cell (p := ⟨w.heap.size, 1, none⟩) (by show w.heap.size < w3.heap.size; omega)).trans r1
  replace o2 := (hb.cell (p := ⟨w2.heap.size, 2, none⟩) (by show w2.heap.size < w3.heap.size; omega)).trans o2
  replace r2 := (hb.cell (p := ⟨w.heap.size, 2, none⟩) (by show w.heap.size < w3.heap.size; omega)).trans r2
  replace o3 := (hb.cell (p := ⟨w2.heap.size, 3, none⟩) (by show w2.heap.size < w3.heap.size; omega)).trans o3
  replace r3 := (hb.cell (p := ⟨w.heap.size, 3, none⟩) (by show w.heap.size < w3.heap.size; omega)).trans r3
  replace o4 := (hb.cell (p := ⟨w2.heap.size, 4, none⟩) (by show w2.heap.size < w3.heap.size; omega)).trans o4
  replace r4 := (hb.cell (p := ⟨w.heap.size, 4, none⟩) (by show w.heap.size < w3.heap.size; omega)).trans r4
  replace rf := fun o => (hb.frozen (p := ⟨w.heap.size, o, none⟩) (by show w.heap.size < w3.heap.size; omega)).trans (rf o)
  have HT4 := Lib.hid (TrD.kept (fun b h1 h2 => hb.block b (by omega)) HT3.out)
  have HS4 := Lib.hid (HS3.out.below hb)
  have HB4 := Lib.hid (HB3.out.trans (hb.mono (by omega)))
  have hz4 : w3.heap.size ≤ w4.heap.size := hb.size
  clear hb HT3 HS3 HB3
  clear HW3 HTL K1
  have hnn : (tx.size : Int) = (n : Int) := by rw [HN.out]
  go_wp2_with fail
  refine (K2.out _ HTL4.out.1 HTL4.out.2).mono ?_
  rintro e w5 ⟨rfl, hb⟩
  replace o0 := (hb.cell (p := ⟨w2.heap.size, 0, none⟩) (by show w2.heap.size < w4.heap.size; omega)).trans o0
  replace r0 := (hb.cell (p := ⟨w.heap.size, 0, none⟩) (by show w.heap.size < w4.heap.size; omega)).trans r0
  replace o1 := (hb.cell (p := ⟨w2.heap.size, 1, none⟩) (by show w2.heap.size < w4.heap.size; omega)).trans o1
  replace r1 := (hb.cell (p := ⟨w.heap.size, 1, none⟩) (by show w.heap.size < w4.heap.size; omega)).trans r1
  replace o2 := (hb.cell (p := ⟨w2.heap.size, 2, none⟩) (by show w2.heap.size < w4.heap.size; omega)).trans o2
  replace r2 := (hb.cell (p := ⟨w.heap.size, 2, none⟩) (by show w.heap.size < w4.heap.size; omega)).trans r2
  replace o3 := (hb.cell (p := ⟨w2.heap.size, 3, none⟩) (by show w2.heap.size < w4.heap.size; omega)).trans o3
  replace r3 := (hb.cell (p := ⟨w.heap.size, 3, none⟩) (by show w.heap.size < w4.heap.size; omega)).trans r3
  replace o4 := (hb.cell (p := ⟨w2.heap.size, 4, none⟩) (by show w2.heap.size < w4.heap.size; omega)).trans o4
  replace r4 := (hb.cell (p := ⟨w.heap.size, 4, none⟩) (by show w.heap.size < w4.heap.size; omega)).trans r4
  replace rf := fun o => (hb.frozen (p := ⟨w.heap.size, o, none⟩) (by show w.heap.size < w4.heap.size; omega)).trans (rf o)
  have HT5 := Lib.hid (TrD.kept (fun b h1 h2 => hb.block b (by omega)) HT4.out)
  have HS5 := Lib.hid (HS4.out.below hb)
  have HB5 := Lib.hid (HB4.out.trans (hb.mono (by omega)))
  have hz5 : w4.heap.size ≤ w5.heap.size := hb.size
  clear hb HT4 HS4 HB4
  clear HTL4 K2
  cases ok
  · go_wp2_with fail
    have hbd : Below w5.heap.size w5 w5.drew := Below.drew (Below.refl _ _)
    have hHeld0 : (fun w' : World => w'.cell? ⟨w2.heap.size, 0, none⟩ = some (.int .i64 tag) ∧ w'.cell? ⟨w2.heap.size, 1, none⟩ = some (.int .i64 key) ∧ w'.cell? ⟨w2.heap.size, 2, none⟩ = some (.string text) ∧ w'.cell? ⟨w2.heap.size, 3, none⟩ = some (.slice A0 ps.length c0) ∧ w'.cell? ⟨w2.heap.size, 4, none⟩ = some (.slice A1 ks.length c1)) w5.drew := ⟨o0, o1, o2, o3, o4⟩
    refine wp_region_held_drew (S := fun w' : World => w'.cell? ⟨w2.heap.size, 0, none⟩ = some (.int .i64 tag) ∧ w'.cell? ⟨w2.heap.size, 1, none⟩ = some (.int .i64 key) ∧ w'.cell? ⟨w2.heap.size, 2, none⟩ = some (.string text) ∧ w'.cell? ⟨w2.heap.size, 3, none⟩ = some (.slice A0 ps.length c0) ∧ w'.cell? ⟨w2.heap.size, 4, none⟩ = some (.slice A1 ks.length c1)) (by kernel_rfl) hHeld0 (fun hHeld => ?_)
    clear hHeld0
    obtain ⟨wd, hwd⟩ : ∃ v, w5.drew = v := ⟨_, rfl⟩
    have HSc := Lib.hid HS5.out.drew
    rw [hwd] at hbd HSc hHeld ⊢
    replace o0 := (hbd.cell (p := ⟨w2.heap.size, 0, none⟩) (by show w2.heap.size < w5.heap.size; omega)).trans o0
    replace r0 := (hbd.cell (p := ⟨w.heap.size, 0, none⟩) (by show w.heap.size < w5.heap.size; omega)).trans r0
    replace o1 := (hbd.cell (p := ⟨w2.heap.size, 1, none⟩) (by show w2.heap.size < w5.heap.size; omega)).trans o1
    replace r1 := (hbd.cell (p := ⟨w.heap.size, 1, none⟩) (by show w.heap.size < w5.heap.size; omega)).trans r1
    replace o2 := (hbd.cell (p := ⟨w2.heap.size, 2, none⟩) (by show w2.heap.size < w5.heap.size; omega)).trans o2
    replace r2 := (hbd.cell (p := ⟨w.heap.size, 2, none⟩) (by show w.heap.size < w5.heap.size; omega)).trans r2
    replace o3 := (hbd.cell (p := ⟨w2.heap.size, 3, none⟩) (by show w2.heap.size < w5.heap.size; omega)).trans o3
    replace r3 := (hbd.cell (p := ⟨w.heap.size, 3, none⟩) (by show w.heap.size < w5.heap.size; omega)).trans r3
    replace o4 := (hbd.cell (p := ⟨w2.heap.size, 4, none⟩) (by show w2.heap.size < w5.heap.size; omega)).trans o4
    replace r4 := (hbd.cell (p := ⟨w.heap.size, 4, none⟩) (by show w.heap.size < w5.heap.size; omega)).trans r4
    replace rf := fun o => (hbd.frozen (p := ⟨w.heap.size, o, none⟩) (by show w.heap.size < w5.heap.size; omega)).trans (rf o)
    have HTc := Lib.hid (TrD.kept (fun b h1 h2 => hbd.block b (by omega)) HT5.out)
    have HBc := Lib.hid (HB5.out.trans (hbd.mono (by omega)))
    have hzc : w5.heap.size ≤ wd.heap.size := hbd.size
    clear hbd hwd HT5 HS5 HB5
    refine wpAnyH_take (i := 0) (oi := _) (v := ?_) rfl (by kernel_rfl) (by kernel_rfl) (by kernel_rfl) (fun _ _ _ h => h) (Or.inl ⟨by kernel_rfl, ?_⟩) (by assumption) ?_
    rotate_left
    · (intro w hSw; (try dsimp only at hSw); go_simp)
      try with_reducible rfl
    (try simp only [Act.put, List.getElem_toArray, List.getElem_cons_zero, List.getElem_cons_succ, List.setIfInBounds_toArray, List.set_cons_zero, List.set_cons_succ])
    refine wpAnyH_take (i := 2) (oi := _) (v := ?_) rfl (by kernel_rfl) (by kernel_rfl) (by kernel_rfl) (fun _ _ _ h => h) (Or.inl ⟨by kernel_rfl, ?_⟩) (by assumption) ?_
    rotate_left
    · (intro w hSw; (try dsimp only at hSw); go_simp)
      try with_reducible rfl
    (try simp only [Act.put, List.getElem_toArray, List.getElem_cons_zero, List.getElem_cons_succ, List.setIfInBounds_toArray, List.set_cons_zero, List.set_cons_succ])
    refine wpAnyH_ready (rs := [1, 3]) (by kernel_rfl) (by simp) ?_
    refine AllReadyH.cons (o := _) rfl (fun K hK => ?_) ?_
    · skip
      go_simp
      have hb := Below.alloc (Below.refl wd.heap.size wd) (Nat.le_refl _) (.cells #[.string ⟨#[97]⟩, .string ⟨#[]⟩, .string ⟨#[108, 111, 110, 103, 32, 116, 101, 120, 116, 32, 49, 50, 51, 52]⟩, .string ⟨#[98, 32, 99]⟩] 9)
      have hl4 : (wd.alloc (.cells #[.string ⟨#[97]⟩, .string ⟨#[]⟩, .string ⟨#[108, 111, 110, 103, 32, 116, 101, 120, 116, 32, 49, 50, 51, 52]⟩, .string ⟨#[98, 32, 99]⟩] 9)).heap[wd.heap.size]? = some (.cells #[.string ⟨#[97]⟩, .string ⟨#[]⟩, .string ⟨#[108, 111, 110, 103, 32, 116, 101, 120, 116, 32, 49, 50, 51, 52]⟩, .string ⟨#[98, 32, 99]⟩] 9) := World.alloc_heap_new wd _
      have hsz : wd.heap.size < (wd.alloc (.cells #[.string ⟨#[97]⟩, .string ⟨#[]⟩, .string ⟨#[108, 111, 110, 103, 32, 116, 101, 120, 116, 32, 49, 50, 51, 52]⟩, .string ⟨#[98, 32, 99]⟩] 9)).heap.size := by simp
      obtain ⟨L, hL⟩ : ∃ v, wd.heap.size = v := ⟨_, rfl⟩
      have hLg : wc.heap.size < L := by omega
      have hLr : w.heap.size < L := by omega
      obtain ⟨v1, hnew⟩ : ∃ v, wd.alloc (.cells #[.string ⟨#[97]⟩, .string ⟨#[]⟩, .string ⟨#[108, 111, 110, 103, 32, 116, 101, 120, 116, 32, 49, 50, 51, 52]⟩, .string ⟨#[98, 32, 99]⟩] 9) = v := ⟨_, rfl⟩
      rw [hnew] at hb hl4 hsz ⊢
      replace o0 := (hb.cell (p := ⟨w2.heap.size, 0, none⟩) (by show w2.heap.size < wd.heap.size; omega)).trans o0
      replace r0 := (hb.cell (p := ⟨w.heap.size, 0, none⟩) (by show w.heap.size < wd.heap.size; omega)).trans r0
      replace o1 := (hb.cell (p := ⟨w2.heap.size, 1, none⟩) (by show w2.heap.size < wd.heap.size; omega)).trans o1
      replace r1 := (hb.cell (p := ⟨w.heap.size, 1, none⟩) (by show w.heap.size < wd.heap.size; omega)).trans r1
      replace o2 := (hb.cell (p := ⟨w2.heap.size, 2, none⟩) (by show w2.heap.size < wd.heap.size; omega)).trans o2
      replace r2 := (hb.cell (p := ⟨w.heap.size, 2, none⟩) (by show w.heap.size < wd.heap.size; omega)).trans r2
      replace o3 := (hb.cell (p := ⟨w2.heap.size, 3, none⟩) (by show w2.heap.size < wd.heap.size; omega)).trans o3
      replace r3 := (hb.cell (p := ⟨w.heap.size, 3, none⟩) (by show w.heap.size < wd.heap.size; omega)).trans r3
      replace o4 := (hb.cell (p := ⟨w2.heap.size, 4, none⟩) (by show w2.heap.size < wd.heap.size; omega)).trans o4
      replace r4 := (hb.cell (p := ⟨w.heap.size, 4, none⟩) (by show w.heap.size < wd.heap.size; omega)).trans r4
      replace rf := fun o => (hb.frozen (p := ⟨w.heap.size, o, none⟩) (by show w.heap.size < wd.heap.size; omega)).trans (rf o)
      replace HTc := Lib.hid (TrD.kept (fun b h1 h2 => hb.block b (by omega)) HTc.out)
      replace HBc := Lib.hid (HBc.out.trans (hb.mono (by omega)))
      replace HSc := Lib.hid (HSc.out.below hb)
      replace hzc := Nat.le_trans hzc hb.size
      rw [hL] at hl4 hsz ⊢
      have HL4 := Lib.hid hl4
      clear hb hl4 hnew
      have hHeld3 : (fun w' : World => w'.cell? ⟨w2.heap.size, 0, none⟩ = some (.int .i64 tag) ∧ w'.cell? ⟨w2.heap.size, 1, none⟩ = some (.int .i64 key) ∧ w'.cell? ⟨w2.heap.size, 2, none⟩ = some (.string text) ∧ w'.cell? ⟨w2.heap.size, 3, none⟩ = some (.slice A0 ps.length c0) ∧ w'.cell? ⟨w2.heap.size, 4, none⟩ = some (.slice A1 ks.length c1)) v1 := ⟨o0, o1, o2, o3, o4⟩
      refine hK.out _ _ hHeld3 (fun hHeld2 => ?_)
      clear hHeld2 hHeld
      have hHeld := hHeld3
      clear hHeld3 hK K
      (try simp only [Act.put, List.getElem_toArray, List.getElem_cons_zero, List.getElem_cons_succ, List.setIfInBounds_toArray, List.set_cons_zero, List.set_cons_succ])
      refine wpAnyH_ready (rs := [3]) (by kernel_rfl) (by simp) ?_
      refine AllReadyH.cons (o := _) rfl (fun K hK => ?_) AllReadyH.nil
      go_simp
      refine (pick_any wc.heap.size A len cap 4 _ HSc.out (by omega)).mono ?_
      rintro e v2 ⟨r, rfl, hr0, hr1, hs, hk⟩
      clear hs HSc
      replace o0 := (hk.cell.1 w2.heap.size 0 (by omega) (by omega)).trans o0
      replace r0 := (hk.cell.1 w.heap.size 0 (by omega) (by omega)).trans r0
      replace o1 := (hk.cell.1 w2.heap.size 1 (by omega) (by omega)).trans o1
      replace r1 := (hk.cell.1 w.heap.size 1 (by omega) (by omega)).trans r1
      replace o2 := (hk.cell.1 w2.heap.size 2 (by omega) (by omega)).trans o2
      replace r2 := (hk.cell.1 w.heap.size 2 (by omega) (by omega)).trans r2
      replace o3 := (hk.cell.1 w2.heap.size 3 (by omega) (by omega)).trans o3
      replace r3 := (hk.cell.1 w.heap.size 3 (by omega) (by omega)).trans r3
      replace o4 := (hk.cell.1 w2.heap.size 4 (by omega) (by omega)).trans o4
      replace r4 := (hk.cell.1 w.heap.size 4 (by omega) (by omega)).trans r4
      replace rf := fun o => (hk.cell.2 w.heap.size o (by omega) (by omega)).trans (rf o)
      replace HTc := Lib.hid (TrD.kept (fun b h1 h2 => hk.block b (by omega) (by omega)) HTc.out)
      replace HBc := Lib.hid (HBc.out.trans ((hk.mono (show w.heap.size ≤ v1.heap.size by omega)).below (by omega)))
      replace hzc := Nat.le_trans hzc hk.size
      have hsz3 : L < v2.heap.size := Nat.lt_of_lt_of_le hsz hk.size
      replace HL4 := Lib.hid ((hk.block L (by omega) (by omega)).trans HL4.out)
      clear hsz
      have hsz := hsz3
      clear hsz3
      clear hk
      have hHeld3 : (fun w' : World => w'.cell? ⟨w2.heap.size, 0, none⟩ = some (.int .i64 tag) ∧ w'.cell? ⟨w2.heap.size, 1, none⟩ = some (.int .i64 key) ∧ w'.cell? ⟨w2.heap.size, 2, none⟩ = some (.string text) ∧ w'.cell? ⟨w2.heap.size, 3, none⟩ = some (.slice A0 ps.length c0) ∧ w'.cell? ⟨w2.heap.size, 4, none⟩ = some (.slice A1 ks.length c1)) v2 := ⟨o0, o1, o2, o3, o4⟩
      refine hK.out _ _ hHeld3 (fun hHeld2 => ?_)
      clear hHeld2 hHeld
      have hHeld := hHeld3
      clear hHeld3 hK K
      (try simp only [Act.put, List.getElem_toArray, List.getElem_cons_zero, List.getElem_cons_succ, List.setIfInBounds_toArray, List.set_cons_zero, List.set_cons_succ])
      have hr4 : r < 4 := by omega
      obtain ⟨ss, hss, hsc⟩ : ∃ ss : ByteArray, ss.size ≤ 14 ∧ v2.cell? ⟨L, r.toNat, none⟩ = some (.string ss) := str4b HL4.out r hr0 hr4
      refine wpAnyH_take (i := 4) (oi := _) (v := ?_) rfl (by kernel_rfl) (by kernel_rfl) (by kernel_rfl) (fun _ _ _ h => h) (Or.inl ⟨by kernel_rfl, ?_⟩) (by assumption) ?_
      rotate_left
      · (intro w hSw; (try dsimp only at hSw); go_simp)
        try with_reducible rfl
      (try simp only [Act.put, List.getElem_toArray, List.getElem_cons_zero, List.getElem_cons_succ, List.setIfInBounds_toArray, List.set_cons_zero, List.set_cons_succ])
      refine wpAnyH_ready (rs := [5, 6]) (by kernel_rfl) (by simp) ?_
      refine AllReadyH.cons (o := _) rfl (fun K hK => ?_) ?_
      · skip
        go_simp
        refine hK.out _ _ hHeld (fun hHeld2 => ?_)
        clear hK K hHeld2
        (try simp only [Act.put, List.getElem_toArray, List.getElem_cons_zero, List.getElem_cons_succ, List.setIfInBounds_toArray, List.set_cons_zero, List.set_cons_succ])
        refine wpAnyH_ready (rs := [6]) (by kernel_rfl) (by simp) ?_
        refine AllReadyH.cons (o := _) rfl (fun K hK => ?_) AllReadyH.nil
        have hb7 : ∀ k, k ≠ w.heap.size → (((((v2.setCell ⟨w.heap.size, 0, none⟩ (.int .i64 tag)).setCell ⟨w.heap.size, 1, none⟩ (.int .i64 key)).setCell ⟨w.heap.size, 2, none⟩ (.string text)).setCell ⟨w.heap.size, 3, none⟩ (.slice A0 ps.length c0)).setCell ⟨w.heap.size, 4, none⟩ (.slice A1 ks.length c1)).heap[k]? = v2.heap[k]? := fun k hk => by
          rw [Below.heap_setCell _ _ _ _ hk, Below.heap_setCell _ _ _ _ hk, Below.heap_setCell _ _ _ _ hk, Below.heap_setCell _ _ _ _ hk, Below.heap_setCell _ _ _ _ hk]
        have hsz7 : (((((v2.setCell ⟨w.heap.size, 0, none⟩ (.int .i64 tag)).setCell ⟨w.heap.size, 1, none⟩ (.int .i64 key)).setCell ⟨w.heap.size, 2, none⟩ (.string text)).setCell ⟨w.heap.size, 3, none⟩ (.slice A0 ps.length c0)).setCell ⟨w.heap.size, 4, none⟩ (.slice A1 ks.length c1)).heap.size = v2.heap.size := by simp [World.setCell]
        have s0 : (((((v2.setCell ⟨w.heap.size, 0, none⟩ (.int .i64 tag)).setCell ⟨w.heap.size, 1, none⟩ (.int .i64 key)).setCell ⟨w.heap.size, 2, none⟩ (.string text)).setCell ⟨w.heap.size, 3, none⟩ (.slice A0 ps.length c0)).setCell ⟨w.heap.size, 4, none⟩ (.slice A1 ks.length c1)).cell? ⟨w.heap.size, 0, none⟩ = some (.int .i64 tag) := by go_simp
        have s1 : (((((v2.setCell ⟨w.heap.size, 0, none⟩ (.int .i64 tag)).setCell ⟨w.heap.size, 1, none⟩ (.int .i64 key)).setCell ⟨w.heap.size, 2, none⟩ (.string text)).setCell ⟨w.heap.size, 3, none⟩ (.slice A0 ps.length c0)).setCell ⟨w.heap.size, 4, none⟩ (.slice A1 ks.length c1)).cell? ⟨w.heap.size, 1, none⟩ = some (.int .i64 key) := by go_simp
        have s2 : (((((v2.setCell ⟨w.heap.size, 0, none⟩ (.int .i64 tag)).setCell ⟨w.heap.size, 1, none⟩ (.int .i64 key)).setCell ⟨w.heap.size, 2, none⟩ (.string text)).setCell ⟨w.heap.size, 3, none⟩ (.slice A0 ps.length c0)).setCell ⟨w.heap.size, 4, none⟩ (.slice A1 ks.length c1)).cell? ⟨w.heap.size, 2, none⟩ = some (.string text) := by go_simp
        have s3 : (((((v2.setCell ⟨w.heap.size, 0, none⟩ (.int .i64 tag)).setCell ⟨w.heap.size, 1, none⟩ (.int .i64 key)).setCell ⟨w.heap.size, 2, none⟩ (.string text)).setCell ⟨w.heap.size, 3, none⟩ (.slice A0 ps.length c0)).setCell ⟨w.heap.size, 4, none⟩ (.slice A1 ks.length c1)).cell? ⟨w.heap.size, 3, none⟩ = some (.slice A0 ps.length c0) := by go_simp
        have s4 : (((((v2.setCell ⟨w.heap.size, 0, none⟩ (.int .i64 tag)).setCell ⟨w.heap.size, 1, none⟩ (.int .i64 key)).setCell ⟨w.heap.size, 2, none⟩ (.string text)).setCell ⟨w.heap.size, 3, none⟩ (.slice A0 ps.length c0)).setCell ⟨w.heap.size, 4, none⟩ (.slice A1 ks.length c1)).cell? ⟨w.heap.size, 4, none⟩ = some (.slice A1 ks.length c1) := by go_simp
        have sf : ∀ o, (((((v2.setCell ⟨w.heap.size, 0, none⟩ (.int .i64 tag)).setCell ⟨w.heap.size, 1, none⟩ (.int .i64 key)).setCell ⟨w.heap.size, 2, none⟩ (.string text)).setCell ⟨w.heap.size, 3, none⟩ (.slice A0 ps.length c0)).setCell ⟨w.heap.size, 4, none⟩ (.slice A1 ks.length c1)).frozen? ⟨w.heap.size, o, none⟩ = false := fun o => by go_simp
        have hbs := ((((HBc.out.setCell (p := ⟨w.heap.size, 0, none⟩) (Nat.le_refl _) (.int .i64 tag)).setCell (p := ⟨w.heap.size, 1, none⟩) (Nat.le_refl _) (.int .i64 key)).setCell (p := ⟨w.heap.size, 2, none⟩) (Nat.le_refl _) (.string text)).setCell (p := ⟨w.heap.size, 3, none⟩) (Nat.le_refl _) (.slice A0 ps.length c0)).setCell (p := ⟨w.heap.size, 4, none⟩) (Nat.le_refl _) (.slice A1 ks.length c1)
        go_simp
        obtain ⟨v3, hnew⟩ : ∃ v, (((((v2.setCell ⟨w.heap.size, 0, none⟩ (.int .i64 tag)).setCell ⟨w.heap.size, 1, none⟩ (.int .i64 key)).setCell ⟨w.heap.size, 2, none⟩ (.string text)).setCell ⟨w.heap.size, 3, none⟩ (.slice A0 ps.length c0)).setCell ⟨w.heap.size, 4, none⟩ (.slice A1 ks.length c1)) = v := ⟨_, rfl⟩
        rw [hnew] at hb7 hsz7 s0 s1 s2 s3 s4 sf hbs ⊢
        replace o0 := (World.cell?_of_block (a := ⟨w2.heap.size, 0, none⟩) (hb7 w2.heap.size (by omega))).trans o0
        replace o1 := (World.cell?_of_block (a := ⟨w2.heap.size, 1, none⟩) (hb7 w2.heap.size (by omega))).trans o1
        replace o2 := (World.cell?_of_block (a := ⟨w2.heap.size, 2, none⟩) (hb7 w2.heap.size (by omega))).trans o2
        replace o3 := (World.cell?_of_block (a := ⟨w2.heap.size, 3, none⟩) (hb7 w2.heap.size (by omega))).trans o3
        replace o4 := (World.cell?_of_block (a := ⟨w2.heap.size, 4, none⟩) (hb7 w2.heap.size (by omega))).trans o4
        replace HTc := Lib.hid (TrD.kept (fun k h1 h2 => hb7 k (by omega)) HTc.out)
        replace HBc := Lib.hid hbs
        replace hzc := Nat.le_trans hzc (Nat.le_of_eq hsz7.symm)
        replace HL4 := Lib.hid ((hb7 L (by omega)).trans HL4.out)
        replace hsz := Nat.lt_of_lt_of_le hsz (Nat.le_of_eq hsz7.symm)
        clear hb7 hbs hsz7 hnew r0 r1 r2 r3 r4 rf
        have hHeld3 : (fun w' : World => w'.cell? ⟨w2.heap.size, 0, none⟩ = some (.int .i64 tag) ∧ w'.cell? ⟨w2.heap.size, 1, none⟩ = some (.int .i64 key) ∧ w'.cell? ⟨w2.heap.size, 2, none⟩ = some (.string text) ∧ w'.cell? ⟨w2.heap.size, 3, none⟩ = some (.slice A0 ps.length c0) ∧ w'.cell? ⟨w2.heap.size, 4, none⟩ = some (.slice A1 ks.length c1)) v3 := ⟨o0, o1, o2, o3, o4⟩
        refine hK.out _ _ hHeld3 (fun hHeld2 => ?_)
        clear hHeld2 hHeld
        have hHeld := hHeld3
        clear hHeld3 hK K
        (try simp only [Act.put, List.getElem_toArray, List.getElem_cons_zero, List.getElem_cons_succ, List.setIfInBounds_toArray, List.set_cons_zero, List.set_cons_succ])
        refine wpAnyH_take (i := 7) (oi := _) (v := ?_) rfl (by kernel_rfl) (by kernel_rfl) (by kernel_rfl) (fun _ _ _ h => h) (Or.inl ⟨by kernel_rfl, ?_⟩) (by assumption) ?_
        rotate_left
        · (intro w hSw; (try dsimp only at hSw); go_simp)
          try with_reducible rfl
        (try simp only [Act.put, List.getElem_toArray, List.getElem_cons_zero, List.getElem_cons_succ, List.setIfInBounds_toArray, List.set_cons_zero, List.set_cons_succ])
        refine wpAnyH_done (by kernel_rfl) ?_ _
        obtain ⟨F0, f0, F1, f1, hfe, hp7, hk7, _⟩ := HTc.out.lies (by omega)
        simp only [Tr.tag, Tr.key, Tr.text, Tr.ps, Tr.ks, List.cons.injEq, Value.slice.injEq, true_and, and_true] at hfe hp7 hk7
        obtain ⟨⟨rfl, rfl⟩, rfl, rfl⟩ := hfe
        have HP7 := Lib.hid hp7
        have HK7b := Lib.hid hk7
        clear hHeld hp7 hk7
        go_wp2_with fail
        refine bodyPost_ret (v := .tuple #[.agg #[.int .i64 tag, .int .i64 key, .string text, .slice A0 ps.length c0, .slice A1 ks.length c1], .string ss]) (by simp [results, Tryz.results20, go_sem, *]) rfl ⟨A0, c0, A1, c1, .mk tag key text ps ks, ss, rfl, HP7.out, HK7b.out, HGd.out.gd, by omega, HBc.out⟩
      refine AllReadyH.cons (o := _) rfl (fun K hK => ?_) AllReadyH.nil
      have hb7 : ∀ k, k ≠ w.heap.size → (((((v2.setCell ⟨w.heap.size, 0, none⟩ (.int .i64 tag)).setCell ⟨w.heap.size, 1, none⟩ (.int .i64 key)).setCell ⟨w.heap.size, 2, none⟩ (.string text)).setCell ⟨w.heap.size, 3, none⟩ (.slice A0 ps.length c0)).setCell ⟨w.heap.size, 4, none⟩ (.slice A1 ks.length c1)).heap[k]? = v2.heap[k]? := fun k hk => by
        rw [Below.heap_setCell _ _ _ _ hk, Below.heap_setCell _ _ _ _ hk, Below.heap_setCell _ _ _ _ hk, Below.heap_setCell _ _ _ _ hk, Below.heap_setCell _ _ _ _ hk]
      have hsz7 : (((((v2.setCell ⟨w.heap.size, 0, none⟩ (.int .i64 tag)).setCell ⟨w.heap.size, 1, none⟩ (.int .i64 key)).setCell ⟨w.heap.size, 2, none⟩ (.string text)).setCell ⟨w.heap.size, 3, none⟩ (.slice A0 ps.length c0)).setCell ⟨w.heap.size, 4, none⟩ (.slice A1 ks.length c1)).heap.size = v2.heap.size := by simp [World.setCell]
      have s0 : (((((v2.setCell ⟨w.heap.size, 0, none⟩ (.int .i64 tag)).setCell ⟨w.heap.size, 1, none⟩ (.int .i64 key)).setCell ⟨w.heap.size, 2, none⟩ (.string text)).setCell ⟨w.heap.size, 3, none⟩ (.slice A0 ps.length c0)).setCell ⟨w.heap.size, 4, none⟩ (.slice A1 ks.length c1)).cell? ⟨w.heap.size, 0, none⟩ = some (.int .i64 tag) := by go_simp
      have s1 : (((((v2.setCell ⟨w.heap.size, 0, none⟩ (.int .i64 tag)).setCell ⟨w.heap.size, 1, none⟩ (.int .i64 key)).setCell ⟨w.heap.size, 2, none⟩ (.string text)).setCell ⟨w.heap.size, 3, none⟩ (.slice A0 ps.length c0)).setCell ⟨w.heap.size, 4, none⟩ (.slice A1 ks.length c1)).cell? ⟨w.heap.size, 1, none⟩ = some (.int .i64 key) := by go_simp
      have s2 : (((((v2.setCell ⟨w.heap.size, 0, none⟩ (.int .i64 tag)).setCell ⟨w.heap.size, 1, none⟩ (.int .i64 key)).setCell ⟨w.heap.size, 2, none⟩ (.string text)).setCell ⟨w.heap.size, 3, none⟩ (.slice A0 ps.length c0)).setCell ⟨w.heap.size, 4, none⟩ (.slice A1 ks.length c1)).cell? ⟨w.heap.size, 2, none⟩ = some (.string text) := by go_simp
      have s3 : (((((v2.setCell ⟨w.heap.size, 0, none⟩ (.int .i64 tag)).setCell ⟨w.heap.size, 1, none⟩ (.int .i64 key)).setCell ⟨w.heap.size, 2, none⟩ (.string text)).setCell ⟨w.heap.size, 3, none⟩ (.slice A0 ps.length c0)).setCell ⟨w.heap.size, 4, none⟩ (.slice A1 ks.length c1)).cell? ⟨w.heap.size, 3, none⟩ = some (.slice A0 ps.length c0) := by go_simp
      have s4 : (((((v2.setCell ⟨w.heap.size, 0, none⟩ (.int .i64 tag)).setCell ⟨w.heap.size, 1, none⟩ (.int .i64 key)).setCell ⟨w.heap.size, 2, none⟩ (.string text)).setCell ⟨w.heap.size, 3, none⟩ (.slice A0 ps.length c0)).setCell ⟨w.heap.size, 4, none⟩ (.slice A1 ks.length c1)).cell? ⟨w.heap.size, 4, none⟩ = some (.slice A1 ks.length c1) := by go_simp
      have sf : ∀ o, (((((v2.setCell ⟨w.heap.size, 0, none⟩ (.int .i64 tag)).setCell ⟨w.heap.size, 1, none⟩ (.int .i64 key)).setCell ⟨w.heap.size, 2, none⟩ (.string text)).setCell ⟨w.heap.size, 3, none⟩ (.slice A0 ps.length c0)).setCell ⟨w.heap.size, 4, none⟩ (.slice A1 ks.length c1)).frozen? ⟨w.heap.size, o, none⟩ = false := fun o => by go_simp
      have hbs := ((((HBc.out.setCell (p := ⟨w.heap.size, 0, none⟩) (Nat.le_refl _) (.int .i64 tag)).setCell (p := ⟨w.heap.size, 1, none⟩) (Nat.le_refl _) (.int .i64 key)).setCell (p := ⟨w.heap.size, 2, none⟩) (Nat.le_refl _) (.string text)).setCell (p := ⟨w.heap.size, 3, none⟩) (Nat.le_refl _) (.slice A0 ps.length c0)).setCell (p := ⟨w.heap.size, 4, none⟩) (Nat.le_refl _) (.slice A1 ks.length c1)
      go_simp
      obtain ⟨v4, hnew⟩ : ∃ v, (((((v2.setCell ⟨w.heap.size, 0, none⟩ (.int .i64 tag)).setCell ⟨w.heap.size, 1, none⟩ (.int .i64 key)).setCell ⟨w.heap.size, 2, none⟩ (.string text)).setCell ⟨w.heap.size, 3, none⟩ (.slice A0 ps.length c0)).setCell ⟨w.heap.size, 4, none⟩ (.slice A1 ks.length c1)) = v := ⟨_, rfl⟩
      rw [hnew] at hb7 hsz7 s0 s1 s2 s3 s4 sf hbs ⊢
      replace o0 := (World.cell?_of_block (a := ⟨w2.heap.size, 0, none⟩) (hb7 w2.heap.size (by omega))).trans o0
      replace o1 := (World.cell?_of_block (a := ⟨w2.heap.size, 1, none⟩) (hb7 w2.heap.size (by omega))).trans o1
      replace o2 := (World.cell?_of_block (a := ⟨w2.heap.size, 2, none⟩) (hb7 w2.heap.size (by omega))).trans o2
      replace o3 := (World.cell?_of_block (a := ⟨w2.heap.size, 3, none⟩) (hb7 w2.heap.size (by omega))).trans o3
      replace o4 := (World.cell?_of_block (a := ⟨w2.heap.size, 4, none⟩) (hb7 w2.heap.size (by omega))).trans o4
      replace HTc := Lib.hid (TrD.kept (fun k h1 h2 => hb7 k (by omega)) HTc.out)
      replace HBc := Lib.hid hbs
      replace hzc := Nat.le_trans hzc (Nat.le_of_eq hsz7.symm)
      replace HL4 := Lib.hid ((hb7 L (by omega)).trans HL4.out)
      replace hsz := Nat.lt_of_lt_of_le hsz (Nat.le_of_eq hsz7.symm)
      replace hsc := (World.cell?_of_block (a := ⟨L, r.toNat, none⟩) (hb7 L (by omega))).trans hsc
      clear hb7 hbs hsz7 hnew r0 r1 r2 r3 r4 rf
      have hHeld3 : (fun w' : World => w'.cell? ⟨w2.heap.size, 0, none⟩ = some (.int .i64 tag) ∧ w'.cell? ⟨w2.heap.size, 1, none⟩ = some (.int .i64 key) ∧ w'.cell? ⟨w2.heap.size, 2, none⟩ = some (.string text) ∧ w'.cell? ⟨w2.heap.size, 3, none⟩ = some (.slice A0 ps.length c0) ∧ w'.cell? ⟨w2.heap.size, 4, none⟩ = some (.slice A1 ks.length c1)) v4 := ⟨o0, o1, o2, o3, o4⟩
      refine hK.out _ _ hHeld3 (fun hHeld2 => ?_)
      clear hHeld2 hHeld
      have hHeld := hHeld3
      clear hHeld3 hK K
      (try simp only [Act.put, List.getElem_toArray, List.getElem_cons_zero, List.getElem_cons_succ, List.setIfInBounds_toArray, List.set_cons_zero, List.set_cons_succ])
      refine wpAnyH_ready (rs := [5]) (by kernel_rfl) (by simp) ?_
      refine AllReadyH.cons (o := _) rfl (fun K hK => ?_) AllReadyH.nil
      go_simp
      refine hK.out _ _ hHeld (fun hHeld2 => ?_)
      clear hK K hHeld2
      (try simp only [Act.put, List.getElem_toArray, List.getElem_cons_zero, List.getElem_cons_succ, List.setIfInBounds_toArray, List.set_cons_zero, List.set_cons_succ])
      refine wpAnyH_take (i := 7) (oi := _) (v := ?_) rfl (by kernel_rfl) (by kernel_rfl) (by kernel_rfl) (fun _ _ _ h => h) (Or.inl ⟨by kernel_rfl, ?_⟩) (by assumption) ?_
      rotate_left
      · (intro w hSw; (try dsimp only at hSw); go_simp)
        try with_reducible rfl
      (try simp only [Act.put, List.getElem_toArray, List.getElem_cons_zero, List.getElem_cons_succ, List.setIfInBounds_toArray, List.set_cons_zero, List.set_cons_succ])
      refine wpAnyH_done (by kernel_rfl) ?_ _
      obtain ⟨F0, f0, F1, f1, hfe, hp7, hk7, _⟩ := HTc.out.lies (by omega)
      simp only [Tr.tag, Tr.key, Tr.text, Tr.ps, Tr.ks, List.cons.injEq, Value.slice.injEq, true_and, and_true] at hfe hp7 hk7
      obtain ⟨⟨rfl, rfl⟩, rfl, rfl⟩ := hfe
      have HP7 := Lib.hid hp7
      have HK7b := Lib.hid hk7
      clear hHeld hp7 hk7
      go_wp2_with fail
      refine bodyPost_ret (v := .tuple #[.agg #[.int .i64 tag, .int .i64 key, .string text, .slice A0 ps.length c0, .slice A1 ks.length c1], .string ss]) (by simp [results, Tryz.results20, go_sem, *]) rfl ⟨A0, c0, A1, c1, .mk tag key text ps ks, ss, rfl, HP7.out, HK7b.out, HGd.out.gd, by omega, HBc.out⟩
    refine AllReadyH.cons (o := _) rfl (fun K hK => ?_) AllReadyH.nil
    go_simp
    refine (pick_any wc.heap.size A len cap 4 _ HSc.out (by omega)).mono ?_
    rintro e v5 ⟨r, rfl, hr0, hr1, hs, hk⟩
    clear hs HSc
    replace o0 := (hk.cell.1 w2.heap.size 0 (by omega) (by omega)).trans o0
    replace r0 := (hk.cell.1 w.heap.size 0 (by omega) (by omega)).trans r0
    replace o1 := (hk.cell.1 w2.heap.size 1 (by omega) (by omega)).trans o1
    replace r1 := (hk.cell.1 w.heap.size 1 (by omega) (by omega)).trans r1
    replace o2 := (hk.cell.1 w2.heap.size 2 (by omega) (by omega)).trans o2
    replace r2 := (hk.cell.1 w.heap.size 2 (by omega) (by omega)).trans r2
    replace o3 := (hk.cell.1 w2.heap.size 3 (by omega) (by omega)).trans o3
    replace r3 := (hk.cell.1 w.heap.size 3 (by omega) (by omega)).trans r3
    replace o4 := (hk.cell.1 w2.heap.size 4 (by omega) (by omega)).trans o4
    replace r4 := (hk.cell.1 w.heap.size 4 (by omega) (by omega)).trans r4
    replace rf := fun o => (hk.cell.2 w.heap.size o (by omega) (by omega)).trans (rf o)
    replace HTc := Lib.hid (TrD.kept (fun b h1 h2 => hk.block b (by omega) (by omega)) HTc.out)
    replace HBc := Lib.hid (HBc.out.trans ((hk.mono (show w.heap.size ≤ wd.heap.size by omega)).below (by omega)))
    replace hzc := Nat.le_trans hzc hk.size
    clear hk
    have hHeld3 : (fun w' : World => w'.cell? ⟨w2.heap.size, 0, none⟩ = some (.int .i64 tag) ∧ w'.cell? ⟨w2.heap.size, 1, none⟩ = some (.int .i64 key) ∧ w'.cell? ⟨w2.heap.size, 2, none⟩ = some (.string text) ∧ w'.cell? ⟨w2.heap.size, 3, none⟩ = some (.slice A0 ps.length c0) ∧ w'.cell? ⟨w2.heap.size, 4, none⟩ = some (.slice A1 ks.length c1)) v5 := ⟨o0, o1, o2, o3, o4⟩
    refine hK.out _ _ hHeld3 (fun hHeld2 => ?_)
    clear hHeld2 hHeld
    have hHeld := hHeld3
    clear hHeld3 hK K
    (try simp only [Act.put, List.getElem_toArray, List.getElem_cons_zero, List.getElem_cons_succ, List.setIfInBounds_toArray, List.set_cons_zero, List.set_cons_succ])
    refine wpAnyH_ready (rs := [1, 6]) (by kernel_rfl) (by simp) ?_
    refine AllReadyH.cons (o := _) rfl (fun K hK => ?_) ?_
    · skip
      go_simp
      have hb := Below.alloc (Below.refl v5.heap.size v5) (Nat.le_refl _) (.cells #[.string ⟨#[97]⟩, .string ⟨#[]⟩, .string ⟨#[108, 111, 110, 103, 32, 116, 101, 120, 116, 32, 49, 50, 51, 52]⟩, .string ⟨#[98, 32, 99]⟩] 9)
      have hl4 : (v5.alloc (.cells #[.string ⟨#[97]⟩, .string ⟨#[]⟩, .string ⟨#[108, 111, 110, 103, 32, 116, 101, 120, 116, 32, 49, 50, 51, 52]⟩, .string ⟨#[98, 32, 99]⟩] 9)).heap[v5.heap.size]? = some (.cells #[.string ⟨#[97]⟩, .string ⟨#[]⟩, .string ⟨#[108, 111, 110, 103, 32, 116, 101, 120, 116, 32, 49, 50, 51, 52]⟩, .string ⟨#[98, 32, 99]⟩] 9) := World.alloc_heap_new v5 _
      have hsz : v5.heap.size < (v5.alloc (.cells #[.string ⟨#[97]⟩, .string ⟨#[]⟩, .string ⟨#[108, 111, 110, 103, 32, 116, 101, 120, 116, 32, 49, 50, 51, 52]⟩, .string ⟨#[98, 32, 99]⟩] 9)).heap.size := by simp
      obtain ⟨L, hL⟩ : ∃ v, v5.heap.size = v := ⟨_, rfl⟩
      have hLg : wc.heap.size < L := by omega
      have hLr : w.heap.size < L := by omega
      obtain ⟨v6, hnew⟩ : ∃ v, v5.alloc (.cells #[.string ⟨#[97]⟩, .string ⟨#[]⟩, .string ⟨#[108, 111, 110, 103, 32, 116, 101, 120, 116, 32, 49, 50, 51, 52]⟩, .string ⟨#[98, 32, 99]⟩] 9) = v := ⟨_, rfl⟩
      rw [hnew] at hb hl4 hsz ⊢
      replace o0 := (hb.cell (p := ⟨w2.heap.size, 0, none⟩) (by show w2.heap.size < v5.heap.size; omega)).trans o0
      replace r0 := (hb.cell (p := ⟨w.heap.size, 0, none⟩) (by show w.heap.size < v5.heap.size; omega)).trans r0
      replace o1 := (hb.cell (p := ⟨w2.heap.size, 1, none⟩) (by show w2.heap.size < v5.heap.size; omega)).trans o1
      replace r1 := (hb.cell (p := ⟨w.heap.size, 1, none⟩) (by show w.heap.size < v5.heap.size; omega)).trans r1
      replace o2 := (hb.cell (p := ⟨w2.heap.size, 2, none⟩) (by show w2.heap.size < v5.heap.size; omega)).trans o2
      replace r2 := (hb.cell (p := ⟨w.heap.size, 2, none⟩) (by show w.heap.size < v5.heap.size; omega)).trans r2
      replace o3 := (hb.cell (p := ⟨w2.heap.size, 3, none⟩) (by show w2.heap.size < v5.heap.size; omega)).trans o3
      replace r3 := (hb.cell (p := ⟨w.heap.size, 3, none⟩) (by show w.heap.size < v5.heap.size; omega)).trans r3
      replace o4 := (hb.cell (p := ⟨w2.heap.size, 4, none⟩) (by show w2.heap.size < v5.heap.size; omega)).trans o4
      replace r4 := (hb.cell (p := ⟨w.heap.size, 4, none⟩) (by show w.heap.size < v5.heap.size; omega)).trans r4
      replace rf := fun o => (hb.frozen (p := ⟨w.heap.size, o, none⟩) (by show w.heap.size < v5.heap.size; omega)).trans (rf o)
      replace HTc := Lib.hid (TrD.kept (fun b h1 h2 => hb.block b (by omega)) HTc.out)
      replace HBc := Lib.hid (HBc.out.trans (hb.mono (by omega)))

      replace hzc := Nat.le_trans hzc hb.size
      rw [hL] at hl4 hsz ⊢
      have HL4 := Lib.hid hl4
      clear hb hl4 hnew
      have hHeld3 : (fun w' : World => w'.cell? ⟨w2.heap.size, 0, none⟩ = some (.int .i64 tag) ∧ w'.cell? ⟨w2.heap.size, 1, none⟩ = some (.int .i64 key) ∧ w'.cell? ⟨w2.heap.size, 2, none⟩ = some (.string text) ∧ w'.cell? ⟨w2.heap.size, 3, none⟩ = some (.slice A0 ps.length c0) ∧ w'.cell? ⟨w2.heap.size, 4, none⟩ = some (.slice A1 ks.length c1)) v6 := ⟨o0, o1, o2, o3, o4⟩
      refine hK.out _ _ hHeld3 (fun hHeld2 => ?_)
      clear hHeld2 hHeld
      have hHeld := hHeld3
      clear hHeld3 hK K
      (try simp only [Act.put, List.getElem_toArray, List.getElem_cons_zero, List.getElem_cons_succ, List.setIfInBounds_toArray, List.set_cons_zero, List.set_cons_succ])
      have hr4 : r < 4 := by omega
      obtain ⟨ss, hss, hsc⟩ : ∃ ss : ByteArray, ss.size ≤ 14 ∧ v6.cell? ⟨L, r.toNat, none⟩ = some (.string ss) := str4b HL4.out r hr0 hr4
      refine wpAnyH_take (i := 4) (oi := _) (v := ?_) rfl (by kernel_rfl) (by kernel_rfl) (by kernel_rfl) (fun _ _ _ h => h) (Or.inl ⟨by kernel_rfl, ?_⟩) (by assumption) ?_
      rotate_left
      · (intro w hSw; (try dsimp only at hSw); go_simp)
        try with_reducible rfl
      (try simp only [Act.put, List.getElem_toArray, List.getElem_cons_zero, List.getElem_cons_succ, List.setIfInBounds_toArray, List.set_cons_zero, List.set_cons_succ])
      refine wpAnyH_ready (rs := [5, 6]) (by kernel_rfl) (by simp) ?_
      refine AllReadyH.cons (o := _) rfl (fun K hK => ?_) ?_
      · skip
        go_simp
        refine hK.out _ _ hHeld (fun hHeld2 => ?_)
        clear hK K hHeld2
        (try simp only [Act.put, List.getElem_toArray, List.getElem_cons_zero, List.getElem_cons_succ, List.setIfInBounds_toArray, List.set_cons_zero, List.set_cons_succ])
        refine wpAnyH_ready (rs := [6]) (by kernel_rfl) (by simp) ?_
        refine AllReadyH.cons (o := _) rfl (fun K hK => ?_) AllReadyH.nil
        have hb7 : ∀ k, k ≠ w.heap.size → (((((v6.setCell ⟨w.heap.size, 0, none⟩ (.int .i64 tag)).setCell ⟨w.heap.size, 1, none⟩ (.int .i64 key)).setCell ⟨w.heap.size, 2, none⟩ (.string text)).setCell ⟨w.heap.size, 3, none⟩ (.slice A0 ps.length c0)).setCell ⟨w.heap.size, 4, none⟩ (.slice A1 ks.length c1)).heap[k]? = v6.heap[k]? := fun k hk => by
          rw [Below.heap_setCell _ _ _ _ hk, Below.heap_setCell _ _ _ _ hk, Below.heap_setCell _ _ _ _ hk, Below.heap_setCell _ _ _ _ hk, Below.heap_setCell _ _ _ _ hk]
        have hsz7 : (((((v6.setCell ⟨w.heap.size, 0, none⟩ (.int .i64 tag)).setCell ⟨w.heap.size, 1, none⟩ (.int .i64 key)).setCell ⟨w.heap.size, 2, none⟩ (.string text)).setCell ⟨w.heap.size, 3, none⟩ (.slice A0 ps.length c0)).setCell ⟨w.heap.size, 4, none⟩ (.slice A1 ks.length c1)).heap.size = v6.heap.size := by simp [World.setCell]
        have s0 : (((((v6.setCell ⟨w.heap.size, 0, none⟩ (.int .i64 tag)).setCell ⟨w.heap.size, 1, none⟩ (.int .i64 key)).setCell ⟨w.heap.size, 2, none⟩ (.string text)).setCell ⟨w.heap.size, 3, none⟩ (.slice A0 ps.length c0)).setCell ⟨w.heap.size, 4, none⟩ (.slice A1 ks.length c1)).cell? ⟨w.heap.size, 0, none⟩ = some (.int .i64 tag) := by go_simp
        have s1 : (((((v6.setCell ⟨w.heap.size, 0, none⟩ (.int .i64 tag)).setCell ⟨w.heap.size, 1, none⟩ (.int .i64 key)).setCell ⟨w.heap.size, 2, none⟩ (.string text)).setCell ⟨w.heap.size, 3, none⟩ (.slice A0 ps.length c0)).setCell ⟨w.heap.size, 4, none⟩ (.slice A1 ks.length c1)).cell? ⟨w.heap.size, 1, none⟩ = some (.int .i64 key) := by go_simp
        have s2 : (((((v6.setCell ⟨w.heap.size, 0, none⟩ (.int .i64 tag)).setCell ⟨w.heap.size, 1, none⟩ (.int .i64 key)).setCell ⟨w.heap.size, 2, none⟩ (.string text)).setCell ⟨w.heap.size, 3, none⟩ (.slice A0 ps.length c0)).setCell ⟨w.heap.size, 4, none⟩ (.slice A1 ks.length c1)).cell? ⟨w.heap.size, 2, none⟩ = some (.string text) := by go_simp
        have s3 : (((((v6.setCell ⟨w.heap.size, 0, none⟩ (.int .i64 tag)).setCell ⟨w.heap.size, 1, none⟩ (.int .i64 key)).setCell ⟨w.heap.size, 2, none⟩ (.string text)).setCell ⟨w.heap.size, 3, none⟩ (.slice A0 ps.length c0)).setCell ⟨w.heap.size, 4, none⟩ (.slice A1 ks.length c1)).cell? ⟨w.heap.size, 3, none⟩ = some (.slice A0 ps.length c0) := by go_simp
        have s4 : (((((v6.setCell ⟨w.heap.size, 0, none⟩ (.int .i64 tag)).setCell ⟨w.heap.size, 1, none⟩ (.int .i64 key)).setCell ⟨w.heap.size, 2, none⟩ (.string text)).setCell ⟨w.heap.size, 3, none⟩ (.slice A0 ps.length c0)).setCell ⟨w.heap.size, 4, none⟩ (.slice A1 ks.length c1)).cell? ⟨w.heap.size, 4, none⟩ = some (.slice A1 ks.length c1) := by go_simp
        have sf : ∀ o, (((((v6.setCell ⟨w.heap.size, 0, none⟩ (.int .i64 tag)).setCell ⟨w.heap.size, 1, none⟩ (.int .i64 key)).setCell ⟨w.heap.size, 2, none⟩ (.string text)).setCell ⟨w.heap.size, 3, none⟩ (.slice A0 ps.length c0)).setCell ⟨w.heap.size, 4, none⟩ (.slice A1 ks.length c1)).frozen? ⟨w.heap.size, o, none⟩ = false := fun o => by go_simp
        have hbs := ((((HBc.out.setCell (p := ⟨w.heap.size, 0, none⟩) (Nat.le_refl _) (.int .i64 tag)).setCell (p := ⟨w.heap.size, 1, none⟩) (Nat.le_refl _) (.int .i64 key)).setCell (p := ⟨w.heap.size, 2, none⟩) (Nat.le_refl _) (.string text)).setCell (p := ⟨w.heap.size, 3, none⟩) (Nat.le_refl _) (.slice A0 ps.length c0)).setCell (p := ⟨w.heap.size, 4, none⟩) (Nat.le_refl _) (.slice A1 ks.length c1)
        go_simp
        obtain ⟨v7, hnew⟩ : ∃ v, (((((v6.setCell ⟨w.heap.size, 0, none⟩ (.int .i64 tag)).setCell ⟨w.heap.size, 1, none⟩ (.int .i64 key)).setCell ⟨w.heap.size, 2, none⟩ (.string text)).setCell ⟨w.heap.size, 3, none⟩ (.slice A0 ps.length c0)).setCell ⟨w.heap.size, 4, none⟩ (.slice A1 ks.length c1)) = v := ⟨_, rfl⟩
        rw [hnew] at hb7 hsz7 s0 s1 s2 s3 s4 sf hbs ⊢
        replace o0 := (World.cell?_of_block (a := ⟨w2.heap.size, 0, none⟩) (hb7 w2.heap.size (by omega))).trans o0
        replace o1 := (World.cell?_of_block (a := ⟨w2.heap.size, 1, none⟩) (hb7 w2.heap.size (by omega))).trans o1
        replace o2 := (World.cell?_of_block (a := ⟨w2.heap.size, 2, none⟩) (hb7 w2.heap.size (by omega))).trans o2
        replace o3 := (World.cell?_of_block (a := ⟨w2.heap.size, 3, none⟩) (hb7 w2.heap.size (by omega))).trans o3
        replace o4 := (World.cell?_of_block (a := ⟨w2.heap.size, 4, none⟩) (hb7 w2.heap.size (by omega))).trans o4
        replace HTc := Lib.hid (TrD.kept (fun k h1 h2 => hb7 k (by omega)) HTc.out)
        replace HBc := Lib.hid hbs
        replace hzc := Nat.le_trans hzc (Nat.le_of_eq hsz7.symm)
        replace HL4 := Lib.hid ((hb7 L (by omega)).trans HL4.out)
        replace hsz := Nat.lt_of_lt_of_le hsz (Nat.le_of_eq hsz7.symm)
        clear hb7 hbs hsz7 hnew r0 r1 r2 r3 r4 rf
        have hHeld3 : (fun w' : World => w'.cell? ⟨w2.heap.size, 0, none⟩ = some (.int .i64 tag) ∧ w'.cell? ⟨w2.heap.size, 1, none⟩ = some (.int .i64 key) ∧ w'.cell? ⟨w2.heap.size, 2, none⟩ = some (.string text) ∧ w'.cell? ⟨w2.heap.size, 3, none⟩ = some (.slice A0 ps.length c0) ∧ w'.cell? ⟨w2.heap.size, 4, none⟩ = some (.slice A1 ks.length c1)) v7 := ⟨o0, o1, o2, o3, o4⟩
        refine hK.out _ _ hHeld3 (fun hHeld2 => ?_)
        clear hHeld2 hHeld
        have hHeld := hHeld3
        clear hHeld3 hK K
        (try simp only [Act.put, List.getElem_toArray, List.getElem_cons_zero, List.getElem_cons_succ, List.setIfInBounds_toArray, List.set_cons_zero, List.set_cons_succ])
        refine wpAnyH_take (i := 7) (oi := _) (v := ?_) rfl (by kernel_rfl) (by kernel_rfl) (by kernel_rfl) (fun _ _ _ h => h) (Or.inl ⟨by kernel_rfl, ?_⟩) (by assumption) ?_
        rotate_left
        · (intro w hSw; (try dsimp only at hSw); go_simp)
          try with_reducible rfl
        (try simp only [Act.put, List.getElem_toArray, List.getElem_cons_zero, List.getElem_cons_succ, List.setIfInBounds_toArray, List.set_cons_zero, List.set_cons_succ])
        refine wpAnyH_done (by kernel_rfl) ?_ _
        obtain ⟨F0, f0, F1, f1, hfe, hp7, hk7, _⟩ := HTc.out.lies (by omega)
        simp only [Tr.tag, Tr.key, Tr.text, Tr.ps, Tr.ks, List.cons.injEq, Value.slice.injEq, true_and, and_true] at hfe hp7 hk7
        obtain ⟨⟨rfl, rfl⟩, rfl, rfl⟩ := hfe
        have HP7 := Lib.hid hp7
        have HK7b := Lib.hid hk7
        clear hHeld hp7 hk7
        go_wp2_with fail
        refine bodyPost_ret (v := .tuple #[.agg #[.int .i64 tag, .int .i64 key, .string text, .slice A0 ps.length c0, .slice A1 ks.length c1], .string ss]) (by simp [results, Tryz.results20, go_sem, *]) rfl ⟨A0, c0, A1, c1, .mk tag key text ps ks, ss, rfl, HP7.out, HK7b.out, HGd.out.gd, by omega, HBc.out⟩
      refine AllReadyH.cons (o := _) rfl (fun K hK => ?_) AllReadyH.nil
      have hb7 : ∀ k, k ≠ w.heap.size → (((((v6.setCell ⟨w.heap.size, 0, none⟩ (.int .i64 tag)).setCell ⟨w.heap.size, 1, none⟩ (.int .i64 key)).setCell ⟨w.heap.size, 2, none⟩ (.string text)).setCell ⟨w.heap.size, 3, none⟩ (.slice A0 ps.length c0)).setCell ⟨w.heap.size, 4, none⟩ (.slice A1 ks.length c1)).heap[k]? = v6.heap[k]? := fun k hk => by
        rw [Below.heap_setCell _ _ _ _ hk, Below.heap_setCell _ _ _ _ hk, Below.heap_setCell _ _ _ _ hk, Below.heap_setCell _ _ _ _ hk, Below.heap_setCell _ _ _ _ hk]
      have hsz7 : (((((v6.setCell ⟨w.heap.size, 0, none⟩ (.int .i64 tag)).setCell ⟨w.heap.size, 1, none⟩ (.int .i64 key)).setCell ⟨w.heap.size, 2, none⟩ (.string text)).setCell ⟨w.heap.size, 3, none⟩ (.slice A0 ps.length c0)).setCell ⟨w.heap.size, 4, none⟩ (.slice A1 ks.length c1)).heap.size = v6.heap.size := by simp [World.setCell]
      have s0 : (((((v6.setCell ⟨w.heap.size, 0, none⟩ (.int .i64 tag)).setCell ⟨w.heap.size, 1, none⟩ (.int .i64 key)).setCell ⟨w.heap.size, 2, none⟩ (.string text)).setCell ⟨w.heap.size, 3, none⟩ (.slice A0 ps.length c0)).setCell ⟨w.heap.size, 4, none⟩ (.slice A1 ks.length c1)).cell? ⟨w.heap.size, 0, none⟩ = some (.int .i64 tag) := by go_simp
      have s1 : (((((v6.setCell ⟨w.heap.size, 0, none⟩ (.int .i64 tag)).setCell ⟨w.heap.size, 1, none⟩ (.int .i64 key)).setCell ⟨w.heap.size, 2, none⟩ (.string text)).setCell ⟨w.heap.size, 3, none⟩ (.slice A0 ps.length c0)).setCell ⟨w.heap.size, 4, none⟩ (.slice A1 ks.length c1)).cell? ⟨w.heap.size, 1, none⟩ = some (.int .i64 key) := by go_simp
      have s2 : (((((v6.setCell ⟨w.heap.size, 0, none⟩ (.int .i64 tag)).setCell ⟨w.heap.size, 1, none⟩ (.int .i64 key)).setCell ⟨w.heap.size, 2, none⟩ (.string text)).setCell ⟨w.heap.size, 3, none⟩ (.slice A0 ps.length c0)).setCell ⟨w.heap.size, 4, none⟩ (.slice A1 ks.length c1)).cell? ⟨w.heap.size, 2, none⟩ = some (.string text) := by go_simp
      have s3 : (((((v6.setCell ⟨w.heap.size, 0, none⟩ (.int .i64 tag)).setCell ⟨w.heap.size, 1, none⟩ (.int .i64 key)).setCell ⟨w.heap.size, 2, none⟩ (.string text)).setCell ⟨w.heap.size, 3, none⟩ (.slice A0 ps.length c0)).setCell ⟨w.heap.size, 4, none⟩ (.slice A1 ks.length c1)).cell? ⟨w.heap.size, 3, none⟩ = some (.slice A0 ps.length c0) := by go_simp
      have s4 : (((((v6.setCell ⟨w.heap.size, 0, none⟩ (.int .i64 tag)).setCell ⟨w.heap.size, 1, none⟩ (.int .i64 key)).setCell ⟨w.heap.size, 2, none⟩ (.string text)).setCell ⟨w.heap.size, 3, none⟩ (.slice A0 ps.length c0)).setCell ⟨w.heap.size, 4, none⟩ (.slice A1 ks.length c1)).cell? ⟨w.heap.size, 4, none⟩ = some (.slice A1 ks.length c1) := by go_simp
      have sf : ∀ o, (((((v6.setCell ⟨w.heap.size, 0, none⟩ (.int .i64 tag)).setCell ⟨w.heap.size, 1, none⟩ (.int .i64 key)).setCell ⟨w.heap.size, 2, none⟩ (.string text)).setCell ⟨w.heap.size, 3, none⟩ (.slice A0 ps.length c0)).setCell ⟨w.heap.size, 4, none⟩ (.slice A1 ks.length c1)).frozen? ⟨w.heap.size, o, none⟩ = false := fun o => by go_simp
      have hbs := ((((HBc.out.setCell (p := ⟨w.heap.size, 0, none⟩) (Nat.le_refl _) (.int .i64 tag)).setCell (p := ⟨w.heap.size, 1, none⟩) (Nat.le_refl _) (.int .i64 key)).setCell (p := ⟨w.heap.size, 2, none⟩) (Nat.le_refl _) (.string text)).setCell (p := ⟨w.heap.size, 3, none⟩) (Nat.le_refl _) (.slice A0 ps.length c0)).setCell (p := ⟨w.heap.size, 4, none⟩) (Nat.le_refl _) (.slice A1 ks.length c1)
      go_simp
      obtain ⟨v8, hnew⟩ : ∃ v, (((((v6.setCell ⟨w.heap.size, 0, none⟩ (.int .i64 tag)).setCell ⟨w.heap.size, 1, none⟩ (.int .i64 key)).setCell ⟨w.heap.size, 2, none⟩ (.string text)).setCell ⟨w.heap.size, 3, none⟩ (.slice A0 ps.length c0)).setCell ⟨w.heap.size, 4, none⟩ (.slice A1 ks.length c1)) = v := ⟨_, rfl⟩
      rw [hnew] at hb7 hsz7 s0 s1 s2 s3 s4 sf hbs ⊢
      replace o0 := (World.cell?_of_block (a := ⟨w2.heap.size, 0, none⟩) (hb7 w2.heap.size (by omega))).trans o0
      replace o1 := (World.cell?_of_block (a := ⟨w2.heap.size, 1, none⟩) (hb7 w2.heap.size (by omega))).trans o1
      replace o2 := (World.cell?_of_block (a := ⟨w2.heap.size, 2, none⟩) (hb7 w2.heap.size (by omega))).trans o2
      replace o3 := (World.cell?_of_block (a := ⟨w2.heap.size, 3, none⟩) (hb7 w2.heap.size (by omega))).trans o3
      replace o4 := (World.cell?_of_block (a := ⟨w2.heap.size, 4, none⟩) (hb7 w2.heap.size (by omega))).trans o4
      replace HTc := Lib.hid (TrD.kept (fun k h1 h2 => hb7 k (by omega)) HTc.out)
      replace HBc := Lib.hid hbs
      replace hzc := Nat.le_trans hzc (Nat.le_of_eq hsz7.symm)
      replace HL4 := Lib.hid ((hb7 L (by omega)).trans HL4.out)
      replace hsz := Nat.lt_of_lt_of_le hsz (Nat.le_of_eq hsz7.symm)
      replace hsc := (World.cell?_of_block (a := ⟨L, r.toNat, none⟩) (hb7 L (by omega))).trans hsc
      clear hb7 hbs hsz7 hnew r0 r1 r2 r3 r4 rf
      have hHeld3 : (fun w' : World => w'.cell? ⟨w2.heap.size, 0, none⟩ = some (.int .i64 tag) ∧ w'.cell? ⟨w2.heap.size, 1, none⟩ = some (.int .i64 key) ∧ w'.cell? ⟨w2.heap.size, 2, none⟩ = some (.string text) ∧ w'.cell? ⟨w2.heap.size, 3, none⟩ = some (.slice A0 ps.length c0) ∧ w'.cell? ⟨w2.heap.size, 4, none⟩ = some (.slice A1 ks.length c1)) v8 := ⟨o0, o1, o2, o3, o4⟩
      refine hK.out _ _ hHeld3 (fun hHeld2 => ?_)
      clear hHeld2 hHeld
      have hHeld := hHeld3
      clear hHeld3 hK K
      (try simp only [Act.put, List.getElem_toArray, List.getElem_cons_zero, List.getElem_cons_succ, List.setIfInBounds_toArray, List.set_cons_zero, List.set_cons_succ])
      refine wpAnyH_ready (rs := [5]) (by kernel_rfl) (by simp) ?_
      refine AllReadyH.cons (o := _) rfl (fun K hK => ?_) AllReadyH.nil
      go_simp
      refine hK.out _ _ hHeld (fun hHeld2 => ?_)
      clear hK K hHeld2
      (try simp only [Act.put, List.getElem_toArray, List.getElem_cons_zero, List.getElem_cons_succ, List.setIfInBounds_toArray, List.set_cons_zero, List.set_cons_succ])
      refine wpAnyH_take (i := 7) (oi := _) (v := ?_) rfl (by kernel_rfl) (by kernel_rfl) (by kernel_rfl) (fun _ _ _ h => h) (Or.inl ⟨by kernel_rfl, ?_⟩) (by assumption) ?_
      rotate_left
      · (intro w hSw; (try dsimp only at hSw); go_simp)
        try with_reducible rfl
      (try simp only [Act.put, List.getElem_toArray, List.getElem_cons_zero, List.getElem_cons_succ, List.setIfInBounds_toArray, List.set_cons_zero, List.set_cons_succ])
      refine wpAnyH_done (by kernel_rfl) ?_ _
      obtain ⟨F0, f0, F1, f1, hfe, hp7, hk7, _⟩ := HTc.out.lies (by omega)
      simp only [Tr.tag, Tr.key, Tr.text, Tr.ps, Tr.ks, List.cons.injEq, Value.slice.injEq, true_and, and_true] at hfe hp7 hk7
      obtain ⟨⟨rfl, rfl⟩, rfl, rfl⟩ := hfe
      have HP7 := Lib.hid hp7
      have HK7b := Lib.hid hk7
      clear hHeld hp7 hk7
      go_wp2_with fail
      refine bodyPost_ret (v := .tuple #[.agg #[.int .i64 tag, .int .i64 key, .string text, .slice A0 ps.length c0, .slice A1 ks.length c1], .string ss]) (by simp [results, Tryz.results20, go_sem, *]) rfl ⟨A0, c0, A1, c1, .mk tag key text ps ks, ss, rfl, HP7.out, HK7b.out, HGd.out.gd, by omega, HBc.out⟩
    refine AllReadyH.cons (o := _) rfl (fun K hK => ?_) AllReadyH.nil
    have hb7 : ∀ k, k ≠ w.heap.size → (((((v5.setCell ⟨w.heap.size, 0, none⟩ (.int .i64 tag)).setCell ⟨w.heap.size, 1, none⟩ (.int .i64 key)).setCell ⟨w.heap.size, 2, none⟩ (.string text)).setCell ⟨w.heap.size, 3, none⟩ (.slice A0 ps.length c0)).setCell ⟨w.heap.size, 4, none⟩ (.slice A1 ks.length c1)).heap[k]? = v5.heap[k]? := fun k hk => by
      rw [Below.heap_setCell _ _ _ _ hk, Below.heap_setCell _ _ _ _ hk, Below.heap_setCell _ _ _ _ hk, Below.heap_setCell _ _ _ _ hk, Below.heap_setCell _ _ _ _ hk]
    have hsz7 : (((((v5.setCell ⟨w.heap.size, 0, none⟩ (.int .i64 tag)).setCell ⟨w.heap.size, 1, none⟩ (.int .i64 key)).setCell ⟨w.heap.size, 2, none⟩ (.string text)).setCell ⟨w.heap.size, 3, none⟩ (.slice A0 ps.length c0)).setCell ⟨w.heap.size, 4, none⟩ (.slice A1 ks.length c1)).heap.size = v5.heap.size := by simp [World.setCell]
    have s0 : (((((v5.setCell ⟨w.heap.size, 0, none⟩ (.int .i64 tag)).setCell ⟨w.heap.size, 1, none⟩ (.int .i64 key)).setCell ⟨w.heap.size, 2, none⟩ (.string text)).setCell ⟨w.heap.size, 3, none⟩ (.slice A0 ps.length c0)).setCell ⟨w.heap.size, 4, none⟩ (.slice A1 ks.length c1)).cell? ⟨w.heap.size, 0, none⟩ = some (.int .i64 tag) := by go_simp
    have s1 : (((((v5.setCell ⟨w.heap.size, 0, none⟩ (.int .i64 tag)).setCell ⟨w.heap.size, 1, none⟩ (.int .i64 key)).setCell ⟨w.heap.size, 2, none⟩ (.string text)).setCell ⟨w.heap.size, 3, none⟩ (.slice A0 ps.length c0)).setCell ⟨w.heap.size, 4, none⟩ (.slice A1 ks.length c1)).cell? ⟨w.heap.size, 1, none⟩ = some (.int .i64 key) := by go_simp
    have s2 : (((((v5.setCell ⟨w.heap.size, 0, none⟩ (.int .i64 tag)).setCell ⟨w.heap.size, 1, none⟩ (.int .i64 key)).setCell ⟨w.heap.size, 2, none⟩ (.string text)).setCell ⟨w.heap.size, 3, none⟩ (.slice A0 ps.length c0)).setCell ⟨w.heap.size, 4, none⟩ (.slice A1 ks.length c1)).cell? ⟨w.heap.size, 2, none⟩ = some (.string text) := by go_simp
    have s3 : (((((v5.setCell ⟨w.heap.size, 0, none⟩ (.int .i64 tag)).setCell ⟨w.heap.size, 1, none⟩ (.int .i64 key)).setCell ⟨w.heap.size, 2, none⟩ (.string text)).setCell ⟨w.heap.size, 3, none⟩ (.slice A0 ps.length c0)).setCell ⟨w.heap.size, 4, none⟩ (.slice A1 ks.length c1)).cell? ⟨w.heap.size, 3, none⟩ = some (.slice A0 ps.length c0) := by go_simp
    have s4 : (((((v5.setCell ⟨w.heap.size, 0, none⟩ (.int .i64 tag)).setCell ⟨w.heap.size, 1, none⟩ (.int .i64 key)).setCell ⟨w.heap.size, 2, none⟩ (.string text)).setCell ⟨w.heap.size, 3, none⟩ (.slice A0 ps.length c0)).setCell ⟨w.heap.size, 4, none⟩ (.slice A1 ks.length c1)).cell? ⟨w.heap.size, 4, none⟩ = some (.slice A1 ks.length c1) := by go_simp
    have sf : ∀ o, (((((v5.setCell ⟨w.heap.size, 0, none⟩ (.int .i64 tag)).setCell ⟨w.heap.size, 1, none⟩ (.int .i64 key)).setCell ⟨w.heap.size, 2, none⟩ (.string text)).setCell ⟨w.heap.size, 3, none⟩ (.slice A0 ps.length c0)).setCell ⟨w.heap.size, 4, none⟩ (.slice A1 ks.length c1)).frozen? ⟨w.heap.size, o, none⟩ = false := fun o => by go_simp
    have hbs := ((((HBc.out.setCell (p := ⟨w.heap.size, 0, none⟩) (Nat.le_refl _) (.int .i64 tag)).setCell (p := ⟨w.heap.size, 1, none⟩) (Nat.le_refl _) (.int .i64 key)).setCell (p := ⟨w.heap.size, 2, none⟩) (Nat.le_refl _) (.string text)).setCell (p := ⟨w.heap.size, 3, none⟩) (Nat.le_refl _) (.slice A0 ps.length c0)).setCell (p := ⟨w.heap.size, 4, none⟩) (Nat.le_refl _) (.slice A1 ks.length c1)
    go_simp
    obtain ⟨v9, hnew⟩ : ∃ v, (((((v5.setCell ⟨w.heap.size, 0, none⟩ (.int .i64 tag)).setCell ⟨w.heap.size, 1, none⟩ (.int .i64 key)).setCell ⟨w.heap.size, 2, none⟩ (.string text)).setCell ⟨w.heap.size, 3, none⟩ (.slice A0 ps.length c0)).setCell ⟨w.heap.size, 4, none⟩ (.slice A1 ks.length c1)) = v := ⟨_, rfl⟩
    rw [hnew] at hb7 hsz7 s0 s1 s2 s3 s4 sf hbs ⊢
    replace o0 := (World.cell?_of_block (a := ⟨w2.heap.size, 0, none⟩) (hb7 w2.heap.size (by omega))).trans o0
    replace o1 := (World.cell?_of_block (a := ⟨w2.heap.size, 1, none⟩) (hb7 w2.heap.size (by omega))).trans o1
    replace o2 := (World.cell?_of_block (a := ⟨w2.heap.size, 2, none⟩) (hb7 w2.heap.size (by omega))).trans o2
    replace o3 := (World.cell?_of_block (a := ⟨w2.heap.size, 3, none⟩) (hb7 w2.heap.size (by omega))).trans o3
    replace o4 := (World.cell?_of_block (a := ⟨w2.heap.size, 4, none⟩) (hb7 w2.heap.size (by omega))).trans o4
    replace HTc := Lib.hid (TrD.kept (fun k h1 h2 => hb7 k (by omega)) HTc.out)
    replace HBc := Lib.hid hbs
    replace hzc := Nat.le_trans hzc (Nat.le_of_eq hsz7.symm)
    clear hb7 hbs hsz7 hnew r0 r1 r2 r3 r4 rf
    have hHeld3 : (fun w' : World => w'.cell? ⟨w2.heap.size, 0, none⟩ = some (.int .i64 tag) ∧ w'.cell? ⟨w2.heap.size, 1, none⟩ = some (.int .i64 key) ∧ w'.cell? ⟨w2.heap.size, 2, none⟩ = some (.string text) ∧ w'.cell? ⟨w2.heap.size, 3, none⟩ = some (.slice A0 ps.length c0) ∧ w'.cell? ⟨w2.heap.size, 4, none⟩ = some (.slice A1 ks.length c1)) v9 := ⟨o0, o1, o2, o3, o4⟩
    refine hK.out _ _ hHeld3 (fun hHeld2 => ?_)
    clear hHeld2 hHeld
    have hHeld := hHeld3
    clear hHeld3 hK K
    (try simp only [Act.put, List.getElem_toArray, List.getElem_cons_zero, List.getElem_cons_succ, List.setIfInBounds_toArray, List.set_cons_zero, List.set_cons_succ])
    refine wpAnyH_ready (rs := [1]) (by kernel_rfl) (by simp) ?_
    refine AllReadyH.cons (o := _) rfl (fun K hK => ?_) AllReadyH.nil
    go_simp
    have hb := Below.alloc (Below.refl v9.heap.size v9) (Nat.le_refl _) (.cells #[.string ⟨#[97]⟩, .string ⟨#[]⟩, .string ⟨#[108, 111, 110, 103, 32, 116, 101, 120, 116, 32, 49, 50, 51, 52]⟩, .string ⟨#[98, 32, 99]⟩] 9)
    have hl4 : (v9.alloc (.cells #[.string ⟨#[97]⟩, .string ⟨#[]⟩, .string ⟨#[108, 111, 110, 103, 32, 116, 101, 120, 116, 32, 49, 50, 51, 52]⟩, .string ⟨#[98, 32, 99]⟩] 9)).heap[v9.heap.size]? = some (.cells #[.string ⟨#[97]⟩, .string ⟨#[]⟩, .string ⟨#[108, 111, 110, 103, 32, 116, 101, 120, 116, 32, 49, 50, 51, 52]⟩, .string ⟨#[98, 32, 99]⟩] 9) := World.alloc_heap_new v9 _
    have hsz : v9.heap.size < (v9.alloc (.cells #[.string ⟨#[97]⟩, .string ⟨#[]⟩, .string ⟨#[108, 111, 110, 103, 32, 116, 101, 120, 116, 32, 49, 50, 51, 52]⟩, .string ⟨#[98, 32, 99]⟩] 9)).heap.size := by simp
    obtain ⟨L, hL⟩ : ∃ v, v9.heap.size = v := ⟨_, rfl⟩
    have hLg : wc.heap.size < L := by omega
    have hLr : w.heap.size < L := by omega
    obtain ⟨v10, hnew⟩ : ∃ v, v9.alloc (.cells #[.string ⟨#[97]⟩, .string ⟨#[]⟩, .string ⟨#[108, 111, 110, 103, 32, 116, 101, 120, 116, 32, 49, 50, 51, 52]⟩, .string ⟨#[98, 32, 99]⟩] 9) = v := ⟨_, rfl⟩
    rw [hnew] at hb hl4 hsz ⊢
    replace o0 := (hb.cell (p := ⟨w2.heap.size, 0, none⟩) (by show w2.heap.size < v9.heap.size; omega)).trans o0
    replace s0 := (hb.cell (p := ⟨w.heap.size, 0, none⟩) (by show w.heap.size < v9.heap.size; omega)).trans s0
    replace o1 := (hb.cell (p := ⟨w2.heap.size, 1, none⟩) (by show w2.heap.size < v9.heap.size; omega)).trans o1
    replace s1 := (hb.cell (p := ⟨w.heap.size, 1, none⟩) (by show w.heap.size < v9.heap.size; omega)).trans s1
    replace o2 := (hb.cell (p := ⟨w2.heap.size, 2, none⟩) (by show w2.heap.size < v9.heap.size; omega)).trans o2
    replace s2 := (hb.cell (p := ⟨w.heap.size, 2, none⟩) (by show w.heap.size < v9.heap.size; omega)).trans s2
    replace o3 := (hb.cell (p := ⟨w2.heap.size, 3, none⟩) (by show w2.heap.size < v9.heap.size; omega)).trans o3
    replace s3 := (hb.cell (p := ⟨w.heap.size, 3, none⟩) (by show w.heap.size < v9.heap.size; omega)).trans s3
    replace o4 := (hb.cell (p := ⟨w2.heap.size, 4, none⟩) (by show w2.heap.size < v9.heap.size; omega)).trans o4
    replace s4 := (hb.cell (p := ⟨w.heap.size, 4, none⟩) (by show w.heap.size < v9.heap.size; omega)).trans s4
    replace sf := fun o => (hb.frozen (p := ⟨w.heap.size, o, none⟩) (by show w.heap.size < v9.heap.size; omega)).trans (sf o)
    replace HTc := Lib.hid (TrD.kept (fun b h1 h2 => hb.block b (by omega)) HTc.out)
    replace HBc := Lib.hid (HBc.out.trans (hb.mono (by omega)))

    replace hzc := Nat.le_trans hzc hb.size
    rw [hL] at hl4 hsz ⊢
    have HL4 := Lib.hid hl4
    clear hb hl4 hnew
    have hHeld3 : (fun w' : World => w'.cell? ⟨w2.heap.size, 0, none⟩ = some (.int .i64 tag) ∧ w'.cell? ⟨w2.heap.size, 1, none⟩ = some (.int .i64 key) ∧ w'.cell? ⟨w2.heap.size, 2, none⟩ = some (.string text) ∧ w'.cell? ⟨w2.heap.size, 3, none⟩ = some (.slice A0 ps.length c0) ∧ w'.cell? ⟨w2.heap.size, 4, none⟩ = some (.slice A1 ks.length c1)) v10 := ⟨o0, o1, o2, o3, o4⟩
    refine hK.out _ _ hHeld3 (fun hHeld2 => ?_)
    clear hHeld2 hHeld
    have hHeld := hHeld3
    clear hHeld3 hK K
    (try simp only [Act.put, List.getElem_toArray, List.getElem_cons_zero, List.getElem_cons_succ, List.setIfInBounds_toArray, List.set_cons_zero, List.set_cons_succ])
    have hr4 : r < 4 := by omega
    obtain ⟨ss, hss, hsc⟩ : ∃ ss : ByteArray, ss.size ≤ 14 ∧ v10.cell? ⟨L, r.toNat, none⟩ = some (.string ss) := str4b HL4.out r hr0 hr4
    refine wpAnyH_take (i := 4) (oi := _) (v := ?_) rfl (by kernel_rfl) (by kernel_rfl) (by kernel_rfl) (fun _ _ _ h => h) (Or.inl ⟨by kernel_rfl, ?_⟩) (by assumption) ?_
    rotate_left
    · (intro w hSw; (try dsimp only at hSw); go_simp)
      try with_reducible rfl
    (try simp only [Act.put, List.getElem_toArray, List.getElem_cons_zero, List.getElem_cons_succ, List.setIfInBounds_toArray, List.set_cons_zero, List.set_cons_succ])
    refine wpAnyH_ready (rs := [5]) (by kernel_rfl) (by simp) ?_
    refine AllReadyH.cons (o := _) rfl (fun K hK => ?_) AllReadyH.nil
    go_simp
    refine hK.out _ _ hHeld (fun hHeld2 => ?_)
    clear hK K hHeld2
    (try simp only [Act.put, List.getElem_toArray, List.getElem_cons_zero, List.getElem_cons_succ, List.setIfInBounds_toArray, List.set_cons_zero, List.set_cons_succ])
    refine wpAnyH_take (i := 7) (oi := _) (v := ?_) rfl (by kernel_rfl) (by kernel_rfl) (by kernel_rfl) (fun _ _ _ h => h) (Or.inl ⟨by kernel_rfl, ?_⟩) (by assumption) ?_
    rotate_left
    · (intro w hSw; (try dsimp only at hSw); go_simp)
      try with_reducible rfl
    (try simp only [Act.put, List.getElem_toArray, List.getElem_cons_zero, List.getElem_cons_succ, List.setIfInBounds_toArray, List.set_cons_zero, List.set_cons_succ])
    refine wpAnyH_done (by kernel_rfl) ?_ _
    obtain ⟨F0, f0, F1, f1, hfe, hp7, hk7, _⟩ := HTc.out.lies (by omega)
    simp only [Tr.tag, Tr.key, Tr.text, Tr.ps, Tr.ks, List.cons.injEq, Value.slice.injEq, true_and, and_true] at hfe hp7 hk7
    obtain ⟨⟨rfl, rfl⟩, rfl, rfl⟩ := hfe
    have HP7 := Lib.hid hp7
    have HK7b := Lib.hid hk7
    clear hHeld hp7 hk7
    go_wp2_with fail
    refine bodyPost_ret (v := .tuple #[.agg #[.int .i64 tag, .int .i64 key, .string text, .slice A0 ps.length c0, .slice A1 ks.length c1], .string ss]) (by simp [results, Tryz.results20, go_sem, *]) rfl ⟨A0, c0, A1, c1, .mk tag key text ps ks, ss, rfl, HP7.out, HK7b.out, HGd.out.gd, by omega, HBc.out⟩
  · have hn2 : n ≤ 20000 := HTV.out rfl
    by_cases h0 : 0 < n
    · have hd0 : decide ((0 : Int) < (n : Int)) = true := by simp; omega
      go_wp2_with fail
      refine (pick_any wc.heap.size A len cap 4 w5 HS5.out (by omega)).mono ?_
      rintro e w6 ⟨p, rfl, p0, p1, hs, hk⟩
      replace o0 := (hk.cell.1 w2.heap.size 0 (by omega) (by omega)).trans o0
      replace r0 := (hk.cell.1 w.heap.size 0 (by omega) (by omega)).trans r0
      replace o1 := (hk.cell.1 w2.heap.size 1 (by omega) (by omega)).trans o1
      replace r1 := (hk.cell.1 w.heap.size 1 (by omega) (by omega)).trans r1
      replace o2 := (hk.cell.1 w2.heap.size 2 (by omega) (by omega)).trans o2
      replace r2 := (hk.cell.1 w.heap.size 2 (by omega) (by omega)).trans r2
      replace o3 := (hk.cell.1 w2.heap.size 3 (by omega) (by omega)).trans o3
      replace r3 := (hk.cell.1 w.heap.size 3 (by omega) (by omega)).trans r3
      replace o4 := (hk.cell.1 w2.heap.size 4 (by omega) (by omega)).trans o4
      replace r4 := (hk.cell.1 w.heap.size 4 (by omega) (by omega)).trans r4
      replace rf := fun o => (hk.cell.2 w.heap.size o (by omega) (by omega)).trans (rf o)
      have HT6 := Lib.hid (TrD.kept (fun b h1 h2 => hk.block b (by omega) (by omega)) HT5.out)
      have HS6 := Lib.hid hs
      have HB6 := Lib.hid (HB5.out.trans ((hk.mono (show w.heap.size ≤ w5.heap.size by omega)).below (by omega)))
      have hz6 : w5.heap.size ≤ w6.heap.size := hk.size
      clear hs hk HT5 HS5 HB5
      by_cases hp : 0 < p
      · have hd1 : decide (0 < p) = true := by simpa using hp
        go_wp2_with fail
        refine (pick_all wc.heap.size A len cap (n : Int) w6 HS6.out (by omega)).mono ?_
        rintro e w7 ⟨i, rfl, i0, i1, hs, hk⟩
        have i2 : i < (n : Int) := by omega
        replace o0 := (hk.cell.1 w2.heap.size 0 (by omega) (by omega)).trans o0
        replace r0 := (hk.cell.1 w.heap.size 0 (by omega) (by omega)).trans r0
        replace o1 := (hk.cell.1 w2.heap.size 1 (by omega) (by omega)).trans o1
        replace r1 := (hk.cell.1 w.heap.size 1 (by omega) (by omega)).trans r1
        replace o2 := (hk.cell.1 w2.heap.size 2 (by omega) (by omega)).trans o2
        replace r2 := (hk.cell.1 w.heap.size 2 (by omega) (by omega)).trans r2
        replace o3 := (hk.cell.1 w2.heap.size 3 (by omega) (by omega)).trans o3
        replace r3 := (hk.cell.1 w.heap.size 3 (by omega) (by omega)).trans r3
        replace o4 := (hk.cell.1 w2.heap.size 4 (by omega) (by omega)).trans o4
        replace r4 := (hk.cell.1 w.heap.size 4 (by omega) (by omega)).trans r4
        replace rf := fun o => (hk.cell.2 w.heap.size o (by omega) (by omega)).trans (rf o)
        have HT7 := Lib.hid (TrD.kept (fun b h1 h2 => hk.block b (by omega) (by omega)) HT6.out)
        have HS7 := Lib.hid hs
        have HB7 := Lib.hid (HB6.out.trans ((hk.mono (show w.heap.size ≤ w6.heap.size by omega)).below (by omega)))
        have hz7 : w6.heap.size ≤ w7.heap.size := hk.size
        clear hs hk HT6 HS6 HB6
        go_wp2_with fail
        have ei1 := IntWalk.i64_in (i + 1) (by omega)
        have hbd : Below w7.heap.size w7 w7.drew := Below.drew (Below.refl _ _)
        have hHeld0 : (fun w' : World => w'.cell? ⟨w2.heap.size, 0, none⟩ = some (.int .i64 tag) ∧ w'.cell? ⟨w2.heap.size, 1, none⟩ = some (.int .i64 key) ∧ w'.cell? ⟨w2.heap.size, 2, none⟩ = some (.string text) ∧ w'.cell? ⟨w2.heap.size, 3, none⟩ = some (.slice A0 ps.length c0) ∧ w'.cell? ⟨w2.heap.size, 4, none⟩ = some (.slice A1 ks.length c1)) w7.drew := ⟨o0, o1, o2, o3, o4⟩
        refine wp_region_held_drew (S := fun w' : World => w'.cell? ⟨w2.heap.size, 0, none⟩ = some (.int .i64 tag) ∧ w'.cell? ⟨w2.heap.size, 1, none⟩ = some (.int .i64 key) ∧ w'.cell? ⟨w2.heap.size, 2, none⟩ = some (.string text) ∧ w'.cell? ⟨w2.heap.size, 3, none⟩ = some (.slice A0 ps.length c0) ∧ w'.cell? ⟨w2.heap.size, 4, none⟩ = some (.slice A1 ks.length c1)) (by kernel_rfl) hHeld0 (fun hHeld => ?_)
        clear hHeld0
        obtain ⟨wd, hwd⟩ : ∃ v, w7.drew = v := ⟨_, rfl⟩
        have HSc := Lib.hid HS7.out.drew
        rw [hwd] at hbd HSc hHeld ⊢
        replace o0 := (hbd.cell (p := ⟨w2.heap.size, 0, none⟩) (by show w2.heap.size < w7.heap.size; omega)).trans o0
        replace r0 := (hbd.cell (p := ⟨w.heap.size, 0, none⟩) (by show w.heap.size < w7.heap.size; omega)).trans r0
        replace o1 := (hbd.cell (p := ⟨w2.heap.size, 1, none⟩) (by show w2.heap.size < w7.heap.size; omega)).trans o1
        replace r1 := (hbd.cell (p := ⟨w.heap.size, 1, none⟩) (by show w.heap.size < w7.heap.size; omega)).trans r1
        replace o2 := (hbd.cell (p := ⟨w2.heap.size, 2, none⟩) (by show w2.heap.size < w7.heap.size; omega)).trans o2
        replace r2 := (hbd.cell (p := ⟨w.heap.size, 2, none⟩) (by show w.heap.size < w7.heap.size; omega)).trans r2
        replace o3 := (hbd.cell (p := ⟨w2.heap.size, 3, none⟩) (by show w2.heap.size < w7.heap.size; omega)).trans o3
        replace r3 := (hbd.cell (p := ⟨w.heap.size, 3, none⟩) (by show w.heap.size < w7.heap.size; omega)).trans r3
        replace o4 := (hbd.cell (p := ⟨w2.heap.size, 4, none⟩) (by show w2.heap.size < w7.heap.size; omega)).trans o4
        replace r4 := (hbd.cell (p := ⟨w.heap.size, 4, none⟩) (by show w.heap.size < w7.heap.size; omega)).trans r4
        replace rf := fun o => (hbd.frozen (p := ⟨w.heap.size, o, none⟩) (by show w.heap.size < w7.heap.size; omega)).trans (rf o)
        have HTc := Lib.hid (TrD.kept (fun b h1 h2 => hbd.block b (by omega)) HT7.out)
        have HBc := Lib.hid (HB7.out.trans (hbd.mono (by omega)))
        have hzc : w7.heap.size ≤ wd.heap.size := hbd.size
        clear hbd hwd HT7 HS7 HB7
        refine wpAnyH_take (i := 0) (oi := _) (v := ?_) rfl (by kernel_rfl) (by kernel_rfl) (by kernel_rfl) (fun _ _ _ h => h) (Or.inl ⟨by kernel_rfl, ?_⟩) (by assumption) ?_
        rotate_left
        · (intro w hSw; (try dsimp only at hSw); go_simp)
          try with_reducible rfl
        (try simp only [Act.put, List.getElem_toArray, List.getElem_cons_zero, List.getElem_cons_succ, List.setIfInBounds_toArray, List.set_cons_zero, List.set_cons_succ])
        refine wpAnyH_take (i := 1) (oi := _) (v := ?_) rfl (by kernel_rfl) (by kernel_rfl) (by kernel_rfl) (fun _ _ _ h => h) (Or.inl ⟨by kernel_rfl, ?_⟩) (by assumption) ?_
        rotate_left
        · (intro w hSw; (try dsimp only at hSw); go_simp)
          try with_reducible rfl
        (try simp only [Act.put, List.getElem_toArray, List.getElem_cons_zero, List.getElem_cons_succ, List.setIfInBounds_toArray, List.set_cons_zero, List.set_cons_succ])
        refine wpAnyH_take (i := 2) (oi := _) (v := ?_) rfl (by kernel_rfl) (by kernel_rfl) (by kernel_rfl) (fun _ _ _ h => h) (Or.inl ⟨by kernel_rfl, ?_⟩) (by assumption) ?_
        rotate_left
        · (intro w hSw; (try dsimp only at hSw); go_simp)
          try with_reducible rfl
        (try simp only [Act.put, List.getElem_toArray, List.getElem_cons_zero, List.getElem_cons_succ, List.setIfInBounds_toArray, List.set_cons_zero, List.set_cons_succ])
        refine wpAnyH_take (i := 3) (oi := _) (v := ?_) rfl (by kernel_rfl) (by kernel_rfl) (by kernel_rfl) (fun _ _ _ h => h) (Or.inl ⟨by kernel_rfl, ?_⟩) (by assumption) ?_
        rotate_left
        · (intro w hSw; (try dsimp only at hSw); go_simp)
          try with_reducible rfl
        (try simp only [Act.put, List.getElem_toArray, List.getElem_cons_zero, List.getElem_cons_succ, List.setIfInBounds_toArray, List.set_cons_zero, List.set_cons_succ])
        refine wpAnyH_take (i := 4) (oi := _) (v := ?_) rfl (by kernel_rfl) (by kernel_rfl) (by kernel_rfl) (fun _ _ _ h => h) (Or.inl ⟨by kernel_rfl, ?_⟩) (by assumption) ?_
        rotate_left
        · (intro w hSw; (try dsimp only at hSw); go_simp)
          try with_reducible rfl
        (try simp only [Act.put, List.getElem_toArray, List.getElem_cons_zero, List.getElem_cons_succ, List.setIfInBounds_toArray, List.set_cons_zero, List.set_cons_succ])
        refine wpAnyH_take (i := 5) (oi := _) (v := ?_) rfl (by kernel_rfl) (by kernel_rfl) (by kernel_rfl) (fun _ _ _ h => h) (Or.inl ⟨by kernel_rfl, ?_⟩) (by assumption) ?_
        rotate_left
        · (intro w hSw; (try dsimp only at hSw); go_simp)
          try with_reducible rfl
        (try simp only [Act.put, List.getElem_toArray, List.getElem_cons_zero, List.getElem_cons_succ, List.setIfInBounds_toArray, List.set_cons_zero, List.set_cons_succ])
        refine wpAnyH_take (i := 6) (oi := _) (v := ?_) rfl (by kernel_rfl) (by kernel_rfl) (by kernel_rfl) (fun _ _ _ h => h) (Or.inl ⟨by kernel_rfl, ?_⟩) (by assumption) ?_
        rotate_left
        · (intro w hSw; (try dsimp only at hSw); go_simp)
          try with_reducible rfl
        (try simp only [Act.put, List.getElem_toArray, List.getElem_cons_zero, List.getElem_cons_succ, List.setIfInBounds_toArray, List.set_cons_zero, List.set_cons_succ])
        refine wpAnyH_take (i := 7) (oi := _) (v := ?_) rfl (by kernel_rfl) (by kernel_rfl) (by kernel_rfl) (fun _ _ _ h => h) (Or.inl ⟨by kernel_rfl, ?_⟩) (by assumption) ?_
        rotate_left
        · (intro w hSw; (try dsimp only at hSw); go_simp)
          try with_reducible rfl
        (try simp only [Act.put, List.getElem_toArray, List.getElem_cons_zero, List.getElem_cons_succ, List.setIfInBounds_toArray, List.set_cons_zero, List.set_cons_succ])
        refine wpAnyH_ready (rs := [8]) (by kernel_rfl) (by simp) ?_
        refine AllReadyH.cons (o := _) rfl (fun K hK => ?_) AllReadyH.nil
        go_simp
        refine (pick_any wc.heap.size A len cap 5 _ HSc.out (by omega)).mono ?_
        rintro e v1 ⟨r, rfl, hr0, hr1, hs, hk⟩
        clear hs HSc
        replace o0 := (hk.cell.1 w2.heap.size 0 (by omega) (by omega)).trans o0
        replace r0 := (hk.cell.1 w.heap.size 0 (by omega) (by omega)).trans r0
        replace o1 := (hk.cell.1 w2.heap.size 1 (by omega) (by omega)).trans o1
        replace r1 := (hk.cell.1 w.heap.size 1 (by omega) (by omega)).trans r1
        replace o2 := (hk.cell.1 w2.heap.size 2 (by omega) (by omega)).trans o2
        replace r2 := (hk.cell.1 w.heap.size 2 (by omega) (by omega)).trans r2
        replace o3 := (hk.cell.1 w2.heap.size 3 (by omega) (by omega)).trans o3
        replace r3 := (hk.cell.1 w.heap.size 3 (by omega) (by omega)).trans r3
        replace o4 := (hk.cell.1 w2.heap.size 4 (by omega) (by omega)).trans o4
        replace r4 := (hk.cell.1 w.heap.size 4 (by omega) (by omega)).trans r4
        replace rf := fun o => (hk.cell.2 w.heap.size o (by omega) (by omega)).trans (rf o)
        replace HTc := Lib.hid (TrD.kept (fun b h1 h2 => hk.block b (by omega) (by omega)) HTc.out)
        replace HBc := Lib.hid (HBc.out.trans ((hk.mono (show w.heap.size ≤ wd.heap.size by omega)).below (by omega)))
        replace hzc := Nat.le_trans hzc hk.size
        clear hk
        have hHeld3 : (fun w' : World => w'.cell? ⟨w2.heap.size, 0, none⟩ = some (.int .i64 tag) ∧ w'.cell? ⟨w2.heap.size, 1, none⟩ = some (.int .i64 key) ∧ w'.cell? ⟨w2.heap.size, 2, none⟩ = some (.string text) ∧ w'.cell? ⟨w2.heap.size, 3, none⟩ = some (.slice A0 ps.length c0) ∧ w'.cell? ⟨w2.heap.size, 4, none⟩ = some (.slice A1 ks.length c1)) v1 := ⟨o0, o1, o2, o3, o4⟩
        refine hK.out _ _ hHeld3 (fun hHeld2 => ?_)
        clear hHeld2 hHeld
        have hHeld := hHeld3
        clear hHeld3 hK K
        (try simp only [Act.put, List.getElem_toArray, List.getElem_cons_zero, List.getElem_cons_succ, List.setIfInBounds_toArray, List.set_cons_zero, List.set_cons_succ])
        have ei2 := IntWalk.i64_in (i + 1 + r) (by omega)
        obtain ⟨M, hM⟩ : ∃ M : Int, min (n : Int) (i + 1 + r) = M := ⟨_, rfl⟩
        have hM1 : i ≤ M ∧ M ≤ (n : Int) := by rw [← hM]; omega
        have hsl : ∀ wx, (Instr.slice 9 (.string tx) (some (.int .i64 i)) (some (.int .i64 M)) none).run Tryz.prog wx = .ok (.string (tx.extract i.toNat M.toNat)) wx := fun wx => by
          rw [run_slice_string wx 9 tx .i64 .i64 i M Tryz.underlying9 (by omega) (by omega) (by rw [HN.out]; omega)]
        have hxs : (tx.extract i.toNat M.toNat).size ≤ 20000 := by rw [ByteArray.size_extract]; have := HN.out; omega
        refine wpAnyH_take (i := 9) (oi := _) (v := ?_) rfl (by kernel_rfl) (by kernel_rfl) (by kernel_rfl) (fun _ _ _ h => h) (Or.inl ⟨by kernel_rfl, ?_⟩) (by assumption) ?_
        rotate_left
        · (intro w hSw; (try dsimp only at hSw); go_simp)
          try with_reducible rfl
        (try simp only [Act.put, List.getElem_toArray, List.getElem_cons_zero, List.getElem_cons_succ, List.setIfInBounds_toArray, List.set_cons_zero, List.set_cons_succ])
        refine wpAnyH_take (i := 10) (oi := _) (v := ?_) rfl (by kernel_rfl) (by kernel_rfl) (by kernel_rfl) (fun _ _ _ h => h) (Or.inl ⟨by kernel_rfl, ?_⟩) (by assumption) ?_
        rotate_left
        · (intro w hSw; (try dsimp only at hSw); go_simp)
          try with_reducible rfl
        (try simp only [Act.put, List.getElem_toArray, List.getElem_cons_zero, List.getElem_cons_succ, List.setIfInBounds_toArray, List.set_cons_zero, List.set_cons_succ])
        refine wpAnyH_take (i := 11) (oi := _) (v := ?_) rfl (by kernel_rfl) (by kernel_rfl) (by kernel_rfl) (fun _ _ _ h => h) (Or.inl ⟨by kernel_rfl, ?_⟩) (by assumption) ?_
        rotate_left
        · (intro w hSw; (try dsimp only at hSw); go_simp)
          try with_reducible rfl
        (try simp only [Act.put, List.getElem_toArray, List.getElem_cons_zero, List.getElem_cons_succ, List.setIfInBounds_toArray, List.set_cons_zero, List.set_cons_succ])
        refine wpAnyH_ready (rs := [12]) (by kernel_rfl) (by simp) ?_
        refine AllReadyH.cons (o := _) rfl (fun K hK => ?_) AllReadyH.nil
        have hb7 : ∀ k, k ≠ w.heap.size → (((((v1.setCell ⟨w.heap.size, 0, none⟩ (.int .i64 tag)).setCell ⟨w.heap.size, 1, none⟩ (.int .i64 key)).setCell ⟨w.heap.size, 2, none⟩ (.string text)).setCell ⟨w.heap.size, 3, none⟩ (.slice A0 ps.length c0)).setCell ⟨w.heap.size, 4, none⟩ (.slice A1 ks.length c1)).heap[k]? = v1.heap[k]? := fun k hk => by
          rw [Below.heap_setCell _ _ _ _ hk, Below.heap_setCell _ _ _ _ hk, Below.heap_setCell _ _ _ _ hk, Below.heap_setCell _ _ _ _ hk, Below.heap_setCell _ _ _ _ hk]
        have hsz7 : (((((v1.setCell ⟨w.heap.size, 0, none⟩ (.int .i64 tag)).setCell ⟨w.heap.size, 1, none⟩ (.int .i64 key)).setCell ⟨w.heap.size, 2, none⟩ (.string text)).setCell ⟨w.heap.size, 3, none⟩ (.slice A0 ps.length c0)).setCell ⟨w.heap.size, 4, none⟩ (.slice A1 ks.length c1)).heap.size = v1.heap.size := by simp [World.setCell]
        have s0 : (((((v1.setCell ⟨w.heap.size, 0, none⟩ (.int .i64 tag)).setCell ⟨w.heap.size, 1, none⟩ (.int .i64 key)).setCell ⟨w.heap.size, 2, none⟩ (.string text)).setCell ⟨w.heap.size, 3, none⟩ (.slice A0 ps.length c0)).setCell ⟨w.heap.size, 4, none⟩ (.slice A1 ks.length c1)).cell? ⟨w.heap.size, 0, none⟩ = some (.int .i64 tag) := by go_simp
        have s1 : (((((v1.setCell ⟨w.heap.size, 0, none⟩ (.int .i64 tag)).setCell ⟨w.heap.size, 1, none⟩ (.int .i64 key)).setCell ⟨w.heap.size, 2, none⟩ (.string text)).setCell ⟨w.heap.size, 3, none⟩ (.slice A0 ps.length c0)).setCell ⟨w.heap.size, 4, none⟩ (.slice A1 ks.length c1)).cell? ⟨w.heap.size, 1, none⟩ = some (.int .i64 key) := by go_simp
        have s2 : (((((v1.setCell ⟨w.heap.size, 0, none⟩ (.int .i64 tag)).setCell ⟨w.heap.size, 1, none⟩ (.int .i64 key)).setCell ⟨w.heap.size, 2, none⟩ (.string text)).setCell ⟨w.heap.size, 3, none⟩ (.slice A0 ps.length c0)).setCell ⟨w.heap.size, 4, none⟩ (.slice A1 ks.length c1)).cell? ⟨w.heap.size, 2, none⟩ = some (.string text) := by go_simp
        have s3 : (((((v1.setCell ⟨w.heap.size, 0, none⟩ (.int .i64 tag)).setCell ⟨w.heap.size, 1, none⟩ (.int .i64 key)).setCell ⟨w.heap.size, 2, none⟩ (.string text)).setCell ⟨w.heap.size, 3, none⟩ (.slice A0 ps.length c0)).setCell ⟨w.heap.size, 4, none⟩ (.slice A1 ks.length c1)).cell? ⟨w.heap.size, 3, none⟩ = some (.slice A0 ps.length c0) := by go_simp
        have s4 : (((((v1.setCell ⟨w.heap.size, 0, none⟩ (.int .i64 tag)).setCell ⟨w.heap.size, 1, none⟩ (.int .i64 key)).setCell ⟨w.heap.size, 2, none⟩ (.string text)).setCell ⟨w.heap.size, 3, none⟩ (.slice A0 ps.length c0)).setCell ⟨w.heap.size, 4, none⟩ (.slice A1 ks.length c1)).cell? ⟨w.heap.size, 4, none⟩ = some (.slice A1 ks.length c1) := by go_simp
        have sf : ∀ o, (((((v1.setCell ⟨w.heap.size, 0, none⟩ (.int .i64 tag)).setCell ⟨w.heap.size, 1, none⟩ (.int .i64 key)).setCell ⟨w.heap.size, 2, none⟩ (.string text)).setCell ⟨w.heap.size, 3, none⟩ (.slice A0 ps.length c0)).setCell ⟨w.heap.size, 4, none⟩ (.slice A1 ks.length c1)).frozen? ⟨w.heap.size, o, none⟩ = false := fun o => by go_simp
        have hbs := ((((HBc.out.setCell (p := ⟨w.heap.size, 0, none⟩) (Nat.le_refl _) (.int .i64 tag)).setCell (p := ⟨w.heap.size, 1, none⟩) (Nat.le_refl _) (.int .i64 key)).setCell (p := ⟨w.heap.size, 2, none⟩) (Nat.le_refl _) (.string text)).setCell (p := ⟨w.heap.size, 3, none⟩) (Nat.le_refl _) (.slice A0 ps.length c0)).setCell (p := ⟨w.heap.size, 4, none⟩) (Nat.le_refl _) (.slice A1 ks.length c1)
        go_simp
        obtain ⟨v2, hnew⟩ : ∃ v, (((((v1.setCell ⟨w.heap.size, 0, none⟩ (.int .i64 tag)).setCell ⟨w.heap.size, 1, none⟩ (.int .i64 key)).setCell ⟨w.heap.size, 2, none⟩ (.string text)).setCell ⟨w.heap.size, 3, none⟩ (.slice A0 ps.length c0)).setCell ⟨w.heap.size, 4, none⟩ (.slice A1 ks.length c1)) = v := ⟨_, rfl⟩
        rw [hnew] at hb7 hsz7 s0 s1 s2 s3 s4 sf hbs ⊢
        replace o0 := (World.cell?_of_block (a := ⟨w2.heap.size, 0, none⟩) (hb7 w2.heap.size (by omega))).trans o0
        replace o1 := (World.cell?_of_block (a := ⟨w2.heap.size, 1, none⟩) (hb7 w2.heap.size (by omega))).trans o1
        replace o2 := (World.cell?_of_block (a := ⟨w2.heap.size, 2, none⟩) (hb7 w2.heap.size (by omega))).trans o2
        replace o3 := (World.cell?_of_block (a := ⟨w2.heap.size, 3, none⟩) (hb7 w2.heap.size (by omega))).trans o3
        replace o4 := (World.cell?_of_block (a := ⟨w2.heap.size, 4, none⟩) (hb7 w2.heap.size (by omega))).trans o4
        replace HTc := Lib.hid (TrD.kept (fun k h1 h2 => hb7 k (by omega)) HTc.out)
        replace HBc := Lib.hid hbs
        replace hzc := Nat.le_trans hzc (Nat.le_of_eq hsz7.symm)
        clear hb7 hbs hsz7 hnew r0 r1 r2 r3 r4 rf
        have hHeld3 : (fun w' : World => w'.cell? ⟨w2.heap.size, 0, none⟩ = some (.int .i64 tag) ∧ w'.cell? ⟨w2.heap.size, 1, none⟩ = some (.int .i64 key) ∧ w'.cell? ⟨w2.heap.size, 2, none⟩ = some (.string text) ∧ w'.cell? ⟨w2.heap.size, 3, none⟩ = some (.slice A0 ps.length c0) ∧ w'.cell? ⟨w2.heap.size, 4, none⟩ = some (.slice A1 ks.length c1)) v2 := ⟨o0, o1, o2, o3, o4⟩
        refine hK.out _ _ hHeld3 (fun hHeld2 => ?_)
        clear hHeld2 hHeld
        have hHeld := hHeld3
        clear hHeld3 hK K
        (try simp only [Act.put, List.getElem_toArray, List.getElem_cons_zero, List.getElem_cons_succ, List.setIfInBounds_toArray, List.set_cons_zero, List.set_cons_succ])
        refine wpAnyH_take (i := 13) (oi := _) (v := ?_) rfl (by kernel_rfl) (by kernel_rfl) (by kernel_rfl) (fun _ _ _ h => h) (Or.inl ⟨by kernel_rfl, ?_⟩) (by assumption) ?_
        rotate_left
        · (intro w hSw; (try dsimp only at hSw); go_simp)
          try with_reducible rfl
        (try simp only [Act.put, List.getElem_toArray, List.getElem_cons_zero, List.getElem_cons_succ, List.setIfInBounds_toArray, List.set_cons_zero, List.set_cons_succ])
        refine wpAnyH_done (by kernel_rfl) ?_ _
        obtain ⟨F0, f0, F1, f1, hfe, hp7, hk7, _⟩ := HTc.out.lies (by omega)
        simp only [Tr.tag, Tr.key, Tr.text, Tr.ps, Tr.ks, List.cons.injEq, Value.slice.injEq, true_and, and_true] at hfe hp7 hk7
        obtain ⟨⟨rfl, rfl⟩, rfl, rfl⟩ := hfe
        have HP7 := Lib.hid hp7
        have HK7b := Lib.hid hk7
        clear hHeld hp7 hk7
        go_wp2_with fail
        refine bodyPost_ret (v := .tuple #[.agg #[.int .i64 tag, .int .i64 key, .string text, .slice A0 ps.length c0, .slice A1 ks.length c1], .string (tx.extract i.toNat M.toNat)]) (by simp [results, Tryz.results20, go_sem, *]) rfl ⟨A0, c0, A1, c1, .mk tag key text ps ks, (tx.extract i.toNat M.toNat), rfl, HP7.out, HK7b.out, HGd.out.gd, hxs, HBc.out⟩
      · have hd1 : decide (0 < p) = false := by simpa using hp
        go_wp2_with fail
        have hbd : Below w6.heap.size w6 w6.drew := Below.drew (Below.refl _ _)
        have hHeld0 : (fun w' : World => w'.cell? ⟨w2.heap.size, 0, none⟩ = some (.int .i64 tag) ∧ w'.cell? ⟨w2.heap.size, 1, none⟩ = some (.int .i64 key) ∧ w'.cell? ⟨w2.heap.size, 2, none⟩ = some (.string text) ∧ w'.cell? ⟨w2.heap.size, 3, none⟩ = some (.slice A0 ps.length c0) ∧ w'.cell? ⟨w2.heap.size, 4, none⟩ = some (.slice A1 ks.length c1)) w6.drew := ⟨o0, o1, o2, o3, o4⟩
        refine wp_region_held_drew (S := fun w' : World => w'.cell? ⟨w2.heap.size, 0, none⟩ = some (.int .i64 tag) ∧ w'.cell? ⟨w2.heap.size, 1, none⟩ = some (.int .i64 key) ∧ w'.cell? ⟨w2.heap.size, 2, none⟩ = some (.string text) ∧ w'.cell? ⟨w2.heap.size, 3, none⟩ = some (.slice A0 ps.length c0) ∧ w'.cell? ⟨w2.heap.size, 4, none⟩ = some (.slice A1 ks.length c1)) (by kernel_rfl) hHeld0 (fun hHeld => ?_)
        clear hHeld0
        obtain ⟨wd, hwd⟩ : ∃ v, w6.drew = v := ⟨_, rfl⟩
        have HSc := Lib.hid HS6.out.drew
        rw [hwd] at hbd HSc hHeld ⊢
        replace o0 := (hbd.cell (p := ⟨w2.heap.size, 0, none⟩) (by show w2.heap.size < w6.heap.size; omega)).trans o0
        replace r0 := (hbd.cell (p := ⟨w.heap.size, 0, none⟩) (by show w.heap.size < w6.heap.size; omega)).trans r0
        replace o1 := (hbd.cell (p := ⟨w2.heap.size, 1, none⟩) (by show w2.heap.size < w6.heap.size; omega)).trans o1
        replace r1 := (hbd.cell (p := ⟨w.heap.size, 1, none⟩) (by show w.heap.size < w6.heap.size; omega)).trans r1
        replace o2 := (hbd.cell (p := ⟨w2.heap.size, 2, none⟩) (by show w2.heap.size < w6.heap.size; omega)).trans o2
        replace r2 := (hbd.cell (p := ⟨w.heap.size, 2, none⟩) (by show w.heap.size < w6.heap.size; omega)).trans r2
        replace o3 := (hbd.cell (p := ⟨w2.heap.size, 3, none⟩) (by show w2.heap.size < w6.heap.size; omega)).trans o3
        replace r3 := (hbd.cell (p := ⟨w.heap.size, 3, none⟩) (by show w.heap.size < w6.heap.size; omega)).trans r3
        replace o4 := (hbd.cell (p := ⟨w2.heap.size, 4, none⟩) (by show w2.heap.size < w6.heap.size; omega)).trans o4
        replace r4 := (hbd.cell (p := ⟨w.heap.size, 4, none⟩) (by show w.heap.size < w6.heap.size; omega)).trans r4
        replace rf := fun o => (hbd.frozen (p := ⟨w.heap.size, o, none⟩) (by show w.heap.size < w6.heap.size; omega)).trans (rf o)
        have HTc := Lib.hid (TrD.kept (fun b h1 h2 => hbd.block b (by omega)) HT6.out)
        have HBc := Lib.hid (HB6.out.trans (hbd.mono (by omega)))
        have hzc : w6.heap.size ≤ wd.heap.size := hbd.size
        clear hbd hwd HT6 HS6 HB6
        refine wpAnyH_take (i := 0) (oi := _) (v := ?_) rfl (by kernel_rfl) (by kernel_rfl) (by kernel_rfl) (fun _ _ _ h => h) (Or.inl ⟨by kernel_rfl, ?_⟩) (by assumption) ?_
        rotate_left
        · (intro w hSw; (try dsimp only at hSw); go_simp)
          try with_reducible rfl
        (try simp only [Act.put, List.getElem_toArray, List.getElem_cons_zero, List.getElem_cons_succ, List.setIfInBounds_toArray, List.set_cons_zero, List.set_cons_succ])
        refine wpAnyH_take (i := 2) (oi := _) (v := ?_) rfl (by kernel_rfl) (by kernel_rfl) (by kernel_rfl) (fun _ _ _ h => h) (Or.inl ⟨by kernel_rfl, ?_⟩) (by assumption) ?_
        rotate_left
        · (intro w hSw; (try dsimp only at hSw); go_simp)
          try with_reducible rfl
        (try simp only [Act.put, List.getElem_toArray, List.getElem_cons_zero, List.getElem_cons_succ, List.setIfInBounds_toArray, List.set_cons_zero, List.set_cons_succ])
        refine wpAnyH_ready (rs := [1, 3]) (by kernel_rfl) (by simp) ?_
        refine AllReadyH.cons (o := _) rfl (fun K hK => ?_) ?_
        · skip
          go_simp
          have hb := Below.alloc (Below.refl wd.heap.size wd) (Nat.le_refl _) (.cells #[.string ⟨#[97]⟩, .string ⟨#[]⟩, .string ⟨#[108, 111, 110, 103, 32, 116, 101, 120, 116, 32, 49, 50, 51, 52]⟩, .string ⟨#[98, 32, 99]⟩] 9)
          have hl4 : (wd.alloc (.cells #[.string ⟨#[97]⟩, .string ⟨#[]⟩, .string ⟨#[108, 111, 110, 103, 32, 116, 101, 120, 116, 32, 49, 50, 51, 52]⟩, .string ⟨#[98, 32, 99]⟩] 9)).heap[wd.heap.size]? = some (.cells #[.string ⟨#[97]⟩, .string ⟨#[]⟩, .string ⟨#[108, 111, 110, 103, 32, 116, 101, 120, 116, 32, 49, 50, 51, 52]⟩, .string ⟨#[98, 32, 99]⟩] 9) := World.alloc_heap_new wd _
          have hsz : wd.heap.size < (wd.alloc (.cells #[.string ⟨#[97]⟩, .string ⟨#[]⟩, .string ⟨#[108, 111, 110, 103, 32, 116, 101, 120, 116, 32, 49, 50, 51, 52]⟩, .string ⟨#[98, 32, 99]⟩] 9)).heap.size := by simp
          obtain ⟨L, hL⟩ : ∃ v, wd.heap.size = v := ⟨_, rfl⟩
          have hLg : wc.heap.size < L := by omega
          have hLr : w.heap.size < L := by omega
          obtain ⟨v1, hnew⟩ : ∃ v, wd.alloc (.cells #[.string ⟨#[97]⟩, .string ⟨#[]⟩, .string ⟨#[108, 111, 110, 103, 32, 116, 101, 120, 116, 32, 49, 50, 51, 52]⟩, .string ⟨#[98, 32, 99]⟩] 9) = v := ⟨_, rfl⟩
          rw [hnew] at hb hl4 hsz ⊢
          replace o0 := (hb.cell (p := ⟨w2.heap.size, 0, none⟩) (by show w2.heap.size < wd.heap.size; omega)).trans o0
          replace r0 := (hb.cell (p := ⟨w.heap.size, 0, none⟩) (by show w.heap.size < wd.heap.size; omega)).trans r0
          replace o1 := (hb.cell (p := ⟨w2.heap.size, 1, none⟩) (by show w2.heap.size < wd.heap.size; omega)).trans o1
          replace r1 := (hb.cell (p := ⟨w.heap.size, 1, none⟩) (by show w.heap.size < wd.heap.size; omega)).trans r1
          replace o2 := (hb.cell (p := ⟨w2.heap.size, 2, none⟩) (by show w2.heap.size < wd.heap.size; omega)).trans o2
          replace r2 := (hb.cell (p := ⟨w.heap.size, 2, none⟩) (by show w.heap.size < wd.heap.size; omega)).trans r2
          replace o3 := (hb.cell (p := ⟨w2.heap.size, 3, none⟩) (by show w2.heap.size < wd.heap.size; omega)).trans o3
          replace r3 := (hb.cell (p := ⟨w.heap.size, 3, none⟩) (by show w.heap.size < wd.heap.size; omega)).trans r3
          replace o4 := (hb.cell (p := ⟨w2.heap.size, 4, none⟩) (by show w2.heap.size < wd.heap.size; omega)).trans o4
          replace r4 := (hb.cell (p := ⟨w.heap.size, 4, none⟩) (by show w.heap.size < wd.heap.size; omega)).trans r4
          replace rf := fun o => (hb.frozen (p := ⟨w.heap.size, o, none⟩) (by show w.heap.size < wd.heap.size; omega)).trans (rf o)
          replace HTc := Lib.hid (TrD.kept (fun b h1 h2 => hb.block b (by omega)) HTc.out)
          replace HBc := Lib.hid (HBc.out.trans (hb.mono (by omega)))
          replace HSc := Lib.hid (HSc.out.below hb)
          replace hzc := Nat.le_trans hzc hb.size
          rw [hL] at hl4 hsz ⊢
          have HL4 := Lib.hid hl4
          clear hb hl4 hnew
          have hHeld3 : (fun w' : World => w'.cell? ⟨w2.heap.size, 0, none⟩ = some (.int .i64 tag) ∧ w'.cell? ⟨w2.heap.size, 1, none⟩ = some (.int .i64 key) ∧ w'.cell? ⟨w2.heap.size, 2, none⟩ = some (.string text) ∧ w'.cell? ⟨w2.heap.size, 3, none⟩ = some (.slice A0 ps.length c0) ∧ w'.cell? ⟨w2.heap.size, 4, none⟩ = some (.slice A1 ks.length c1)) v1 := ⟨o0, o1, o2, o3, o4⟩
          refine hK.out _ _ hHeld3 (fun hHeld2 => ?_)
          clear hHeld2 hHeld
          have hHeld := hHeld3
          clear hHeld3 hK K
          (try simp only [Act.put, List.getElem_toArray, List.getElem_cons_zero, List.getElem_cons_succ, List.setIfInBounds_toArray, List.set_cons_zero, List.set_cons_succ])
          refine wpAnyH_ready (rs := [3]) (by kernel_rfl) (by simp) ?_
          refine AllReadyH.cons (o := _) rfl (fun K hK => ?_) AllReadyH.nil
          go_simp
          refine (pick_any wc.heap.size A len cap 4 _ HSc.out (by omega)).mono ?_
          rintro e v2 ⟨r, rfl, hr0, hr1, hs, hk⟩
          clear hs HSc
          replace o0 := (hk.cell.1 w2.heap.size 0 (by omega) (by omega)).trans o0
          replace r0 := (hk.cell.1 w.heap.size 0 (by omega) (by omega)).trans r0
          replace o1 := (hk.cell.1 w2.heap.size 1 (by omega) (by omega)).trans o1
          replace r1 := (hk.cell.1 w.heap.size 1 (by omega) (by omega)).trans r1
          replace o2 := (hk.cell.1 w2.heap.size 2 (by omega) (by omega)).trans o2
          replace r2 := (hk.cell.1 w.heap.size 2 (by omega) (by omega)).trans r2
          replace o3 := (hk.cell.1 w2.heap.size 3 (by omega) (by omega)).trans o3
          replace r3 := (hk.cell.1 w.heap.size 3 (by omega) (by omega)).trans r3
          replace o4 := (hk.cell.1 w2.heap.size 4 (by omega) (by omega)).trans o4
          replace r4 := (hk.cell.1 w.heap.size 4 (by omega) (by omega)).trans r4
          replace rf := fun o => (hk.cell.2 w.heap.size o (by omega) (by omega)).trans (rf o)
          replace HTc := Lib.hid (TrD.kept (fun b h1 h2 => hk.block b (by omega) (by omega)) HTc.out)
          replace HBc := Lib.hid (HBc.out.trans ((hk.mono (show w.heap.size ≤ v1.heap.size by omega)).below (by omega)))
          replace hzc := Nat.le_trans hzc hk.size
          have hsz3 : L < v2.heap.size := Nat.lt_of_lt_of_le hsz hk.size
          replace HL4 := Lib.hid ((hk.block L (by omega) (by omega)).trans HL4.out)
          clear hsz
          have hsz := hsz3
          clear hsz3
          clear hk
          have hHeld3 : (fun w' : World => w'.cell? ⟨w2.heap.size, 0, none⟩ = some (.int .i64 tag) ∧ w'.cell? ⟨w2.heap.size, 1, none⟩ = some (.int .i64 key) ∧ w'.cell? ⟨w2.heap.size, 2, none⟩ = some (.string text) ∧ w'.cell? ⟨w2.heap.size, 3, none⟩ = some (.slice A0 ps.length c0) ∧ w'.cell? ⟨w2.heap.size, 4, none⟩ = some (.slice A1 ks.length c1)) v2 := ⟨o0, o1, o2, o3, o4⟩
          refine hK.out _ _ hHeld3 (fun hHeld2 => ?_)
          clear hHeld2 hHeld
          have hHeld := hHeld3
          clear hHeld3 hK K
          (try simp only [Act.put, List.getElem_toArray, List.getElem_cons_zero, List.getElem_cons_succ, List.setIfInBounds_toArray, List.set_cons_zero, List.set_cons_succ])
          have hr4 : r < 4 := by omega
          obtain ⟨ss, hss, hsc⟩ : ∃ ss : ByteArray, ss.size ≤ 14 ∧ v2.cell? ⟨L, r.toNat, none⟩ = some (.string ss) := str4b HL4.out r hr0 hr4
          refine wpAnyH_take (i := 4) (oi := _) (v := ?_) rfl (by kernel_rfl) (by kernel_rfl) (by kernel_rfl) (fun _ _ _ h => h) (Or.inl ⟨by kernel_rfl, ?_⟩) (by assumption) ?_
          rotate_left
          · (intro w hSw; (try dsimp only at hSw); go_simp)
            try with_reducible rfl
          (try simp only [Act.put, List.getElem_toArray, List.getElem_cons_zero, List.getElem_cons_succ, List.setIfInBounds_toArray, List.set_cons_zero, List.set_cons_succ])
          refine wpAnyH_ready (rs := [5, 6]) (by kernel_rfl) (by simp) ?_
          refine AllReadyH.cons (o := _) rfl (fun K hK => ?_) ?_
          · skip
            go_simp
            refine hK.out _ _ hHeld (fun hHeld2 => ?_)
            clear hK K hHeld2
            (try simp only [Act.put, List.getElem_toArray, List.getElem_cons_zero, List.getElem_cons_succ, List.setIfInBounds_toArray, List.set_cons_zero, List.set_cons_succ])
            refine wpAnyH_ready (rs := [6]) (by kernel_rfl) (by simp) ?_
            refine AllReadyH.cons (o := _) rfl (fun K hK => ?_) AllReadyH.nil
            have hb7 : ∀ k, k ≠ w.heap.size → (((((v2.setCell ⟨w.heap.size, 0, none⟩ (.int .i64 tag)).setCell ⟨w.heap.size, 1, none⟩ (.int .i64 key)).setCell ⟨w.heap.size, 2, none⟩ (.string text)).setCell ⟨w.heap.size, 3, none⟩ (.slice A0 ps.length c0)).setCell ⟨w.heap.size, 4, none⟩ (.slice A1 ks.length c1)).heap[k]? = v2.heap[k]? := fun k hk => by
              rw [Below.heap_setCell _ _ _ _ hk, Below.heap_setCell _ _ _ _ hk, Below.heap_setCell _ _ _ _ hk, Below.heap_setCell _ _ _ _ hk, Below.heap_setCell _ _ _ _ hk]
            have hsz7 : (((((v2.setCell ⟨w.heap.size, 0, none⟩ (.int .i64 tag)).setCell ⟨w.heap.size, 1, none⟩ (.int .i64 key)).setCell ⟨w.heap.size, 2, none⟩ (.string text)).setCell ⟨w.heap.size, 3, none⟩ (.slice A0 ps.length c0)).setCell ⟨w.heap.size, 4, none⟩ (.slice A1 ks.length c1)).heap.size = v2.heap.size := by simp [World.setCell]
            have s0 : (((((v2.setCell ⟨w.heap.size, 0, none⟩ (.int .i64 tag)).setCell ⟨w.heap.size, 1, none⟩ (.int .i64 key)).setCell ⟨w.heap.size, 2, none⟩ (.string text)).setCell ⟨w.heap.size, 3, none⟩ (.slice A0 ps.length c0)).setCell ⟨w.heap.size, 4, none⟩ (.slice A1 ks.length c1)).cell? ⟨w.heap.size, 0, none⟩ = some (.int .i64 tag) := by go_simp
            have s1 : (((((v2.setCell ⟨w.heap.size, 0, none⟩ (.int .i64 tag)).setCell ⟨w.heap.size, 1, none⟩ (.int .i64 key)).setCell ⟨w.heap.size, 2, none⟩ (.string text)).setCell ⟨w.heap.size, 3, none⟩ (.slice A0 ps.length c0)).setCell ⟨w.heap.size, 4, none⟩ (.slice A1 ks.length c1)).cell? ⟨w.heap.size, 1, none⟩ = some (.int .i64 key) := by go_simp
            have s2 : (((((v2.setCell ⟨w.heap.size, 0, none⟩ (.int .i64 tag)).setCell ⟨w.heap.size, 1, none⟩ (.int .i64 key)).setCell ⟨w.heap.size, 2, none⟩ (.string text)).setCell ⟨w.heap.size, 3, none⟩ (.slice A0 ps.length c0)).setCell ⟨w.heap.size, 4, none⟩ (.slice A1 ks.length c1)).cell? ⟨w.heap.size, 2, none⟩ = some (.string text) := by go_simp
            have s3 : (((((v2.setCell ⟨w.heap.size, 0, none⟩ (.int .i64 tag)).setCell ⟨w.heap.size, 1, none⟩ (.int .i64 key)).setCell ⟨w.heap.size, 2, none⟩ (.string text)).setCell ⟨w.heap.size, 3, none⟩ (.slice A0 ps.length c0)).setCell ⟨w.heap.size, 4, none⟩ (.slice A1 ks.length c1)).cell? ⟨w.heap.size, 3, none⟩ = some (.slice A0 ps.length c0) := by go_simp
            have s4 : (((((v2.setCell ⟨w.heap.size, 0, none⟩ (.int .i64 tag)).setCell ⟨w.heap.size, 1, none⟩ (.int .i64 key)).setCell ⟨w.heap.size, 2, none⟩ (.string text)).setCell ⟨w.heap.size, 3, none⟩ (.slice A0 ps.length c0)).setCell ⟨w.heap.size, 4, none⟩ (.slice A1 ks.length c1)).cell? ⟨w.heap.size, 4, none⟩ = some (.slice A1 ks.length c1) := by go_simp
            have sf : ∀ o, (((((v2.setCell ⟨w.heap.size, 0, none⟩ (.int .i64 tag)).setCell ⟨w.heap.size, 1, none⟩ (.int .i64 key)).setCell ⟨w.heap.size, 2, none⟩ (.string text)).setCell ⟨w.heap.size, 3, none⟩ (.slice A0 ps.length c0)).setCell ⟨w.heap.size, 4, none⟩ (.slice A1 ks.length c1)).frozen? ⟨w.heap.size, o, none⟩ = false := fun o => by go_simp
            have hbs := ((((HBc.out.setCell (p := ⟨w.heap.size, 0, none⟩) (Nat.le_refl _) (.int .i64 tag)).setCell (p := ⟨w.heap.size, 1, none⟩) (Nat.le_refl _) (.int .i64 key)).setCell (p := ⟨w.heap.size, 2, none⟩) (Nat.le_refl _) (.string text)).setCell (p := ⟨w.heap.size, 3, none⟩) (Nat.le_refl _) (.slice A0 ps.length c0)).setCell (p := ⟨w.heap.size, 4, none⟩) (Nat.le_refl _) (.slice A1 ks.length c1)
            go_simp
            obtain ⟨v3, hnew⟩ : ∃ v, (((((v2.setCell ⟨w.heap.size, 0, none⟩ (.int .i64 tag)).setCell ⟨w.heap.size, 1, none⟩ (.int .i64 key)).setCell ⟨w.heap.size, 2, none⟩ (.string text)).setCell ⟨w.heap.size, 3, none⟩ (.slice A0 ps.length c0)).setCell ⟨w.heap.size, 4, none⟩ (.slice A1 ks.length c1)) = v := ⟨_, rfl⟩
            rw [hnew] at hb7 hsz7 s0 s1 s2 s3 s4 sf hbs ⊢
            replace o0 := (World.cell?_of_block (a := ⟨w2.heap.size, 0, none⟩) (hb7 w2.heap.size (by omega))).trans o0
            replace o1 := (World.cell?_of_block (a := ⟨w2.heap.size, 1, none⟩) (hb7 w2.heap.size (by omega))).trans o1
            replace o2 := (World.cell?_of_block (a := ⟨w2.heap.size, 2, none⟩) (hb7 w2.heap.size (by omega))).trans o2
            replace o3 := (World.cell?_of_block (a := ⟨w2.heap.size, 3, none⟩) (hb7 w2.heap.size (by omega))).trans o3
            replace o4 := (World.cell?_of_block (a := ⟨w2.heap.size, 4, none⟩) (hb7 w2.heap.size (by omega))).trans o4
            replace HTc := Lib.hid (TrD.kept (fun k h1 h2 => hb7 k (by omega)) HTc.out)
            replace HBc := Lib.hid hbs
            replace hzc := Nat.le_trans hzc (Nat.le_of_eq hsz7.symm)
            replace HL4 := Lib.hid ((hb7 L (by omega)).trans HL4.out)
            replace hsz := Nat.lt_of_lt_of_le hsz (Nat.le_of_eq hsz7.symm)
            clear hb7 hbs hsz7 hnew r0 r1 r2 r3 r4 rf
            have hHeld3 : (fun w' : World => w'.cell? ⟨w2.heap.size, 0, none⟩ = some (.int .i64 tag) ∧ w'.cell? ⟨w2.heap.size, 1, none⟩ = some (.int .i64 key) ∧ w'.cell? ⟨w2.heap.size, 2, none⟩ = some (.string text) ∧ w'.cell? ⟨w2.heap.size, 3, none⟩ = some (.slice A0 ps.length c0) ∧ w'.cell? ⟨w2.heap.size, 4, none⟩ = some (.slice A1 ks.length c1)) v3 := ⟨o0, o1, o2, o3, o4⟩
            refine hK.out _ _ hHeld3 (fun hHeld2 => ?_)
            clear hHeld2 hHeld
            have hHeld := hHeld3
            clear hHeld3 hK K
            (try simp only [Act.put, List.getElem_toArray, List.getElem_cons_zero, List.getElem_cons_succ, List.setIfInBounds_toArray, List.set_cons_zero, List.set_cons_succ])
            refine wpAnyH_take (i := 7) (oi := _) (v := ?_) rfl (by kernel_rfl) (by kernel_rfl) (by kernel_rfl) (fun _ _ _ h => h) (Or.inl ⟨by kernel_rfl, ?_⟩) (by assumption) ?_
            rotate_left
            · (intro w hSw; (try dsimp only at hSw); go_simp)
              try with_reducible rfl
            (try simp only [Act.put, List.getElem_toArray, List.getElem_cons_zero, List.getElem_cons_succ, List.setIfInBounds_toArray, List.set_cons_zero, List.set_cons_succ])
            refine wpAnyH_done (by kernel_rfl) ?_ _
            obtain ⟨F0, f0, F1, f1, hfe, hp7, hk7, _⟩ := HTc.out.lies (by omega)
            simp only [Tr.tag, Tr.key, Tr.text, Tr.ps, Tr.ks, List.cons.injEq, Value.slice.injEq, true_and, and_true] at hfe hp7 hk7
            obtain ⟨⟨rfl, rfl⟩, rfl, rfl⟩ := hfe
            have HP7 := Lib.hid hp7
            have HK7b := Lib.hid hk7
            clear hHeld hp7 hk7
            go_wp2_with fail
            refine bodyPost_ret (v := .tuple #[.agg #[.int .i64 tag, .int .i64 key, .string text, .slice A0 ps.length c0, .slice A1 ks.length c1], .string ss]) (by simp [results, Tryz.results20, go_sem, *]) rfl ⟨A0, c0, A1, c1, .mk tag key text ps ks, ss, rfl, HP7.out, HK7b.out, HGd.out.gd, by omega, HBc.out⟩
          refine AllReadyH.cons (o := _) rfl (fun K hK => ?_) AllReadyH.nil
          have hb7 : ∀ k, k ≠ w.heap.size → (((((v2.setCell ⟨w.heap.size, 0, none⟩ (.int .i64 tag)).setCell ⟨w.heap.size, 1, none⟩ (.int .i64 key)).setCell ⟨w.heap.size, 2, none⟩ (.string text)).setCell ⟨w.heap.size, 3, none⟩ (.slice A0 ps.length c0)).setCell ⟨w.heap.size, 4, none⟩ (.slice A1 ks.length c1)).heap[k]? = v2.heap[k]? := fun k hk => by
            rw [Below.heap_setCell _ _ _ _ hk, Below.heap_setCell _ _ _ _ hk, Below.heap_setCell _ _ _ _ hk, Below.heap_setCell _ _ _ _ hk, Below.heap_setCell _ _ _ _ hk]
          have hsz7 : (((((v2.setCell ⟨w.heap.size, 0, none⟩ (.int .i64 tag)).setCell ⟨w.heap.size, 1, none⟩ (.int .i64 key)).setCell ⟨w.heap.size, 2, none⟩ (.string text)).setCell ⟨w.heap.size, 3, none⟩ (.slice A0 ps.length c0)).setCell ⟨w.heap.size, 4, none⟩ (.slice A1 ks.length c1)).heap.size = v2.heap.size := by simp [World.setCell]
          have s0 : (((((v2.setCell ⟨w.heap.size, 0, none⟩ (.int .i64 tag)).setCell ⟨w.heap.size, 1, none⟩ (.int .i64 key)).setCell ⟨w.heap.size, 2, none⟩ (.string text)).setCell ⟨w.heap.size, 3, none⟩ (.slice A0 ps.length c0)).setCell ⟨w.heap.size, 4, none⟩ (.slice A1 ks.length c1)).cell? ⟨w.heap.size, 0, none⟩ = some (.int .i64 tag) := by go_simp
          have s1 : (((((v2.setCell ⟨w.heap.size, 0, none⟩ (.int .i64 tag)).setCell ⟨w.heap.size, 1, none⟩ (.int .i64 key)).setCell ⟨w.heap.size, 2, none⟩ (.string text)).setCell ⟨w.heap.size, 3, none⟩ (.slice A0 ps.length c0)).setCell ⟨w.heap.size, 4, none⟩ (.slice A1 ks.length c1)).cell? ⟨w.heap.size, 1, none⟩ = some (.int .i64 key) := by go_simp
          have s2 : (((((v2.setCell ⟨w.heap.size, 0, none⟩ (.int .i64 tag)).setCell ⟨w.heap.size, 1, none⟩ (.int .i64 key)).setCell ⟨w.heap.size, 2, none⟩ (.string text)).setCell ⟨w.heap.size, 3, none⟩ (.slice A0 ps.length c0)).setCell ⟨w.heap.size, 4, none⟩ (.slice A1 ks.length c1)).cell? ⟨w.heap.size, 2, none⟩ = some (.string text) := by go_simp
          have s3 : (((((v2.setCell ⟨w.heap.size, 0, none⟩ (.int .i64 tag)).setCell ⟨w.heap.size, 1, none⟩ (.int .i64 key)).setCell ⟨w.heap.size, 2, none⟩ (.string text)).setCell ⟨w.heap.size, 3, none⟩ (.slice A0 ps.length c0)).setCell ⟨w.heap.size, 4, none⟩ (.slice A1 ks.length c1)).cell? ⟨w.heap.size, 3, none⟩ = some (.slice A0 ps.length c0) := by go_simp
          have s4 : (((((v2.setCell ⟨w.heap.size, 0, none⟩ (.int .i64 tag)).setCell ⟨w.heap.size, 1, none⟩ (.int .i64 key)).setCell ⟨w.heap.size, 2, none⟩ (.string text)).setCell ⟨w.heap.size, 3, none⟩ (.slice A0 ps.length c0)).setCell ⟨w.heap.size, 4, none⟩ (.slice A1 ks.length c1)).cell? ⟨w.heap.size, 4, none⟩ = some (.slice A1 ks.length c1) := by go_simp
          have sf : ∀ o, (((((v2.setCell ⟨w.heap.size, 0, none⟩ (.int .i64 tag)).setCell ⟨w.heap.size, 1, none⟩ (.int .i64 key)).setCell ⟨w.heap.size, 2, none⟩ (.string text)).setCell ⟨w.heap.size, 3, none⟩ (.slice A0 ps.length c0)).setCell ⟨w.heap.size, 4, none⟩ (.slice A1 ks.length c1)).frozen? ⟨w.heap.size, o, none⟩ = false := fun o => by go_simp
          have hbs := ((((HBc.out.setCell (p := ⟨w.heap.size, 0, none⟩) (Nat.le_refl _) (.int .i64 tag)).setCell (p := ⟨w.heap.size, 1, none⟩) (Nat.le_refl _) (.int .i64 key)).setCell (p := ⟨w.heap.size, 2, none⟩) (Nat.le_refl _) (.string text)).setCell (p := ⟨w.heap.size, 3, none⟩) (Nat.le_refl _) (.slice A0 ps.length c0)).setCell (p := ⟨w.heap.size, 4, none⟩) (Nat.le_refl _) (.slice A1 ks.length c1)
          go_simp
          obtain ⟨v4, hnew⟩ : ∃ v, (((((v2.setCell ⟨w.heap.size, 0, none⟩ (.int .i64 tag)).setCell ⟨w.heap.size, 1, none⟩ (.int .i64 key)).setCell ⟨w.heap.size, 2, none⟩ (.string text)).setCell ⟨w.heap.size, 3, none⟩ (.slice A0 ps.length c0)).setCell ⟨w.heap.size, 4, none⟩ (.slice A1 ks.length c1)) = v := ⟨_, rfl⟩
          rw [hnew] at hb7 hsz7 s0 s1 s2 s3 s4 sf hbs ⊢
          replace o0 := (World.cell?_of_block (a := ⟨w2.heap.size, 0, none⟩) (hb7 w2.heap.size (by omega))).trans o0
          replace o1 := (World.cell?_of_block (a := ⟨w2.heap.size, 1, none⟩) (hb7 w2.heap.size (by omega))).trans o1
          replace o2 := (World.cell?_of_block (a := ⟨w2.heap.size, 2, none⟩) (hb7 w2.heap.size (by omega))).trans o2
          replace o3 := (World.cell?_of_block (a := ⟨w2.heap.size, 3, none⟩) (hb7 w2.heap.size (by omega))).trans o3
          replace o4 := (World.cell?_of_block (a := ⟨w2.heap.size, 4, none⟩) (hb7 w2.heap.size (by omega))).trans o4
          replace HTc := Lib.hid (TrD.kept (fun k h1 h2 => hb7 k (by omega)) HTc.out)
          replace HBc := Lib.hid hbs
          replace hzc := Nat.le_trans hzc (Nat.le_of_eq hsz7.symm)
          replace HL4 := Lib.hid ((hb7 L (by omega)).trans HL4.out)
          replace hsz := Nat.lt_of_lt_of_le hsz (Nat.le_of_eq hsz7.symm)
          replace hsc := (World.cell?_of_block (a := ⟨L, r.toNat, none⟩) (hb7 L (by omega))).trans hsc
          clear hb7 hbs hsz7 hnew r0 r1 r2 r3 r4 rf
          have hHeld3 : (fun w' : World => w'.cell? ⟨w2.heap.size, 0, none⟩ = some (.int .i64 tag) ∧ w'.cell? ⟨w2.heap.size, 1, none⟩ = some (.int .i64 key) ∧ w'.cell? ⟨w2.heap.size, 2, none⟩ = some (.string text) ∧ w'.cell? ⟨w2.heap.size, 3, none⟩ = some (.slice A0 ps.length c0) ∧ w'.cell? ⟨w2.heap.size, 4, none⟩ = some (.slice A1 ks.length c1)) v4 := ⟨o0, o1, o2, o3, o4⟩
          refine hK.out _ _ hHeld3 (fun hHeld2 => ?_)
          clear hHeld2 hHeld
          have hHeld := hHeld3
          clear hHeld3 hK K
          (try simp only [Act.put, List.getElem_toArray, List.getElem_cons_zero, List.getElem_cons_succ, List.setIfInBounds_toArray, List.set_cons_zero, List.set_cons_succ])
          refine wpAnyH_ready (rs := [5]) (by kernel_rfl) (by simp) ?_
          refine AllReadyH.cons (o := _) rfl (fun K hK => ?_) AllReadyH.nil
          go_simp
          refine hK.out _ _ hHeld (fun hHeld2 => ?_)
          clear hK K hHeld2
          (try simp only [Act.put, List.getElem_toArray, List.getElem_cons_zero, List.getElem_cons_succ, List.setIfInBounds_toArray, List.set_cons_zero, List.set_cons_succ])
          refine wpAnyH_take (i := 7) (oi := _) (v := ?_) rfl (by kernel_rfl) (by kernel_rfl) (by kernel_rfl) (fun _ _ _ h => h) (Or.inl ⟨by kernel_rfl, ?_⟩) (by assumption) ?_
          rotate_left
          · (intro w hSw; (try dsimp only at hSw); go_simp)
            try with_reducible rfl
          (try simp only [Act.put, List.getElem_toArray, List.getElem_cons_zero, List.getElem_cons_succ, List.setIfInBounds_toArray, List.set_cons_zero, List.set_cons_succ])
          refine wpAnyH_done (by kernel_rfl) ?_ _
          obtain ⟨F0, f0, F1, f1, hfe, hp7, hk7, _⟩ := HTc.out.lies (by omega)
          simp only [Tr.tag, Tr.key, Tr.text, Tr.ps, Tr.ks, List.cons.injEq, Value.slice.injEq, true_and, and_true] at hfe hp7 hk7
          obtain ⟨⟨rfl, rfl⟩, rfl, rfl⟩ := hfe
          have HP7 := Lib.hid hp7
          have HK7b := Lib.hid hk7
          clear hHeld hp7 hk7
          go_wp2_with fail
          refine bodyPost_ret (v := .tuple #[.agg #[.int .i64 tag, .int .i64 key, .string text, .slice A0 ps.length c0, .slice A1 ks.length c1], .string ss]) (by simp [results, Tryz.results20, go_sem, *]) rfl ⟨A0, c0, A1, c1, .mk tag key text ps ks, ss, rfl, HP7.out, HK7b.out, HGd.out.gd, by omega, HBc.out⟩
        refine AllReadyH.cons (o := _) rfl (fun K hK => ?_) AllReadyH.nil
        go_simp
        refine (pick_any wc.heap.size A len cap 4 _ HSc.out (by omega)).mono ?_
        rintro e v5 ⟨r, rfl, hr0, hr1, hs, hk⟩
        clear hs HSc
        replace o0 := (hk.cell.1 w2.heap.size 0 (by omega) (by omega)).trans o0
        replace r0 := (hk.cell.1 w.heap.size 0 (by omega) (by omega)).trans r0
        replace o1 := (hk.cell.1 w2.heap.size 1 (by omega) (by omega)).trans o1
        replace r1 := (hk.cell.1 w.heap.size 1 (by omega) (by omega)).trans r1
        replace o2 := (hk.cell.1 w2.heap.size 2 (by omega) (by omega)).trans o2
        replace r2 := (hk.cell.1 w.heap.size 2 (by omega) (by omega)).trans r2
        replace o3 := (hk.cell.1 w2.heap.size 3 (by omega) (by omega)).trans o3
        replace r3 := (hk.cell.1 w.heap.size 3 (by omega) (by omega)).trans r3
        replace o4 := (hk.cell.1 w2.heap.size 4 (by omega) (by omega)).trans o4
        replace r4 := (hk.cell.1 w.heap.size 4 (by omega) (by omega)).trans r4
        replace rf := fun o => (hk.cell.2 w.heap.size o (by omega) (by omega)).trans (rf o)
        replace HTc := Lib.hid (TrD.kept (fun b h1 h2 => hk.block b (by omega) (by omega)) HTc.out)
        replace HBc := Lib.hid (HBc.out.trans ((hk.mono (show w.heap.size ≤ wd.heap.size by omega)).below (by omega)))
        replace hzc := Nat.le_trans hzc hk.size
        clear hk
        have hHeld3 : (fun w' : World => w'.cell? ⟨w2.heap.size, 0, none⟩ = some (.int .i64 tag) ∧ w'.cell? ⟨w2.heap.size, 1, none⟩ = some (.int .i64 key) ∧ w'.cell? ⟨w2.heap.size, 2, none⟩ = some (.string text) ∧ w'.cell? ⟨w2.heap.size, 3, none⟩ = some (.slice A0 ps.length c0) ∧ w'.cell? ⟨w2.heap.size, 4, none⟩ = some (.slice A1 ks.length c1)) v5 := ⟨o0, o1, o2, o3, o4⟩
        refine hK.out _ _ hHeld3 (fun hHeld2 => ?_)
        clear hHeld2 hHeld
        have hHeld := hHeld3
        clear hHeld3 hK K
        (try simp only [Act.put, List.getElem_toArray, List.getElem_cons_zero, List.getElem_cons_succ, List.setIfInBounds_toArray, List.set_cons_zero, List.set_cons_succ])
        refine wpAnyH_ready (rs := [1, 6]) (by kernel_rfl) (by simp) ?_
        refine AllReadyH.cons (o := _) rfl (fun K hK => ?_) ?_
        · skip
          go_simp
          have hb := Below.alloc (Below.refl v5.heap.size v5) (Nat.le_refl _) (.cells #[.string ⟨#[97]⟩, .string ⟨#[]⟩, .string ⟨#[108, 111, 110, 103, 32, 116, 101, 120, 116, 32, 49, 50, 51, 52]⟩, .string ⟨#[98, 32, 99]⟩] 9)
          have hl4 : (v5.alloc (.cells #[.string ⟨#[97]⟩, .string ⟨#[]⟩, .string ⟨#[108, 111, 110, 103, 32, 116, 101, 120, 116, 32, 49, 50, 51, 52]⟩, .string ⟨#[98, 32, 99]⟩] 9)).heap[v5.heap.size]? = some (.cells #[.string ⟨#[97]⟩, .string ⟨#[]⟩, .string ⟨#[108, 111, 110, 103, 32, 116, 101, 120, 116, 32, 49, 50, 51, 52]⟩, .string ⟨#[98, 32, 99]⟩] 9) := World.alloc_heap_new v5 _
          have hsz : v5.heap.size < (v5.alloc (.cells #[.string ⟨#[97]⟩, .string ⟨#[]⟩, .string ⟨#[108, 111, 110, 103, 32, 116, 101, 120, 116, 32, 49, 50, 51, 52]⟩, .string ⟨#[98, 32, 99]⟩] 9)).heap.size := by simp
          obtain ⟨L, hL⟩ : ∃ v, v5.heap.size = v := ⟨_, rfl⟩
          have hLg : wc.heap.size < L := by omega
          have hLr : w.heap.size < L := by omega
          obtain ⟨v6, hnew⟩ : ∃ v, v5.alloc (.cells #[.string ⟨#[97]⟩, .string ⟨#[]⟩, .string ⟨#[108, 111, 110, 103, 32, 116, 101, 120, 116, 32, 49, 50, 51, 52]⟩, .string ⟨#[98, 32, 99]⟩] 9) = v := ⟨_, rfl⟩
          rw [hnew] at hb hl4 hsz ⊢
          replace o0 := (hb.cell (p := ⟨w2.heap.size, 0, none⟩) (by show w2.heap.size < v5.heap.size; omega)).trans o0
          replace r0 := (hb.cell (p := ⟨w.heap.size, 0, none⟩) (by show w.heap.size < v5.heap.size; omega)).trans r0
          replace o1 := (hb.cell (p := ⟨w2.heap.size, 1, none⟩) (by show w2.heap.size < v5.heap.size; omega)).trans o1
          replace r1 := (hb.cell (p := ⟨w.heap.size, 1, none⟩) (by show w.heap.size < v5.heap.size; omega)).trans r1
          replace o2 := (hb.cell (p := ⟨w2.heap.size, 2, none⟩) (by show w2.heap.size < v5.heap.size; omega)).trans o2
          replace r2 := (hb.cell (p := ⟨w.heap.size, 2, none⟩) (by show w.heap.size < v5.heap.size; omega)).trans r2
          replace o3 := (hb.cell (p := ⟨w2.heap.size, 3, none⟩) (by show w2.heap.size < v5.heap.size; omega)).trans o3
          replace r3 := (hb.cell (p := ⟨w.heap.size, 3, none⟩) (by show w.heap.size < v5.heap.size; omega)).trans r3
          replace o4 := (hb.cell (p := ⟨w2.heap.size, 4, none⟩) (by show w2.heap.size < v5.heap.size; omega)).trans o4
          replace r4 := (hb.cell (p := ⟨w.heap.size, 4, none⟩) (by show w.heap.size < v5.heap.size; omega)).trans r4
          replace rf := fun o => (hb.frozen (p := ⟨w.heap.size, o, none⟩) (by show w.heap.size < v5.heap.size; omega)).trans (rf o)
          replace HTc := Lib.hid (TrD.kept (fun b h1 h2 => hb.block b (by omega)) HTc.out)
          replace HBc := Lib.hid (HBc.out.trans (hb.mono (by omega)))

          replace hzc := Nat.le_trans hzc hb.size
          rw [hL] at hl4 hsz ⊢
          have HL4 := Lib.hid hl4
          clear hb hl4 hnew
          have hHeld3 : (fun w' : World => w'.cell? ⟨w2.heap.size, 0, none⟩ = some (.int .i64 tag) ∧ w'.cell? ⟨w2.heap.size, 1, none⟩ = some (.int .i64 key) ∧ w'.cell? ⟨w2.heap.size, 2, none⟩ = some (.string text) ∧ w'.cell? ⟨w2.heap.size, 3, none⟩ = some (.slice A0 ps.length c0) ∧ w'.cell? ⟨w2.heap.size, 4, none⟩ = some (.slice A1 ks.length c1)) v6 := ⟨o0, o1, o2, o3, o4⟩
          refine hK.out _ _ hHeld3 (fun hHeld2 => ?_)
          clear hHeld2 hHeld
          have hHeld := hHeld3
          clear hHeld3 hK K
          (try simp only [Act.put, List.getElem_toArray, List.getElem_cons_zero, List.getElem_cons_succ, List.setIfInBounds_toArray, List.set_cons_zero, List.set_cons_succ])
          have hr4 : r < 4 := by omega
          obtain ⟨ss, hss, hsc⟩ : ∃ ss : ByteArray, ss.size ≤ 14 ∧ v6.cell? ⟨L, r.toNat, none⟩ = some (.string ss) := str4b HL4.out r hr0 hr4
          refine wpAnyH_take (i := 4) (oi := _) (v := ?_) rfl (by kernel_rfl) (by kernel_rfl) (by kernel_rfl) (fun _ _ _ h => h) (Or.inl ⟨by kernel_rfl, ?_⟩) (by assumption) ?_
          rotate_left
          · (intro w hSw; (try dsimp only at hSw); go_simp)
            try with_reducible rfl
          (try simp only [Act.put, List.getElem_toArray, List.getElem_cons_zero, List.getElem_cons_succ, List.setIfInBounds_toArray, List.set_cons_zero, List.set_cons_succ])
          refine wpAnyH_ready (rs := [5, 6]) (by kernel_rfl) (by simp) ?_
          refine AllReadyH.cons (o := _) rfl (fun K hK => ?_) ?_
          · skip
            go_simp
            refine hK.out _ _ hHeld (fun hHeld2 => ?_)
            clear hK K hHeld2
            (try simp only [Act.put, List.getElem_toArray, List.getElem_cons_zero, List.getElem_cons_succ, List.setIfInBounds_toArray, List.set_cons_zero, List.set_cons_succ])
            refine wpAnyH_ready (rs := [6]) (by kernel_rfl) (by simp) ?_
            refine AllReadyH.cons (o := _) rfl (fun K hK => ?_) AllReadyH.nil
            have hb7 : ∀ k, k ≠ w.heap.size → (((((v6.setCell ⟨w.heap.size, 0, none⟩ (.int .i64 tag)).setCell ⟨w.heap.size, 1, none⟩ (.int .i64 key)).setCell ⟨w.heap.size, 2, none⟩ (.string text)).setCell ⟨w.heap.size, 3, none⟩ (.slice A0 ps.length c0)).setCell ⟨w.heap.size, 4, none⟩ (.slice A1 ks.length c1)).heap[k]? = v6.heap[k]? := fun k hk => by
              rw [Below.heap_setCell _ _ _ _ hk, Below.heap_setCell _ _ _ _ hk, Below.heap_setCell _ _ _ _ hk, Below.heap_setCell _ _ _ _ hk, Below.heap_setCell _ _ _ _ hk]
            have hsz7 : (((((v6.setCell ⟨w.heap.size, 0, none⟩ (.int .i64 tag)).setCell ⟨w.heap.size, 1, none⟩ (.int .i64 key)).setCell ⟨w.heap.size, 2, none⟩ (.string text)).setCell ⟨w.heap.size, 3, none⟩ (.slice A0 ps.length c0)).setCell ⟨w.heap.size, 4, none⟩ (.slice A1 ks.length c1)).heap.size = v6.heap.size := by simp [World.setCell]
            have s0 : (((((v6.setCell ⟨w.heap.size, 0, none⟩ (.int .i64 tag)).setCell ⟨w.heap.size, 1, none⟩ (.int .i64 key)).setCell ⟨w.heap.size, 2, none⟩ (.string text)).setCell ⟨w.heap.size, 3, none⟩ (.slice A0 ps.length c0)).setCell ⟨w.heap.size, 4, none⟩ (.slice A1 ks.length c1)).cell? ⟨w.heap.size, 0, none⟩ = some (.int .i64 tag) := by go_simp
            have s1 : (((((v6.setCell ⟨w.heap.size, 0, none⟩ (.int .i64 tag)).setCell ⟨w.heap.size, 1, none⟩ (.int .i64 key)).setCell ⟨w.heap.size, 2, none⟩ (.string text)).setCell ⟨w.heap.size, 3, none⟩ (.slice A0 ps.length c0)).setCell ⟨w.heap.size, 4, none⟩ (.slice A1 ks.length c1)).cell? ⟨w.heap.size, 1, none⟩ = some (.int .i64 key) := by go_simp
            have s2 : (((((v6.setCell ⟨w.heap.size, 0, none⟩ (.int .i64 tag)).setCell ⟨w.heap.size, 1, none⟩ (.int .i64 key)).setCell ⟨w.heap.size, 2, none⟩ (.string text)).setCell ⟨w.heap.size, 3, none⟩ (.slice A0 ps.length c0)).setCell ⟨w.heap.size, 4, none⟩ (.slice A1 ks.length c1)).cell? ⟨w.heap.size, 2, none⟩ = some (.string text) := by go_simp
            have s3 : (((((v6.setCell ⟨w.heap.size, 0, none⟩ (.int .i64 tag)).setCell ⟨w.heap.size, 1, none⟩ (.int .i64 key)).setCell ⟨w.heap.size, 2, none⟩ (.string text)).setCell ⟨w.heap.size, 3, none⟩ (.slice A0 ps.length c0)).setCell ⟨w.heap.size, 4, none⟩ (.slice A1 ks.length c1)).cell? ⟨w.heap.size, 3, none⟩ = some (.slice A0 ps.length c0) := by go_simp
            have s4 : (((((v6.setCell ⟨w.heap.size, 0, none⟩ (.int .i64 tag)).setCell ⟨w.heap.size, 1, none⟩ (.int .i64 key)).setCell ⟨w.heap.size, 2, none⟩ (.string text)).setCell ⟨w.heap.size, 3, none⟩ (.slice A0 ps.length c0)).setCell ⟨w.heap.size, 4, none⟩ (.slice A1 ks.length c1)).cell? ⟨w.heap.size, 4, none⟩ = some (.slice A1 ks.length c1) := by go_simp
            have sf : ∀ o, (((((v6.setCell ⟨w.heap.size, 0, none⟩ (.int .i64 tag)).setCell ⟨w.heap.size, 1, none⟩ (.int .i64 key)).setCell ⟨w.heap.size, 2, none⟩ (.string text)).setCell ⟨w.heap.size, 3, none⟩ (.slice A0 ps.length c0)).setCell ⟨w.heap.size, 4, none⟩ (.slice A1 ks.length c1)).frozen? ⟨w.heap.size, o, none⟩ = false := fun o => by go_simp
            have hbs := ((((HBc.out.setCell (p := ⟨w.heap.size, 0, none⟩) (Nat.le_refl _) (.int .i64 tag)).setCell (p := ⟨w.heap.size, 1, none⟩) (Nat.le_refl _) (.int .i64 key)).setCell (p := ⟨w.heap.size, 2, none⟩) (Nat.le_refl _) (.string text)).setCell (p := ⟨w.heap.size, 3, none⟩) (Nat.le_refl _) (.slice A0 ps.length c0)).setCell (p := ⟨w.heap.size, 4, none⟩) (Nat.le_refl _) (.slice A1 ks.length c1)
            go_simp
            obtain ⟨v7, hnew⟩ : ∃ v, (((((v6.setCell ⟨w.heap.size, 0, none⟩ (.int .i64 tag)).setCell ⟨w.heap.size, 1, none⟩ (.int .i64 key)).setCell ⟨w.heap.size, 2, none⟩ (.string text)).setCell ⟨w.heap.size, 3, none⟩ (.slice A0 ps.length c0)).setCell ⟨w.heap.size, 4, none⟩ (.slice A1 ks.length c1)) = v := ⟨_, rfl⟩
            rw [hnew] at hb7 hsz7 s0 s1 s2 s3 s4 sf hbs ⊢
            replace o0 := (World.cell?_of_block (a := ⟨w2.heap.size, 0, none⟩) (hb7 w2.heap.size (by omega))).trans o0
            replace o1 := (World.cell?_of_block (a := ⟨w2.heap.size, 1, none⟩) (hb7 w2.heap.size (by omega))).trans o1
            replace o2 := (World.cell?_of_block (a := ⟨w2.heap.size, 2, none⟩) (hb7 w2.heap.size (by omega))).trans o2
            replace o3 := (World.cell?_of_block (a := ⟨w2.heap.size, 3, none⟩) (hb7 w2.heap.size (by omega))).trans o3
            replace o4 := (World.cell?_of_block (a := ⟨w2.heap.size, 4, none⟩) (hb7 w2.heap.size (by omega))).trans o4
            replace HTc := Lib.hid (TrD.kept (fun k h1 h2 => hb7 k (by omega)) HTc.out)
            replace HBc := Lib.hid hbs
            replace hzc := Nat.le_trans hzc (Nat.le_of_eq hsz7.symm)
            replace HL4 := Lib.hid ((hb7 L (by omega)).trans HL4.out)
            replace hsz := Nat.lt_of_lt_of_le hsz (Nat.le_of_eq hsz7.symm)
            clear hb7 hbs hsz7 hnew r0 r1 r2 r3 r4 rf
            have hHeld3 : (fun w' : World => w'.cell? ⟨w2.heap.size, 0, none⟩ = some (.int .i64 tag) ∧ w'.cell? ⟨w2.heap.size, 1, none⟩ = some (.int .i64 key) ∧ w'.cell? ⟨w2.heap.size, 2, none⟩ = some (.string text) ∧ w'.cell? ⟨w2.heap.size, 3, none⟩ = some (.slice A0 ps.length c0) ∧ w'.cell? ⟨w2.heap.size, 4, none⟩ = some (.slice A1 ks.length c1)) v7 := ⟨o0, o1, o2, o3, o4⟩
            refine hK.out _ _ hHeld3 (fun hHeld2 => ?_)
            clear hHeld2 hHeld
            have hHeld := hHeld3
            clear hHeld3 hK K
            (try simp only [Act.put, List.getElem_toArray, List.getElem_cons_zero, List.getElem_cons_succ, List.setIfInBounds_toArray, List.set_cons_zero, List.set_cons_succ])
            refine wpAnyH_take (i := 7) (oi := _) (v := ?_) rfl (by kernel_rfl) (by kernel_rfl) (by kernel_rfl) (fun _ _ _ h => h) (Or.inl ⟨by kernel_rfl, ?_⟩) (by assumption) ?_
            rotate_left
            · (intro w hSw; (try dsimp only at hSw); go_simp)
              try with_reducible rfl
            (try simp only [Act.put, List.getElem_toArray, List.getElem_cons_zero, List.getElem_cons_succ, List.setIfInBounds_toArray, List.set_cons_zero, List.set_cons_succ])
            refine wpAnyH_done (by kernel_rfl) ?_ _
            obtain ⟨F0, f0, F1, f1, hfe, hp7, hk7, _⟩ := HTc.out.lies (by omega)
            simp only [Tr.tag, Tr.key, Tr.text, Tr.ps, Tr.ks, List.cons.injEq, Value.slice.injEq, true_and, and_true] at hfe hp7 hk7
            obtain ⟨⟨rfl, rfl⟩, rfl, rfl⟩ := hfe
            have HP7 := Lib.hid hp7
            have HK7b := Lib.hid hk7
            clear hHeld hp7 hk7
            go_wp2_with fail
            refine bodyPost_ret (v := .tuple #[.agg #[.int .i64 tag, .int .i64 key, .string text, .slice A0 ps.length c0, .slice A1 ks.length c1], .string ss]) (by simp [results, Tryz.results20, go_sem, *]) rfl ⟨A0, c0, A1, c1, .mk tag key text ps ks, ss, rfl, HP7.out, HK7b.out, HGd.out.gd, by omega, HBc.out⟩
          refine AllReadyH.cons (o := _) rfl (fun K hK => ?_) AllReadyH.nil
          have hb7 : ∀ k, k ≠ w.heap.size → (((((v6.setCell ⟨w.heap.size, 0, none⟩ (.int .i64 tag)).setCell ⟨w.heap.size, 1, none⟩ (.int .i64 key)).setCell ⟨w.heap.size, 2, none⟩ (.string text)).setCell ⟨w.heap.size, 3, none⟩ (.slice A0 ps.length c0)).setCell ⟨w.heap.size, 4, none⟩ (.slice A1 ks.length c1)).heap[k]? = v6.heap[k]? := fun k hk => by
            rw [Below.heap_setCell _ _ _ _ hk, Below.heap_setCell _ _ _ _ hk, Below.heap_setCell _ _ _ _ hk, Below.heap_setCell _ _ _ _ hk, Below.heap_setCell _ _ _ _ hk]
          have hsz7 : (((((v6.setCell ⟨w.heap.size, 0, none⟩ (.int .i64 tag)).setCell ⟨w.heap.size, 1, none⟩ (.int .i64 key)).setCell ⟨w.heap.size, 2, none⟩ (.string text)).setCell ⟨w.heap.size, 3, none⟩ (.slice A0 ps.length c0)).setCell ⟨w.heap.size, 4, none⟩ (.slice A1 ks.length c1)).heap.size = v6.heap.size := by simp [World.setCell]
          have s0 : (((((v6.setCell ⟨w.heap.size, 0, none⟩ (.int .i64 tag)).setCell ⟨w.heap.size, 1, none⟩ (.int .i64 key)).setCell ⟨w.heap.size, 2, none⟩ (.string text)).setCell ⟨w.heap.size, 3, none⟩ (.slice A0 ps.length c0)).setCell ⟨w.heap.size, 4, none⟩ (.slice A1 ks.length c1)).cell? ⟨w.heap.size, 0, none⟩ = some (.int .i64 tag) := by go_simp
          have s1 : (((((v6.setCell ⟨w.heap.size, 0, none⟩ (.int .i64 tag)).setCell ⟨w.heap.size, 1, none⟩ (.int .i64 key)).setCell ⟨w.heap.size, 2, none⟩ (.string text)).setCell ⟨w.heap.size, 3, none⟩ (.slice A0 ps.length c0)).setCell ⟨w.heap.size, 4, none⟩ (.slice A1 ks.length c1)).cell? ⟨w.heap.size, 1, none⟩ = some (.int .i64 key) := by go_simp
          have s2 : (((((v6.setCell ⟨w.heap.size, 0, none⟩ (.int .i64 tag)).setCell ⟨w.heap.size, 1, none⟩ (.int .i64 key)).setCell ⟨w.heap.size, 2, none⟩ (.string text)).setCell ⟨w.heap.size, 3, none⟩ (.slice A0 ps.length c0)).setCell ⟨w.heap.size, 4, none⟩ (.slice A1 ks.length c1)).cell? ⟨w.heap.size, 2, none⟩ = some (.string text) := by go_simp
          have s3 : (((((v6.setCell ⟨w.heap.size, 0, none⟩ (.int .i64 tag)).setCell ⟨w.heap.size, 1, none⟩ (.int .i64 key)).setCell ⟨w.heap.size, 2, none⟩ (.string text)).setCell ⟨w.heap.size, 3, none⟩ (.slice A0 ps.length c0)).setCell ⟨w.heap.size, 4, none⟩ (.slice A1 ks.length c1)).cell? ⟨w.heap.size, 3, none⟩ = some (.slice A0 ps.length c0) := by go_simp
          have s4 : (((((v6.setCell ⟨w.heap.size, 0, none⟩ (.int .i64 tag)).setCell ⟨w.heap.size, 1, none⟩ (.int .i64 key)).setCell ⟨w.heap.size, 2, none⟩ (.string text)).setCell ⟨w.heap.size, 3, none⟩ (.slice A0 ps.length c0)).setCell ⟨w.heap.size, 4, none⟩ (.slice A1 ks.length c1)).cell? ⟨w.heap.size, 4, none⟩ = some (.slice A1 ks.length c1) := by go_simp
          have sf : ∀ o, (((((v6.setCell ⟨w.heap.size, 0, none⟩ (.int .i64 tag)).setCell ⟨w.heap.size, 1, none⟩ (.int .i64 key)).setCell ⟨w.heap.size, 2, none⟩ (.string text)).setCell ⟨w.heap.size, 3, none⟩ (.slice A0 ps.length c0)).setCell ⟨w.heap.size, 4, none⟩ (.slice A1 ks.length c1)).frozen? ⟨w.heap.size, o, none⟩ = false := fun o => by go_simp
          have hbs := ((((HBc.out.setCell (p := ⟨w.heap.size, 0, none⟩) (Nat.le_refl _) (.int .i64 tag)).setCell (p := ⟨w.heap.size, 1, none⟩) (Nat.le_refl _) (.int .i64 key)).setCell (p := ⟨w.heap.size, 2, none⟩) (Nat.le_refl _) (.string text)).setCell (p := ⟨w.heap.size, 3, none⟩) (Nat.le_refl _) (.slice A0 ps.length c0)).setCell (p := ⟨w.heap.size, 4, none⟩) (Nat.le_refl _) (.slice A1 ks.length c1)
          go_simp
          obtain ⟨v8, hnew⟩ : ∃ v, (((((v6.setCell ⟨w.heap.size, 0, none⟩ (.int .i64 tag)).setCell ⟨w.heap.size, 1, none⟩ (.int .i64 key)).setCell ⟨w.heap.size, 2, none⟩ (.string text)).setCell ⟨w.heap.size, 3, none⟩ (.slice A0 ps.length c0)).setCell ⟨w.heap.size, 4, none⟩ (.slice A1 ks.length c1)) = v := ⟨_, rfl⟩
          rw [hnew] at hb7 hsz7 s0 s1 s2 s3 s4 sf hbs ⊢
          replace o0 := (World.cell?_of_block (a := ⟨w2.heap.size, 0, none⟩) (hb7 w2.heap.size (by omega))).trans o0
          replace o1 := (World.cell?_of_block (a := ⟨w2.heap.size, 1, none⟩) (hb7 w2.heap.size (by omega))).trans o1
          replace o2 := (World.cell?_of_block (a := ⟨w2.heap.size, 2, none⟩) (hb7 w2.heap.size (by omega))).trans o2
          replace o3 := (World.cell?_of_block (a := ⟨w2.heap.size, 3, none⟩) (hb7 w2.heap.size (by omega))).trans o3
          replace o4 := (World.cell?_of_block (a := ⟨w2.heap.size, 4, none⟩) (hb7 w2.heap.size (by omega))).trans o4
          replace HTc := Lib.hid (TrD.kept (fun k h1 h2 => hb7 k (by omega)) HTc.out)
          replace HBc := Lib.hid hbs
          replace hzc := Nat.le_trans hzc (Nat.le_of_eq hsz7.symm)
          replace HL4 := Lib.hid ((hb7 L (by omega)).trans HL4.out)
          replace hsz := Nat.lt_of_lt_of_le hsz (Nat.le_of_eq hsz7.symm)
          replace hsc := (World.cell?_of_block (a := ⟨L, r.toNat, none⟩) (hb7 L (by omega))).trans hsc
          clear hb7 hbs hsz7 hnew r0 r1 r2 r3 r4 rf
          have hHeld3 : (fun w' : World => w'.cell? ⟨w2.heap.size, 0, none⟩ = some (.int .i64 tag) ∧ w'.cell? ⟨w2.heap.size, 1, none⟩ = some (.int .i64 key) ∧ w'.cell? ⟨w2.heap.size, 2, none⟩ = some (.string text) ∧ w'.cell? ⟨w2.heap.size, 3, none⟩ = some (.slice A0 ps.length c0) ∧ w'.cell? ⟨w2.heap.size, 4, none⟩ = some (.slice A1 ks.length c1)) v8 := ⟨o0, o1, o2, o3, o4⟩
          refine hK.out _ _ hHeld3 (fun hHeld2 => ?_)
          clear hHeld2 hHeld
          have hHeld := hHeld3
          clear hHeld3 hK K
          (try simp only [Act.put, List.getElem_toArray, List.getElem_cons_zero, List.getElem_cons_succ, List.setIfInBounds_toArray, List.set_cons_zero, List.set_cons_succ])
          refine wpAnyH_ready (rs := [5]) (by kernel_rfl) (by simp) ?_
          refine AllReadyH.cons (o := _) rfl (fun K hK => ?_) AllReadyH.nil
          go_simp
          refine hK.out _ _ hHeld (fun hHeld2 => ?_)
          clear hK K hHeld2
          (try simp only [Act.put, List.getElem_toArray, List.getElem_cons_zero, List.getElem_cons_succ, List.setIfInBounds_toArray, List.set_cons_zero, List.set_cons_succ])
          refine wpAnyH_take (i := 7) (oi := _) (v := ?_) rfl (by kernel_rfl) (by kernel_rfl) (by kernel_rfl) (fun _ _ _ h => h) (Or.inl ⟨by kernel_rfl, ?_⟩) (by assumption) ?_
          rotate_left
          · (intro w hSw; (try dsimp only at hSw); go_simp)
            try with_reducible rfl
          (try simp only [Act.put, List.getElem_toArray, List.getElem_cons_zero, List.getElem_cons_succ, List.setIfInBounds_toArray, List.set_cons_zero, List.set_cons_succ])
          refine wpAnyH_done (by kernel_rfl) ?_ _
          obtain ⟨F0, f0, F1, f1, hfe, hp7, hk7, _⟩ := HTc.out.lies (by omega)
          simp only [Tr.tag, Tr.key, Tr.text, Tr.ps, Tr.ks, List.cons.injEq, Value.slice.injEq, true_and, and_true] at hfe hp7 hk7
          obtain ⟨⟨rfl, rfl⟩, rfl, rfl⟩ := hfe
          have HP7 := Lib.hid hp7
          have HK7b := Lib.hid hk7
          clear hHeld hp7 hk7
          go_wp2_with fail
          refine bodyPost_ret (v := .tuple #[.agg #[.int .i64 tag, .int .i64 key, .string text, .slice A0 ps.length c0, .slice A1 ks.length c1], .string ss]) (by simp [results, Tryz.results20, go_sem, *]) rfl ⟨A0, c0, A1, c1, .mk tag key text ps ks, ss, rfl, HP7.out, HK7b.out, HGd.out.gd, by omega, HBc.out⟩
        refine AllReadyH.cons (o := _) rfl (fun K hK => ?_) AllReadyH.nil
        have hb7 : ∀ k, k ≠ w.heap.size → (((((v5.setCell ⟨w.heap.size, 0, none⟩ (.int .i64 tag)).setCell ⟨w.heap.size, 1, none⟩ (.int .i64 key)).setCell ⟨w.heap.size, 2, none⟩ (.string text)).setCell ⟨w.heap.size, 3, none⟩ (.slice A0 ps.length c0)).setCell ⟨w.heap.size, 4, none⟩ (.slice A1 ks.length c1)).heap[k]? = v5.heap[k]? := fun k hk => by
          rw [Below.heap_setCell _ _ _ _ hk, Below.heap_setCell _ _ _ _ hk, Below.heap_setCell _ _ _ _ hk, Below.heap_setCell _ _ _ _ hk, Below.heap_setCell _ _ _ _ hk]
        have hsz7 : (((((v5.setCell ⟨w.heap.size, 0, none⟩ (.int .i64 tag)).setCell ⟨w.heap.size, 1, none⟩ (.int .i64 key)).setCell ⟨w.heap.size, 2, none⟩ (.string text)).setCell ⟨w.heap.size, 3, none⟩ (.slice A0 ps.length c0)).setCell ⟨w.heap.size, 4, none⟩ (.slice A1 ks.length c1)).heap.size = v5.heap.size := by simp [World.setCell]
        have s0 : (((((v5.setCell ⟨w.heap.size, 0, none⟩ (.int .i64 tag)).setCell ⟨w.heap.size, 1, none⟩ (.int .i64 key)).setCell ⟨w.heap.size, 2, none⟩ (.string text)).setCell ⟨w.heap.size, 3, none⟩ (.slice A0 ps.length c0)).setCell ⟨w.heap.size, 4, none⟩ (.slice A1 ks.length c1)).cell? ⟨w.heap.size, 0, none⟩ = some (.int .i64 tag) := by go_simp
        have s1 : (((((v5.setCell ⟨w.heap.size, 0, none⟩ (.int .i64 tag)).setCell ⟨w.heap.size, 1, none⟩ (.int .i64 key)).setCell ⟨w.heap.size, 2, none⟩ (.string text)).setCell ⟨w.heap.size, 3, none⟩ (.slice A0 ps.length c0)).setCell ⟨w.heap.size, 4, none⟩ (.slice A1 ks.length c1)).cell? ⟨w.heap.size, 1, none⟩ = some (.int .i64 key) := by go_simp
        have s2 : (((((v5.setCell ⟨w.heap.size, 0, none⟩ (.int .i64 tag)).setCell ⟨w.heap.size, 1, none⟩ (.int .i64 key)).setCell ⟨w.heap.size, 2, none⟩ (.string text)).setCell ⟨w.heap.size, 3, none⟩ (.slice A0 ps.length c0)).setCell ⟨w.heap.size, 4, none⟩ (.slice A1 ks.length c1)).cell? ⟨w.heap.size, 2, none⟩ = some (.string text) := by go_simp
        have s3 : (((((v5.setCell ⟨w.heap.size, 0, none⟩ (.int .i64 tag)).setCell ⟨w.heap.size, 1, none⟩ (.int .i64 key)).setCell ⟨w.heap.size, 2, none⟩ (.string text)).setCell ⟨w.heap.size, 3, none⟩ (.slice A0 ps.length c0)).setCell ⟨w.heap.size, 4, none⟩ (.slice A1 ks.length c1)).cell? ⟨w.heap.size, 3, none⟩ = some (.slice A0 ps.length c0) := by go_simp
        have s4 : (((((v5.setCell ⟨w.heap.size, 0, none⟩ (.int .i64 tag)).setCell ⟨w.heap.size, 1, none⟩ (.int .i64 key)).setCell ⟨w.heap.size, 2, none⟩ (.string text)).setCell ⟨w.heap.size, 3, none⟩ (.slice A0 ps.length c0)).setCell ⟨w.heap.size, 4, none⟩ (.slice A1 ks.length c1)).cell? ⟨w.heap.size, 4, none⟩ = some (.slice A1 ks.length c1) := by go_simp
        have sf : ∀ o, (((((v5.setCell ⟨w.heap.size, 0, none⟩ (.int .i64 tag)).setCell ⟨w.heap.size, 1, none⟩ (.int .i64 key)).setCell ⟨w.heap.size, 2, none⟩ (.string text)).setCell ⟨w.heap.size, 3, none⟩ (.slice A0 ps.length c0)).setCell ⟨w.heap.size, 4, none⟩ (.slice A1 ks.length c1)).frozen? ⟨w.heap.size, o, none⟩ = false := fun o => by go_simp
        have hbs := ((((HBc.out.setCell (p := ⟨w.heap.size, 0, none⟩) (Nat.le_refl _) (.int .i64 tag)).setCell (p := ⟨w.heap.size, 1, none⟩) (Nat.le_refl _) (.int .i64 key)).setCell (p := ⟨w.heap.size, 2, none⟩) (Nat.le_refl _) (.string text)).setCell (p := ⟨w.heap.size, 3, none⟩) (Nat.le_refl _) (.slice A0 ps.length c0)).setCell (p := ⟨w.heap.size, 4, none⟩) (Nat.le_refl _) (.slice A1 ks.length c1)
        go_simp
        obtain ⟨v9, hnew⟩ : ∃ v, (((((v5.setCell ⟨w.heap.size, 0, none⟩ (.int .i64 tag)).setCell ⟨w.heap.size, 1, none⟩ (.int .i64 key)).setCell ⟨w.heap.size, 2, none⟩ (.string text)).setCell ⟨w.heap.size, 3, none⟩ (.slice A0 ps.length c0)).setCell ⟨w.heap.size, 4, none⟩ (.slice A1 ks.length c1)) = v := ⟨_, rfl⟩
        rw [hnew] at hb7 hsz7 s0 s1 s2 s3 s4 sf hbs ⊢
        replace o0 := (World.cell?_of_block (a := ⟨w2.heap.size, 0, none⟩) (hb7 w2.heap.size (by omega))).trans o0
        replace o1 := (World.cell?_of_block (a := ⟨w2.heap.size, 1, none⟩) (hb7 w2.heap.size (by omega))).trans o1
        replace o2 := (World.cell?_of_block (a := ⟨w2.heap.size, 2, none⟩) (hb7 w2.heap.size (by omega))).trans o2
        replace o3 := (World.cell?_of_block (a := ⟨w2.heap.size, 3, none⟩) (hb7 w2.heap.size (by omega))).trans o3
        replace o4 := (World.cell?_of_block (a := ⟨w2.heap.size, 4, none⟩) (hb7 w2.heap.size (by omega))).trans o4
        replace HTc := Lib.hid (TrD.kept (fun k h1 h2 => hb7 k (by omega)) HTc.out)
        replace HBc := Lib.hid hbs
        replace hzc := Nat.le_trans hzc (Nat.le_of_eq hsz7.symm)
        clear hb7 hbs hsz7 hnew r0 r1 r2 r3 r4 rf
        have hHeld3 : (fun w' : World => w'.cell? ⟨w2.heap.size, 0, none⟩ = some (.int .i64 tag) ∧ w'.cell? ⟨w2.heap.size, 1, none⟩ = some (.int .i64 key) ∧ w'.cell? ⟨w2.heap.size, 2, none⟩ = some (.string text) ∧ w'.cell? ⟨w2.heap.size, 3, none⟩ = some (.slice A0 ps.length c0) ∧ w'.cell? ⟨w2.heap.size, 4, none⟩ = some (.slice A1 ks.length c1)) v9 := ⟨o0, o1, o2, o3, o4⟩
        refine hK.out _ _ hHeld3 (fun hHeld2 => ?_)
        clear hHeld2 hHeld
        have hHeld := hHeld3
        clear hHeld3 hK K
        (try simp only [Act.put, List.getElem_toArray, List.getElem_cons_zero, List.getElem_cons_succ, List.setIfInBounds_toArray, List.set_cons_zero, List.set_cons_succ])
        refine wpAnyH_ready (rs := [1]) (by kernel_rfl) (by simp) ?_
        refine AllReadyH.cons (o := _) rfl (fun K hK => ?_) AllReadyH.nil
        go_simp
        have hb := Below.alloc (Below.refl v9.heap.size v9) (Nat.le_refl _) (.cells #[.string ⟨#[97]⟩, .string ⟨#[]⟩, .string ⟨#[108, 111, 110, 103, 32, 116, 101, 120, 116, 32, 49, 50, 51, 52]⟩, .string ⟨#[98, 32, 99]⟩] 9)
        have hl4 : (v9.alloc (.cells #[.string ⟨#[97]⟩, .string ⟨#[]⟩, .string ⟨#[108, 111, 110, 103, 32, 116, 101, 120, 116, 32, 49, 50, 51, 52]⟩, .string ⟨#[98, 32, 99]⟩] 9)).heap[v9.heap.size]? = some (.cells #[.string ⟨#[97]⟩, .string ⟨#[]⟩, .string ⟨#[108, 111, 110, 103, 32, 116, 101, 120, 116, 32, 49, 50, 51, 52]⟩, .string ⟨#[98, 32, 99]⟩] 9) := World.alloc_heap_new v9 _
        have hsz : v9.heap.size < (v9.alloc (.cells #[.string ⟨#[97]⟩, .string ⟨#[]⟩, .string ⟨#[108, 111, 110, 103, 32, 116, 101, 120, 116, 32, 49, 50, 51, 52]⟩, .string ⟨#[98, 32, 99]⟩] 9)).heap.size := by simp
        obtain ⟨L, hL⟩ : ∃ v, v9.heap.size = v := ⟨_, rfl⟩
        have hLg : wc.heap.size < L := by omega
        have hLr : w.heap.size < L := by omega
        obtain ⟨v10, hnew⟩ : ∃ v, v9.alloc (.cells #[.string ⟨#[97]⟩, .string ⟨#[]⟩, .string ⟨#[108, 111, 110, 103, 32, 116, 101, 120, 116, 32, 49, 50, 51, 52]⟩, .string ⟨#[98, 32, 99]⟩] 9) = v := ⟨_, rfl⟩
        rw [hnew] at hb hl4 hsz ⊢
        replace o0 := (hb.cell (p := ⟨w2.heap.size, 0, none⟩) (by show w2.heap.size < v9.heap.size; omega)).trans o0
        replace s0 := (hb.cell (p := ⟨w.heap.size, 0, none⟩) (by show w.heap.size < v9.heap.size; omega)).trans s0
        replace o1 := (hb.cell (p := ⟨w2.heap.size, 1, none⟩) (by show w2.heap.size < v9.heap.size; omega)).trans o1
        replace s1 := (hb.cell (p := ⟨w.heap.size, 1, none⟩) (by show w.heap.size < v9.heap.size; omega)).trans s1
        replace o2 := (hb.cell (p := ⟨w2.heap.size, 2, none⟩) (by show w2.heap.size < v9.heap.size; omega)).trans o2
        replace s2 := (hb.cell (p := ⟨w.heap.size, 2, none⟩) (by show w.heap.size < v9.heap.size; omega)).trans s2
        replace o3 := (hb.cell (p := ⟨w2.heap.size, 3, none⟩) (by show w2.heap.size < v9.heap.size; omega)).trans o3
        replace s3 := (hb.cell (p := ⟨w.heap.size, 3, none⟩) (by show w.heap.size < v9.heap.size; omega)).trans s3
        replace o4 := (hb.cell (p := ⟨w2.heap.size, 4, none⟩) (by show w2.heap.size < v9.heap.size; omega)).trans o4
        replace s4 := (hb.cell (p := ⟨w.heap.size, 4, none⟩) (by show w.heap.size < v9.heap.size; omega)).trans s4
        replace sf := fun o => (hb.frozen (p := ⟨w.heap.size, o, none⟩) (by show w.heap.size < v9.heap.size; omega)).trans (sf o)
        replace HTc := Lib.hid (TrD.kept (fun b h1 h2 => hb.block b (by omega)) HTc.out)
        replace HBc := Lib.hid (HBc.out.trans (hb.mono (by omega)))

        replace hzc := Nat.le_trans hzc hb.size
        rw [hL] at hl4 hsz ⊢
        have HL4 := Lib.hid hl4
        clear hb hl4 hnew
        have hHeld3 : (fun w' : World => w'.cell? ⟨w2.heap.size, 0, none⟩ = some (.int .i64 tag) ∧ w'.cell? ⟨w2.heap.size, 1, none⟩ = some (.int .i64 key) ∧ w'.cell? ⟨w2.heap.size, 2, none⟩ = some (.string text) ∧ w'.cell? ⟨w2.heap.size, 3, none⟩ = some (.slice A0 ps.length c0) ∧ w'.cell? ⟨w2.heap.size, 4, none⟩ = some (.slice A1 ks.length c1)) v10 := ⟨o0, o1, o2, o3, o4⟩
        refine hK.out _ _ hHeld3 (fun hHeld2 => ?_)
        clear hHeld2 hHeld
        have hHeld := hHeld3
        clear hHeld3 hK K
        (try simp only [Act.put, List.getElem_toArray, List.getElem_cons_zero, List.getElem_cons_succ, List.setIfInBounds_toArray, List.set_cons_zero, List.set_cons_succ])
        have hr4 : r < 4 := by omega
        obtain ⟨ss, hss, hsc⟩ : ∃ ss : ByteArray, ss.size ≤ 14 ∧ v10.cell? ⟨L, r.toNat, none⟩ = some (.string ss) := str4b HL4.out r hr0 hr4
        refine wpAnyH_take (i := 4) (oi := _) (v := ?_) rfl (by kernel_rfl) (by kernel_rfl) (by kernel_rfl) (fun _ _ _ h => h) (Or.inl ⟨by kernel_rfl, ?_⟩) (by assumption) ?_
        rotate_left
        · (intro w hSw; (try dsimp only at hSw); go_simp)
          try with_reducible rfl
        (try simp only [Act.put, List.getElem_toArray, List.getElem_cons_zero, List.getElem_cons_succ, List.setIfInBounds_toArray, List.set_cons_zero, List.set_cons_succ])
        refine wpAnyH_ready (rs := [5]) (by kernel_rfl) (by simp) ?_
        refine AllReadyH.cons (o := _) rfl (fun K hK => ?_) AllReadyH.nil
        go_simp
        refine hK.out _ _ hHeld (fun hHeld2 => ?_)
        clear hK K hHeld2
        (try simp only [Act.put, List.getElem_toArray, List.getElem_cons_zero, List.getElem_cons_succ, List.setIfInBounds_toArray, List.set_cons_zero, List.set_cons_succ])
        refine wpAnyH_take (i := 7) (oi := _) (v := ?_) rfl (by kernel_rfl) (by kernel_rfl) (by kernel_rfl) (fun _ _ _ h => h) (Or.inl ⟨by kernel_rfl, ?_⟩) (by assumption) ?_
        rotate_left
        · (intro w hSw; (try dsimp only at hSw); go_simp)
          try with_reducible rfl
        (try simp only [Act.put, List.getElem_toArray, List.getElem_cons_zero, List.getElem_cons_succ, List.setIfInBounds_toArray, List.set_cons_zero, List.set_cons_succ])
        refine wpAnyH_done (by kernel_rfl) ?_ _
        obtain ⟨F0, f0, F1, f1, hfe, hp7, hk7, _⟩ := HTc.out.lies (by omega)
        simp only [Tr.tag, Tr.key, Tr.text, Tr.ps, Tr.ks, List.cons.injEq, Value.slice.injEq, true_and, and_true] at hfe hp7 hk7
        obtain ⟨⟨rfl, rfl⟩, rfl, rfl⟩ := hfe
        have HP7 := Lib.hid hp7
        have HK7b := Lib.hid hk7
        clear hHeld hp7 hk7
        go_wp2_with fail
        refine bodyPost_ret (v := .tuple #[.agg #[.int .i64 tag, .int .i64 key, .string text, .slice A0 ps.length c0, .slice A1 ks.length c1], .string ss]) (by simp [results, Tryz.results20, go_sem, *]) rfl ⟨A0, c0, A1, c1, .mk tag key text ps ks, ss, rfl, HP7.out, HK7b.out, HGd.out.gd, by omega, HBc.out⟩
    · have hd0 : decide ((0 : Int) < (n : Int)) = false := by simp; omega
      go_wp2_with fail
      have hbd : Below w5.heap.size w5 w5.drew := Below.drew (Below.refl _ _)
      have hHeld0 : (fun w' : World => w'.cell? ⟨w2.heap.size, 0, none⟩ = some (.int .i64 tag) ∧ w'.cell? ⟨w2.heap.size, 1, none⟩ = some (.int .i64 key) ∧ w'.cell? ⟨w2.heap.size, 2, none⟩ = some (.string text) ∧ w'.cell? ⟨w2.heap.size, 3, none⟩ = some (.slice A0 ps.length c0) ∧ w'.cell? ⟨w2.heap.size, 4, none⟩ = some (.slice A1 ks.length c1)) w5.drew := ⟨o0, o1, o2, o3, o4⟩
      refine wp_region_held_drew (S := fun w' : World => w'.cell? ⟨w2.heap.size, 0, none⟩ = some (.int .i64 tag) ∧ w'.cell? ⟨w2.heap.size, 1, none⟩ = some (.int .i64 key) ∧ w'.cell? ⟨w2.heap.size, 2, none⟩ = some (.string text) ∧ w'.cell? ⟨w2.heap.size, 3, none⟩ = some (.slice A0 ps.length c0) ∧ w'.cell? ⟨w2.heap.size, 4, none⟩ = some (.slice A1 ks.length c1)) (by kernel_rfl) hHeld0 (fun hHeld => ?_)
      clear hHeld0
      obtain ⟨wd, hwd⟩ : ∃ v, w5.drew = v := ⟨_, rfl⟩
      have HSc := Lib.hid HS5.out.drew
      rw [hwd] at hbd HSc hHeld ⊢
      replace o0 := (hbd.cell (p := ⟨w2.heap.size, 0, none⟩) (by show w2.heap.size < w5.heap.size; omega)).trans o0
      replace r0 := (hbd.cell (p := ⟨w.heap.size, 0, none⟩) (by show w.heap.size < w5.heap.size; omega)).trans r0
      replace o1 := (hbd.cell (p := ⟨w2.heap.size, 1, none⟩) (by show w2.heap.size < w5.heap.size; omega)).trans o1
      replace r1 := (hbd.cell (p := ⟨w.heap.size, 1, none⟩) (by show w.heap.size < w5.heap.size; omega)).trans r1
      replace o2 := (hbd.cell (p := ⟨w2.heap.size, 2, none⟩) (by show w2.heap.size < w5.heap.size; omega)).trans o2
      replace r2 := (hbd.cell (p := ⟨w.heap.size, 2, none⟩) (by show w.heap.size < w5.heap.size; omega)).trans r2
      replace o3 := (hbd.cell (p := ⟨w2.heap.size, 3, none⟩) (by show w2.heap.size < w5.heap.size; omega)).trans o3
      replace r3 := (hbd.cell (p := ⟨w.heap.size, 3, none⟩) (by show w.heap.size < w5.heap.size; omega)).trans r3
      replace o4 := (hbd.cell (p := ⟨w2.heap.size, 4, none⟩) (by show w2.heap.size < w5.heap.size; omega)).trans o4
      replace r4 := (hbd.cell (p := ⟨w.heap.size, 4, none⟩) (by show w.heap.size < w5.heap.size; omega)).trans r4
      replace rf := fun o => (hbd.frozen (p := ⟨w.heap.size, o, none⟩) (by show w.heap.size < w5.heap.size; omega)).trans (rf o)
      have HTc := Lib.hid (TrD.kept (fun b h1 h2 => hbd.block b (by omega)) HT5.out)
      have HBc := Lib.hid (HB5.out.trans (hbd.mono (by omega)))
      have hzc : w5.heap.size ≤ wd.heap.size := hbd.size
      clear hbd hwd HT5 HS5 HB5
      refine wpAnyH_take (i := 0) (oi := _) (v := ?_) rfl (by kernel_rfl) (by kernel_rfl) (by kernel_rfl) (fun _ _ _ h => h) (Or.inl ⟨by kernel_rfl, ?_⟩) (by assumption) ?_
      rotate_left
      · (intro w hSw; (try dsimp only at hSw); go_simp)
        try with_reducible rfl
      (try simp only [Act.put, List.getElem_toArray, List.getElem_cons_zero, List.getElem_cons_succ, List.setIfInBounds_toArray, List.set_cons_zero, List.set_cons_succ])
      refine wpAnyH_take (i := 2) (oi := _) (v := ?_) rfl (by kernel_rfl) (by kernel_rfl) (by kernel_rfl) (fun _ _ _ h => h) (Or.inl ⟨by kernel_rfl, ?_⟩) (by assumption) ?_
      rotate_left
      · (intro w hSw; (try dsimp only at hSw); go_simp)
        try with_reducible rfl
      (try simp only [Act.put, List.getElem_toArray, List.getElem_cons_zero, List.getElem_cons_succ, List.setIfInBounds_toArray, List.set_cons_zero, List.set_cons_succ])
      refine wpAnyH_ready (rs := [1, 3]) (by kernel_rfl) (by simp) ?_
      refine AllReadyH.cons (o := _) rfl (fun K hK => ?_) ?_
      · skip
        go_simp
        have hb := Below.alloc (Below.refl wd.heap.size wd) (Nat.le_refl _) (.cells #[.string ⟨#[97]⟩, .string ⟨#[]⟩, .string ⟨#[108, 111, 110, 103, 32, 116, 101, 120, 116, 32, 49, 50, 51, 52]⟩, .string ⟨#[98, 32, 99]⟩] 9)
        have hl4 : (wd.alloc (.cells #[.string ⟨#[97]⟩, .string ⟨#[]⟩, .string ⟨#[108, 111, 110, 103, 32, 116, 101, 120, 116, 32, 49, 50, 51, 52]⟩, .string ⟨#[98, 32, 99]⟩] 9)).heap[wd.heap.size]? = some (.cells #[.string ⟨#[97]⟩, .string ⟨#[]⟩, .string ⟨#[108, 111, 110, 103, 32, 116, 101, 120, 116, 32, 49, 50, 51, 52]⟩, .string ⟨#[98, 32, 99]⟩] 9) := World.alloc_heap_new wd _
        have hsz : wd.heap.size < (wd.alloc (.cells #[.string ⟨#[97]⟩, .string ⟨#[]⟩, .string ⟨#[108, 111, 110, 103, 32, 116, 101, 120, 116, 32, 49, 50, 51, 52]⟩, .string ⟨#[98, 32, 99]⟩] 9)).heap.size := by simp
        obtain ⟨L, hL⟩ : ∃ v, wd.heap.size = v := ⟨_, rfl⟩
        have hLg : wc.heap.size < L := by omega
        have hLr : w.heap.size < L := by omega
        obtain ⟨v1, hnew⟩ : ∃ v, wd.alloc (.cells #[.string ⟨#[97]⟩, .string ⟨#[]⟩, .string ⟨#[108, 111, 110, 103, 32, 116, 101, 120, 116, 32, 49, 50, 51, 52]⟩, .string ⟨#[98, 32, 99]⟩] 9) = v := ⟨_, rfl⟩
        rw [hnew] at hb hl4 hsz ⊢
        replace o0 := (hb.cell (p := ⟨w2.heap.size, 0, none⟩) (by show w2.heap.size < wd.heap.size; omega)).trans o0
        replace r0 := (hb.cell (p := ⟨w.heap.size, 0, none⟩) (by show w.heap.size < wd.heap.size; omega)).trans r0
        replace o1 := (hb.cell (p := ⟨w2.heap.size, 1, none⟩) (by show w2.heap.size < wd.heap.size; omega)).trans o1
        replace r1 := (hb.cell (p := ⟨w.heap.size, 1, none⟩) (by show w.heap.size < wd.heap.size; omega)).trans r1
        replace o2 := (hb.cell (p := ⟨w2.heap.size, 2, none⟩) (by show w2.heap.size < wd.heap.size; omega)).trans o2
        replace r2 := (hb.cell (p := ⟨w.heap.size, 2, none⟩) (by show w.heap.size < wd.heap.size; omega)).trans r2
        replace o3 := (hb.cell (p := ⟨w2.heap.size, 3, none⟩) (by show w2.heap.size < wd.heap.size; omega)).trans o3
        replace r3 := (hb.cell (p := ⟨w.heap.size, 3, none⟩) (by show w.heap.size < wd.heap.size; omega)).trans r3
        replace o4 := (hb.cell (p := ⟨w2.heap.size, 4, none⟩) (by show w2.heap.size < wd.heap.size; omega)).trans o4
        replace r4 := (hb.cell (p := ⟨w.heap.size, 4, none⟩) (by show w.heap.size < wd.heap.size; omega)).trans r4
        replace rf := fun o => (hb.frozen (p := ⟨w.heap.size, o, none⟩) (by show w.heap.size < wd.heap.size; omega)).trans (rf o)
        replace HTc := Lib.hid (TrD.kept (fun b h1 h2 => hb.block b (by omega)) HTc.out)
        replace HBc := Lib.hid (HBc.out.trans (hb.mono (by omega)))
        replace HSc := Lib.hid (HSc.out.below hb)
        replace hzc := Nat.le_trans hzc hb.size
        rw [hL] at hl4 hsz ⊢
        have HL4 := Lib.hid hl4
        clear hb hl4 hnew
        have hHeld3 : (fun w' : World => w'.cell? ⟨w2.heap.size, 0, none⟩ = some (.int .i64 tag) ∧ w'.cell? ⟨w2.heap.size, 1, none⟩ = some (.int .i64 key) ∧ w'.cell? ⟨w2.heap.size, 2, none⟩ = some (.string text) ∧ w'.cell? ⟨w2.heap.size, 3, none⟩ = some (.slice A0 ps.length c0) ∧ w'.cell? ⟨w2.heap.size, 4, none⟩ = some (.slice A1 ks.length c1)) v1 := ⟨o0, o1, o2, o3, o4⟩
        refine hK.out _ _ hHeld3 (fun hHeld2 => ?_)
        clear hHeld2 hHeld
        have hHeld := hHeld3
        clear hHeld3 hK K
        (try simp only [Act.put, List.getElem_toArray, List.getElem_cons_zero, List.getElem_cons_succ, List.setIfInBounds_toArray, List.set_cons_zero, List.set_cons_succ])
        refine wpAnyH_ready (rs := [3]) (by kernel_rfl) (by simp) ?_
        refine AllReadyH.cons (o := _) rfl (fun K hK => ?_) AllReadyH.nil
        go_simp
        refine (pick_any wc.heap.size A len cap 4 _ HSc.out (by omega)).mono ?_
        rintro e v2 ⟨r, rfl, hr0, hr1, hs, hk⟩
        clear hs HSc
        replace o0 := (hk.cell.1 w2.heap.size 0 (by omega) (by omega)).trans o0
        replace r0 := (hk.cell.1 w.heap.size 0 (by omega) (by omega)).trans r0
        replace o1 := (hk.cell.1 w2.heap.size 1 (by omega) (by omega)).trans o1
        replace r1 := (hk.cell.1 w.heap.size 1 (by omega) (by omega)).trans r1
        replace o2 := (hk.cell.1 w2.heap.size 2 (by omega) (by omega)).trans o2
        replace r2 := (hk.cell.1 w.heap.size 2 (by omega) (by omega)).trans r2
        replace o3 := (hk.cell.1 w2.heap.size 3 (by omega) (by omega)).trans o3
        replace r3 := (hk.cell.1 w.heap.size 3 (by omega) (by omega)).trans r3
        replace o4 := (hk.cell.1 w2.heap.size 4 (by omega) (by omega)).trans o4
        replace r4 := (hk.cell.1 w.heap.size 4 (by omega) (by omega)).trans r4
        replace rf := fun o => (hk.cell.2 w.heap.size o (by omega) (by omega)).trans (rf o)
        replace HTc := Lib.hid (TrD.kept (fun b h1 h2 => hk.block b (by omega) (by omega)) HTc.out)
        replace HBc := Lib.hid (HBc.out.trans ((hk.mono (show w.heap.size ≤ v1.heap.size by omega)).below (by omega)))
        replace hzc := Nat.le_trans hzc hk.size
        have hsz3 : L < v2.heap.size := Nat.lt_of_lt_of_le hsz hk.size
        replace HL4 := Lib.hid ((hk.block L (by omega) (by omega)).trans HL4.out)
        clear hsz
        have hsz := hsz3
        clear hsz3
        clear hk
        have hHeld3 : (fun w' : World => w'.cell? ⟨w2.heap.size, 0, none⟩ = some (.int .i64 tag) ∧ w'.cell? ⟨w2.heap.size, 1, none⟩ = some (.int .i64 key) ∧ w'.cell? ⟨w2.heap.size, 2, none⟩ = some (.string text) ∧ w'.cell? ⟨w2.heap.size, 3, none⟩ = some (.slice A0 ps.length c0) ∧ w'.cell? ⟨w2.heap.size, 4, none⟩ = some (.slice A1 ks.length c1)) v2 := ⟨o0, o1, o2, o3, o4⟩
        refine hK.out _ _ hHeld3 (fun hHeld2 => ?_)
        clear hHeld2 hHeld
        have hHeld := hHeld3
        clear hHeld3 hK K
        (try simp only [Act.put, List.getElem_toArray, List.getElem_cons_zero, List.getElem_cons_succ, List.setIfInBounds_toArray, List.set_cons_zero, List.set_cons_succ])
        have hr4 : r < 4 := by omega
        obtain ⟨ss, hss, hsc⟩ : ∃ ss : ByteArray, ss.size ≤ 14 ∧ v2.cell? ⟨L, r.toNat, none⟩ = some (.string ss) := str4b HL4.out r hr0 hr4
        refine wpAnyH_take (i := 4) (oi := _) (v := ?_) rfl (by kernel_rfl) (by kernel_rfl) (by kernel_rfl) (fun _ _ _ h => h) (Or.inl ⟨by kernel_rfl, ?_⟩) (by assumption) ?_
        rotate_left
        · (intro w hSw; (try dsimp only at hSw); go_simp)
          try with_reducible rfl
        (try simp only [Act.put, List.getElem_toArray, List.getElem_cons_zero, List.getElem_cons_succ, List.setIfInBounds_toArray, List.set_cons_zero, List.set_cons_succ])
        refine wpAnyH_ready (rs := [5, 6]) (by kernel_rfl) (by simp) ?_
        refine AllReadyH.cons (o := _) rfl (fun K hK => ?_) ?_
        · skip
          go_simp
          refine hK.out _ _ hHeld (fun hHeld2 => ?_)
          clear hK K hHeld2
          (try simp only [Act.put, List.getElem_toArray, List.getElem_cons_zero, List.getElem_cons_succ, List.setIfInBounds_toArray, List.set_cons_zero, List.set_cons_succ])
          refine wpAnyH_ready (rs := [6]) (by kernel_rfl) (by simp) ?_
          refine AllReadyH.cons (o := _) rfl (fun K hK => ?_) AllReadyH.nil
          have hb7 : ∀ k, k ≠ w.heap.size → (((((v2.setCell ⟨w.heap.size, 0, none⟩ (.int .i64 tag)).setCell ⟨w.heap.size, 1, none⟩ (.int .i64 key)).setCell ⟨w.heap.size, 2, none⟩ (.string text)).setCell ⟨w.heap.size, 3, none⟩ (.slice A0 ps.length c0)).setCell ⟨w.heap.size, 4, none⟩ (.slice A1 ks.length c1)).heap[k]? = v2.heap[k]? := fun k hk => by
            rw [Below.heap_setCell _ _ _ _ hk, Below.heap_setCell _ _ _ _ hk, Below.heap_setCell _ _ _ _ hk, Below.heap_setCell _ _ _ _ hk, Below.heap_setCell _ _ _ _ hk]
          have hsz7 : (((((v2.setCell ⟨w.heap.size, 0, none⟩ (.int .i64 tag)).setCell ⟨w.heap.size, 1, none⟩ (.int .i64 key)).setCell ⟨w.heap.size, 2, none⟩ (.string text)).setCell ⟨w.heap.size, 3, none⟩ (.slice A0 ps.length c0)).setCell ⟨w.heap.size, 4, none⟩ (.slice A1 ks.length c1)).heap.size = v2.heap.size := by simp [World.setCell]
          have s0 : (((((v2.setCell ⟨w.heap.size, 0, none⟩ (.int .i64 tag)).setCell ⟨w.heap.size, 1, none⟩ (.int .i64 key)).setCell ⟨w.heap.size, 2, none⟩ (.string text)).setCell ⟨w.heap.size, 3, none⟩ (.slice A0 ps.length c0)).setCell ⟨w.heap.size, 4, none⟩ (.slice A1 ks.length c1)).cell? ⟨w.heap.size, 0, none⟩ = some (.int .i64 tag) := by go_simp
          have s1 : (((((v2.setCell ⟨w.heap.size, 0, none⟩ (.int .i64 tag)).setCell ⟨w.heap.size, 1, none⟩ (.int .i64 key)).setCell ⟨w.heap.size, 2, none⟩ (.string text)).setCell ⟨w.heap.size, 3, none⟩ (.slice A0 ps.length c0)).setCell ⟨w.heap.size, 4, none⟩ (.slice A1 ks.length c1)).cell? ⟨w.heap.size, 1, none⟩ = some (.int .i64 key) := by go_simp
          have s2 : (((((v2.setCell ⟨w.heap.size, 0, none⟩ (.int .i64 tag)).setCell ⟨w.heap.size, 1, none⟩ (.int .i64 key)).setCell ⟨w.heap.size, 2, none⟩ (.string text)).setCell ⟨w.heap.size, 3, none⟩ (.slice A0 ps.length c0)).setCell ⟨w.heap.size, 4, none⟩ (.slice A1 ks.length c1)).cell? ⟨w.heap.size, 2, none⟩ = some (.string text) := by go_simp
          have s3 : (((((v2.setCell ⟨w.heap.size, 0, none⟩ (.int .i64 tag)).setCell ⟨w.heap.size, 1, none⟩ (.int .i64 key)).setCell ⟨w.heap.size, 2, none⟩ (.string text)).setCell ⟨w.heap.size, 3, none⟩ (.slice A0 ps.length c0)).setCell ⟨w.heap.size, 4, none⟩ (.slice A1 ks.length c1)).cell? ⟨w.heap.size, 3, none⟩ = some (.slice A0 ps.length c0) := by go_simp
          have s4 : (((((v2.setCell ⟨w.heap.size, 0, none⟩ (.int .i64 tag)).setCell ⟨w.heap.size, 1, none⟩ (.int .i64 key)).setCell ⟨w.heap.size, 2, none⟩ (.string text)).setCell ⟨w.heap.size, 3, none⟩ (.slice A0 ps.length c0)).setCell ⟨w.heap.size, 4, none⟩ (.slice A1 ks.length c1)).cell? ⟨w.heap.size, 4, none⟩ = some (.slice A1 ks.length c1) := by go_simp
          have sf : ∀ o, (((((v2.setCell ⟨w.heap.size, 0, none⟩ (.int .i64 tag)).setCell ⟨w.heap.size, 1, none⟩ (.int .i64 key)).setCell ⟨w.heap.size, 2, none⟩ (.string text)).setCell ⟨w.heap.size, 3, none⟩ (.slice A0 ps.length c0)).setCell ⟨w.heap.size, 4, none⟩ (.slice A1 ks.length c1)).frozen? ⟨w.heap.size, o, none⟩ = false := fun o => by go_simp
          have hbs := ((((HBc.out.setCell (p := ⟨w.heap.size, 0, none⟩) (Nat.le_refl _) (.int .i64 tag)).setCell (p := ⟨w.heap.size, 1, none⟩) (Nat.le_refl _) (.int .i64 key)).setCell (p := ⟨w.heap.size, 2, none⟩) (Nat.le_refl _) (.string text)).setCell (p := ⟨w.heap.size, 3, none⟩) (Nat.le_refl _) (.slice A0 ps.length c0)).setCell (p := ⟨w.heap.size, 4, none⟩) (Nat.le_refl _) (.slice A1 ks.length c1)
          go_simp
          obtain ⟨v3, hnew⟩ : ∃ v, (((((v2.setCell ⟨w.heap.size, 0, none⟩ (.int .i64 tag)).setCell ⟨w.heap.size, 1, none⟩ (.int .i64 key)).setCell ⟨w.heap.size, 2, none⟩ (.string text)).setCell ⟨w.heap.size, 3, none⟩ (.slice A0 ps.length c0)).setCell ⟨w.heap.size, 4, none⟩ (.slice A1 ks.length c1)) = v := ⟨_, rfl⟩
          rw [hnew] at hb7 hsz7 s0 s1 s2 s3 s4 sf hbs ⊢
          replace o0 := (World.cell?_of_block (a := ⟨w2.heap.size, 0, none⟩) (hb7 w2.heap.size (by omega))).trans o0
          replace o1 := (World.cell?_of_block (a := ⟨w2.heap.size, 1, none⟩) (hb7 w2.heap.size (by omega))).trans o1
          replace o2 := (World.cell?_of_block (a := ⟨w2.heap.size, 2, none⟩) (hb7 w2.heap.size (by omega))).trans o2
          replace o3 := (World.cell?_of_block (a := ⟨w2.heap.size, 3, none⟩) (hb7 w2.heap.size (by omega))).trans o3
          replace o4 := (World.cell?_of_block (a := ⟨w2.heap.size, 4, none⟩) (hb7 w2.heap.size (by omega))).trans o4
          replace HTc := Lib.hid (TrD.kept (fun k h1 h2 => hb7 k (by omega)) HTc.out)
          replace HBc := Lib.hid hbs
          replace hzc := Nat.le_trans hzc (Nat.le_of_eq hsz7.symm)
          replace HL4 := Lib.hid ((hb7 L (by omega)).trans HL4.out)
          replace hsz := Nat.lt_of_lt_of_le hsz (Nat.le_of_eq hsz7.symm)
          clear hb7 hbs hsz7 hnew r0 r1 r2 r3 r4 rf
          have hHeld3 : (fun w' : World => w'.cell? ⟨w2.heap.size, 0, none⟩ = some (.int .i64 tag) ∧ w'.cell? ⟨w2.heap.size, 1, none⟩ = some (.int .i64 key) ∧ w'.cell? ⟨w2.heap.size, 2, none⟩ = some (.string text) ∧ w'.cell? ⟨w2.heap.size, 3, none⟩ = some (.slice A0 ps.length c0) ∧ w'.cell? ⟨w2.heap.size, 4, none⟩ = some (.slice A1 ks.length c1)) v3 := ⟨o0, o1, o2, o3, o4⟩
          refine hK.out _ _ hHeld3 (fun hHeld2 => ?_)
          clear hHeld2 hHeld
          have hHeld := hHeld3
          clear hHeld3 hK K
          (try simp only [Act.put, List.getElem_toArray, List.getElem_cons_zero, List.getElem_cons_succ, List.setIfInBounds_toArray, List.set_cons_zero, List.set_cons_succ])
          refine wpAnyH_take (i := 7) (oi := _) (v := ?_) rfl (by kernel_rfl) (by kernel_rfl) (by kernel_rfl) (fun _ _ _ h => h) (Or.inl ⟨by kernel_rfl, ?_⟩) (by assumption) ?_
          rotate_left
          · (intro w hSw; (try dsimp only at hSw); go_simp)
            try with_reducible rfl
          (try simp only [Act.put, List.getElem_toArray, List.getElem_cons_zero, List.getElem_cons_succ, List.setIfInBounds_toArray, List.set_cons_zero, List.set_cons_succ])
          refine wpAnyH_done (by kernel_rfl) ?_ _
          obtain ⟨F0, f0, F1, f1, hfe, hp7, hk7, _⟩ := HTc.out.lies (by omega)
          simp only [Tr.tag, Tr.key, Tr.text, Tr.ps, Tr.ks, List.cons.injEq, Value.slice.injEq, true_and, and_true] at hfe hp7 hk7
          obtain ⟨⟨rfl, rfl⟩, rfl, rfl⟩ := hfe
          have HP7 := Lib.hid hp7
          have HK7b := Lib.hid hk7
          clear hHeld hp7 hk7
          go_wp2_with fail
          refine bodyPost_ret (v := .tuple #[.agg #[.int .i64 tag, .int .i64 key, .string text, .slice A0 ps.length c0, .slice A1 ks.length c1], .string ss]) (by simp [results, Tryz.results20, go_sem, *]) rfl ⟨A0, c0, A1, c1, .mk tag key text ps ks, ss, rfl, HP7.out, HK7b.out, HGd.out.gd, by omega, HBc.out⟩
        refine AllReadyH.cons (o := _) rfl (fun K hK => ?_) AllReadyH.nil
        have hb7 : ∀ k, k ≠ w.heap.size → (((((v2.setCell ⟨w.heap.size, 0, none⟩ (.int .i64 tag)).setCell ⟨w.heap.size, 1, none⟩ (.int .i64 key)).setCell ⟨w.heap.size, 2, none⟩ (.string text)).setCell ⟨w.heap.size, 3, none⟩ (.slice A0 ps.length c0)).setCell ⟨w.heap.size, 4, none⟩ (.slice A1 ks.length c1)).heap[k]? = v2.heap[k]? := fun k hk => by
          rw [Below.heap_setCell _ _ _ _ hk, Below.heap_setCell _ _ _ _ hk, Below.heap_setCell _ _ _ _ hk, Below.heap_setCell _ _ _ _ hk, Below.heap_setCell _ _ _ _ hk]
        have hsz7 : (((((v2.setCell ⟨w.heap.size, 0, none⟩ (.int .i64 tag)).setCell ⟨w.heap.size, 1, none⟩ (.int .i64 key)).setCell ⟨w.heap.size, 2, none⟩ (.string text)).setCell ⟨w.heap.size, 3, none⟩ (.slice A0 ps.length c0)).setCell ⟨w.heap.size, 4, none⟩ (.slice A1 ks.length c1)).heap.size = v2.heap.size := by simp [World.setCell]
        have s0 : (((((v2.setCell ⟨w.heap.size, 0, none⟩ (.int .i64 tag)).setCell ⟨w.heap.size, 1, none⟩ (.int .i64 key)).setCell ⟨w.heap.size, 2, none⟩ (.string text)).setCell ⟨w.heap.size, 3, none⟩ (.slice A0 ps.length c0)).setCell ⟨w.heap.size, 4, none⟩ (.slice A1 ks.length c1)).cell? ⟨w.heap.size, 0, none⟩ = some (.int .i64 tag) := by go_simp
        have s1 : (((((v2.setCell ⟨w.heap.size, 0, none⟩ (.int .i64 tag)).setCell ⟨w.heap.size, 1, none⟩ (.int .i64 key)).setCell ⟨w.heap.size, 2, none⟩ (.string text)).setCell ⟨w.heap.size, 3, none⟩ (.slice A0 ps.length c0)).setCell ⟨w.heap.size, 4, none⟩ (.slice A1 ks.length c1)).cell? ⟨w.heap.size, 1, none⟩ = some (.int .i64 key) := by go_simp
        have s2 : (((((v2.setCell ⟨w.heap.size, 0, none⟩ (.int .i64 tag)).setCell ⟨w.heap.size, 1, none⟩ (.int .i64 key)).setCell ⟨w.heap.size, 2, none⟩ (.string text)).setCell ⟨w.heap.size, 3, none⟩ (.slice A0 ps.length c0)).setCell ⟨w.heap.size, 4, none⟩ (.slice A1 ks.length c1)).cell? ⟨w.heap.size, 2, none⟩ = some (.string text) := by go_simp
        have s3 : (((((v2.setCell ⟨w.heap.size, 0, none⟩ (.int .i64 tag)).setCell ⟨w.heap.size, 1, none⟩ (.int .i64 key)).setCell ⟨w.heap.size, 2, none⟩ (.string text)).setCell ⟨w.heap.size, 3, none⟩ (.slice A0 ps.length c0)).setCell ⟨w.heap.size, 4, none⟩ (.slice A1 ks.length c1)).cell? ⟨w.heap.size, 3, none⟩ = some (.slice A0 ps.length c0) := by go_simp
        have s4 : (((((v2.setCell ⟨w.heap.size, 0, none⟩ (.int .i64 tag)).setCell ⟨w.heap.size, 1, none⟩ (.int .i64 key)).setCell ⟨w.heap.size, 2, none⟩ (.string text)).setCell ⟨w.heap.size, 3, none⟩ (.slice A0 ps.length c0)).setCell ⟨w.heap.size, 4, none⟩ (.slice A1 ks.length c1)).cell? ⟨w.heap.size, 4, none⟩ = some (.slice A1 ks.length c1) := by go_simp
        have sf : ∀ o, (((((v2.setCell ⟨w.heap.size, 0, none⟩ (.int .i64 tag)).setCell ⟨w.heap.size, 1, none⟩ (.int .i64 key)).setCell ⟨w.heap.size, 2, none⟩ (.string text)).setCell ⟨w.heap.size, 3, none⟩ (.slice A0 ps.length c0)).setCell ⟨w.heap.size, 4, none⟩ (.slice A1 ks.length c1)).frozen? ⟨w.heap.size, o, none⟩ = false := fun o => by go_simp
        have hbs := ((((HBc.out.setCell (p := ⟨w.heap.size, 0, none⟩) (Nat.le_refl _) (.int .i64 tag)).setCell (p := ⟨w.heap.size, 1, none⟩) (Nat.le_refl _) (.int .i64 key)).setCell (p := ⟨w.heap.size, 2, none⟩) (Nat.le_refl _) (.string text)).setCell (p := ⟨w.heap.size, 3, none⟩) (Nat.le_refl _) (.slice A0 ps.length c0)).setCell (p := ⟨w.heap.size, 4, none⟩) (Nat.le_refl _) (.slice A1 ks.length c1)
        go_simp
        obtain ⟨v4, hnew⟩ : ∃ v, (((((v2.setCell ⟨w.heap.size, 0, none⟩ (.int .i64 tag)).setCell ⟨w.heap.size, 1, none⟩ (.int .i64 key)).setCell ⟨w.heap.size, 2, none⟩ (.string text)).setCell ⟨w.heap.size, 3, none⟩ (.slice A0 ps.length c0)).setCell ⟨w.heap.size, 4, none⟩ (.slice A1 ks.length c1)) = v := ⟨_, rfl⟩
        rw [hnew] at hb7 hsz7 s0 s1 s2 s3 s4 sf hbs ⊢
        replace o0 := (World.cell?_of_block (a := ⟨w2.heap.size, 0, none⟩) (hb7 w2.heap.size (by omega))).trans o0
        replace o1 := (World.cell?_of_block (a := ⟨w2.heap.size, 1, none⟩) (hb7 w2.heap.size (by omega))).trans o1
        replace o2 := (World.cell?_of_block (a := ⟨w2.heap.size, 2, none⟩) (hb7 w2.heap.size (by omega))).trans o2
        replace o3 := (World.cell?_of_block (a := ⟨w2.heap.size, 3, none⟩) (hb7 w2.heap.size (by omega))).trans o3
        replace o4 := (World.cell?_of_block (a := ⟨w2.heap.size, 4, none⟩) (hb7 w2.heap.size (by omega))).trans o4
        replace HTc := Lib.hid (TrD.kept (fun k h1 h2 => hb7 k (by omega)) HTc.out)
        replace HBc := Lib.hid hbs
        replace hzc := Nat.le_trans hzc (Nat.le_of_eq hsz7.symm)
        replace HL4 := Lib.hid ((hb7 L (by omega)).trans HL4.out)
        replace hsz := Nat.lt_of_lt_of_le hsz (Nat.le_of_eq hsz7.symm)
        replace hsc := (World.cell?_of_block (a := ⟨L, r.toNat, none⟩) (hb7 L (by omega))).trans hsc
        clear hb7 hbs hsz7 hnew r0 r1 r2 r3 r4 rf
        have hHeld3 : (fun w' : World => w'.cell? ⟨w2.heap.size, 0, none⟩ = some (.int .i64 tag) ∧ w'.cell? ⟨w2.heap.size, 1, none⟩ = some (.int .i64 key) ∧ w'.cell? ⟨w2.heap.size, 2, none⟩ = some (.string text) ∧ w'.cell? ⟨w2.heap.size, 3, none⟩ = some (.slice A0 ps.length c0) ∧ w'.cell? ⟨w2.heap.size, 4, none⟩ = some (.slice A1 ks.length c1)) v4 := ⟨o0, o1, o2, o3, o4⟩
        refine hK.out _ _ hHeld3 (fun hHeld2 => ?_)
        clear hHeld2 hHeld
        have hHeld := hHeld3
        clear hHeld3 hK K
        (try simp only [Act.put, List.getElem_toArray, List.getElem_cons_zero, List.getElem_cons_succ, List.setIfInBounds_toArray, List.set_cons_zero, List.set_cons_succ])
        refine wpAnyH_ready (rs := [5]) (by kernel_rfl) (by simp) ?_
        refine AllReadyH.cons (o := _) rfl (fun K hK => ?_) AllReadyH.nil
        go_simp
        refine hK.out _ _ hHeld (fun hHeld2 => ?_)
        clear hK K hHeld2
        (try simp only [Act.put, List.getElem_toArray, List.getElem_cons_zero, List.getElem_cons_succ, List.setIfInBounds_toArray, List.set_cons_zero, List.set_cons_succ])
        refine wpAnyH_take (i := 7) (oi := _) (v := ?_) rfl (by kernel_rfl) (by kernel_rfl) (by kernel_rfl) (fun _ _ _ h => h) (Or.inl ⟨by kernel_rfl, ?_⟩) (by assumption) ?_
        rotate_left
        · (intro w hSw; (try dsimp only at hSw); go_simp)
          try with_reducible rfl
        (try simp only [Act.put, List.getElem_toArray, List.getElem_cons_zero, List.getElem_cons_succ, List.setIfInBounds_toArray, List.set_cons_zero, List.set_cons_succ])
        refine wpAnyH_done (by kernel_rfl) ?_ _
        obtain ⟨F0, f0, F1, f1, hfe, hp7, hk7, _⟩ := HTc.out.lies (by omega)
        simp only [Tr.tag, Tr.key, Tr.text, Tr.ps, Tr.ks, List.cons.injEq, Value.slice.injEq, true_and, and_true] at hfe hp7 hk7
        obtain ⟨⟨rfl, rfl⟩, rfl, rfl⟩ := hfe
        have HP7 := Lib.hid hp7
        have HK7b := Lib.hid hk7
        clear hHeld hp7 hk7
        go_wp2_with fail
        refine bodyPost_ret (v := .tuple #[.agg #[.int .i64 tag, .int .i64 key, .string text, .slice A0 ps.length c0, .slice A1 ks.length c1], .string ss]) (by simp [results, Tryz.results20, go_sem, *]) rfl ⟨A0, c0, A1, c1, .mk tag key text ps ks, ss, rfl, HP7.out, HK7b.out, HGd.out.gd, by omega, HBc.out⟩
      refine AllReadyH.cons (o := _) rfl (fun K hK => ?_) AllReadyH.nil
      go_simp
      refine (pick_any wc.heap.size A len cap 4 _ HSc.out (by omega)).mono ?_
      rintro e v5 ⟨r, rfl, hr0, hr1, hs, hk⟩
      clear hs HSc
      replace o0 := (hk.cell.1 w2.heap.size 0 (by omega) (by omega)).trans o0
      replace r0 := (hk.cell.1 w.heap.size 0 (by omega) (by omega)).trans r0
      replace o1 := (hk.cell.1 w2.heap.size 1 (by omega) (by omega)).trans o1
      replace r1 := (hk.cell.1 w.heap.size 1 (by omega) (by omega)).trans r1
      replace o2 := (hk.cell.1 w2.heap.size 2 (by omega) (by omega)).trans o2
      replace r2 := (hk.cell.1 w.heap.size 2 (by omega) (by omega)).trans r2
      replace o3 := (hk.cell.1 w2.heap.size 3 (by omega) (by omega)).trans o3
      replace r3 := (hk.cell.1 w.heap.size 3 (by omega) (by omega)).trans r3
      replace o4 := (hk.cell.1 w2.heap.size 4 (by omega) (by omega)).trans o4
      replace r4 := (hk.cell.1 w.heap.size 4 (by omega) (by omega)).trans r4
      replace rf := fun o => (hk.cell.2 w.heap.size o (by omega) (by omega)).trans (rf o)
      replace HTc := Lib.hid (TrD.kept (fun b h1 h2 => hk.block b (by omega) (by omega)) HTc.out)
      replace HBc := Lib.hid (HBc.out.trans ((hk.mono (show w.heap.size ≤ wd.heap.size by omega)).below (by omega)))
      replace hzc := Nat.le_trans hzc hk.size
      clear hk
      have hHeld3 : (fun w' : World => w'.cell? ⟨w2.heap.size, 0, none⟩ = some (.int .i64 tag) ∧ w'.cell? ⟨w2.heap.size, 1, none⟩ = some (.int .i64 key) ∧ w'.cell? ⟨w2.heap.size, 2, none⟩ = some (.string text) ∧ w'.cell? ⟨w2.heap.size, 3, none⟩ = some (.slice A0 ps.length c0) ∧ w'.cell? ⟨w2.heap.size, 4, none⟩ = some (.slice A1 ks.length c1)) v5 := ⟨o0, o1, o2, o3, o4⟩
      refine hK.out _ _ hHeld3 (fun hHeld2 => ?_)
      clear hHeld2 hHeld
      have hHeld := hHeld3
      clear hHeld3 hK K
      (try simp only [Act.put, List.getElem_toArray, List.getElem_cons_zero, List.getElem_cons_succ, List.setIfInBounds_toArray, List.set_cons_zero, List.set_cons_succ])
      refine wpAnyH_ready (rs := [1, 6]) (by kernel_rfl) (by simp) ?_
      refine AllReadyH.cons (o := _) rfl (fun K hK => ?_) ?_
      · skip
        go_simp
        have hb := Below.alloc (Below.refl v5.heap.size v5) (Nat.le_refl _) (.cells #[.string ⟨#[97]⟩, .string ⟨#[]⟩, .string ⟨#[108, 111, 110, 103, 32, 116, 101, 120, 116, 32, 49, 50, 51, 52]⟩, .string ⟨#[98, 32, 99]⟩] 9)
        have hl4 : (v5.alloc (.cells #[.string ⟨#[97]⟩, .string ⟨#[]⟩, .string ⟨#[108, 111, 110, 103, 32, 116, 101, 120, 116, 32, 49, 50, 51, 52]⟩, .string ⟨#[98, 32, 99]⟩] 9)).heap[v5.heap.size]? = some (.cells #[.string ⟨#[97]⟩, .string ⟨#[]⟩, .string ⟨#[108, 111, 110, 103, 32, 116, 101, 120, 116, 32, 49, 50, 51, 52]⟩, .string ⟨#[98, 32, 99]⟩] 9) := World.alloc_heap_new v5 _
        have hsz : v5.heap.size < (v5.alloc (.cells #[.string ⟨#[97]⟩, .string ⟨#[]⟩, .string ⟨#[108, 111, 110, 103, 32, 116, 101, 120, 116, 32, 49, 50, 51, 52]⟩, .string ⟨#[98, 32, 99]⟩] 9)).heap.size := by simp
        obtain ⟨L, hL⟩ : ∃ v, v5.heap.size = v := ⟨_, rfl⟩
        have hLg : wc.heap.size < L := by omega
        have hLr : w.heap.size < L := by omega
        obtain ⟨v6, hnew⟩ : ∃ v, v5.alloc (.cells #[.string ⟨#[97]⟩, .string ⟨#[]⟩, .string ⟨#[108, 111, 110, 103, 32, 116, 101, 120, 116, 32, 49, 50, 51, 52]⟩, .string ⟨#[98, 32, 99]⟩] 9) = v := ⟨_, rfl⟩
        rw [hnew] at hb hl4 hsz ⊢
        replace o0 := (hb.cell (p := ⟨w2.heap.size, 0, none⟩) (by show w2.heap.size < v5.heap.size; omega)).trans o0
        replace r0 := (hb.cell (p := ⟨w.heap.size, 0, none⟩) (by show w.heap.size < v5.heap.size; omega)).trans r0
        replace o1 := (hb.cell (p := ⟨w2.heap.size, 1, none⟩) (by show w2.heap.size < v5.heap.size; omega)).trans o1
        replace r1 := (hb.cell (p := ⟨w.heap.size, 1, none⟩) (by show w.heap.size < v5.heap.size; omega)).trans r1
        replace o2 := (hb.cell (p := ⟨w2.heap.size, 2, none⟩) (by show w2.heap.size < v5.heap.size; omega)).trans o2
        replace r2 := (hb.cell (p := ⟨w.heap.size, 2, none⟩) (by show w.heap.size < v5.heap.size; omega)).trans r2
        replace o3 := (hb.cell (p := ⟨w2.heap.size, 3, none⟩) (by show w2.heap.size < v5.heap.size; omega)).trans o3
        replace r3 := (hb.cell (p := ⟨w.heap.size, 3, none⟩) (by show w.heap.size < v5.heap.size; omega)).trans r3
        replace o4 := (hb.cell (p := ⟨w2.heap.size, 4, none⟩) (by show w2.heap.size < v5.heap.size; omega)).trans o4
        replace r4 := (hb.cell (p := ⟨w.heap.size, 4, none⟩) (by show w.heap.size < v5.heap.size; omega)).trans r4
        replace rf := fun o => (hb.frozen (p := ⟨w.heap.size, o, none⟩) (by show w.heap.size < v5.heap.size; omega)).trans (rf o)
        replace HTc := Lib.hid (TrD.kept (fun b h1 h2 => hb.block b (by omega)) HTc.out)
        replace HBc := Lib.hid (HBc.out.trans (hb.mono (by omega)))

        replace hzc := Nat.le_trans hzc hb.size
        rw [hL] at hl4 hsz ⊢
        have HL4 := Lib.hid hl4
        clear hb hl4 hnew
        have hHeld3 : (fun w' : World => w'.cell? ⟨w2.heap.size, 0, none⟩ = some (.int .i64 tag) ∧ w'.cell? ⟨w2.heap.size, 1, none⟩ = some (.int .i64 key) ∧ w'.cell? ⟨w2.heap.size, 2, none⟩ = some (.string text) ∧ w'.cell? ⟨w2.heap.size, 3, none⟩ = some (.slice A0 ps.length c0) ∧ w'.cell? ⟨w2.heap.size, 4, none⟩ = some (.slice A1 ks.length c1)) v6 := ⟨o0, o1, o2, o3, o4⟩
        refine hK.out _ _ hHeld3 (fun hHeld2 => ?_)
        clear hHeld2 hHeld
        have hHeld := hHeld3
        clear hHeld3 hK K
        (try simp only [Act.put, List.getElem_toArray, List.getElem_cons_zero, List.getElem_cons_succ, List.setIfInBounds_toArray, List.set_cons_zero, List.set_cons_succ])
        have hr4 : r < 4 := by omega
        obtain ⟨ss, hss, hsc⟩ : ∃ ss : ByteArray, ss.size ≤ 14 ∧ v6.cell? ⟨L, r.toNat, none⟩ = some (.string ss) := str4b HL4.out r hr0 hr4
        refine wpAnyH_take (i := 4) (oi := _) (v := ?_) rfl (by kernel_rfl) (by kernel_rfl) (by kernel_rfl) (fun _ _ _ h => h) (Or.inl ⟨by kernel_rfl, ?_⟩) (by assumption) ?_
        rotate_left
        · (intro w hSw; (try dsimp only at hSw); go_simp)
          try with_reducible rfl
        (try simp only [Act.put, List.getElem_toArray, List.getElem_cons_zero, List.getElem_cons_succ, List.setIfInBounds_toArray, List.set_cons_zero, List.set_cons_succ])
        refine wpAnyH_ready (rs := [5, 6]) (by kernel_rfl) (by simp) ?_
        refine AllReadyH.cons (o := _) rfl (fun K hK => ?_) ?_
        · skip
          go_simp
          refine hK.out _ _ hHeld (fun hHeld2 => ?_)
          clear hK K hHeld2
          (try simp only [Act.put, List.getElem_toArray, List.getElem_cons_zero, List.getElem_cons_succ, List.setIfInBounds_toArray, List.set_cons_zero, List.set_cons_succ])
          refine wpAnyH_ready (rs := [6]) (by kernel_rfl) (by simp) ?_
          refine AllReadyH.cons (o := _) rfl (fun K hK => ?_) AllReadyH.nil
          have hb7 : ∀ k, k ≠ w.heap.size → (((((v6.setCell ⟨w.heap.size, 0, none⟩ (.int .i64 tag)).setCell ⟨w.heap.size, 1, none⟩ (.int .i64 key)).setCell ⟨w.heap.size, 2, none⟩ (.string text)).setCell ⟨w.heap.size, 3, none⟩ (.slice A0 ps.length c0)).setCell ⟨w.heap.size, 4, none⟩ (.slice A1 ks.length c1)).heap[k]? = v6.heap[k]? := fun k hk => by
            rw [Below.heap_setCell _ _ _ _ hk, Below.heap_setCell _ _ _ _ hk, Below.heap_setCell _ _ _ _ hk, Below.heap_setCell _ _ _ _ hk, Below.heap_setCell _ _ _ _ hk]
          have hsz7 : (((((v6.setCell ⟨w.heap.size, 0, none⟩ (.int .i64 tag)).setCell ⟨w.heap.size, 1, none⟩ (.int .i64 key)).setCell ⟨w.heap.size, 2, none⟩ (.string text)).setCell ⟨w.heap.size, 3, none⟩ (.slice A0 ps.length c0)).setCell ⟨w.heap.size, 4, none⟩ (.slice A1 ks.length c1)).heap.size = v6.heap.size := by simp [World.setCell]
          have s0 : (((((v6.setCell ⟨w.heap.size, 0, none⟩ (.int .i64 tag)).setCell ⟨w.heap.size, 1, none⟩ (.int .i64 key)).setCell ⟨w.heap.size, 2, none⟩ (.string text)).setCell ⟨w.heap.size, 3, none⟩ (.slice A0 ps.length c0)).setCell ⟨w.heap.size, 4, none⟩ (.slice A1 ks.length c1)).cell? ⟨w.heap.size, 0, none⟩ = some (.int .i64 tag) := by go_simp
          have s1 : (((((v6.setCell ⟨w.heap.size, 0, none⟩ (.int .i64 tag)).setCell ⟨w.heap.size, 1, none⟩ (.int .i64 key)).setCell ⟨w.heap.size, 2, none⟩ (.string text)).setCell ⟨w.heap.size, 3, none⟩ (.slice A0 ps.length c0)).setCell ⟨w.heap.size, 4, none⟩ (.slice A1 ks.length c1)).cell? ⟨w.heap.size, 1, none⟩ = some (.int .i64 key) := by go_simp
          have s2 : (((((v6.setCell ⟨w.heap.size, 0, none⟩ (.int .i64 tag)).setCell ⟨w.heap.size, 1, none⟩ (.int .i64 key)).setCell ⟨w.heap.size, 2, none⟩ (.string text)).setCell ⟨w.heap.size, 3, none⟩ (.slice A0 ps.length c0)).setCell ⟨w.heap.size, 4, none⟩ (.slice A1 ks.length c1)).cell? ⟨w.heap.size, 2, none⟩ = some (.string text) := by go_simp
          have s3 : (((((v6.setCell ⟨w.heap.size, 0, none⟩ (.int .i64 tag)).setCell ⟨w.heap.size, 1, none⟩ (.int .i64 key)).setCell ⟨w.heap.size, 2, none⟩ (.string text)).setCell ⟨w.heap.size, 3, none⟩ (.slice A0 ps.length c0)).setCell ⟨w.heap.size, 4, none⟩ (.slice A1 ks.length c1)).cell? ⟨w.heap.size, 3, none⟩ = some (.slice A0 ps.length c0) := by go_simp
          have s4 : (((((v6.setCell ⟨w.heap.size, 0, none⟩ (.int .i64 tag)).setCell ⟨w.heap.size, 1, none⟩ (.int .i64 key)).setCell ⟨w.heap.size, 2, none⟩ (.string text)).setCell ⟨w.heap.size, 3, none⟩ (.slice A0 ps.length c0)).setCell ⟨w.heap.size, 4, none⟩ (.slice A1 ks.length c1)).cell? ⟨w.heap.size, 4, none⟩ = some (.slice A1 ks.length c1) := by go_simp
          have sf : ∀ o, (((((v6.setCell ⟨w.heap.size, 0, none⟩ (.int .i64 tag)).setCell ⟨w.heap.size, 1, none⟩ (.int .i64 key)).setCell ⟨w.heap.size, 2, none⟩ (.string text)).setCell ⟨w.heap.size, 3, none⟩ (.slice A0 ps.length c0)).setCell ⟨w.heap.size, 4, none⟩ (.slice A1 ks.length c1)).frozen? ⟨w.heap.size, o, none⟩ = false := fun o => by go_simp
          have hbs := ((((HBc.out.setCell (p := ⟨w.heap.size, 0, none⟩) (Nat.le_refl _) (.int .i64 tag)).setCell (p := ⟨w.heap.size, 1, none⟩) (Nat.le_refl _) (.int .i64 key)).setCell (p := ⟨w.heap.size, 2, none⟩) (Nat.le_refl _) (.string text)).setCell (p := ⟨w.heap.size, 3, none⟩) (Nat.le_refl _) (.slice A0 ps.length c0)).setCell (p := ⟨w.heap.size, 4, none⟩) (Nat.le_refl _) (.slice A1 ks.length c1)
          go_simp
          obtain ⟨v7, hnew⟩ : ∃ v, (((((v6.setCell ⟨w.heap.size, 0, none⟩ (.int .i64 tag)).setCell ⟨w.heap.size, 1, none⟩ (.int .i64 key)).setCell ⟨w.heap.size, 2, none⟩ (.string text)).setCell ⟨w.heap.size, 3, none⟩ (.slice A0 ps.length c0)).setCell ⟨w.heap.size, 4, none⟩ (.slice A1 ks.length c1)) = v := ⟨_, rfl⟩
          rw [hnew] at hb7 hsz7 s0 s1 s2 s3 s4 sf hbs ⊢
          replace o0 := (World.cell?_of_block (a := ⟨w2.heap.size, 0, none⟩) (hb7 w2.heap.size (by omega))).trans o0
          replace o1 := (World.cell?_of_block (a := ⟨w2.heap.size, 1, none⟩) (hb7 w2.heap.size (by omega))).trans o1
          replace o2 := (World.cell?_of_block (a := ⟨w2.heap.size, 2, none⟩) (hb7 w2.heap.size (by omega))).trans o2
          replace o3 := (World.cell?_of_block (a := ⟨w2.heap.size, 3, none⟩) (hb7 w2.heap.size (by omega))).trans o3
          replace o4 := (World.cell?_of_block (a := ⟨w2.heap.size, 4, none⟩) (hb7 w2.heap.size (by omega))).trans o4
          replace HTc := Lib.hid (TrD.kept (fun k h1 h2 => hb7 k (by omega)) HTc.out)
          replace HBc := Lib.hid hbs
          replace hzc := Nat.le_trans hzc (Nat.le_of_eq hsz7.symm)
          replace HL4 := Lib.hid ((hb7 L (by omega)).trans HL4.out)
          replace hsz := Nat.lt_of_lt_of_le hsz (Nat.le_of_eq hsz7.symm)
          clear hb7 hbs hsz7 hnew r0 r1 r2 r3 r4 rf
          have hHeld3 : (fun w' : World => w'.cell? ⟨w2.heap.size, 0, none⟩ = some (.int .i64 tag) ∧ w'.cell? ⟨w2.heap.size, 1, none⟩ = some (.int .i64 key) ∧ w'.cell? ⟨w2.heap.size, 2, none⟩ = some (.string text) ∧ w'.cell? ⟨w2.heap.size, 3, none⟩ = some (.slice A0 ps.length c0) ∧ w'.cell? ⟨w2.heap.size, 4, none⟩ = some (.slice A1 ks.length c1)) v7 := ⟨o0, o1, o2, o3, o4⟩
          refine hK.out _ _ hHeld3 (fun hHeld2 => ?_)
          clear hHeld2 hHeld
          have hHeld := hHeld3
          clear hHeld3 hK K
          (try simp only [Act.put, List.getElem_toArray, List.getElem_cons_zero, List.getElem_cons_succ, List.setIfInBounds_toArray, List.set_cons_zero, List.set_cons_succ])
          refine wpAnyH_take (i := 7) (oi := _) (v := ?_) rfl (by kernel_rfl) (by kernel_rfl) (by kernel_rfl) (fun _ _ _ h => h) (Or.inl ⟨by kernel_rfl, ?_⟩) (by assumption) ?_
          rotate_left
          · (intro w hSw; (try dsimp only at hSw); go_simp)
            try with_reducible rfl
          (try simp only [Act.put, List.getElem_toArray, List.getElem_cons_zero, List.getElem_cons_succ, List.setIfInBounds_toArray, List.set_cons_zero, List.set_cons_succ])
          refine wpAnyH_done (by kernel_rfl) ?_ _
          obtain ⟨F0, f0, F1, f1, hfe, hp7, hk7, _⟩ := HTc.out.lies (by omega)
          simp only [Tr.tag, Tr.key, Tr.text, Tr.ps, Tr.ks, List.cons.injEq, Value.slice.injEq, true_and, and_true] at hfe hp7 hk7
          obtain ⟨⟨rfl, rfl⟩, rfl, rfl⟩ := hfe
          have HP7 := Lib.hid hp7
          have HK7b := Lib.hid hk7
          clear hHeld hp7 hk7
          go_wp2_with fail
          refine bodyPost_ret (v := .tuple #[.agg #[.int .i64 tag, .int .i64 key, .string text, .slice A0 ps.length c0, .slice A1 ks.length c1], .string ss]) (by simp [results, Tryz.results20, go_sem, *]) rfl ⟨A0, c0, A1, c1, .mk tag key text ps ks, ss, rfl, HP7.out, HK7b.out, HGd.out.gd, by omega, HBc.out⟩
        refine AllReadyH.cons (o := _) rfl (fun K hK => ?_) AllReadyH.nil
        have hb7 : ∀ k, k ≠ w.heap.size → (((((v6.setCell ⟨w.heap.size, 0, none⟩ (.int .i64 tag)).setCell ⟨w.heap.size, 1, none⟩ (.int .i64 key)).setCell ⟨w.heap.size, 2, none⟩ (.string text)).setCell ⟨w.heap.size, 3, none⟩ (.slice A0 ps.length c0)).setCell ⟨w.heap.size, 4, none⟩ (.slice A1 ks.length c1)).heap[k]? = v6.heap[k]? := fun k hk => by
          rw [Below.heap_setCell _ _ _ _ hk, Below.heap_setCell _ _ _ _ hk, Below.heap_setCell _ _ _ _ hk, Below.heap_setCell _ _ _ _ hk, Below.heap_setCell _ _ _ _ hk]
        have hsz7 : (((((v6.setCell ⟨w.heap.size, 0, none⟩ (.int .i64 tag)).setCell ⟨w.heap.size, 1, none⟩ (.int .i64 key)).setCell ⟨w.heap.size, 2, none⟩ (.string text)).setCell ⟨w.heap.size, 3, none⟩ (.slice A0 ps.length c0)).setCell ⟨w.heap.size, 4, none⟩ (.slice A1 ks.length c1)).heap.size = v6.heap.size := by simp [World.setCell]
        have s0 : (((((v6.setCell ⟨w.heap.size, 0, none⟩ (.int .i64 tag)).setCell ⟨w.heap.size, 1, none⟩ (.int .i64 key)).setCell ⟨w.heap.size, 2, none⟩ (.string text)).setCell ⟨w.heap.size, 3, none⟩ (.slice A0 ps.length c0)).setCell ⟨w.heap.size, 4, none⟩ (.slice A1 ks.length c1)).cell? ⟨w.heap.size, 0, none⟩ = some (.int .i64 tag) := by go_simp
        have s1 : (((((v6.setCell ⟨w.heap.size, 0, none⟩ (.int .i64 tag)).setCell ⟨w.heap.size, 1, none⟩ (.int .i64 key)).setCell ⟨w.heap.size, 2, none⟩ (.string text)).setCell ⟨w.heap.size, 3, none⟩ (.slice A0 ps.length c0)).setCell ⟨w.heap.size, 4, none⟩ (.slice A1 ks.length c1)).cell? ⟨w.heap.size, 1, none⟩ = some (.int .i64 key) := by go_simp
        have s2 : (((((v6.setCell ⟨w.heap.size, 0, none⟩ (.int .i64 tag)).setCell ⟨w.heap.size, 1, none⟩ (.int .i64 key)).setCell ⟨w.heap.size, 2, none⟩ (.string text)).setCell ⟨w.heap.size, 3, none⟩ (.slice A0 ps.length c0)).setCell ⟨w.heap.size, 4, none⟩ (.slice A1 ks.length c1)).cell? ⟨w.heap.size, 2, none⟩ = some (.string text) := by go_simp
        have s3 : (((((v6.setCell ⟨w.heap.size, 0, none⟩ (.int .i64 tag)).setCell ⟨w.heap.size, 1, none⟩ (.int .i64 key)).setCell ⟨w.heap.size, 2, none⟩ (.string text)).setCell ⟨w.heap.size, 3, none⟩ (.slice A0 ps.length c0)).setCell ⟨w.heap.size, 4, none⟩ (.slice A1 ks.length c1)).cell? ⟨w.heap.size, 3, none⟩ = some (.slice A0 ps.length c0) := by go_simp
        have s4 : (((((v6.setCell ⟨w.heap.size, 0, none⟩ (.int .i64 tag)).setCell ⟨w.heap.size, 1, none⟩ (.int .i64 key)).setCell ⟨w.heap.size, 2, none⟩ (.string text)).setCell ⟨w.heap.size, 3, none⟩ (.slice A0 ps.length c0)).setCell ⟨w.heap.size, 4, none⟩ (.slice A1 ks.length c1)).cell? ⟨w.heap.size, 4, none⟩ = some (.slice A1 ks.length c1) := by go_simp
        have sf : ∀ o, (((((v6.setCell ⟨w.heap.size, 0, none⟩ (.int .i64 tag)).setCell ⟨w.heap.size, 1, none⟩ (.int .i64 key)).setCell ⟨w.heap.size, 2, none⟩ (.string text)).setCell ⟨w.heap.size, 3, none⟩ (.slice A0 ps.length c0)).setCell ⟨w.heap.size, 4, none⟩ (.slice A1 ks.length c1)).frozen? ⟨w.heap.size, o, none⟩ = false := fun o => by go_simp
        have hbs := ((((HBc.out.setCell (p := ⟨w.heap.size, 0, none⟩) (Nat.le_refl _) (.int .i64 tag)).setCell (p := ⟨w.heap.size, 1, none⟩) (Nat.le_refl _) (.int .i64 key)).setCell (p := ⟨w.heap.size, 2, none⟩) (Nat.le_refl _) (.string text)).setCell (p := ⟨w.heap.size, 3, none⟩) (Nat.le_refl _) (.slice A0 ps.length c0)).setCell (p := ⟨w.heap.size, 4, none⟩) (Nat.le_refl _) (.slice A1 ks.length c1)
        go_simp
        obtain ⟨v8, hnew⟩ : ∃ v, (((((v6.setCell ⟨w.heap.size, 0, none⟩ (.int .i64 tag)).setCell ⟨w.heap.size, 1, none⟩ (.int .i64 key)).setCell ⟨w.heap.size, 2, none⟩ (.string text)).setCell ⟨w.heap.size, 3, none⟩ (.slice A0 ps.length c0)).setCell ⟨w.heap.size, 4, none⟩ (.slice A1 ks.length c1)) = v := ⟨_, rfl⟩
        rw [hnew] at hb7 hsz7 s0 s1 s2 s3 s4 sf hbs ⊢
        replace o0 := (World.cell?_of_block (a := ⟨w2.heap.size, 0, none⟩) (hb7 w2.heap.size (by omega))).trans o0
        replace o1 := (World.cell?_of_block (a := ⟨w2.heap.size, 1, none⟩) (hb7 w2.heap.size (by omega))).trans o1
        replace o2 := (World.cell?_of_block (a := ⟨w2.heap.size, 2, none⟩) (hb7 w2.heap.size (by omega))).trans o2
        replace o3 := (World.cell?_of_block (a := ⟨w2.heap.size, 3, none⟩) (hb7 w2.heap.size (by omega))).trans o3
        replace o4 := (World.cell?_of_block (a := ⟨w2.heap.size, 4, none⟩) (hb7 w2.heap.size (by omega))).trans o4
        replace HTc := Lib.hid (TrD.kept (fun k h1 h2 => hb7 k (by omega)) HTc.out)
        replace HBc := Lib.hid hbs
        replace hzc := Nat.le_trans hzc (Nat.le_of_eq hsz7.symm)
        replace HL4 := Lib.hid ((hb7 L (by omega)).trans HL4.out)
        replace hsz := Nat.lt_of_lt_of_le hsz (Nat.le_of_eq hsz7.symm)
        replace hsc := (World.cell?_of_block (a := ⟨L, r.toNat, none⟩) (hb7 L (by omega))).trans hsc
        clear hb7 hbs hsz7 hnew r0 r1 r2 r3 r4 rf
        have hHeld3 : (fun w' : World => w'.cell? ⟨w2.heap.size, 0, none⟩ = some (.int .i64 tag) ∧ w'.cell? ⟨w2.heap.size, 1, none⟩ = some (.int .i64 key) ∧ w'.cell? ⟨w2.heap.size, 2, none⟩ = some (.string text) ∧ w'.cell? ⟨w2.heap.size, 3, none⟩ = some (.slice A0 ps.length c0) ∧ w'.cell? ⟨w2.heap.size, 4, none⟩ = some (.slice A1 ks.length c1)) v8 := ⟨o0, o1, o2, o3, o4⟩
        refine hK.out _ _ hHeld3 (fun hHeld2 => ?_)
        clear hHeld2 hHeld
        have hHeld := hHeld3
        clear hHeld3 hK K
        (try simp only [Act.put, List.getElem_toArray, List.getElem_cons_zero, List.getElem_cons_succ, List.setIfInBounds_toArray, List.set_cons_zero, List.set_cons_succ])
        refine wpAnyH_ready (rs := [5]) (by kernel_rfl) (by simp) ?_
        refine AllReadyH.cons (o := _) rfl (fun K hK => ?_) AllReadyH.nil
        go_simp
        refine hK.out _ _ hHeld (fun hHeld2 => ?_)
        clear hK K hHeld2
        (try simp only [Act.put, List.getElem_toArray, List.getElem_cons_zero, List.getElem_cons_succ, List.setIfInBounds_toArray, List.set_cons_zero, List.set_cons_succ])
        refine wpAnyH_take (i := 7) (oi := _) (v := ?_) rfl (by kernel_rfl) (by kernel_rfl) (by kernel_rfl) (fun _ _ _ h => h) (Or.inl ⟨by kernel_rfl, ?_⟩) (by assumption) ?_
        rotate_left
        · (intro w hSw; (try dsimp only at hSw); go_simp)
          try with_reducible rfl
        (try simp only [Act.put, List.getElem_toArray, List.getElem_cons_zero, List.getElem_cons_succ, List.setIfInBounds_toArray, List.set_cons_zero, List.set_cons_succ])
        refine wpAnyH_done (by kernel_rfl) ?_ _
        obtain ⟨F0, f0, F1, f1, hfe, hp7, hk7, _⟩ := HTc.out.lies (by omega)
        simp only [Tr.tag, Tr.key, Tr.text, Tr.ps, Tr.ks, List.cons.injEq, Value.slice.injEq, true_and, and_true] at hfe hp7 hk7
        obtain ⟨⟨rfl, rfl⟩, rfl, rfl⟩ := hfe
        have HP7 := Lib.hid hp7
        have HK7b := Lib.hid hk7
        clear hHeld hp7 hk7
        go_wp2_with fail
        refine bodyPost_ret (v := .tuple #[.agg #[.int .i64 tag, .int .i64 key, .string text, .slice A0 ps.length c0, .slice A1 ks.length c1], .string ss]) (by simp [results, Tryz.results20, go_sem, *]) rfl ⟨A0, c0, A1, c1, .mk tag key text ps ks, ss, rfl, HP7.out, HK7b.out, HGd.out.gd, by omega, HBc.out⟩
      refine AllReadyH.cons (o := _) rfl (fun K hK => ?_) AllReadyH.nil
      have hb7 : ∀ k, k ≠ w.heap.size → (((((v5.setCell ⟨w.heap.size, 0, none⟩ (.int .i64 tag)).setCell ⟨w.heap.size, 1, none⟩ (.int .i64 key)).setCell ⟨w.heap.size, 2, none⟩ (.string text)).setCell ⟨w.heap.size, 3, none⟩ (.slice A0 ps.length c0)).setCell ⟨w.heap.size, 4, none⟩ (.slice A1 ks.length c1)).heap[k]? = v5.heap[k]? := fun k hk => by
        rw [Below.heap_setCell _ _ _ _ hk, Below.heap_setCell _ _ _ _ hk, Below.heap_setCell _ _ _ _ hk, Below.heap_setCell _ _ _ _ hk, Below.heap_setCell _ _ _ _ hk]
      have hsz7 : (((((v5.setCell ⟨w.heap.size, 0, none⟩ (.int .i64 tag)).setCell ⟨w.heap.size, 1, none⟩ (.int .i64 key)).setCell ⟨w.heap.size, 2, none⟩ (.string text)).setCell ⟨w.heap.size, 3, none⟩ (.slice A0 ps.length c0)).setCell ⟨w.heap.size, 4, none⟩ (.slice A1 ks.length c1)).heap.size = v5.heap.size := by simp [World.setCell]
      have s0 : (((((v5.setCell ⟨w.heap.size, 0, none⟩ (.int .i64 tag)).setCell ⟨w.heap.size, 1, none⟩ (.int .i64 key)).setCell ⟨w.heap.size, 2, none⟩ (.string text)).setCell ⟨w.heap.size, 3, none⟩ (.slice A0 ps.length c0)).setCell ⟨w.heap.size, 4, none⟩ (.slice A1 ks.length c1)).cell? ⟨w.heap.size, 0, none⟩ = some (.int .i64 tag) := by go_simp
      have s1 : (((((v5.setCell ⟨w.heap.size, 0, none⟩ (.int .i64 tag)).setCell ⟨w.heap.size, 1, none⟩ (.int .i64 key)).setCell ⟨w.heap.size, 2, none⟩ (.string text)).setCell ⟨w.heap.size, 3, none⟩ (.slice A0 ps.length c0)).setCell ⟨w.heap.size, 4, none⟩ (.slice A1 ks.length c1)).cell? ⟨w.heap.size, 1, none⟩ = some (.int .i64 key) := by go_simp
      have s2 : (((((v5.setCell ⟨w.heap.size, 0, none⟩ (.int .i64 tag)).setCell ⟨w.heap.size, 1, none⟩ (.int .i64 key)).setCell ⟨w.heap.size, 2, none⟩ (.string text)).setCell ⟨w.heap.size, 3, none⟩ (.slice A0 ps.length c0)).setCell ⟨w.heap.size, 4, none⟩ (.slice A1 ks.length c1)).cell? ⟨w.heap.size, 2, none⟩ = some (.string text) := by go_simp
      have s3 : (((((v5.setCell ⟨w.heap.size, 0, none⟩ (.int .i64 tag)).setCell ⟨w.heap.size, 1, none⟩ (.int .i64 key)).setCell ⟨w.heap.size, 2, none⟩ (.string text)).setCell ⟨w.heap.size, 3, none⟩ (.slice A0 ps.length c0)).setCell ⟨w.heap.size, 4, none⟩ (.slice A1 ks.length c1)).cell? ⟨w.heap.size, 3, none⟩ = some (.slice A0 ps.length c0) := by go_simp
      have s4 : (((((v5.setCell ⟨w.heap.size, 0, none⟩ (.int .i64 tag)).setCell ⟨w.heap.size, 1, none⟩ (.int .i64 key)).setCell ⟨w.heap.size, 2, none⟩ (.string text)).setCell ⟨w.heap.size, 3, none⟩ (.slice A0 ps.length c0)).setCell ⟨w.heap.size, 4, none⟩ (.slice A1 ks.length c1)).cell? ⟨w.heap.size, 4, none⟩ = some (.slice A1 ks.length c1) := by go_simp
      have sf : ∀ o, (((((v5.setCell ⟨w.heap.size, 0, none⟩ (.int .i64 tag)).setCell ⟨w.heap.size, 1, none⟩ (.int .i64 key)).setCell ⟨w.heap.size, 2, none⟩ (.string text)).setCell ⟨w.heap.size, 3, none⟩ (.slice A0 ps.length c0)).setCell ⟨w.heap.size, 4, none⟩ (.slice A1 ks.length c1)).frozen? ⟨w.heap.size, o, none⟩ = false := fun o => by go_simp
      have hbs := ((((HBc.out.setCell (p := ⟨w.heap.size, 0, none⟩) (Nat.le_refl _) (.int .i64 tag)).setCell (p := ⟨w.heap.size, 1, none⟩) (Nat.le_refl _) (.int .i64 key)).setCell (p := ⟨w.heap.size, 2, none⟩) (Nat.le_refl _) (.string text)).setCell (p := ⟨w.heap.size, 3, none⟩) (Nat.le_refl _) (.slice A0 ps.length c0)).setCell (p := ⟨w.heap.size, 4, none⟩) (Nat.le_refl _) (.slice A1 ks.length c1)
      go_simp
      obtain ⟨v9, hnew⟩ : ∃ v, (((((v5.setCell ⟨w.heap.size, 0, none⟩ (.int .i64 tag)).setCell ⟨w.heap.size, 1, none⟩ (.int .i64 key)).setCell ⟨w.heap.size, 2, none⟩ (.string text)).setCell ⟨w.heap.size, 3, none⟩ (.slice A0 ps.length c0)).setCell ⟨w.heap.size, 4, none⟩ (.slice A1 ks.length c1)) = v := ⟨_, rfl⟩
      rw [hnew] at hb7 hsz7 s0 s1 s2 s3 s4 sf hbs ⊢
      replace o0 := (World.cell?_of_block (a := ⟨w2.heap.size, 0, none⟩) (hb7 w2.heap.size (by omega))).trans o0
      replace o1 := (World.cell?_of_block (a := ⟨w2.heap.size, 1, none⟩) (hb7 w2.heap.size (by omega))).trans o1
      replace o2 := (World.cell?_of_block (a := ⟨w2.heap.size, 2, none⟩) (hb7 w2.heap.size (by omega))).trans o2
      replace o3 := (World.cell?_of_block (a := ⟨w2.heap.size, 3, none⟩) (hb7 w2.heap.size (by omega))).trans o3
      replace o4 := (World.cell?_of_block (a := ⟨w2.heap.size, 4, none⟩) (hb7 w2.heap.size (by omega))).trans o4
      replace HTc := Lib.hid (TrD.kept (fun k h1 h2 => hb7 k (by omega)) HTc.out)
      replace HBc := Lib.hid hbs
      replace hzc := Nat.le_trans hzc (Nat.le_of_eq hsz7.symm)
      clear hb7 hbs hsz7 hnew r0 r1 r2 r3 r4 rf
      have hHeld3 : (fun w' : World => w'.cell? ⟨w2.heap.size, 0, none⟩ = some (.int .i64 tag) ∧ w'.cell? ⟨w2.heap.size, 1, none⟩ = some (.int .i64 key) ∧ w'.cell? ⟨w2.heap.size, 2, none⟩ = some (.string text) ∧ w'.cell? ⟨w2.heap.size, 3, none⟩ = some (.slice A0 ps.length c0) ∧ w'.cell? ⟨w2.heap.size, 4, none⟩ = some (.slice A1 ks.length c1)) v9 := ⟨o0, o1, o2, o3, o4⟩
      refine hK.out _ _ hHeld3 (fun hHeld2 => ?_)
      clear hHeld2 hHeld
      have hHeld := hHeld3
      clear hHeld3 hK K
      (try simp only [Act.put, List.getElem_toArray, List.getElem_cons_zero, List.getElem_cons_succ, List.setIfInBounds_toArray, List.set_cons_zero, List.set_cons_succ])
      refine wpAnyH_ready (rs := [1]) (by kernel_rfl) (by simp) ?_
      refine AllReadyH.cons (o := _) rfl (fun K hK => ?_) AllReadyH.nil
      go_simp
      have hb := Below.alloc (Below.refl v9.heap.size v9) (Nat.le_refl _) (.cells #[.string ⟨#[97]⟩, .string ⟨#[]⟩, .string ⟨#[108, 111, 110, 103, 32, 116, 101, 120, 116, 32, 49, 50, 51, 52]⟩, .string ⟨#[98, 32, 99]⟩] 9)
      have hl4 : (v9.alloc (.cells #[.string ⟨#[97]⟩, .string ⟨#[]⟩, .string ⟨#[108, 111, 110, 103, 32, 116, 101, 120, 116, 32, 49, 50, 51, 52]⟩, .string ⟨#[98, 32, 99]⟩] 9)).heap[v9.heap.size]? = some (.cells #[.string ⟨#[97]⟩, .string ⟨#[]⟩, .string ⟨#[108, 111, 110, 103, 32, 116, 101, 120, 116, 32, 49, 50, 51, 52]⟩, .string ⟨#[98, 32, 99]⟩] 9) := World.alloc_heap_new v9 _
      have hsz : v9.heap.size < (v9.alloc (.cells #[.string ⟨#[97]⟩, .string ⟨#[]⟩, .string ⟨#[108, 111, 110, 103, 32, 116, 101, 120, 116, 32, 49, 50, 51, 52]⟩, .string ⟨#[98, 32, 99]⟩] 9)).heap.size := by simp
      obtain ⟨L, hL⟩ : ∃ v, v9.heap.size = v := ⟨_, rfl⟩
      have hLg : wc.heap.size < L := by omega
      have hLr : w.heap.size < L := by omega
      obtain ⟨v10, hnew⟩ : ∃ v, v9.alloc (.cells #[.string ⟨#[97]⟩, .string ⟨#[]⟩, .string ⟨#[108, 111, 110, 103, 32, 116, 101, 120, 116, 32, 49, 50, 51, 52]⟩, .string ⟨#[98, 32, 99]⟩] 9) = v := ⟨_, rfl⟩
      rw [hnew] at hb hl4 hsz ⊢
      replace o0 := (hb.cell (p := ⟨w2.heap.size, 0, none⟩) (by show w2.heap.size < v9.heap.size; omega)).trans o0
      replace s0 := (hb.cell (p := ⟨w.heap.size, 0, none⟩) (by show w.heap.size < v9.heap.size; omega)).trans s0
      replace o1 := (hb.cell (p := ⟨w2.heap.size, 1, none⟩) (by show w2.heap.size < v9.heap.size; omega)).trans o1
      replace s1 := (hb.cell (p := ⟨w.heap.size, 1, none⟩) (by show w.heap.size < v9.heap.size; omega)).trans s1
      replace o2 := (hb.cell (p := ⟨w2.heap.size, 2, none⟩) (by show w2.heap.size < v9.heap.size; omega)).trans o2
      replace s2 := (hb.cell (p := ⟨w.heap.size, 2, none⟩) (by show w.heap.size < v9.heap.size; omega)).trans s2
      replace o3 := (hb.cell (p := ⟨w2.heap.size, 3, none⟩) (by show w2.heap.size < v9.heap.size; omega)).trans o3
      replace s3 := (hb.cell (p := ⟨w.heap.size, 3, none⟩) (by show w.heap.size < v9.heap.size; omega)).trans s3
      replace o4 := (hb.cell (p := ⟨w2.heap.size, 4, none⟩) (by show w2.heap.size < v9.heap.size; omega)).trans o4
      replace s4 := (hb.cell (p := ⟨w.heap.size, 4, none⟩) (by show w.heap.size < v9.heap.size; omega)).trans s4
      replace sf := fun o => (hb.frozen (p := ⟨w.heap.size, o, none⟩) (by show w.heap.size < v9.heap.size; omega)).trans (sf o)
      replace HTc := Lib.hid (TrD.kept (fun b h1 h2 => hb.block b (by omega)) HTc.out)
      replace HBc := Lib.hid (HBc.out.trans (hb.mono (by omega)))

      replace hzc := Nat.le_trans hzc hb.size
      rw [hL] at hl4 hsz ⊢
      have HL4 := Lib.hid hl4
      clear hb hl4 hnew
      have hHeld3 : (fun w' : World => w'.cell? ⟨w2.heap.size, 0, none⟩ = some (.int .i64 tag) ∧ w'.cell? ⟨w2.heap.size, 1, none⟩ = some (.int .i64 key) ∧ w'.cell? ⟨w2.heap.size, 2, none⟩ = some (.string text) ∧ w'.cell? ⟨w2.heap.size, 3, none⟩ = some (.slice A0 ps.length c0) ∧ w'.cell? ⟨w2.heap.size, 4, none⟩ = some (.slice A1 ks.length c1)) v10 := ⟨o0, o1, o2, o3, o4⟩
      refine hK.out _ _ hHeld3 (fun hHeld2 => ?_)
      clear hHeld2 hHeld
      have hHeld := hHeld3
      clear hHeld3 hK K
      (try simp only [Act.put, List.getElem_toArray, List.getElem_cons_zero, List.getElem_cons_succ, List.setIfInBounds_toArray, List.set_cons_zero, List.set_cons_succ])
      have hr4 : r < 4 := by omega
      obtain ⟨ss, hss, hsc⟩ : ∃ ss : ByteArray, ss.size ≤ 14 ∧ v10.cell? ⟨L, r.toNat, none⟩ = some (.string ss) := str4b HL4.out r hr0 hr4
      refine wpAnyH_take (i := 4) (oi := _) (v := ?_) rfl (by kernel_rfl) (by kernel_rfl) (by kernel_rfl) (fun _ _ _ h => h) (Or.inl ⟨by kernel_rfl, ?_⟩) (by assumption) ?_
      rotate_left
      · (intro w hSw; (try dsimp only at hSw); go_simp)
        try with_reducible rfl
      (try simp only [Act.put, List.getElem_toArray, List.getElem_cons_zero, List.getElem_cons_succ, List.setIfInBounds_toArray, List.set_cons_zero, List.set_cons_succ])
      refine wpAnyH_ready (rs := [5]) (by kernel_rfl) (by simp) ?_
      refine AllReadyH.cons (o := _) rfl (fun K hK => ?_) AllReadyH.nil
      go_simp
      refine hK.out _ _ hHeld (fun hHeld2 => ?_)
      clear hK K hHeld2
      (try simp only [Act.put, List.getElem_toArray, List.getElem_cons_zero, List.getElem_cons_succ, List.setIfInBounds_toArray, List.set_cons_zero, List.set_cons_succ])
      refine wpAnyH_take (i := 7) (oi := _) (v := ?_) rfl (by kernel_rfl) (by kernel_rfl) (by kernel_rfl) (fun _ _ _ h => h) (Or.inl ⟨by kernel_rfl, ?_⟩) (by assumption) ?_
      rotate_left
      · (intro w hSw; (try dsimp only at hSw); go_simp)
        try with_reducible rfl
      (try simp only [Act.put, List.getElem_toArray, List.getElem_cons_zero, List.getElem_cons_succ, List.setIfInBounds_toArray, List.set_cons_zero, List.set_cons_succ])
      refine wpAnyH_done (by kernel_rfl) ?_ _
      obtain ⟨F0, f0, F1, f1, hfe, hp7, hk7, _⟩ := HTc.out.lies (by omega)
      simp only [Tr.tag, Tr.key, Tr.text, Tr.ps, Tr.ks, List.cons.injEq, Value.slice.injEq, true_and, and_true] at hfe hp7 hk7
      obtain ⟨⟨rfl, rfl⟩, rfl, rfl⟩ := hfe
      have HP7 := Lib.hid hp7
      have HK7b := Lib.hid hk7
      clear hHeld hp7 hk7
      go_wp2_with fail
      refine bodyPost_ret (v := .tuple #[.agg #[.int .i64 tag, .int .i64 key, .string text, .slice A0 ps.length c0, .slice A1 ks.length c1], .string ss]) (by simp [results, Tryz.results20, go_sem, *]) rfl ⟨A0, c0, A1, c1, .mk tag key text ps ks, ss, rfl, HP7.out, HK7b.out, HGd.out.gd, by omega, HBc.out⟩
end Go.Proofs.YtagaaeolgecdmaaGreatDoor
