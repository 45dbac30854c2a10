/- Trees and numbers of parts drawn: DrawPartWay. -/
import Derived.Test.YtpkhpaioddommaaDoorDwM
import Derived.Test.YtpkhpaioddommaaDoorGd1
import Derived.Deep.RegionHeld3
namespace Go.Proofs.YtpkhpaioddommaaDoor
open Go.Joins Go.ChangeShapes Go.WideShapes Go.ChangeAt Go.RowKit Go.Deep
set_option linter.unusedVariables false
set_option linter.unusedSimpArgs false

def DrawPX (w : World) (e : Ending) (w' : World) : Prop :=
  ∃ (A0 : Option Addr) (c0 : Nat) (A1 : Option Addr) (c1 : Nat) (t : Tr) (n : Int), e = .returned (.tuple #[.agg #[.int .i64 t.tag, .int .i64 t.key, .string t.text, .slice A0 t.ps.length c0, .slice A1 t.ks.length c1], .int .i64 n]) ∧ PrL w' A0 t.ps ∧ TrL w' 0 A1 t.ks ∧ GdT t ∧ -1 ≤ n ∧ n ≤ 256 ∧ Below w.heap.size w w'
set_option maxHeartbeats 8000000 in
set_option maxRecDepth 100000 in
theorem DrawPartWay_any (A : Option Addr) (len cap : Nat) (w : World) (hc : Code w w.heap.size A len) (hl : len ≤ maxLen) :
    Calls Tryd.prog 34 #[.slice A len cap] w (DrawPX w) := by
  have hb0 := Below.alloc (Below.refl w.heap.size w) (Nat.le_refl _) (.cells #[.int .i64 0, .int .i64 0, .string ⟨#[]⟩, .slice none 0 0, .slice none 0 0] 26)
  have HB0 := Lib.hid hb0
  have r0 : (w.alloc (.cells #[.int .i64 0, .int .i64 0, .string ⟨#[]⟩, .slice none 0 0, .slice none 0 0] 26)).cell? ⟨w.heap.size, 0, none⟩ = some (.int .i64 0) := by go_simp
  have r1 : (w.alloc (.cells #[.int .i64 0, .int .i64 0, .string ⟨#[]⟩, .slice none 0 0, .slice none 0 0] 26)).cell? ⟨w.heap.size, 1, none⟩ = some (.int .i64 0) := by go_simp
  have r2 : (w.alloc (.cells #[.int .i64 0, .int .i64 0, .string ⟨#[]⟩, .slice none 0 0, .slice none 0 0] 26)).cell? ⟨w.heap.size, 2, none⟩ = some (.string ⟨#[]⟩) := by go_simp
  have r3 : (w.alloc (.cells #[.int .i64 0, .int .i64 0, .string ⟨#[]⟩, .slice none 0 0, .slice none 0 0] 26)).cell? ⟨w.heap.size, 3, none⟩ = some (.slice none 0 0) := by go_simp
  have r4 : (w.alloc (.cells #[.int .i64 0, .int .i64 0, .string ⟨#[]⟩, .slice none 0 0, .slice none 0 0] 26)).cell? ⟨w.heap.size, 4, none⟩ = some (.slice none 0 0) := by go_simp
  have rf : ∀ o, (w.alloc (.cells #[.int .i64 0, .int .i64 0, .string ⟨#[]⟩, .slice none 0 0, .slice none 0 0] 26)).frozen? ⟨w.heap.size, o, none⟩ = false := fun o => by go_simp
  have hz : w.heap.size < (w.alloc (.cells #[.int .i64 0, .int .i64 0, .string ⟨#[]⟩, .slice none 0 0, .slice none 0 0] 26)).heap.size := by simp
  have HC := Lib.hid (Code.next hc hb0)
  obtain ⟨wc, hwc⟩ : ∃ wc, w.alloc (.cells #[.int .i64 0, .int .i64 0, .string ⟨#[]⟩, .slice none 0 0, .slice none 0 0] 26) = wc := ⟨_, rfl⟩
  rw [hwc] at HC HB0 r0 r1 r2 r3 r4 rf hz
  clear hc hb0
  go_enter Tryd.func34, Tryd.ntmps34
  have HS := Lib.hid (St.new (cap := cap) HC.out hl)
  go_wp2_with fail
  refine (newSource_any A len cap wc).mono ?_
  rintro e w1 ⟨rfl, rfl⟩
  have hb1 := Below.alloc (Below.refl wc.heap.size wc) (Nat.le_refl _) (.cells #[.slice A len cap, .int .i64 0, .int .i64 4000] 88)
  have HB1 := Lib.hid hb1
  have hz1 : wc.heap.size < (wc.alloc (.cells #[.slice A len cap, .int .i64 0, .int .i64 4000] 88)).heap.size := by simp
  replace r0 := (hb1.cell (p := ⟨w.heap.size, 0, none⟩) hz).trans r0
  replace r1 := (hb1.cell (p := ⟨w.heap.size, 1, none⟩) hz).trans r1
  replace r2 := (hb1.cell (p := ⟨w.heap.size, 2, none⟩) hz).trans r2
  replace r3 := (hb1.cell (p := ⟨w.heap.size, 3, none⟩) hz).trans r3
  replace r4 := (hb1.cell (p := ⟨w.heap.size, 4, none⟩) hz).trans r4
  replace rf := fun o => (hb1.frozen (p := ⟨w.heap.size, o, none⟩) hz).trans (rf o)
  clear hb1
  obtain ⟨w1, hw1⟩ : ∃ w1, wc.alloc (.cells #[.slice A len cap, .int .i64 0, .int .i64 4000] 88) = w1 := ⟨_, rfl⟩
  rw [hw1] at HS HB1 r0 r1 r2 r3 r4 rf hz1 ⊢
  clear hw1
  go_wp2_with fail
  refine (whole_any wc.heap.size A len cap w1 HS.out).mono ?_
  rintro e w2 ⟨A0, c0, A1, c1, ⟨tag, key, text, ps, ks⟩, rfl, hT, hGd, hs, hk⟩
  simp only [Tr.tag, Tr.key, Tr.text, Tr.ps, Tr.ks] at hT ⊢
  replace r0 := (hk.cell.1 w.heap.size 0 (by first | omega | (simp; done) | (simp; omega)) (by first | omega | (simp; done) | (simp; omega))).trans r0
  replace r1 := (hk.cell.1 w.heap.size 1 (by first | omega | (simp; done) | (simp; omega)) (by first | omega | (simp; done) | (simp; omega))).trans r1
  replace r2 := (hk.cell.1 w.heap.size 2 (by first | omega | (simp; done) | (simp; omega)) (by first | omega | (simp; done) | (simp; omega))).trans r2
  replace r3 := (hk.cell.1 w.heap.size 3 (by first | omega | (simp; done) | (simp; omega)) (by first | omega | (simp; done) | (simp; omega))).trans r3
  replace r4 := (hk.cell.1 w.heap.size 4 (by first | omega | (simp; done) | (simp; omega)) (by first | omega | (simp; done) | (simp; omega))).trans r4
  replace rf := fun o => (hk.cell.2 w.heap.size o (by first | omega | (simp; done) | (simp; omega)) (by first | omega | (simp; done) | (simp; omega))).trans (rf o)
  have HGd := Lib.hid hGd
  have hz2 := hk.size
  have HBa := Lib.hid ((HB0.out.trans (HB1.out.mono (Nat.le_of_lt hz))).trans ((hk.mono (Nat.le_of_lt (Nat.lt_trans hz hz1))).below (Nat.le_of_lt hz)))
  have hgw := hs.lt
  have hb3 := Below.alloc (Below.refl w2.heap.size w2) (Nat.le_refl _) (.cells #[.int .i64 tag, .int .i64 key, .string text, .slice A0 ps.length c0, .slice A1 ks.length c1] 26)
  have hbx : (w2.alloc (.cells #[.int .i64 tag, .int .i64 key, .string text, .slice A0 ps.length c0, .slice A1 ks.length c1] 26)).heap[w2.heap.size]? = some (.cells #[.int .i64 tag, .int .i64 key, .string text, .slice A0 ps.length c0, .slice A1 ks.length c1] 26 (0, 0)) := World.alloc_heap_new w2 _
  obtain ⟨o0, o1, o2, o3, o4⟩ := five_cells hbx
  replace r0 := (hb3.cell (p := ⟨w.heap.size, 0, none⟩) (by show w.heap.size < w2.heap.size; omega)).trans r0
  replace r1 := (hb3.cell (p := ⟨w.heap.size, 1, none⟩) (by show w.heap.size < w2.heap.size; omega)).trans r1
  replace r2 := (hb3.cell (p := ⟨w.heap.size, 2, none⟩) (by show w.heap.size < w2.heap.size; omega)).trans r2
  replace r3 := (hb3.cell (p := ⟨w.heap.size, 3, none⟩) (by show w.heap.size < w2.heap.size; omega)).trans r3
  replace r4 := (hb3.cell (p := ⟨w.heap.size, 4, none⟩) (by show w.heap.size < w2.heap.size; omega)).trans r4
  replace rf := fun o => (hb3.frozen (p := ⟨w.heap.size, o, none⟩) (by show w.heap.size < w2.heap.size; omega)).trans (rf o)
  have HTT := Lib.hid (TrD.kept (fun b _ h2 => hb3.block b h2) hT)
  have HS3 := Lib.hid (hs.below hb3)
  have HB3 := Lib.hid (HBa.out.trans (hb3.mono (by omega)))
  have hsm := gsm _ hGd
  have kz := fun w hk => streeSize_any (.mk tag key text ps ks) hsm 1 A0 A1 c0 c1 w hk (by omega)
  have hm := tsT_le 1 (.mk tag key text ps ks)
  generalize tsT 1 (.mk tag key text ps ks) = m at kz hm
  dsimp only [Tr.tag, Tr.key, Tr.text, Tr.ps, Tr.ks] at kz
  have KZ := Lib.hid kz
  obtain ⟨w3, hw3⟩ : ∃ w3, w2.alloc (.cells #[.int .i64 tag, .int .i64 key, .string text, .slice A0 ps.length c0, .slice A1 ks.length c1] 26) = w3 := ⟨_, rfl⟩
  have hz3 : w3.heap.size = w2.heap.size + 1 := by rw [← hw3]; simp
  rw [hw3] at o0 o1 o2 o3 o4 r0 r1 r2 r3 r4 rf HTT HS3 HB3
  have HW3 := Lib.hid hw3
  have htl : TrL w3 0 A1 ks := by
    obtain ⟨F0, f0, F1, f1, hfe, hp7, hk7, _⟩ := HTT.out.lies (by omega)
    simp only [Tr.tag, Tr.key, Tr.text, Tr.ps, Tr.ks, List.cons.injEq, Value.slice.injEq, true_and, and_true] at hfe hp7 hk7
    obtain ⟨⟨rfl, rfl⟩, rfl, rfl⟩ := hfe
    exact hk7
  have HTL := Lib.hid htl
  clear hT hGd hs hk HB0 HB1 HS HC hb3 hbx hw3 HBa hsm kz htl
  go_wp2_with fail
  rw [HW3.out]
  refine (KZ.out _ HTL.out).mono ?_
  rintro e w4 ⟨rfl, hb⟩
  replace o0 := (hb.cell (p := ⟨w2.heap.size, 0, none⟩) (by show w2.heap.size < w3.heap.size; omega)).trans o0
  replace r0 := (hb.cell (p := ⟨w.heap.size, 0, none⟩) (by show w.heap.size < w3.heap.size; omega)).trans r0
  replace o1 := (hb.cell (p := ⟨w2.heap.size, 1, none⟩) (by show w2.heap.size < w3.heap.size; omega)).trans o1
  replace r1 := (hb.cell (p := ⟨w.heap.size, 1, none⟩) (by show w.heap.size < w3.heap.size; omega)).trans r1
  replace o2 := (hb.cell (p := ⟨w2.heap.size, 2, none⟩) (by show w2.heap.size < w3.heap.size; omega)).trans o2
  replace r2 := (hb.cell (p := ⟨w.heap.size, 2, none⟩) (by show w.heap.size < w3.heap.size; omega)).trans r2
  replace o3 := (hb.cell (p := ⟨w2.heap.size, 3, none⟩) (by show w2.heap.size < w3.heap.size; omega)).trans o3
  replace r3 := (hb.cell (p := ⟨w.heap.size, 3, none⟩) (by show w.heap.size < w3.heap.size; omega)).trans r3
  replace o4 := (hb.cell (p := ⟨w2.heap.size, 4, none⟩) (by show w2.heap.size < w3.heap.size; omega)).trans o4
  replace r4 := (hb.cell (p := ⟨w.heap.size, 4, none⟩) (by show w.heap.size < w3.heap.size; omega)).trans r4
  replace rf := fun o => (hb.frozen (p := ⟨w.heap.size, o, none⟩) (by show w.heap.size < w3.heap.size; omega)).trans (rf o)
  have HT4 := Lib.hid (TrD.kept (fun b h1 h2 => hb.block b (by omega)) HTT.out)
  have HS4 := Lib.hid (HS3.out.below hb)
  have HB4 := Lib.hid (HB3.out.trans (hb.mono (by omega)))
  have hz4 : w3.heap.size ≤ w4.heap.size := hb.size
  have SO : Hid (∀ W, Keep wc.heap.size w4.heap.size w4 W → (fun w' : World => w'.cell? ⟨w2.heap.size, 0, none⟩ = some (.int .i64 tag) ∧ w'.cell? ⟨w2.heap.size, 1, none⟩ = some (.int .i64 key) ∧ w'.cell? ⟨w2.heap.size, 2, none⟩ = some (.string text) ∧ w'.cell? ⟨w2.heap.size, 3, none⟩ = some (.slice A0 ps.length c0) ∧ w'.cell? ⟨w2.heap.size, 4, none⟩ = some (.slice A1 ks.length c1)) W) := Lib.hid (fun W hk => ⟨(hk.cell.1 w2.heap.size 0 (by omega) (by omega)).trans o0, (hk.cell.1 w2.heap.size 1 (by omega) (by omega)).trans o1, (hk.cell.1 w2.heap.size 2 (by omega) (by omega)).trans o2, (hk.cell.1 w2.heap.size 3 (by omega) (by omega)).trans o3, (hk.cell.1 w2.heap.size 4 (by omega) (by omega)).trans o4⟩)
  have hkd : Keep wc.heap.size w4.heap.size w4 w4.drew := (Keep.refl _ _ w4).drew
  have HKD := Lib.hid hkd
  clear hb HTT HS3 HB3 HW3 KZ HTL hkd
  go_wp2_with fail
  refine wp_region_held_drew (S := fun w' : World => w'.cell? ⟨w2.heap.size, 0, none⟩ = some (.int .i64 tag) ∧ w'.cell? ⟨w2.heap.size, 1, none⟩ = some (.int .i64 key) ∧ w'.cell? ⟨w2.heap.size, 2, none⟩ = some (.string text) ∧ w'.cell? ⟨w2.heap.size, 3, none⟩ = some (.slice A0 ps.length c0) ∧ w'.cell? ⟨w2.heap.size, 4, none⟩ = some (.slice A1 ks.length c1)) (by kernel_rfl) (SO.out _ HKD.out) (fun hHeld => ?_)
  refine wpAnyH_take (i := 0) (oi := _) (v := ?_) rfl (by kernel_rfl) (by kernel_rfl) (by kernel_rfl) (fun _ _ _ h => h) (Or.inl ⟨by kernel_rfl, ?_⟩) (by assumption) ?_
  rotate_left
  · (intro w hSw; (try dsimp only at hSw); go_simp)
    try with_reducible rfl
  (try simp only [Act.put, List.getElem_toArray, List.getElem_cons_zero, List.getElem_cons_succ, List.setIfInBounds_toArray, List.set_cons_zero, List.set_cons_succ])
  refine wpAnyH_take (i := 1) (oi := _) (v := ?_) rfl (by kernel_rfl) (by kernel_rfl) (by kernel_rfl) (fun _ _ _ h => h) (Or.inl ⟨by kernel_rfl, ?_⟩) (by assumption) ?_
  rotate_left
  · (intro w hSw; (try dsimp only at hSw); go_simp)
    try with_reducible rfl
  (try simp only [Act.put, List.getElem_toArray, List.getElem_cons_zero, List.getElem_cons_succ, List.setIfInBounds_toArray, List.set_cons_zero, List.set_cons_succ])
  refine wpAnyH_take (i := 2) (oi := _) (v := ?_) rfl (by kernel_rfl) (by kernel_rfl) (by kernel_rfl) (fun _ _ _ h => h) (Or.inl ⟨by kernel_rfl, ?_⟩) (by assumption) ?_
  rotate_left
  · (intro w hSw; (try dsimp only at hSw); go_simp)
    try with_reducible rfl
  (try simp only [Act.put, List.getElem_toArray, List.getElem_cons_zero, List.getElem_cons_succ, List.setIfInBounds_toArray, List.set_cons_zero, List.set_cons_succ])
  refine wpAnyH_take (i := 3) (oi := _) (v := ?_) rfl (by kernel_rfl) (by kernel_rfl) (by kernel_rfl) (fun _ _ _ h => h) (Or.inl ⟨by kernel_rfl, ?_⟩) (by assumption) ?_
  rotate_left
  · (intro w hSw; (try dsimp only at hSw); go_simp)
    try with_reducible rfl
  (try simp only [Act.put, List.getElem_toArray, List.getElem_cons_zero, List.getElem_cons_succ, List.setIfInBounds_toArray, List.set_cons_zero, List.set_cons_succ])
  refine wpAnyH_take (i := 5) (oi := _) (v := ?_) rfl (by kernel_rfl) (by kernel_rfl) (by kernel_rfl) (fun _ _ _ h => h) (Or.inl ⟨by kernel_rfl, ?_⟩) (by assumption) ?_
  rotate_left
  · (intro w hSw; (try dsimp only at hSw); go_simp)
    try with_reducible rfl
  (try simp only [Act.put, List.getElem_toArray, List.getElem_cons_zero, List.getElem_cons_succ, List.setIfInBounds_toArray, List.set_cons_zero, List.set_cons_succ])
  refine wpAnyH_take (i := 6) (oi := _) (v := ?_) rfl (by kernel_rfl) (by kernel_rfl) (by kernel_rfl) (fun _ _ _ h => h) (Or.inl ⟨by kernel_rfl, ?_⟩) (by assumption) ?_
  rotate_left
  · (intro w hSw; (try dsimp only at hSw); go_simp)
    try with_reducible rfl
  (try simp only [Act.put, List.getElem_toArray, List.getElem_cons_zero, List.getElem_cons_succ, List.setIfInBounds_toArray, List.set_cons_zero, List.set_cons_succ])
  refine wpAnyH_take (i := 8) (oi := _) (v := ?_) rfl (by kernel_rfl) (by kernel_rfl) (by kernel_rfl) (fun _ _ _ h => h) (Or.inl ⟨by kernel_rfl, ?_⟩) (by assumption) ?_
  rotate_left
  · (intro w hSw; (try dsimp only at hSw); go_simp)
    try with_reducible rfl
  (try simp only [Act.put, List.getElem_toArray, List.getElem_cons_zero, List.getElem_cons_succ, List.setIfInBounds_toArray, List.set_cons_zero, List.set_cons_succ])
  refine wpAnyH_ready (rs := [4]) (by kernel_rfl) (by simp) ?_
  refine AllReadyH.cons (o := _) rfl (fun K hK => ?_) AllReadyH.nil
  go_simp
  refine (pick_any wc.heap.size A len cap (m : Int) _ HS4.out.drew (by omega)).mono ?_
  rintro e w5 ⟨p1, rfl, hp10, hp11, hs, hk⟩
  have HKw5 := Lib.hid (Keep.more HKD.out (Nat.le_refl _) hk)
  have HSw5 := Lib.hid hs
  refine hK.out _ _ (SO.out _ HKw5.out) (fun hHeld2 => ?_)
  have hHeld3 := SO.out _ HKw5.out
  clear hK K hHeld hHeld2 hs hk
  have hHeld := hHeld3
  clear hHeld3
  (try simp only [Act.put, List.getElem_toArray, List.getElem_cons_zero, List.getElem_cons_succ, List.setIfInBounds_toArray, List.set_cons_zero, List.set_cons_succ])
  refine wpAnyH_ready (rs := [7]) (by kernel_rfl) (by simp) ?_
  refine AllReadyH.cons (o := _) rfl (fun K hK => ?_) AllReadyH.nil
  go_simp
  refine (pick_any wc.heap.size A len cap (m : Int) _ HSw5.out (by omega)).mono ?_
  rintro e w6 ⟨p2, rfl, hp20, hp21, hs, hk⟩
  have HKw6 := Lib.hid (Keep.more HKw5.out (Nat.le_refl _) hk)
  have HSw6 := Lib.hid hs
  refine hK.out _ _ (SO.out _ HKw6.out) (fun hHeld2 => ?_)
  have hHeld3 := SO.out _ HKw6.out
  clear hK K hHeld hHeld2 hs hk
  have hHeld := hHeld3
  clear hHeld3
  (try simp only [Act.put, List.getElem_toArray, List.getElem_cons_zero, List.getElem_cons_succ, List.setIfInBounds_toArray, List.set_cons_zero, List.set_cons_succ])
  refine wpAnyH_ready (rs := [9]) (by kernel_rfl) (by simp) ?_
  refine AllReadyH.cons (o := _) rfl (fun K hK => ?_) AllReadyH.nil
  go_simp
  have hza : w4.heap.size ≤ w6.heap.size := HKw6.out.size
  have hga := HSw6.out.lt
  have HKa := Lib.hid (HKw6.out.alloc hza (.cells #[.int .i64 p1, .int .i64 p2, .int .i64 0, .int .i64 (m : Int), .int .i64 (-1)] 3))
  have HSa := Lib.hid (HSw6.out.alloc (.cells #[.int .i64 p1, .int .i64 p2, .int .i64 0, .int .i64 (m : Int), .int .i64 (-1)] 3))
  refine hK.out _ _ (SO.out _ HKa.out) (fun hHeld2 => ?_)
  have hHeld3 := SO.out _ HKa.out
  have hSm : Small (w6.alloc (.cells #[.int .i64 p1, .int .i64 p2, .int .i64 0, .int .i64 (m : Int), .int .i64 (-1)] 3)) w6.heap.size 5 (-1) 256 := fun i hi => by
    match i, hi with
    | 0, _ => exact ⟨p1, by omega, by omega, by go_simp⟩
    | 1, _ => exact ⟨p2, by omega, by omega, by go_simp⟩
    | 2, _ => exact ⟨0, by omega, by omega, by go_simp⟩
    | 3, _ => exact ⟨(m : Int), by omega, by omega, by go_simp⟩
    | 4, _ => exact ⟨-1, by omega, by omega, by go_simp⟩
  have HSM := Lib.hid hSm
  have hsza : w6.heap.size < (w6.alloc (.cells #[.int .i64 p1, .int .i64 p2, .int .i64 0, .int .i64 (m : Int), .int .i64 (-1)] 3)).heap.size := by simp
  obtain ⟨wa, hwa⟩ : ∃ v, w6.alloc (.cells #[.int .i64 p1, .int .i64 p2, .int .i64 0, .int .i64 (m : Int), .int .i64 (-1)] 3) = v := ⟨_, rfl⟩
  obtain ⟨ba, hba⟩ : ∃ v, w6.heap.size = v := ⟨_, rfl⟩
  rw [hwa] at HKa HSa hHeld3 HSM hsza ⊢
  rw [hba] at HSM hsza hga hza ⊢
  clear hK K hHeld hHeld2 hSm hwa hba HKw5 HKw6 HSw5 HSw6
  have hHeld := hHeld3
  clear hHeld3
  (try simp only [Act.put, List.getElem_toArray, List.getElem_cons_zero, List.getElem_cons_succ, List.setIfInBounds_toArray, List.set_cons_zero, List.set_cons_succ])
  refine wpAnyH_ready (rs := [10]) (by kernel_rfl) (by simp) ?_
  refine AllReadyH.cons (o := _) rfl (fun K hK => ?_) AllReadyH.nil
  go_simp
  refine (one_any wc.heap.size A len cap ba 5 5 (-1) 256 wa HSa.out hsza (by omega) HSM.out (by omega) (by omega)).mono ?_
  rintro e w7 ⟨z, rfl, hzz0, hzz1, hs, hk⟩
  have HK7 := Lib.hid (Keep.more HKa.out (Nat.le_refl _) hk)
  replace r0 := (HK7.out.cell.1 w.heap.size 0 (by omega) (by omega)).trans r0
  replace o0 := (HK7.out.cell.1 w2.heap.size 0 (by omega) (by omega)).trans o0
  replace r1 := (HK7.out.cell.1 w.heap.size 1 (by omega) (by omega)).trans r1
  replace o1 := (HK7.out.cell.1 w2.heap.size 1 (by omega) (by omega)).trans o1
  replace r2 := (HK7.out.cell.1 w.heap.size 2 (by omega) (by omega)).trans r2
  replace o2 := (HK7.out.cell.1 w2.heap.size 2 (by omega) (by omega)).trans o2
  replace r3 := (HK7.out.cell.1 w.heap.size 3 (by omega) (by omega)).trans r3
  replace o3 := (HK7.out.cell.1 w2.heap.size 3 (by omega) (by omega)).trans o3
  replace r4 := (HK7.out.cell.1 w.heap.size 4 (by omega) (by omega)).trans r4
  replace o4 := (HK7.out.cell.1 w2.heap.size 4 (by omega) (by omega)).trans o4
  replace rf := fun o => (HK7.out.cell.2 w.heap.size o (by omega) (by omega)).trans (rf o)
  refine hK.out _ _ (SO.out _ HK7.out) (fun hHeld2 => ?_)
  clear hK K hHeld hHeld2 hs hk
  have hHeld := SO.out _ HK7.out
  (try simp only [Act.put, List.getElem_toArray, List.getElem_cons_zero, List.getElem_cons_succ, List.setIfInBounds_toArray, List.set_cons_zero, List.set_cons_succ])
  have hSS : ∀ v0 v1 v2 v3 v4, (fun w' : World => w'.cell? ⟨w2.heap.size, 0, none⟩ = some (.int .i64 tag) ∧ w'.cell? ⟨w2.heap.size, 1, none⟩ = some (.int .i64 key) ∧ w'.cell? ⟨w2.heap.size, 2, none⟩ = some (.string text) ∧ w'.cell? ⟨w2.heap.size, 3, none⟩ = some (.slice A0 ps.length c0) ∧ w'.cell? ⟨w2.heap.size, 4, none⟩ = some (.slice A1 ks.length c1)) (((((w7.setCell ⟨w.heap.size, 0, none⟩ v0).setCell ⟨w.heap.size, 1, none⟩ v1).setCell ⟨w.heap.size, 2, none⟩ v2).setCell ⟨w.heap.size, 3, none⟩ v3).setCell ⟨w.heap.size, 4, none⟩ v4) := fun v0 v1 v2 v3 v4 => ⟨set5_cell (by omega) o0, set5_cell (by omega) o1, set5_cell (by omega) o2, set5_cell (by omega) o3, set5_cell (by omega) o4⟩
  refine wpAnyH_ready (rs := [11]) (by kernel_rfl) (by simp) ?_
  refine AllReadyH.cons (o := _) rfl (fun K hK => ?_) AllReadyH.nil
  go_simp
  refine hK.out _ _ (hSS _ _ _ _ _) (fun hHeld3 => ?_)
  clear hK K hHeld hSS
  (try simp only [Act.put, List.getElem_toArray, List.getElem_cons_zero, List.getElem_cons_succ, List.setIfInBounds_toArray, List.set_cons_zero, List.set_cons_succ])
  refine wpAnyH_take (i := 12) (oi := _) (v := ?_) rfl (by kernel_rfl) (by kernel_rfl) (by kernel_rfl) (fun _ _ _ h => h) (Or.inl ⟨by kernel_rfl, ?_⟩) (by assumption) ?_
  rotate_left
  · (intro w hSw; (try dsimp only at hSw); go_simp)
    try with_reducible rfl
  (try simp only [Act.put, List.getElem_toArray, List.getElem_cons_zero, List.getElem_cons_succ, List.setIfInBounds_toArray, List.set_cons_zero, List.set_cons_succ])
  refine wpAnyH_done (by kernel_rfl) ?_ _
  have hb7 : ∀ k, k ≠ w.heap.size → (((((w7.setCell ⟨w.heap.size, 0, none⟩ (.int .i64 tag)).setCell ⟨w.heap.size, 1, none⟩ (.int .i64 key)).setCell ⟨w.heap.size, 2, none⟩ (.string text)).setCell ⟨w.heap.size, 3, none⟩ (.slice A0 ps.length c0)).setCell ⟨w.heap.size, 4, none⟩ (.slice A1 ks.length c1)).heap[k]? = w7.heap[k]? := fun k hk => by
    rw [Below.heap_setCell _ _ _ _ hk, Below.heap_setCell _ _ _ _ hk, Below.heap_setCell _ _ _ _ hk, Below.heap_setCell _ _ _ _ hk, Below.heap_setCell _ _ _ _ hk]
  have hz7 := HK7.out.size
  have hT7 := TrD.kept (fun k h1 h2 => (hb7 k (by omega)).trans (HK7.out.block k (by omega) (by omega))) HT4.out
  obtain ⟨F0, f0, F1, f1, hfe, hp7, hk7, _⟩ := hT7.lies (by simp [World.setCell]; omega)
  simp only [Tr.tag, Tr.key, Tr.text, Tr.ps, Tr.ks, List.cons.injEq, Value.slice.injEq, true_and, and_true] at hfe hp7 hk7
  obtain ⟨⟨rfl, rfl⟩, rfl, rfl⟩ := hfe
  have HP7 := Lib.hid hp7
  have HK7b := Lib.hid hk7
  have HB7 := Lib.hid (HB4.out.trans ((HK7.out.mono (show w.heap.size ≤ w4.heap.size by omega)).below (by omega)))
  clear hHeld3 hp7 hk7 hT7 hb7
  go_wp2_with fail
  refine bodyPost_ret (v := .tuple #[.agg #[.int .i64 tag, .int .i64 key, .string text, .slice A0 ps.length c0, .slice A1 ks.length c1], .int .i64 z]) (by simp [results, Tryd.results34, go_sem, *]) rfl ⟨A0, c0, A1, c1, .mk tag key text ps ks, z, rfl, HP7.out, HK7b.out, HGd.out, hzz0, hzz1, ?_⟩
  exact (((((HB7.out.setCell (p := ⟨w.heap.size, 0, none⟩) (by simp) _).setCell (p := ⟨w.heap.size, 1, none⟩) (by simp) _).setCell (p := ⟨w.heap.size, 2, none⟩) (by simp) _).setCell (p := ⟨w.heap.size, 3, none⟩) (by simp) _).setCell (p := ⟨w.heap.size, 4, none⟩) (by simp) _)
end Go.Proofs.YtpkhpaioddommaaDoor
