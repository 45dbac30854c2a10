/- Histories: one step back, and a copy, by the program. -/
import Derived.Test.YtkofajjlkhamkaaHso7
namespace Go.Proofs.Ytkofajjlkhamkaa
open Go.Joins Go.ChangeShapes Go.WideShapes Go.ChangeAt Go.RowKit Go.Deep
set_option linter.unusedVariables false
set_option linter.unusedSimpArgs false

/-- A copy of a history, in blocks of its own. -/
def HcX (y : Hi) (w : World) (e : Ending) (w' : World) : Prop :=
  ∃ A0 c0 A1 c1 A2 c2, e = .returned (.agg #[.slice A0 y.now.length c0, .slice A1 y.back.length c1, .slice A2 y.ahead.length c2]) ∧ HiO w' w.heap.size w'.heap.size y A0 c0 A1 c1 A2 c2 ∧ Below w.heap.size w w'
/-- Nothing of it is longer than a million. -/
def SmMH (x : Hi) : Prop := SmM x.now ∧ (x.back.length ≤ 1000000 ∧ ∀ y ∈ x.back, SmM y) ∧ (x.ahead.length ≤ 1000000 ∧ ∀ y ∈ x.ahead, SmM y)
set_option maxRecDepth 100000 in
set_option maxHeartbeats 2000000 in
theorem copyHist_any (A0 A1 A2 : Option Addr) (c0 c1 c2 : Nat) (x : Hi) (w : World) (h : HiL w x A0 c0 A1 c1 A2 c2) (hs : SmMH x) :
    Calls Try.prog 22 #[.agg #[.slice A0 x.now.length c0, .slice A1 x.back.length c1, .slice A2 x.ahead.length c2]] w (HcX x w) := by
  obtain ⟨s0, ⟨l1, s1⟩, l2, s2⟩ := hs
  have k0 := fun w h => icopyStore_any A0 c0 x.now.length x.now w h rfl s0
  have k1 := fun w h => icopyStores_any A1 c1 x.back.length x.back w h rfl l1 s1
  have k2 := fun w h => icopyStores_any A2 c2 x.ahead.length x.ahead w h rfl l2 s2
  unfold HcX
  obtain ⟨n, hn⟩ : ∃ n, x.now.length = n := ⟨_, rfl⟩
  obtain ⟨m, hm⟩ : ∃ n, x.back.length = n := ⟨_, rfl⟩
  obtain ⟨q, hq⟩ : ∃ n, x.ahead.length = n := ⟨_, rfl⟩
  have HNN := Lib.hid hn
  have HMM := Lib.hid hm
  have HQQ := Lib.hid hq
  rw [hn] at k0 ⊢
  rw [hm] at k1 ⊢
  rw [hq] at k2 ⊢
  have hb0 : Below w.heap.size w ((w.alloc (.cells #[.slice A0 n c0, .slice A1 m c1, .slice A2 q c2] 30)).alloc (.cells #[.slice none 0 0, .slice none 0 0, .slice none 0 0] 30)) := by go_grown
  have hz : ((w.alloc (.cells #[.slice A0 n c0, .slice A1 m c1, .slice A2 q c2] 30)).alloc (.cells #[.slice none 0 0, .slice none 0 0, .slice none 0 0] 30)).heap.size = w.heap.size + 2 := by simp
  have a0 : ((w.alloc (.cells #[.slice A0 n c0, .slice A1 m c1, .slice A2 q c2] 30)).alloc (.cells #[.slice none 0 0, .slice none 0 0, .slice none 0 0] 30)).cell? ⟨w.heap.size, 0, none⟩ = some (.slice A0 n c0) := by go_simp
  have z0 : ((w.alloc (.cells #[.slice A0 n c0, .slice A1 m c1, .slice A2 q c2] 30)).alloc (.cells #[.slice none 0 0, .slice none 0 0, .slice none 0 0] 30)).cell? ⟨w.heap.size + 1, 0, none⟩ = some (.slice none 0 0) := by go_simp
  have a1 : ((w.alloc (.cells #[.slice A0 n c0, .slice A1 m c1, .slice A2 q c2] 30)).alloc (.cells #[.slice none 0 0, .slice none 0 0, .slice none 0 0] 30)).cell? ⟨w.heap.size, 1, none⟩ = some (.slice A1 m c1) := by go_simp
  have z1 : ((w.alloc (.cells #[.slice A0 n c0, .slice A1 m c1, .slice A2 q c2] 30)).alloc (.cells #[.slice none 0 0, .slice none 0 0, .slice none 0 0] 30)).cell? ⟨w.heap.size + 1, 1, none⟩ = some (.slice none 0 0) := by go_simp
  have a2 : ((w.alloc (.cells #[.slice A0 n c0, .slice A1 m c1, .slice A2 q c2] 30)).alloc (.cells #[.slice none 0 0, .slice none 0 0, .slice none 0 0] 30)).cell? ⟨w.heap.size, 2, none⟩ = some (.slice A2 q c2) := by go_simp
  have z2 : ((w.alloc (.cells #[.slice A0 n c0, .slice A1 m c1, .slice A2 q c2] 30)).alloc (.cells #[.slice none 0 0, .slice none 0 0, .slice none 0 0] 30)).cell? ⟨w.heap.size + 1, 2, none⟩ = some (.slice none 0 0) := by go_simp
  have zf : ∀ o, ((w.alloc (.cells #[.slice A0 n c0, .slice A1 m c1, .slice A2 q c2] 30)).alloc (.cells #[.slice none 0 0, .slice none 0 0, .slice none 0 0] 30)).frozen? ⟨w.heap.size + 1, o, none⟩ = false := fun o => by go_simp
  have hbd : Below ((w.alloc (.cells #[.slice A0 n c0, .slice A1 m c1, .slice A2 q c2] 30)).alloc (.cells #[.slice none 0 0, .slice none 0 0, .slice none 0 0] 30)).heap.size ((w.alloc (.cells #[.slice A0 n c0, .slice A1 m c1, .slice A2 q c2] 30)).alloc (.cells #[.slice none 0 0, .slice none 0 0, .slice none 0 0] 30)) ((w.alloc (.cells #[.slice A0 n c0, .slice A1 m c1, .slice A2 q c2] 30)).alloc (.cells #[.slice none 0 0, .slice none 0 0, .slice none 0 0] 30)).drew := Below.drew (Below.refl _ _)
  have hHeld0 : (fun w' : World => w'.cell? ⟨w.heap.size, 0, none⟩ = some (.slice A0 n c0) ∧ w'.cell? ⟨w.heap.size, 1, none⟩ = some (.slice A1 m c1) ∧ w'.cell? ⟨w.heap.size, 2, none⟩ = some (.slice A2 q c2)) ((w.alloc (.cells #[.slice A0 n c0, .slice A1 m c1, .slice A2 q c2] 30)).alloc (.cells #[.slice none 0 0, .slice none 0 0, .slice none 0 0] 30)).drew := ⟨a0, a1, a2⟩
  have HB := Lib.hid (more hb0 (Nat.le_refl _) hbd)
  have HH := Lib.hid ((h.below hb0).below hbd)
  have K0 := Lib.hid k0
  have K1 := Lib.hid k1
  have K2 := Lib.hid k2
  clear h k0 k1 k2 s0 s1 s2 l1 l2 hn hm hq
  go_enter Try.func22, Try.ntmps22
  go_wp2_with fail
  refine wp_region_held_drew (S := fun w' : World => w'.cell? ⟨w.heap.size, 0, none⟩ = some (.slice A0 n c0) ∧ w'.cell? ⟨w.heap.size, 1, none⟩ = some (.slice A1 m c1) ∧ w'.cell? ⟨w.heap.size, 2, none⟩ = some (.slice A2 q c2)) (by kernel_rfl) hHeld0 (fun hHeld => ?_)
  clear hHeld0
  replace z0 := (hbd.cell (p := ⟨w.heap.size + 1, 0, none⟩) (by show w.heap.size + 1 < _; omega)).trans z0
  replace z1 := (hbd.cell (p := ⟨w.heap.size + 1, 1, none⟩) (by show w.heap.size + 1 < _; omega)).trans z1
  replace z2 := (hbd.cell (p := ⟨w.heap.size + 1, 2, none⟩) (by show w.heap.size + 1 < _; omega)).trans z2
  replace zf := fun o => (hbd.frozen (p := ⟨w.heap.size + 1, o, none⟩) (by show w.heap.size + 1 < _; omega)).trans (zf o)
  have hzd : ((w.alloc (.cells #[.slice A0 n c0, .slice A1 m c1, .slice A2 q c2] 30)).alloc (.cells #[.slice none 0 0, .slice none 0 0, .slice none 0 0] 30)).drew.heap.size = w.heap.size + 2 := hz
  clear hbd hb0 hz a0 a1 a2
  obtain ⟨wd, hwd⟩ : ∃ qq, ((w.alloc (.cells #[.slice A0 n c0, .slice A1 m c1, .slice A2 q c2] 30)).alloc (.cells #[.slice none 0 0, .slice none 0 0, .slice none 0 0] 30)).drew = qq := ⟨_, rfl⟩
  rw [hwd] at HH HB hHeld z0 z1 z2 zf hzd ⊢
  have HZD := Lib.hid hzd
  have hlt_wd : w.heap.size + 1 < wd.heap.size := by omega
  clear hwd hzd
  refine wpAnyH_take (i := 0) (oi := _) (v := ?_) rfl (by kernel_rfl) (by kernel_rfl) (by kernel_rfl) (fun _ _ _ h => h) (Or.inl ⟨by kernel_rfl, ?_⟩) (by assumption) ?_
  rotate_left
  · (intro w hSw; (try dsimp only at hSw); go_simp)
    try with_reducible rfl
  (try simp only [Act.put, List.getElem_toArray, List.getElem_cons_zero, List.getElem_cons_succ, List.setIfInBounds_toArray, List.set_cons_zero, List.set_cons_succ])
  refine wpAnyH_take (i := 1) (oi := _) (v := ?_) rfl (by kernel_rfl) (by kernel_rfl) (by kernel_rfl) (fun _ _ _ h => h) (Or.inl ⟨by kernel_rfl, ?_⟩) (by assumption) ?_
  rotate_left
  · (intro w hSw; (try dsimp only at hSw); go_simp)
    try with_reducible rfl
  (try simp only [Act.put, List.getElem_toArray, List.getElem_cons_zero, List.getElem_cons_succ, List.setIfInBounds_toArray, List.set_cons_zero, List.set_cons_succ])
  refine wpAnyH_take (i := 3) (oi := _) (v := ?_) rfl (by kernel_rfl) (by kernel_rfl) (by kernel_rfl) (fun _ _ _ h => h) (Or.inl ⟨by kernel_rfl, ?_⟩) (by assumption) ?_
  rotate_left
  · (intro w hSw; (try dsimp only at hSw); go_simp)
    try with_reducible rfl
  (try simp only [Act.put, List.getElem_toArray, List.getElem_cons_zero, List.getElem_cons_succ, List.setIfInBounds_toArray, List.set_cons_zero, List.set_cons_succ])
  refine wpAnyH_take (i := 4) (oi := _) (v := ?_) rfl (by kernel_rfl) (by kernel_rfl) (by kernel_rfl) (fun _ _ _ h => h) (Or.inl ⟨by kernel_rfl, ?_⟩) (by assumption) ?_
  rotate_left
  · (intro w hSw; (try dsimp only at hSw); go_simp)
    try with_reducible rfl
  (try simp only [Act.put, List.getElem_toArray, List.getElem_cons_zero, List.getElem_cons_succ, List.setIfInBounds_toArray, List.set_cons_zero, List.set_cons_succ])
  refine wpAnyH_take (i := 6) (oi := _) (v := ?_) rfl (by kernel_rfl) (by kernel_rfl) (by kernel_rfl) (fun _ _ _ h => h) (Or.inl ⟨by kernel_rfl, ?_⟩) (by assumption) ?_
  rotate_left
  · (intro w hSw; (try dsimp only at hSw); go_simp)
    try with_reducible rfl
  (try simp only [Act.put, List.getElem_toArray, List.getElem_cons_zero, List.getElem_cons_succ, List.setIfInBounds_toArray, List.set_cons_zero, List.set_cons_succ])
  refine wpAnyH_take (i := 7) (oi := _) (v := ?_) rfl (by kernel_rfl) (by kernel_rfl) (by kernel_rfl) (fun _ _ _ h => h) (Or.inl ⟨by kernel_rfl, ?_⟩) (by assumption) ?_
  rotate_left
  · (intro w hSw; (try dsimp only at hSw); go_simp)
    try with_reducible rfl
  (try simp only [Act.put, List.getElem_toArray, List.getElem_cons_zero, List.getElem_cons_succ, List.setIfInBounds_toArray, List.set_cons_zero, List.set_cons_succ])
  refine wpAnyH_ready (rs := [2]) (by kernel_rfl) (by simp) ?_
  refine AllReadyH.cons (o := _) rfl (fun K hK => ?_) AllReadyH.nil
  go_simp
  refine (K0.out _ HH.out.1).mono ?_
  rintro e w1 ⟨B0, f0, rfl, h1, h2, hb⟩
  replace z0 := (hb.cell (p := ⟨w.heap.size + 1, 0, none⟩) hlt_wd).trans z0
  replace z1 := (hb.cell (p := ⟨w.heap.size + 1, 1, none⟩) hlt_wd).trans z1
  replace z2 := (hb.cell (p := ⟨w.heap.size + 1, 2, none⟩) hlt_wd).trans z2
  replace zf := fun o => (hb.frozen (p := ⟨w.heap.size + 1, o, none⟩) hlt_wd).trans (zf o)
  have hHeld3 : (fun w' : World => w'.cell? ⟨w.heap.size, 0, none⟩ = some (.slice A0 n c0) ∧ w'.cell? ⟨w.heap.size, 1, none⟩ = some (.slice A1 m c1) ∧ w'.cell? ⟨w.heap.size, 2, none⟩ = some (.slice A2 q c2)) w1 := ⟨(hb.cell (p := ⟨w.heap.size, 0, none⟩) (by show w.heap.size < _; omega)).trans hHeld.1, (hb.cell (p := ⟨w.heap.size, 1, none⟩) (by show w.heap.size < _; omega)).trans hHeld.2.1, (hb.cell (p := ⟨w.heap.size, 2, none⟩) (by show w.heap.size < _; omega)).trans hHeld.2.2⟩
  refine hK.out _ _ hHeld3 (fun hHeld2 => ?_)
  have hlt_w1 := Nat.lt_of_lt_of_le hlt_wd hb.size
  have HL_w1 := Lib.hid hb.size
  have C0 := Lib.hid h1
  have G0 := Lib.hid h2
  have HH1 := Lib.hid (HH.out.below hb)
  have HB1 := Lib.hid (more HB.out (Nat.le_refl _) hb)
  clear hHeld2 hHeld hK K hb h1 h2 HH HB
  have hHeld := hHeld3
  clear hHeld3
  (try simp only [Act.put, List.getElem_toArray, List.getElem_cons_zero, List.getElem_cons_succ, List.setIfInBounds_toArray, List.set_cons_zero, List.set_cons_succ])
  refine wpAnyH_ready (rs := [5]) (by kernel_rfl) (by simp) ?_
  refine AllReadyH.cons (o := _) rfl (fun K hK => ?_) AllReadyH.nil
  go_simp
  refine (K1.out _ HH1.out.2.1).mono ?_
  rintro e w2 ⟨B1, f1, rfl, h1, h2, hb⟩
  replace z0 := (hb.cell (p := ⟨w.heap.size + 1, 0, none⟩) hlt_w1).trans z0
  replace z1 := (hb.cell (p := ⟨w.heap.size + 1, 1, none⟩) hlt_w1).trans z1
  replace z2 := (hb.cell (p := ⟨w.heap.size + 1, 2, none⟩) hlt_w1).trans z2
  replace zf := fun o => (hb.frozen (p := ⟨w.heap.size + 1, o, none⟩) hlt_w1).trans (zf o)
  have hHeld3 : (fun w' : World => w'.cell? ⟨w.heap.size, 0, none⟩ = some (.slice A0 n c0) ∧ w'.cell? ⟨w.heap.size, 1, none⟩ = some (.slice A1 m c1) ∧ w'.cell? ⟨w.heap.size, 2, none⟩ = some (.slice A2 q c2)) w2 := ⟨(hb.cell (p := ⟨w.heap.size, 0, none⟩) (by show w.heap.size < _; omega)).trans hHeld.1, (hb.cell (p := ⟨w.heap.size, 1, none⟩) (by show w.heap.size < _; omega)).trans hHeld.2.1, (hb.cell (p := ⟨w.heap.size, 2, none⟩) (by show w.heap.size < _; omega)).trans hHeld.2.2⟩
  refine hK.out _ _ hHeld3 (fun hHeld2 => ?_)
  have hlt_w2 := Nat.lt_of_lt_of_le hlt_w1 hb.size
  have HL_w2 := Lib.hid hb.size
  have C1 := Lib.hid h1
  have G01 := Lib.hid (G0.out.below hb)
  have G1 := Lib.hid h2
  have HH2 := Lib.hid (HH1.out.below hb)
  have HB2 := Lib.hid (more HB1.out (Nat.le_refl _) hb)
  clear hHeld2 hHeld hK K hb h1 h2 HH1 HB1 G0
  have hHeld := hHeld3
  clear hHeld3
  (try simp only [Act.put, List.getElem_toArray, List.getElem_cons_zero, List.getElem_cons_succ, List.setIfInBounds_toArray, List.set_cons_zero, List.set_cons_succ])
  refine wpAnyH_ready (rs := [8]) (by kernel_rfl) (by simp) ?_
  refine AllReadyH.cons (o := _) rfl (fun K hK => ?_) AllReadyH.nil
  go_simp
  refine (K2.out _ HH2.out.2.2.1).mono ?_
  rintro e w3 ⟨B2, f2, rfl, h1, h2, hb⟩
  replace z0 := (hb.cell (p := ⟨w.heap.size + 1, 0, none⟩) hlt_w2).trans z0
  replace z1 := (hb.cell (p := ⟨w.heap.size + 1, 1, none⟩) hlt_w2).trans z1
  replace z2 := (hb.cell (p := ⟨w.heap.size + 1, 2, none⟩) hlt_w2).trans z2
  replace zf := fun o => (hb.frozen (p := ⟨w.heap.size + 1, o, none⟩) hlt_w2).trans (zf o)
  have hHeld3 : (fun w' : World => w'.cell? ⟨w.heap.size, 0, none⟩ = some (.slice A0 n c0) ∧ w'.cell? ⟨w.heap.size, 1, none⟩ = some (.slice A1 m c1) ∧ w'.cell? ⟨w.heap.size, 2, none⟩ = some (.slice A2 q c2)) w3 := ⟨(hb.cell (p := ⟨w.heap.size, 0, none⟩) (by show w.heap.size < _; omega)).trans hHeld.1, (hb.cell (p := ⟨w.heap.size, 1, none⟩) (by show w.heap.size < _; omega)).trans hHeld.2.1, (hb.cell (p := ⟨w.heap.size, 2, none⟩) (by show w.heap.size < _; omega)).trans hHeld.2.2⟩
  refine hK.out _ _ hHeld3 (fun hHeld2 => ?_)
  have hlt_w3 := Nat.lt_of_lt_of_le hlt_w2 hb.size
  have HL_w3 := Lib.hid hb.size
  have C2 := Lib.hid h1
  have G02 := Lib.hid (G01.out.below hb)
  have G12 := Lib.hid (G1.out.below hb)
  have G2 := Lib.hid h2
  have HB3 := Lib.hid (more HB2.out (Nat.le_refl _) hb)
  clear hHeld2 hHeld hK K hb h1 h2 HH2 HB2 G01 G1
  have hHeld := hHeld3
  clear hHeld3
  (try simp only [Act.put, List.getElem_toArray, List.getElem_cons_zero, List.getElem_cons_succ, List.setIfInBounds_toArray, List.set_cons_zero, List.set_cons_succ])
  refine wpAnyH_take (i := 9) (oi := _) (v := ?_) rfl (by kernel_rfl) (by kernel_rfl) (by kernel_rfl) (fun _ _ _ h => h) (Or.inl ⟨by kernel_rfl, ?_⟩) (by assumption) ?_
  rotate_left
  · (intro w hSw; (try dsimp only at hSw); go_simp)
    try with_reducible rfl
  (try simp only [Act.put, List.getElem_toArray, List.getElem_cons_zero, List.getElem_cons_succ, List.setIfInBounds_toArray, List.set_cons_zero, List.set_cons_succ])
  refine wpAnyH_ready (rs := [10]) (by kernel_rfl) (by simp) ?_
  refine AllReadyH.cons (o := _) rfl (fun K hK => ?_) AllReadyH.nil
  have kk : ∀ (y : World) (j i : Nat) (u : Value) (bb : Nat), bb ≠ w.heap.size + 1 → (y.setCell ⟨w.heap.size + 1, j, none⟩ u).cell? ⟨bb, i, none⟩ = y.cell? ⟨bb, i, none⟩ := fun y j i u bb hne => World.cell?_setCell_other _ _ _ _ (by intro e; injection e with e1 e2; omega)
  have hSS : ∀ p0 p1 p2, (fun w' : World => w'.cell? ⟨w.heap.size, 0, none⟩ = some (.slice A0 n c0) ∧ w'.cell? ⟨w.heap.size, 1, none⟩ = some (.slice A1 m c1) ∧ w'.cell? ⟨w.heap.size, 2, none⟩ = some (.slice A2 q c2)) (((w3.setCell ⟨w.heap.size + 1, 0, none⟩ (p0)).setCell ⟨w.heap.size + 1, 1, none⟩ (p1)).setCell ⟨w.heap.size + 1, 2, none⟩ (p2)) := fun p0 p1 p2 => by
    refine ⟨?_, ?_, ?_⟩
    all_goals (rw [kk _ _ _ _ _ (by omega), kk _ _ _ _ _ (by omega), kk _ _ _ _ _ (by omega)])
    · exact hHeld.1
    · exact hHeld.2.1
    · exact hHeld.2.2

  go_simp
  refine hK.out _ _ (hSS _ _ _) (fun hHeld2 => ?_)
  clear hK K hHeld hHeld2 hSS kk
  (try simp only [Act.put, List.getElem_toArray, List.getElem_cons_zero, List.getElem_cons_succ, List.setIfInBounds_toArray, List.set_cons_zero, List.set_cons_succ])
  refine wpAnyH_done (by kernel_rfl) ?_ _
  go_wp2_with fail
  have ht : ∀ p0 p1 p2, Turn (w.heap.size + 1) (w.heap.size + 2) w3 (((w3.setCell ⟨w.heap.size + 1, 0, none⟩ (p0)).setCell ⟨w.heap.size + 1, 1, none⟩ (p1)).setCell ⟨w.heap.size + 1, 2, none⟩ (p2)) := fun p0 p1 p2 => ((turn_set w3 ⟨w.heap.size + 1, 0, none⟩ p0).trans (turn_set _ ⟨w.heap.size + 1, 1, none⟩ p1)).trans (turn_set _ ⟨w.heap.size + 1, 2, none⟩ p2)
  have hsz : ∀ p0 p1 p2, (((w3.setCell ⟨w.heap.size + 1, 0, none⟩ (p0)).setCell ⟨w.heap.size + 1, 1, none⟩ (p1)).setCell ⟨w.heap.size + 1, 2, none⟩ (p2)).heap.size = w3.heap.size := fun p0 p1 p2 => by simp [World.setCell]
  have hbs : ∀ p0 p1 p2, Below (w.heap.size + 1) w3 (((w3.setCell ⟨w.heap.size + 1, 0, none⟩ (p0)).setCell ⟨w.heap.size + 1, 1, none⟩ (p1)).setCell ⟨w.heap.size + 1, 2, none⟩ (p2)) := fun p0 p1 p2 => (ht p0 p1 p2).below (Nat.le_refl _) (by omega)
  refine bodyPost_ret (v := .agg #[.slice B0 n f0, .slice B1 m f1, .slice B2 q f2]) (by simp [results, Try.results22, go_sem, *]) rfl ?_
  have hl1 := HL_w1.out
  have hl2 := HL_w2.out
  have hl3 := HL_w3.out
  have hzd := HZD.out
  refine ⟨B0, f0, B1, f1, B2, f2, rfl, ⟨by rw [HNN.out]; exact C0.out, by rw [HMM.out]; exact C1.out, by rw [HQQ.out]; exact C2.out, w1.heap.size, w2.heap.size, by omega, by omega, by rw [hsz]; omega, (G02.out.turn (ht _ _ _) (.inr (by omega))).mono (by omega) (Nat.le_refl _), G12.out.turn (ht _ _ _) (.inr (by omega)), (G2.out.turn (ht _ _ _) (.inr (by omega))).mono (Nat.le_refl _) (by rw [hsz]; exact Nat.le_refl _)⟩, HB3.out.trans ((hbs _ _ _).mono (by omega))⟩
set_option maxRecDepth 100000 in
set_option maxHeartbeats 2000000 in
theorem undone_any (A0 A1 A2 : Option Addr) (c0 c1 c2 k : Nat) (x : Hi) (w : World) (h : HiL w x A0 c0 A1 c1 A2 c2) (hk : x.back.length = k + 1) (hmb : k ≤ 1000000) (hma : x.ahead.length ≤ 1000000) (hmn : x.now.length ≤ 1000000) :
    Calls Try.prog 23 #[.agg #[.slice A0 x.now.length c0, .slice A1 x.back.length c1, .slice A2 x.ahead.length c2]] w (HlX (undoH x) w) := by
  obtain ⟨z, hzz⟩ := at_some (show k < x.back.length by omega)
  obtain ⟨b, off, rfl, hblt, hcell⟩ := h.2.1 (by omega)
  obtain ⟨B0, d0, e0, hce, hzl, hzd0⟩ := hcell k z hzz
  have hu2 : undoH x = ⟨z, x.back.take k, x.ahead ++ [x.now]⟩ := by
    unfold undoH
    have h1 : x.back.getLastD [] = z := by
      rw [List.getLastD_eq_getLast?, List.getLast?_eq_getElem?, hk, Nat.add_sub_cancel, hzz]
      rfl
    have h2 : x.back.dropLast = x.back.take k := by rw [List.dropLast_eq_take, hk, Nat.add_sub_cancel]
    rw [h1, h2]
  have HU := Lib.hid hu2
  obtain ⟨L0, hL0, hL1, hLc, hLk⟩ := h.2.2.1.cells
  have kw := fun wx (hb : Below w.heap.size w wx) => with_any A2 A0 x.ahead.length c2 x.now.length c0 L0 wx hL0 hL1 (fun hp => by
    obtain ⟨ad, e, hh⟩ := hLc hp
    exact ⟨ad, e, fun w' hb2 => hh w' (more hb (Nat.le_refl _) hb2)⟩) h.2.2.2.2.2 hma
  have hcap := h.2.2.2.2.1
  unfold HlX
  rw [hu2]
  obtain ⟨u, hu⟩ : ∃ u, z.length = u := ⟨_, rfl⟩
  have hbl : (x.back.take k).length = k := by rw [List.length_take]; omega
  have hal : (x.ahead ++ [x.now]).length = x.ahead.length + 1 := by simp
  dsimp only
  rw [hbl, hal, hu]
  rw [hu] at e0 hzd0
  have hst : StL w (some ⟨b, off, none⟩) (x.back.take k) := fun h0 => ⟨b, off, rfl, hblt, fun i xs hx => by
    rw [List.getElem?_take] at hx
    split at hx
    · exact hcell i xs hx
    · cases hx⟩
  obtain ⟨n, hn⟩ : ∃ n, x.now.length = n := ⟨_, rfl⟩
  obtain ⟨m, hm⟩ : ∃ n, x.back.length = n := ⟨_, rfl⟩
  obtain ⟨q, hq⟩ : ∃ n, x.ahead.length = n := ⟨_, rfl⟩
  have HNN := Lib.hid hn
  have HQQ := Lib.hid hq
  rw [hn] at kw ⊢
  rw [hq] at kw ⊢
  rw [hk] at hm
  subst hm
  rw [hk] at hcap ⊢
  obtain ⟨m, hm⟩ : ∃ m, k + 1 = m := ⟨_, rfl⟩
  have hmk : (m : Int) - 1 = (k : Int) := by omega
  have hkm : (k : Int) < (m : Int) := by omega
  have hk0 : (0 : Int) ≤ (k : Int) := by omega
  have hkc : (k : Int) ≤ (c1 : Int) := by omega
  have ew : IntKind.i64.wrap ((k : Nat) : Int) = (k : Int) := IntWalk.i64_in _ (by omega)
  rw [hm]
  have HM := Lib.hid hm
  clear hm
  have hb0 : Below w.heap.size w ((w.alloc (.cells #[.slice A0 n c0, .slice (some ⟨b, off, none⟩) m c1, .slice A2 q c2] 30)).alloc (.cells #[.slice none 0 0, .slice none 0 0, .slice none 0 0] 30)) := by go_grown
  have hz : ((w.alloc (.cells #[.slice A0 n c0, .slice (some ⟨b, off, none⟩) m c1, .slice A2 q c2] 30)).alloc (.cells #[.slice none 0 0, .slice none 0 0, .slice none 0 0] 30)).heap.size = w.heap.size + 2 := by simp
  have a0 : ((w.alloc (.cells #[.slice A0 n c0, .slice (some ⟨b, off, none⟩) m c1, .slice A2 q c2] 30)).alloc (.cells #[.slice none 0 0, .slice none 0 0, .slice none 0 0] 30)).cell? ⟨w.heap.size, 0, none⟩ = some (.slice A0 n c0) := by go_simp
  have z0 : ((w.alloc (.cells #[.slice A0 n c0, .slice (some ⟨b, off, none⟩) m c1, .slice A2 q c2] 30)).alloc (.cells #[.slice none 0 0, .slice none 0 0, .slice none 0 0] 30)).cell? ⟨w.heap.size + 1, 0, none⟩ = some (.slice none 0 0) := by go_simp
  have a1 : ((w.alloc (.cells #[.slice A0 n c0, .slice (some ⟨b, off, none⟩) m c1, .slice A2 q c2] 30)).alloc (.cells #[.slice none 0 0, .slice none 0 0, .slice none 0 0] 30)).cell? ⟨w.heap.size, 1, none⟩ = some (.slice (some ⟨b, off, none⟩) m c1) := by go_simp
  have z1 : ((w.alloc (.cells #[.slice A0 n c0, .slice (some ⟨b, off, none⟩) m c1, .slice A2 q c2] 30)).alloc (.cells #[.slice none 0 0, .slice none 0 0, .slice none 0 0] 30)).cell? ⟨w.heap.size + 1, 1, none⟩ = some (.slice none 0 0) := by go_simp
  have a2 : ((w.alloc (.cells #[.slice A0 n c0, .slice (some ⟨b, off, none⟩) m c1, .slice A2 q c2] 30)).alloc (.cells #[.slice none 0 0, .slice none 0 0, .slice none 0 0] 30)).cell? ⟨w.heap.size, 2, none⟩ = some (.slice A2 q c2) := by go_simp
  have z2 : ((w.alloc (.cells #[.slice A0 n c0, .slice (some ⟨b, off, none⟩) m c1, .slice A2 q c2] 30)).alloc (.cells #[.slice none 0 0, .slice none 0 0, .slice none 0 0] 30)).cell? ⟨w.heap.size + 1, 2, none⟩ = some (.slice none 0 0) := by go_simp
  have zf : ∀ o, ((w.alloc (.cells #[.slice A0 n c0, .slice (some ⟨b, off, none⟩) m c1, .slice A2 q c2] 30)).alloc (.cells #[.slice none 0 0, .slice none 0 0, .slice none 0 0] 30)).frozen? ⟨w.heap.size + 1, o, none⟩ = false := fun o => by go_simp
  have hbd : Below ((w.alloc (.cells #[.slice A0 n c0, .slice (some ⟨b, off, none⟩) m c1, .slice A2 q c2] 30)).alloc (.cells #[.slice none 0 0, .slice none 0 0, .slice none 0 0] 30)).heap.size ((w.alloc (.cells #[.slice A0 n c0, .slice (some ⟨b, off, none⟩) m c1, .slice A2 q c2] 30)).alloc (.cells #[.slice none 0 0, .slice none 0 0, .slice none 0 0] 30)) ((w.alloc (.cells #[.slice A0 n c0, .slice (some ⟨b, off, none⟩) m c1, .slice A2 q c2] 30)).alloc (.cells #[.slice none 0 0, .slice none 0 0, .slice none 0 0] 30)).drew := Below.drew (Below.refl _ _)
  have hHeld0 : (fun w' : World => w'.cell? ⟨w.heap.size, 0, none⟩ = some (.slice A0 n c0) ∧ w'.cell? ⟨w.heap.size, 1, none⟩ = some (.slice (some ⟨b, off, none⟩) m c1) ∧ w'.cell? ⟨w.heap.size, 2, none⟩ = some (.slice A2 q c2) ∧ w'.cell? ⟨b, off + k, none⟩ = some (.slice B0 u d0)) ((w.alloc (.cells #[.slice A0 n c0, .slice (some ⟨b, off, none⟩) m c1, .slice A2 q c2] 30)).alloc (.cells #[.slice none 0 0, .slice none 0 0, .slice none 0 0] 30)).drew := ⟨a0, a1, a2, ((hb0.cell (p := ⟨b, off + k, none⟩) hblt).trans e0)⟩
  have HB := Lib.hid (more hb0 (Nat.le_refl _) hbd)
  have HH := Lib.hid h
  have HST := Lib.hid hst
  have HCE := Lib.hid hce
  have HLK := Lib.hid hLk
  have HL0 := Lib.hid hL0
  have HR := Lib.hid (show z.length ≤ d0 ∧ k ≤ c1 from ⟨by rw [hu]; exact hzd0, by omega⟩)
  have KW := Lib.hid kw
  have hbw : b < w.heap.size := hblt
  have HUU := Lib.hid hu
  have HBL := Lib.hid hbl
  have HAL := Lib.hid hal
  clear h kw hst hce hL0 hL1 hLc hLk hcell hzz hn hq hu hbl hal hzl e0 hblt hcap hzd0 hu2
  go_enter Try.func23, Try.ntmps23
  go_wp2_with fail
  refine wp_region_held_drew (S := fun w' : World => w'.cell? ⟨w.heap.size, 0, none⟩ = some (.slice A0 n c0) ∧ w'.cell? ⟨w.heap.size, 1, none⟩ = some (.slice (some ⟨b, off, none⟩) m c1) ∧ w'.cell? ⟨w.heap.size, 2, none⟩ = some (.slice A2 q c2) ∧ w'.cell? ⟨b, off + k, none⟩ = some (.slice B0 u d0)) (by kernel_rfl) hHeld0 (fun hHeld => ?_)
  clear hHeld0
  replace z0 := (hbd.cell (p := ⟨w.heap.size + 1, 0, none⟩) (by show w.heap.size + 1 < _; omega)).trans z0
  replace z1 := (hbd.cell (p := ⟨w.heap.size + 1, 1, none⟩) (by show w.heap.size + 1 < _; omega)).trans z1
  replace z2 := (hbd.cell (p := ⟨w.heap.size + 1, 2, none⟩) (by show w.heap.size + 1 < _; omega)).trans z2
  replace zf := fun o => (hbd.frozen (p := ⟨w.heap.size + 1, o, none⟩) (by show w.heap.size + 1 < _; omega)).trans (zf o)
  have hzd : ((w.alloc (.cells #[.slice A0 n c0, .slice (some ⟨b, off, none⟩) m c1, .slice A2 q c2] 30)).alloc (.cells #[.slice none 0 0, .slice none 0 0, .slice none 0 0] 30)).drew.heap.size = w.heap.size + 2 := hz
  clear hbd hb0 hz a0 a1 a2
  obtain ⟨wd, hwd⟩ : ∃ qq, ((w.alloc (.cells #[.slice A0 n c0, .slice (some ⟨b, off, none⟩) m c1, .slice A2 q c2] 30)).alloc (.cells #[.slice none 0 0, .slice none 0 0, .slice none 0 0] 30)).drew = qq := ⟨_, rfl⟩
  rw [hwd] at HB hHeld z0 z1 z2 zf hzd ⊢
  have HZD := Lib.hid hzd
  have hlt_wd : w.heap.size + 1 < wd.heap.size := by omega
  clear hwd hzd
  refine wpAnyH_take (i := 0) (oi := _) (v := ?_) rfl (by kernel_rfl) (by kernel_rfl) (by kernel_rfl) (fun _ _ _ h => h) (Or.inl ⟨by kernel_rfl, ?_⟩) (by assumption) ?_
  rotate_left
  · (intro w hSw; (try dsimp only at hSw); go_simp)
    try with_reducible rfl
  (try simp only [Act.put, List.getElem_toArray, List.getElem_cons_zero, List.getElem_cons_succ, List.setIfInBounds_toArray, List.set_cons_zero, List.set_cons_succ])
  refine wpAnyH_take (i := 1) (oi := _) (v := ?_) rfl (by kernel_rfl) (by kernel_rfl) (by kernel_rfl) (fun _ _ _ h => h) (Or.inl ⟨by kernel_rfl, ?_⟩) (by assumption) ?_
  rotate_left
  · (intro w hSw; (try dsimp only at hSw); go_simp)
    try with_reducible rfl
  (try simp only [Act.put, List.getElem_toArray, List.getElem_cons_zero, List.getElem_cons_succ, List.setIfInBounds_toArray, List.set_cons_zero, List.set_cons_succ])
  refine wpAnyH_take (i := 2) (oi := _) (v := ?_) rfl (by kernel_rfl) (by kernel_rfl) (by kernel_rfl) (fun _ _ _ h => h) (Or.inl ⟨by kernel_rfl, ?_⟩) (by assumption) ?_
  rotate_left
  · (intro w hSw; (try dsimp only at hSw); go_simp)
    try with_reducible rfl
  (try simp only [Act.put, List.getElem_toArray, List.getElem_cons_zero, List.getElem_cons_succ, List.setIfInBounds_toArray, List.set_cons_zero, List.set_cons_succ])
  refine wpAnyH_take (i := 3) (oi := _) (v := ?_) rfl (by kernel_rfl) (by kernel_rfl) (by kernel_rfl) (fun _ _ _ h => h) (Or.inl ⟨by kernel_rfl, ?_⟩) (by assumption) ?_
  rotate_left
  · (intro w hSw; (try dsimp only at hSw); go_simp)
    try with_reducible rfl
  (try simp only [Act.put, List.getElem_toArray, List.getElem_cons_zero, List.getElem_cons_succ, List.setIfInBounds_toArray, List.set_cons_zero, List.set_cons_succ])
  refine wpAnyH_take (i := 4) (oi := _) (v := ?_) rfl (by kernel_rfl) (by kernel_rfl) (by kernel_rfl) (fun _ _ _ h => h) (Or.inl ⟨by kernel_rfl, ?_⟩) (by assumption) ?_
  rotate_left
  · (intro w hSw; (try dsimp only at hSw); go_simp)
    try with_reducible rfl
  (try simp only [Act.put, List.getElem_toArray, List.getElem_cons_zero, List.getElem_cons_succ, List.setIfInBounds_toArray, List.set_cons_zero, List.set_cons_succ])
  refine wpAnyH_take (i := 5) (oi := _) (v := ?_) rfl (by kernel_rfl) (by kernel_rfl) (by kernel_rfl) (fun _ _ _ h => h) (Or.inl ⟨by kernel_rfl, ?_⟩) (by assumption) ?_
  rotate_left
  · (intro w hSw; (try dsimp only at hSw); go_simp)
    try with_reducible rfl
  (try simp only [Act.put, List.getElem_toArray, List.getElem_cons_zero, List.getElem_cons_succ, List.setIfInBounds_toArray, List.set_cons_zero, List.set_cons_succ])
  refine wpAnyH_take (i := 6) (oi := _) (v := ?_) rfl (by kernel_rfl) (by kernel_rfl) (by kernel_rfl) (fun _ _ _ h => h) (Or.inl ⟨by kernel_rfl, ?_⟩) (by assumption) ?_
  rotate_left
  · (intro w hSw; (try dsimp only at hSw); go_simp)
    try with_reducible rfl
  (try simp only [Act.put, List.getElem_toArray, List.getElem_cons_zero, List.getElem_cons_succ, List.setIfInBounds_toArray, List.set_cons_zero, List.set_cons_succ])
  refine wpAnyH_take (i := 7) (oi := _) (v := ?_) rfl (by kernel_rfl) (by kernel_rfl) (by kernel_rfl) (fun _ _ _ h => h) (Or.inl ⟨by kernel_rfl, ?_⟩) (by assumption) ?_
  rotate_left
  · (intro w hSw; (try dsimp only at hSw); go_simp)
    try with_reducible rfl
  (try simp only [Act.put, List.getElem_toArray, List.getElem_cons_zero, List.getElem_cons_succ, List.setIfInBounds_toArray, List.set_cons_zero, List.set_cons_succ])
  refine wpAnyH_take (i := 8) (oi := _) (v := ?_) rfl (by kernel_rfl) (by kernel_rfl) (by kernel_rfl) (fun _ _ _ h => h) (Or.inl ⟨by kernel_rfl, ?_⟩) (by assumption) ?_
  rotate_left
  · (intro w hSw; (try dsimp only at hSw); go_simp)
    try with_reducible rfl
  (try simp only [Act.put, List.getElem_toArray, List.getElem_cons_zero, List.getElem_cons_succ, List.setIfInBounds_toArray, List.set_cons_zero, List.set_cons_succ])
  refine wpAnyH_take (i := 9) (oi := _) (v := ?_) rfl (by kernel_rfl) (by kernel_rfl) (by kernel_rfl) (fun _ _ _ h => h) (Or.inl ⟨by kernel_rfl, ?_⟩) (by assumption) ?_
  rotate_left
  · (intro w hSw; (try dsimp only at hSw); go_simp)
    try with_reducible rfl
  (try simp only [Act.put, List.getElem_toArray, List.getElem_cons_zero, List.getElem_cons_succ, List.setIfInBounds_toArray, List.set_cons_zero, List.set_cons_succ])
  refine wpAnyH_take (i := 10) (oi := _) (v := ?_) rfl (by kernel_rfl) (by kernel_rfl) (by kernel_rfl) (fun _ _ _ h => h) (Or.inl ⟨by kernel_rfl, ?_⟩) (by assumption) ?_
  rotate_left
  · (intro w hSw; (try dsimp only at hSw); go_simp)
    try with_reducible rfl
  (try simp only [Act.put, List.getElem_toArray, List.getElem_cons_zero, List.getElem_cons_succ, List.setIfInBounds_toArray, List.set_cons_zero, List.set_cons_succ])
  refine wpAnyH_take (i := 11) (oi := _) (v := ?_) rfl (by kernel_rfl) (by kernel_rfl) (by kernel_rfl) (fun _ _ _ h => h) (Or.inl ⟨by kernel_rfl, ?_⟩) (by assumption) ?_
  rotate_left
  · (intro w hSw; (try dsimp only at hSw); go_simp)
    try with_reducible rfl
  (try simp only [Act.put, List.getElem_toArray, List.getElem_cons_zero, List.getElem_cons_succ, List.setIfInBounds_toArray, List.set_cons_zero, List.set_cons_succ])
  refine wpAnyH_take (i := 12) (oi := _) (v := ?_) rfl (by kernel_rfl) (by kernel_rfl) (by kernel_rfl) (fun _ _ _ h => h) (Or.inl ⟨by kernel_rfl, ?_⟩) (by assumption) ?_
  rotate_left
  · (intro w hSw; (try dsimp only at hSw); go_simp)
    try with_reducible rfl
  (try simp only [Act.put, List.getElem_toArray, List.getElem_cons_zero, List.getElem_cons_succ, List.setIfInBounds_toArray, List.set_cons_zero, List.set_cons_succ])
  refine wpAnyH_ready (rs := [13]) (by kernel_rfl) (by simp) ?_
  refine AllReadyH.cons (o := _) rfl (fun K hK => ?_) AllReadyH.nil
  go_simp
  refine (KW.out _ HB.out).mono ?_
  rintro e w1 ⟨gg, cR, rfl, hR, hb⟩
  replace z0 := (hb.cell (p := ⟨w.heap.size + 1, 0, none⟩) hlt_wd).trans z0
  replace z1 := (hb.cell (p := ⟨w.heap.size + 1, 1, none⟩) hlt_wd).trans z1
  replace z2 := (hb.cell (p := ⟨w.heap.size + 1, 2, none⟩) hlt_wd).trans z2
  replace zf := fun o => (hb.frozen (p := ⟨w.heap.size + 1, o, none⟩) hlt_wd).trans (zf o)
  have hHeld3 : (fun w' : World => w'.cell? ⟨w.heap.size, 0, none⟩ = some (.slice A0 n c0) ∧ w'.cell? ⟨w.heap.size, 1, none⟩ = some (.slice (some ⟨b, off, none⟩) m c1) ∧ w'.cell? ⟨w.heap.size, 2, none⟩ = some (.slice A2 q c2) ∧ w'.cell? ⟨b, off + k, none⟩ = some (.slice B0 u d0)) w1 := ⟨(hb.cell (p := ⟨w.heap.size, 0, none⟩) (by show w.heap.size < _; omega)).trans hHeld.1, (hb.cell (p := ⟨w.heap.size, 1, none⟩) (by show w.heap.size < _; omega)).trans hHeld.2.1, (hb.cell (p := ⟨w.heap.size, 2, none⟩) (by show w.heap.size < _; omega)).trans hHeld.2.2.1, (hb.cell (p := ⟨b, off + k, none⟩) (by show b < _; omega)).trans hHeld.2.2.2⟩
  refine hK.out _ _ hHeld3 (fun hHeld2 => ?_)
  have hlt_w1 := Nat.lt_of_lt_of_le hlt_wd hb.size
  have HRR := Lib.hid hR
  have HB1 := Lib.hid (more HB.out (Nat.le_refl _) hb)
  clear hHeld2 hHeld hK K hb hR HB
  have hHeld := hHeld3
  clear hHeld3
  (try simp only [Act.put, List.getElem_toArray, List.getElem_cons_zero, List.getElem_cons_succ, List.setIfInBounds_toArray, List.set_cons_zero, List.set_cons_succ])
  refine wpAnyH_take (i := 14) (oi := _) (v := ?_) rfl (by kernel_rfl) (by kernel_rfl) (by kernel_rfl) (fun _ _ _ h => h) (Or.inl ⟨by kernel_rfl, ?_⟩) (by assumption) ?_
  rotate_left
  · (intro w hSw; (try dsimp only at hSw); go_simp)
    try with_reducible rfl
  (try simp only [Act.put, List.getElem_toArray, List.getElem_cons_zero, List.getElem_cons_succ, List.setIfInBounds_toArray, List.set_cons_zero, List.set_cons_succ])
  refine wpAnyH_ready (rs := [15]) (by kernel_rfl) (by simp) ?_
  refine AllReadyH.cons (o := _) rfl (fun K hK => ?_) AllReadyH.nil
  have kk : ∀ (y : World) (j i : Nat) (u : Value) (bb : Nat), bb ≠ w.heap.size + 1 → (y.setCell ⟨w.heap.size + 1, j, none⟩ u).cell? ⟨bb, i, none⟩ = y.cell? ⟨bb, i, none⟩ := fun y j i u bb hne => World.cell?_setCell_other _ _ _ _ (by intro e; injection e with e1 e2; omega)
  have hSS : ∀ p0 p1 p2, (fun w' : World => w'.cell? ⟨w.heap.size, 0, none⟩ = some (.slice A0 n c0) ∧ w'.cell? ⟨w.heap.size, 1, none⟩ = some (.slice (some ⟨b, off, none⟩) m c1) ∧ w'.cell? ⟨w.heap.size, 2, none⟩ = some (.slice A2 q c2) ∧ w'.cell? ⟨b, off + k, none⟩ = some (.slice B0 u d0)) (((w1.setCell ⟨w.heap.size + 1, 0, none⟩ (p0)).setCell ⟨w.heap.size + 1, 1, none⟩ (p1)).setCell ⟨w.heap.size + 1, 2, none⟩ (p2)) := fun p0 p1 p2 => by
    refine ⟨?_, ?_, ?_, ?_⟩
    all_goals (rw [kk _ _ _ _ _ (by omega), kk _ _ _ _ _ (by omega), kk _ _ _ _ _ (by omega)])
    · exact hHeld.1
    · exact hHeld.2.1
    · exact hHeld.2.2.1
    · exact hHeld.2.2.2
  go_simp
  refine hK.out _ _ (hSS _ _ _) (fun hHeld2 => ?_)
  clear hK K hHeld hHeld2 hSS kk
  (try simp only [Act.put, List.getElem_toArray, List.getElem_cons_zero, List.getElem_cons_succ, List.setIfInBounds_toArray, List.set_cons_zero, List.set_cons_succ])
  refine wpAnyH_done (by kernel_rfl) ?_ _
  go_wp2_with fail
  have ht : ∀ p0 p1 p2, Turn (w.heap.size + 1) (w.heap.size + 2) w1 (((w1.setCell ⟨w.heap.size + 1, 0, none⟩ (p0)).setCell ⟨w.heap.size + 1, 1, none⟩ (p1)).setCell ⟨w.heap.size + 1, 2, none⟩ (p2)) := fun p0 p1 p2 => ((turn_set w1 ⟨w.heap.size + 1, 0, none⟩ p0).trans (turn_set _ ⟨w.heap.size + 1, 1, none⟩ p1)).trans (turn_set _ ⟨w.heap.size + 1, 2, none⟩ p2)
  have hsz : ∀ p0 p1 p2, (((w1.setCell ⟨w.heap.size + 1, 0, none⟩ (p0)).setCell ⟨w.heap.size + 1, 1, none⟩ (p1)).setCell ⟨w.heap.size + 1, 2, none⟩ (p2)).heap.size = w1.heap.size := fun p0 p1 p2 => by simp [World.setCell]
  have hbs : ∀ p0 p1 p2, Below (w.heap.size + 1) w1 (((w1.setCell ⟨w.heap.size + 1, 0, none⟩ (p0)).setCell ⟨w.heap.size + 1, 1, none⟩ (p1)).setCell ⟨w.heap.size + 1, 2, none⟩ (p2)) := fun p0 p1 p2 => (ht p0 p1 p2).below (Nat.le_refl _) (by omega)
  refine bodyPost_ret (v := .agg #[.slice B0 u d0, .slice (some ⟨b, off, none⟩) k c1, .slice (some ⟨gg, 0, none⟩) (q + 1) cR]) (by simp [results, Try.results23, go_sem, *]) rfl ?_
  have hB := HB1.out.trans ((hbs (.slice B0 u d0) (.slice (some ⟨b, off, none⟩) k c1) (.slice (some ⟨gg, 0, none⟩) (q + 1) cR)).mono (by omega))
  have hzd := HZD.out
  have hgl := (HRR.out.lt gg rfl).1
  have hrow := (ht (.slice B0 u d0) (.slice (some ⟨b, off, none⟩) k c1) (.slice (some ⟨gg, 0, none⟩) (q + 1) cR)).own HRR.out (.inr (by omega))
  have hh := HH.out.below hB
  refine ⟨B0, d0, some ⟨b, off, none⟩, c1, some ⟨gg, 0, none⟩, cR, rfl, ?_, hB⟩
  refine ⟨HCE.out.below hB, HST.out.below hB, StL.of_row hrow HQQ.out HNN.out (by rw [HL0.out, HQQ.out]) (fun i y hy => ?_) hh.1 (by have := hh.2.2.2.1; have := HNN.out; omega) (by have := HNN.out; unfold maxLen; omega), HR.out.1, by rw [HBL.out]; exact HR.out.2, by rw [HAL.out, HQQ.out]; exact row_capG hrow⟩
  obtain ⟨A, c, h1, h2, h3⟩ := HLK.out i y hy
  exact ⟨A, c, h1, h2.below hB, h3⟩
end Go.Proofs.Ytkofajjlkhamkaa
