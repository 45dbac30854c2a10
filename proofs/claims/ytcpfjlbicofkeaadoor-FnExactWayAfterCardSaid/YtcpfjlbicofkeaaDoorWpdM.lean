/- Wpc3, Wpc4 in one text. -/
import Derived.Test.YtcpfjlbicofkeaaDoorWpcM
import Derived.Test.YtcpfjlbicofkeaaDoorTreM
import Derived.Test.YtcpfjlbicofkeaaDoorTre11
import Derived.Deep.RegionHeld3
namespace Go.Proofs.YtcpfjlbicofkeaaDoor
open Go.Maps
open Go.Joins Go.ChangeShapes Go.WideShapes Go.ChangeAt Go.RowKit Go.Deep
set_option linter.unusedVariables false
set_option linter.unusedSimpArgs false

theorem vpL_mem {sh : ByteArray → Bool} : ∀ {ks : List Tr} {x : Tr}, vpL sh ks = true → x ∈ ks → vpT sh x = true
  | [], x, _, h => by cases h
  | y :: ys, x, hv, h => by
    simp only [vpL, Bool.and_eq_true] at hv
    rcases List.mem_cons.1 h with rfl | h
    · exact hv.1
    · exact vpL_mem hv.2 h
/-- A valid part: a text without anything in it, or an element. -/
theorem vp_ways {sh : ByteArray → Bool} {t : Tr} (h : vpT sh t = true) : (t.tag = -1 ∧ t.ks = []) ∨ (0 ≤ t.tag ∧ t.tag ≤ 4 ∧ runP none t.ps = true) := by
  rw [vpT_eq, Bool.and_eq_true] at h
  have h1 := h.1
  unfold partB at h1
  split at h1
  · rename_i ht
    simp only [Bool.and_eq_true, List.isEmpty_iff] at h1
    exact .inl ⟨ht, h1.2.2.2⟩
  · simp only [Bool.and_eq_true, decide_eq_true_eq] at h1
    exact .inr ⟨h1.1.1, h1.1.2, h1.2.2.2.1⟩
theorem vp_kid {sh : ByteArray → Bool} {t x : Tr} (h : vpT sh t = true) (hx : x ∈ t.ks) : vpT sh x = true := by
  rw [vpT_eq, Bool.and_eq_true] at h
  exact vpL_mem h.2 hx
theorem size_small9 {t : Tr} (h : treeOkB t = true) : sizeT t ≤ 200 := (treeB_yes (show treeB shownB t = true from h)).2.2
theorem vp_of_ok {t : Tr} (h : treeOkB t = true) : vpT shownB t = true := by
  unfold treeOkB at h
  rw [Bool.and_eq_true] at h
  exact h.2
theorem wf_small {z : Int} (h0 : -1 ≤ z) (h1 : z ≤ 4) : (Lit.int .i64 z).wf = true := by
  have h : z = -1 ∨ z = 0 ∨ z = 1 ∨ z = 2 ∨ z = 3 ∨ z = 4 := by omega
  rcases h with rfl | rfl | rfl | rfl | rfl | rfl <;> decide
theorem len_size : ∀ ks : List Tr, ks.length ≤ sizeL ks
  | [] => by simp [sizeL]
  | x :: xs => by
    have h1 := len_size xs
    have h2 := sizeT_pos x
    simp only [sizeL, List.length_cons]
    omega
theorem kd_all (sh : ByteArray → Bool) : ∀ t : Tr, vpT sh t = true → sizeT t ≤ 1000 → KwT t → KdT t := Tr.by_kids fun t ih hv hs hk => by
  obtain ⟨k1, k2, _⟩ := hk.open_
  have h1 := sizeT_eq t
  have h2 := len_size t.ks
  exact ⟨by omega, fun x hx => ⟨by
    rcases vp_ways (vp_kid hv hx) with ⟨h3, _⟩ | ⟨h3, h4, _⟩
    · exact wf_small (z := x.tag) (by omega) (by omega)
    · exact wf_small (z := x.tag) (by omega) (by omega), k1 x hx⟩, fun x hx => ih x hx (vp_kid hv hx) (by have := sizeT_kid hx; omega) (k2 x hx)⟩
theorem kd_ok {t : Tr} (h : treeOkB t = true) (hk : KwT t) : KdT t := kd_all shownB t (vp_of_ok h) (by have := size_small9 h; omega) hk
set_option maxRecDepth 100000 in
set_option maxHeartbeats 8000000 in
theorem sWayAfter_any (a b : Tr) (zs : List Int) (n : Nat) (hn : zs.length = n) (hl : n ≤ 1048576) (hsa : SmT a) (hsb : SmT b) (hwa : KwT a) (hwb : KwT b) (A A0 A1 B0 B1 : Option Addr) (c c0 c1 e0 e1 : Nat) (w : World) (hpa : PrL w A0 a.ps) (ha : TrL w 0 A1 a.ks) (hpb : PrL w B0 b.ps) (hb : TrL w 0 B1 b.ks) (hz : IntL w A zs) :
    Calls Tryd.prog 6 #[.agg #[.int .i64 a.tag, .int .i64 a.key, .string a.text, .slice A0 a.ps.length c0, .slice A1 a.ks.length c1], .agg #[.int .i64 b.tag, .int .i64 b.key, .string b.text, .slice B0 b.ps.length e0, .slice B1 b.ks.length e1], .slice A n c] w (WaX (waT a b zs) w) := by
  have K1 := Lib.hid (fun w' (h : Below w.heap.size w w') => svalidTree_any a hsa A0 A1 c0 c1 w' (hpa.below h) (ha.below h))
  have K2 := Lib.hid (fun w' (h : Below w.heap.size w w') => svalidTree_any b hsb B0 B1 e0 e1 w' (hpb.below h) (hb.below h))
  have K3 := Lib.hid (fun w' (h : Below w.heap.size w w') => partAt_any a hsa zs (by unfold maxLen; omega) A A0 A1 c c0 c1 w' (hpa.below h) (ha.below h) (hz.below h))
  have K4 := Lib.hid (fun (h1 : treeOkB a = true) (h2 : treeOkB b = true) (hat : ∃ u, atT a zs = some u) w' (h : Below w.heap.size w w') => sway_any a b zs n hn hl (kd_ok h1 hwa) (kd_ok h2 hwb) hat A A0 A1 B0 B1 c c0 c1 e0 e1 w' (hz.below h) (ha.below h) (hb.below h))
  have HN := Lib.hid hn
  have HZ := Lib.hid hz
  have HPA := Lib.hid hpa
  have HA := Lib.hid ha
  have HPB := Lib.hid hpb
  have HBK := Lib.hid hb
  have hb0 : Below w.heap.size w ((w.alloc (.cells #[.int .i64 a.tag, .int .i64 a.key, .string a.text, .slice A0 a.ps.length c0, .slice A1 a.ks.length c1] 33)).alloc (.cells #[.int .i64 b.tag, .int .i64 b.key, .string b.text, .slice B0 b.ps.length e0, .slice B1 b.ks.length e1] 33)) := (Below.alloc (Below.refl w.heap.size w) (Nat.le_refl _) _).alloc (by simp) _
  have hsz : w.heap.size + 1 < ((w.alloc (.cells #[.int .i64 a.tag, .int .i64 a.key, .string a.text, .slice A0 a.ps.length c0, .slice A1 a.ks.length c1] 33)).alloc (.cells #[.int .i64 b.tag, .int .i64 b.key, .string b.text, .slice B0 b.ps.length e0, .slice B1 b.ks.length e1] 33)).heap.size := by simp
  have d0 : ((w.alloc (.cells #[.int .i64 a.tag, .int .i64 a.key, .string a.text, .slice A0 a.ps.length c0, .slice A1 a.ks.length c1] 33)).alloc (.cells #[.int .i64 b.tag, .int .i64 b.key, .string b.text, .slice B0 b.ps.length e0, .slice B1 b.ks.length e1] 33)).cell? ⟨w.heap.size, 0, none⟩ = some (.int .i64 a.tag) := by rw [Below.cell (Below.alloc (Below.refl (w.alloc (.cells #[.int .i64 a.tag, .int .i64 a.key, .string a.text, .slice A0 a.ps.length c0, .slice A1 a.ks.length c1] 33)).heap.size _) (Nat.le_refl _) _) (p := ⟨w.heap.size, 0, none⟩) (by simp), World.cell?_alloc_new]; rfl
  have d1 : ((w.alloc (.cells #[.int .i64 a.tag, .int .i64 a.key, .string a.text, .slice A0 a.ps.length c0, .slice A1 a.ks.length c1] 33)).alloc (.cells #[.int .i64 b.tag, .int .i64 b.key, .string b.text, .slice B0 b.ps.length e0, .slice B1 b.ks.length e1] 33)).cell? ⟨w.heap.size, 1, none⟩ = some (.int .i64 a.key) := by rw [Below.cell (Below.alloc (Below.refl (w.alloc (.cells #[.int .i64 a.tag, .int .i64 a.key, .string a.text, .slice A0 a.ps.length c0, .slice A1 a.ks.length c1] 33)).heap.size _) (Nat.le_refl _) _) (p := ⟨w.heap.size, 1, none⟩) (by simp), World.cell?_alloc_new]; rfl
  have d2 : ((w.alloc (.cells #[.int .i64 a.tag, .int .i64 a.key, .string a.text, .slice A0 a.ps.length c0, .slice A1 a.ks.length c1] 33)).alloc (.cells #[.int .i64 b.tag, .int .i64 b.key, .string b.text, .slice B0 b.ps.length e0, .slice B1 b.ks.length e1] 33)).cell? ⟨w.heap.size, 2, none⟩ = some (.string a.text) := by rw [Below.cell (Below.alloc (Below.refl (w.alloc (.cells #[.int .i64 a.tag, .int .i64 a.key, .string a.text, .slice A0 a.ps.length c0, .slice A1 a.ks.length c1] 33)).heap.size _) (Nat.le_refl _) _) (p := ⟨w.heap.size, 2, none⟩) (by simp), World.cell?_alloc_new]; rfl
  have d3 : ((w.alloc (.cells #[.int .i64 a.tag, .int .i64 a.key, .string a.text, .slice A0 a.ps.length c0, .slice A1 a.ks.length c1] 33)).alloc (.cells #[.int .i64 b.tag, .int .i64 b.key, .string b.text, .slice B0 b.ps.length e0, .slice B1 b.ks.length e1] 33)).cell? ⟨w.heap.size, 3, none⟩ = some (.slice A0 a.ps.length c0) := by rw [Below.cell (Below.alloc (Below.refl (w.alloc (.cells #[.int .i64 a.tag, .int .i64 a.key, .string a.text, .slice A0 a.ps.length c0, .slice A1 a.ks.length c1] 33)).heap.size _) (Nat.le_refl _) _) (p := ⟨w.heap.size, 3, none⟩) (by simp), World.cell?_alloc_new]; rfl
  have d4 : ((w.alloc (.cells #[.int .i64 a.tag, .int .i64 a.key, .string a.text, .slice A0 a.ps.length c0, .slice A1 a.ks.length c1] 33)).alloc (.cells #[.int .i64 b.tag, .int .i64 b.key, .string b.text, .slice B0 b.ps.length e0, .slice B1 b.ks.length e1] 33)).cell? ⟨w.heap.size, 4, none⟩ = some (.slice A1 a.ks.length c1) := by rw [Below.cell (Below.alloc (Below.refl (w.alloc (.cells #[.int .i64 a.tag, .int .i64 a.key, .string a.text, .slice A0 a.ps.length c0, .slice A1 a.ks.length c1] 33)).heap.size _) (Nat.le_refl _) _) (p := ⟨w.heap.size, 4, none⟩) (by simp), World.cell?_alloc_new]; rfl
  have z0 : ((w.alloc (.cells #[.int .i64 a.tag, .int .i64 a.key, .string a.text, .slice A0 a.ps.length c0, .slice A1 a.ks.length c1] 33)).alloc (.cells #[.int .i64 b.tag, .int .i64 b.key, .string b.text, .slice B0 b.ps.length e0, .slice B1 b.ks.length e1] 33)).cell? ⟨w.heap.size + 1, 0, none⟩ = some (.int .i64 b.tag) := by have h : ((w.alloc (.cells #[.int .i64 a.tag, .int .i64 a.key, .string a.text, .slice A0 a.ps.length c0, .slice A1 a.ks.length c1] 33)).alloc (.cells #[.int .i64 b.tag, .int .i64 b.key, .string b.text, .slice B0 b.ps.length e0, .slice B1 b.ks.length e1] 33)).cell? ⟨(w.alloc (.cells #[.int .i64 a.tag, .int .i64 a.key, .string a.text, .slice A0 a.ps.length c0, .slice A1 a.ks.length c1] 33)).heap.size, 0, none⟩ = some (.int .i64 b.tag) := (by rw [World.cell?_alloc_new]; rfl); rwa [World.size_alloc] at h
  have z1 : ((w.alloc (.cells #[.int .i64 a.tag, .int .i64 a.key, .string a.text, .slice A0 a.ps.length c0, .slice A1 a.ks.length c1] 33)).alloc (.cells #[.int .i64 b.tag, .int .i64 b.key, .string b.text, .slice B0 b.ps.length e0, .slice B1 b.ks.length e1] 33)).cell? ⟨w.heap.size + 1, 1, none⟩ = some (.int .i64 b.key) := by have h : ((w.alloc (.cells #[.int .i64 a.tag, .int .i64 a.key, .string a.text, .slice A0 a.ps.length c0, .slice A1 a.ks.length c1] 33)).alloc (.cells #[.int .i64 b.tag, .int .i64 b.key, .string b.text, .slice B0 b.ps.length e0, .slice B1 b.ks.length e1] 33)).cell? ⟨(w.alloc (.cells #[.int .i64 a.tag, .int .i64 a.key, .string a.text, .slice A0 a.ps.length c0, .slice A1 a.ks.length c1] 33)).heap.size, 1, none⟩ = some (.int .i64 b.key) := (by rw [World.cell?_alloc_new]; rfl); rwa [World.size_alloc] at h
  have z2 : ((w.alloc (.cells #[.int .i64 a.tag, .int .i64 a.key, .string a.text, .slice A0 a.ps.length c0, .slice A1 a.ks.length c1] 33)).alloc (.cells #[.int .i64 b.tag, .int .i64 b.key, .string b.text, .slice B0 b.ps.length e0, .slice B1 b.ks.length e1] 33)).cell? ⟨w.heap.size + 1, 2, none⟩ = some (.string b.text) := by have h : ((w.alloc (.cells #[.int .i64 a.tag, .int .i64 a.key, .string a.text, .slice A0 a.ps.length c0, .slice A1 a.ks.length c1] 33)).alloc (.cells #[.int .i64 b.tag, .int .i64 b.key, .string b.text, .slice B0 b.ps.length e0, .slice B1 b.ks.length e1] 33)).cell? ⟨(w.alloc (.cells #[.int .i64 a.tag, .int .i64 a.key, .string a.text, .slice A0 a.ps.length c0, .slice A1 a.ks.length c1] 33)).heap.size, 2, none⟩ = some (.string b.text) := (by rw [World.cell?_alloc_new]; rfl); rwa [World.size_alloc] at h
  have z3 : ((w.alloc (.cells #[.int .i64 a.tag, .int .i64 a.key, .string a.text, .slice A0 a.ps.length c0, .slice A1 a.ks.length c1] 33)).alloc (.cells #[.int .i64 b.tag, .int .i64 b.key, .string b.text, .slice B0 b.ps.length e0, .slice B1 b.ks.length e1] 33)).cell? ⟨w.heap.size + 1, 3, none⟩ = some (.slice B0 b.ps.length e0) := by have h : ((w.alloc (.cells #[.int .i64 a.tag, .int .i64 a.key, .string a.text, .slice A0 a.ps.length c0, .slice A1 a.ks.length c1] 33)).alloc (.cells #[.int .i64 b.tag, .int .i64 b.key, .string b.text, .slice B0 b.ps.length e0, .slice B1 b.ks.length e1] 33)).cell? ⟨(w.alloc (.cells #[.int .i64 a.tag, .int .i64 a.key, .string a.text, .slice A0 a.ps.length c0, .slice A1 a.ks.length c1] 33)).heap.size, 3, none⟩ = some (.slice B0 b.ps.length e0) := (by rw [World.cell?_alloc_new]; rfl); rwa [World.size_alloc] at h
  have z4 : ((w.alloc (.cells #[.int .i64 a.tag, .int .i64 a.key, .string a.text, .slice A0 a.ps.length c0, .slice A1 a.ks.length c1] 33)).alloc (.cells #[.int .i64 b.tag, .int .i64 b.key, .string b.text, .slice B0 b.ps.length e0, .slice B1 b.ks.length e1] 33)).cell? ⟨w.heap.size + 1, 4, none⟩ = some (.slice B1 b.ks.length e1) := by have h : ((w.alloc (.cells #[.int .i64 a.tag, .int .i64 a.key, .string a.text, .slice A0 a.ps.length c0, .slice A1 a.ks.length c1] 33)).alloc (.cells #[.int .i64 b.tag, .int .i64 b.key, .string b.text, .slice B0 b.ps.length e0, .slice B1 b.ks.length e1] 33)).cell? ⟨(w.alloc (.cells #[.int .i64 a.tag, .int .i64 a.key, .string a.text, .slice A0 a.ps.length c0, .slice A1 a.ks.length c1] 33)).heap.size, 4, none⟩ = some (.slice B1 b.ks.length e1) := (by rw [World.cell?_alloc_new]; rfl); rwa [World.size_alloc] at h
  obtain ⟨ok1, ho1⟩ : ∃ v, treeOkB a = v := ⟨_, rfl⟩
  obtain ⟨ok2, ho2⟩ : ∃ v, treeOkB b = v := ⟨_, rfl⟩
  rw [ho1] at K1
  rw [ho2] at K2
  have HO1 := Lib.hid ho1
  have HO2 := Lib.hid ho2
  obtain ⟨W, hW⟩ : ∃ q, waT a b zs = q := ⟨_, rfl⟩
  rw [hW]
  have HW := Lib.hid hW
  obtain ⟨X, hX⟩ : ∃ X, WaX W w = X := ⟨_, rfl⟩
  have HX := Lib.hid hX
  rw [hX]
  have HB := Lib.hid hb0
  have HNO := Lib.hid (show ∀ v, (if (ok1 && ok2) && decide (kin a = kin b) then waV a b zs else none) = v → W = v from fun v e => by rw [← HW.out, ← e]; unfold waT; rw [HO1.out, HO2.out])
  rw [hn] at K3
  obtain ⟨w0, hw0⟩ : ∃ v, ((w.alloc (.cells #[.int .i64 a.tag, .int .i64 a.key, .string a.text, .slice A0 a.ps.length c0, .slice A1 a.ks.length c1] 33)).alloc (.cells #[.int .i64 b.tag, .int .i64 b.key, .string b.text, .slice B0 b.ps.length e0, .slice B1 b.ks.length e1] 33)) = v := ⟨_, rfl⟩
  rw [hw0] at d0 d1 d2 d3 d4 z0 z1 z2 z3 z4 HB hsz
  have HW0 := Lib.hid hw0
  clear hn hz hpa ha hpb hb hb0 ho1 ho2 hW hX hw0 hsa hsb hwa hwb
  go_enter Tryd.func6, Tryd.ntmps6
  go_wp2_with fail
  (try rw [HW0.out])
  refine (K1.out _ HB.out).mono ?_
  rintro e w1 ⟨rfl, hb⟩
  replace d0 := (hb.cell (p := ⟨w.heap.size, 0, none⟩) (by show w.heap.size < w0.heap.size; omega)).trans d0
  replace z0 := (hb.cell (p := ⟨w.heap.size + 1, 0, none⟩) (by show w.heap.size + 1 < w0.heap.size; omega)).trans z0
  replace d1 := (hb.cell (p := ⟨w.heap.size, 1, none⟩) (by show w.heap.size < w0.heap.size; omega)).trans d1
  replace z1 := (hb.cell (p := ⟨w.heap.size + 1, 1, none⟩) (by show w.heap.size + 1 < w0.heap.size; omega)).trans z1
  replace d2 := (hb.cell (p := ⟨w.heap.size, 2, none⟩) (by show w.heap.size < w0.heap.size; omega)).trans d2
  replace z2 := (hb.cell (p := ⟨w.heap.size + 1, 2, none⟩) (by show w.heap.size + 1 < w0.heap.size; omega)).trans z2
  replace d3 := (hb.cell (p := ⟨w.heap.size, 3, none⟩) (by show w.heap.size < w0.heap.size; omega)).trans d3
  replace z3 := (hb.cell (p := ⟨w.heap.size + 1, 3, none⟩) (by show w.heap.size + 1 < w0.heap.size; omega)).trans z3
  replace d4 := (hb.cell (p := ⟨w.heap.size, 4, none⟩) (by show w.heap.size < w0.heap.size; omega)).trans d4
  replace z4 := (hb.cell (p := ⟨w.heap.size + 1, 4, none⟩) (by show w.heap.size + 1 < w0.heap.size; omega)).trans z4
  replace HB := Lib.hid (more HB.out (Nat.le_refl _) hb)
  replace hsz := Nat.lt_of_lt_of_le hsz hb.size
  clear hb K1 HW0
  cases ok1
  · go_wp2_with fail
    rw [← HX.out, HNO.out none (by simp)]
    exact wax_none HB.out
  go_wp2_with fail
  refine (K2.out _ HB.out).mono ?_
  rintro e w2 ⟨rfl, hb⟩
  replace d0 := (hb.cell (p := ⟨w.heap.size, 0, none⟩) (by show w.heap.size < w1.heap.size; omega)).trans d0
  replace z0 := (hb.cell (p := ⟨w.heap.size + 1, 0, none⟩) (by show w.heap.size + 1 < w1.heap.size; omega)).trans z0
  replace d1 := (hb.cell (p := ⟨w.heap.size, 1, none⟩) (by show w.heap.size < w1.heap.size; omega)).trans d1
  replace z1 := (hb.cell (p := ⟨w.heap.size + 1, 1, none⟩) (by show w.heap.size + 1 < w1.heap.size; omega)).trans z1
  replace d2 := (hb.cell (p := ⟨w.heap.size, 2, none⟩) (by show w.heap.size < w1.heap.size; omega)).trans d2
  replace z2 := (hb.cell (p := ⟨w.heap.size + 1, 2, none⟩) (by show w.heap.size + 1 < w1.heap.size; omega)).trans z2
  replace d3 := (hb.cell (p := ⟨w.heap.size, 3, none⟩) (by show w.heap.size < w1.heap.size; omega)).trans d3
  replace z3 := (hb.cell (p := ⟨w.heap.size + 1, 3, none⟩) (by show w.heap.size + 1 < w1.heap.size; omega)).trans z3
  replace d4 := (hb.cell (p := ⟨w.heap.size, 4, none⟩) (by show w.heap.size < w1.heap.size; omega)).trans d4
  replace z4 := (hb.cell (p := ⟨w.heap.size + 1, 4, none⟩) (by show w.heap.size + 1 < w1.heap.size; omega)).trans z4
  replace HB := Lib.hid (more HB.out (Nat.le_refl _) hb)
  replace hsz := Nat.lt_of_lt_of_le hsz hb.size
  clear hb K2
  cases ok2
  · go_wp2_with fail
    rw [← HX.out, HNO.out none (by simp)]
    exact wax_none HB.out
  go_wp2_with fail
  refine (K3.out _ HB.out).mono ?_
  rintro e w3 ⟨hb, hor⟩
  replace d0 := (hb.cell (p := ⟨w.heap.size, 0, none⟩) (by show w.heap.size < w2.heap.size; omega)).trans d0
  replace z0 := (hb.cell (p := ⟨w.heap.size + 1, 0, none⟩) (by show w.heap.size + 1 < w2.heap.size; omega)).trans z0
  replace d1 := (hb.cell (p := ⟨w.heap.size, 1, none⟩) (by show w.heap.size < w2.heap.size; omega)).trans d1
  replace z1 := (hb.cell (p := ⟨w.heap.size + 1, 1, none⟩) (by show w.heap.size + 1 < w2.heap.size; omega)).trans z1
  replace d2 := (hb.cell (p := ⟨w.heap.size, 2, none⟩) (by show w.heap.size < w2.heap.size; omega)).trans d2
  replace z2 := (hb.cell (p := ⟨w.heap.size + 1, 2, none⟩) (by show w.heap.size + 1 < w2.heap.size; omega)).trans z2
  replace d3 := (hb.cell (p := ⟨w.heap.size, 3, none⟩) (by show w.heap.size < w2.heap.size; omega)).trans d3
  replace z3 := (hb.cell (p := ⟨w.heap.size + 1, 3, none⟩) (by show w.heap.size + 1 < w2.heap.size; omega)).trans z3
  replace d4 := (hb.cell (p := ⟨w.heap.size, 4, none⟩) (by show w.heap.size < w2.heap.size; omega)).trans d4
  replace z4 := (hb.cell (p := ⟨w.heap.size + 1, 4, none⟩) (by show w.heap.size + 1 < w2.heap.size; omega)).trans z4
  replace HB := Lib.hid (more HB.out (Nat.le_refl _) hb)
  replace hsz := Nat.lt_of_lt_of_le hsz hb.size
  clear hb K3
  rcases hor with ⟨hnone, rfl⟩ | ⟨x, P0, P1, f0, f1, hx, _, _, _, rfl⟩
  · have HNV := Lib.hid (show W = none from HNO.out none (by rw [waV_at zs a b hnone]; simp))
    go_wp2_with fail
    rw [← HX.out, HNV.out]
    exact wax_none (more HB.out (Nat.le_refl _) (by go_grown))
  have K5 := Lib.hid (K4.out HO1.out HO2.out ⟨x, hx⟩)
  rw [← HNO.out (if kin a = kin b then waV a b zs else none) (by by_cases h : kin a = kin b <;> simp [h])] at K5
  have hba := Below.alloc (Below.refl w3.heap.size w3) (Nat.le_refl _) (.cells #[.int .i64 x.tag, .int .i64 x.key, .string x.text, .slice P0 x.ps.length f0, .slice P1 x.ks.length f1] 33)
  have HB4 := Lib.hid (more HB.out (Nat.le_refl _) hba)
  have hb := hba
  replace d0 := (hb.cell (p := ⟨w.heap.size, 0, none⟩) (by show w.heap.size < w3.heap.size; omega)).trans d0
  replace z0 := (hb.cell (p := ⟨w.heap.size + 1, 0, none⟩) (by show w.heap.size + 1 < w3.heap.size; omega)).trans z0
  replace d1 := (hb.cell (p := ⟨w.heap.size, 1, none⟩) (by show w.heap.size < w3.heap.size; omega)).trans d1
  replace z1 := (hb.cell (p := ⟨w.heap.size + 1, 1, none⟩) (by show w.heap.size + 1 < w3.heap.size; omega)).trans z1
  replace d2 := (hb.cell (p := ⟨w.heap.size, 2, none⟩) (by show w.heap.size < w3.heap.size; omega)).trans d2
  replace z2 := (hb.cell (p := ⟨w.heap.size + 1, 2, none⟩) (by show w.heap.size + 1 < w3.heap.size; omega)).trans z2
  replace d3 := (hb.cell (p := ⟨w.heap.size, 3, none⟩) (by show w.heap.size < w3.heap.size; omega)).trans d3
  replace z3 := (hb.cell (p := ⟨w.heap.size + 1, 3, none⟩) (by show w.heap.size + 1 < w3.heap.size; omega)).trans z3
  replace d4 := (hb.cell (p := ⟨w.heap.size, 4, none⟩) (by show w.heap.size < w3.heap.size; omega)).trans d4
  replace z4 := (hb.cell (p := ⟨w.heap.size + 1, 4, none⟩) (by show w.heap.size + 1 < w3.heap.size; omega)).trans z4
  replace HB := Lib.hid (more HB.out (Nat.le_refl _) hb)
  replace hsz := Nat.lt_of_lt_of_le hsz hb.size
  have hw4 := HB4.out.size
  clear K4 hx hba hb HB
  obtain ⟨wq, hwq⟩ : ∃ v, w3.alloc (.cells #[.int .i64 x.tag, .int .i64 x.key, .string x.text, .slice P0 x.ps.length f0, .slice P1 x.ks.length f1] 33) = v := ⟨_, rfl⟩
  rw [hwq] at d0 d1 d2 d3 d4 z0 z1 z2 z3 z4 HB4 hsz hw4
  go_wp2_with fail
  refine (K5.out _ HB4.out).mono ?_
  rintro e w5 ⟨R, r, rfl, ho, hb⟩
  have HB5 := Lib.hid (more HB4.out (Nat.le_refl _) hb)
  have HO5 := Lib.hid (row_less ho hw4)
  clear ho hb K5
  go_wp2_with fail
  rw [← HX.out]
  exact ⟨R, r, rfl, HO5.out, HB5.out⟩
end Go.Proofs.YtcpfjlbicofkeaaDoor

namespace Go.Proofs.YtcpfjlbicofkeaaDoor
open Go.Maps
open Go.Joins Go.ChangeShapes Go.WideShapes Go.ChangeAt Go.RowKit Go.Deep
set_option linter.unusedVariables false
set_option linter.unusedSimpArgs false

set_option maxRecDepth 100000 in
set_option maxHeartbeats 8000000 in
theorem iWayAfter_any (V : World → Prop) (hV : ShOk V) (a b : Tr) (zs : List Int) (n : Nat) (hn : zs.length = n) (hl : n ≤ 1048576) (hsa : SmT a) (hsb : SmT b) (hwa : KwT a) (hwb : KwT b) (A A0 A1 B0 B1 : Option Addr) (c c0 c1 e0 e1 : Nat) (w : World) (hv : V w) (hpa : PrL w A0 a.ps) (ha : TrL w 0 A1 a.ks) (hpb : PrL w B0 b.ps) (hb : TrL w 0 B1 b.ks) (hz : IntL w A zs) :
    Calls Tryd.prog 9 #[.agg #[.int .i64 a.tag, .int .i64 a.key, .string a.text, .slice A0 a.ps.length c0, .slice A1 a.ks.length c1], .agg #[.int .i64 b.tag, .int .i64 b.key, .string b.text, .slice B0 b.ps.length e0, .slice B1 b.ks.length e1], .slice A n c] w (WaX (waT a b zs) w) := by
  have K1 := Lib.hid (fun w' (h : Below w.heap.size w w') => iTreeOk_any V hV a hsa hwa A0 A1 c0 c1 w' (hV.stays _ _ hv h) (hpa.below h) (ha.below h))
  have K2 := Lib.hid (fun w' (h : Below w.heap.size w w') => iTreeOk_any V hV b hsb hwb B0 B1 e0 e1 w' (hV.stays _ _ hv h) (hpb.below h) (hb.below h))
  have K4 := Lib.hid (fun (h1 : treeOkB a = true) (h2 : treeOkB b = true) w' (h : Below w.heap.size w w') => iway_any a b zs n hn hl (kd_ok h1 hwa) (kd_ok h2 hwb) A A0 A1 B0 B1 c c0 c1 e0 e1 w' (hz.below h) (ha.below h) (hb.below h))
  have HN := Lib.hid hn
  have HZ := Lib.hid hz
  have HPA := Lib.hid hpa
  have HA := Lib.hid ha
  have HPB := Lib.hid hpb
  have HBK := Lib.hid hb
  have hb0 : Below w.heap.size w ((w.alloc (.cells #[.int .i64 a.tag, .int .i64 a.key, .string a.text, .slice A0 a.ps.length c0, .slice A1 a.ks.length c1] 33)).alloc (.cells #[.int .i64 b.tag, .int .i64 b.key, .string b.text, .slice B0 b.ps.length e0, .slice B1 b.ks.length e1] 33)) := (Below.alloc (Below.refl w.heap.size w) (Nat.le_refl _) _).alloc (by simp) _
  have hsz : w.heap.size + 1 < ((w.alloc (.cells #[.int .i64 a.tag, .int .i64 a.key, .string a.text, .slice A0 a.ps.length c0, .slice A1 a.ks.length c1] 33)).alloc (.cells #[.int .i64 b.tag, .int .i64 b.key, .string b.text, .slice B0 b.ps.length e0, .slice B1 b.ks.length e1] 33)).heap.size := by simp
  have d0 : ((w.alloc (.cells #[.int .i64 a.tag, .int .i64 a.key, .string a.text, .slice A0 a.ps.length c0, .slice A1 a.ks.length c1] 33)).alloc (.cells #[.int .i64 b.tag, .int .i64 b.key, .string b.text, .slice B0 b.ps.length e0, .slice B1 b.ks.length e1] 33)).cell? ⟨w.heap.size, 0, none⟩ = some (.int .i64 a.tag) := by rw [Below.cell (Below.alloc (Below.refl (w.alloc (.cells #[.int .i64 a.tag, .int .i64 a.key, .string a.text, .slice A0 a.ps.length c0, .slice A1 a.ks.length c1] 33)).heap.size _) (Nat.le_refl _) _) (p := ⟨w.heap.size, 0, none⟩) (by simp), World.cell?_alloc_new]; rfl
  have d1 : ((w.alloc (.cells #[.int .i64 a.tag, .int .i64 a.key, .string a.text, .slice A0 a.ps.length c0, .slice A1 a.ks.length c1] 33)).alloc (.cells #[.int .i64 b.tag, .int .i64 b.key, .string b.text, .slice B0 b.ps.length e0, .slice B1 b.ks.length e1] 33)).cell? ⟨w.heap.size, 1, none⟩ = some (.int .i64 a.key) := by rw [Below.cell (Below.alloc (Below.refl (w.alloc (.cells #[.int .i64 a.tag, .int .i64 a.key, .string a.text, .slice A0 a.ps.length c0, .slice A1 a.ks.length c1] 33)).heap.size _) (Nat.le_refl _) _) (p := ⟨w.heap.size, 1, none⟩) (by simp), World.cell?_alloc_new]; rfl
  have d2 : ((w.alloc (.cells #[.int .i64 a.tag, .int .i64 a.key, .string a.text, .slice A0 a.ps.length c0, .slice A1 a.ks.length c1] 33)).alloc (.cells #[.int .i64 b.tag, .int .i64 b.key, .string b.text, .slice B0 b.ps.length e0, .slice B1 b.ks.length e1] 33)).cell? ⟨w.heap.size, 2, none⟩ = some (.string a.text) := by rw [Below.cell (Below.alloc (Below.refl (w.alloc (.cells #[.int .i64 a.tag, .int .i64 a.key, .string a.text, .slice A0 a.ps.length c0, .slice A1 a.ks.length c1] 33)).heap.size _) (Nat.le_refl _) _) (p := ⟨w.heap.size, 2, none⟩) (by simp), World.cell?_alloc_new]; rfl
  have d3 : ((w.alloc (.cells #[.int .i64 a.tag, .int .i64 a.key, .string a.text, .slice A0 a.ps.length c0, .slice A1 a.ks.length c1] 33)).alloc (.cells #[.int .i64 b.tag, .int .i64 b.key, .string b.text, .slice B0 b.ps.length e0, .slice B1 b.ks.length e1] 33)).cell? ⟨w.heap.size, 3, none⟩ = some (.slice A0 a.ps.length c0) := by rw [Below.cell (Below.alloc (Below.refl (w.alloc (.cells #[.int .i64 a.tag, .int .i64 a.key, .string a.text, .slice A0 a.ps.length c0, .slice A1 a.ks.length c1] 33)).heap.size _) (Nat.le_refl _) _) (p := ⟨w.heap.size, 3, none⟩) (by simp), World.cell?_alloc_new]; rfl
  have d4 : ((w.alloc (.cells #[.int .i64 a.tag, .int .i64 a.key, .string a.text, .slice A0 a.ps.length c0, .slice A1 a.ks.length c1] 33)).alloc (.cells #[.int .i64 b.tag, .int .i64 b.key, .string b.text, .slice B0 b.ps.length e0, .slice B1 b.ks.length e1] 33)).cell? ⟨w.heap.size, 4, none⟩ = some (.slice A1 a.ks.length c1) := by rw [Below.cell (Below.alloc (Below.refl (w.alloc (.cells #[.int .i64 a.tag, .int .i64 a.key, .string a.text, .slice A0 a.ps.length c0, .slice A1 a.ks.length c1] 33)).heap.size _) (Nat.le_refl _) _) (p := ⟨w.heap.size, 4, none⟩) (by simp), World.cell?_alloc_new]; rfl
  have z0 : ((w.alloc (.cells #[.int .i64 a.tag, .int .i64 a.key, .string a.text, .slice A0 a.ps.length c0, .slice A1 a.ks.length c1] 33)).alloc (.cells #[.int .i64 b.tag, .int .i64 b.key, .string b.text, .slice B0 b.ps.length e0, .slice B1 b.ks.length e1] 33)).cell? ⟨w.heap.size + 1, 0, none⟩ = some (.int .i64 b.tag) := by have h : ((w.alloc (.cells #[.int .i64 a.tag, .int .i64 a.key, .string a.text, .slice A0 a.ps.length c0, .slice A1 a.ks.length c1] 33)).alloc (.cells #[.int .i64 b.tag, .int .i64 b.key, .string b.text, .slice B0 b.ps.length e0, .slice B1 b.ks.length e1] 33)).cell? ⟨(w.alloc (.cells #[.int .i64 a.tag, .int .i64 a.key, .string a.text, .slice A0 a.ps.length c0, .slice A1 a.ks.length c1] 33)).heap.size, 0, none⟩ = some (.int .i64 b.tag) := (by rw [World.cell?_alloc_new]; rfl); rwa [World.size_alloc] at h
  have z1 : ((w.alloc (.cells #[.int .i64 a.tag, .int .i64 a.key, .string a.text, .slice A0 a.ps.length c0, .slice A1 a.ks.length c1] 33)).alloc (.cells #[.int .i64 b.tag, .int .i64 b.key, .string b.text, .slice B0 b.ps.length e0, .slice B1 b.ks.length e1] 33)).cell? ⟨w.heap.size + 1, 1, none⟩ = some (.int .i64 b.key) := by have h : ((w.alloc (.cells #[.int .i64 a.tag, .int .i64 a.key, .string a.text, .slice A0 a.ps.length c0, .slice A1 a.ks.length c1] 33)).alloc (.cells #[.int .i64 b.tag, .int .i64 b.key, .string b.text, .slice B0 b.ps.length e0, .slice B1 b.ks.length e1] 33)).cell? ⟨(w.alloc (.cells #[.int .i64 a.tag, .int .i64 a.key, .string a.text, .slice A0 a.ps.length c0, .slice A1 a.ks.length c1] 33)).heap.size, 1, none⟩ = some (.int .i64 b.key) := (by rw [World.cell?_alloc_new]; rfl); rwa [World.size_alloc] at h
  have z2 : ((w.alloc (.cells #[.int .i64 a.tag, .int .i64 a.key, .string a.text, .slice A0 a.ps.length c0, .slice A1 a.ks.length c1] 33)).alloc (.cells #[.int .i64 b.tag, .int .i64 b.key, .string b.text, .slice B0 b.ps.length e0, .slice B1 b.ks.length e1] 33)).cell? ⟨w.heap.size + 1, 2, none⟩ = some (.string b.text) := by have h : ((w.alloc (.cells #[.int .i64 a.tag, .int .i64 a.key, .string a.text, .slice A0 a.ps.length c0, .slice A1 a.ks.length c1] 33)).alloc (.cells #[.int .i64 b.tag, .int .i64 b.key, .string b.text, .slice B0 b.ps.length e0, .slice B1 b.ks.length e1] 33)).cell? ⟨(w.alloc (.cells #[.int .i64 a.tag, .int .i64 a.key, .string a.text, .slice A0 a.ps.length c0, .slice A1 a.ks.length c1] 33)).heap.size, 2, none⟩ = some (.string b.text) := (by rw [World.cell?_alloc_new]; rfl); rwa [World.size_alloc] at h
  have z3 : ((w.alloc (.cells #[.int .i64 a.tag, .int .i64 a.key, .string a.text, .slice A0 a.ps.length c0, .slice A1 a.ks.length c1] 33)).alloc (.cells #[.int .i64 b.tag, .int .i64 b.key, .string b.text, .slice B0 b.ps.length e0, .slice B1 b.ks.length e1] 33)).cell? ⟨w.heap.size + 1, 3, none⟩ = some (.slice B0 b.ps.length e0) := by have h : ((w.alloc (.cells #[.int .i64 a.tag, .int .i64 a.key, .string a.text, .slice A0 a.ps.length c0, .slice A1 a.ks.length c1] 33)).alloc (.cells #[.int .i64 b.tag, .int .i64 b.key, .string b.text, .slice B0 b.ps.length e0, .slice B1 b.ks.length e1] 33)).cell? ⟨(w.alloc (.cells #[.int .i64 a.tag, .int .i64 a.key, .string a.text, .slice A0 a.ps.length c0, .slice A1 a.ks.length c1] 33)).heap.size, 3, none⟩ = some (.slice B0 b.ps.length e0) := (by rw [World.cell?_alloc_new]; rfl); rwa [World.size_alloc] at h
  have z4 : ((w.alloc (.cells #[.int .i64 a.tag, .int .i64 a.key, .string a.text, .slice A0 a.ps.length c0, .slice A1 a.ks.length c1] 33)).alloc (.cells #[.int .i64 b.tag, .int .i64 b.key, .string b.text, .slice B0 b.ps.length e0, .slice B1 b.ks.length e1] 33)).cell? ⟨w.heap.size + 1, 4, none⟩ = some (.slice B1 b.ks.length e1) := by have h : ((w.alloc (.cells #[.int .i64 a.tag, .int .i64 a.key, .string a.text, .slice A0 a.ps.length c0, .slice A1 a.ks.length c1] 33)).alloc (.cells #[.int .i64 b.tag, .int .i64 b.key, .string b.text, .slice B0 b.ps.length e0, .slice B1 b.ks.length e1] 33)).cell? ⟨(w.alloc (.cells #[.int .i64 a.tag, .int .i64 a.key, .string a.text, .slice A0 a.ps.length c0, .slice A1 a.ks.length c1] 33)).heap.size, 4, none⟩ = some (.slice B1 b.ks.length e1) := (by rw [World.cell?_alloc_new]; rfl); rwa [World.size_alloc] at h
  obtain ⟨ok1, ho1⟩ : ∃ v, treeOkB a = v := ⟨_, rfl⟩
  obtain ⟨ok2, ho2⟩ : ∃ v, treeOkB b = v := ⟨_, rfl⟩
  rw [ho1] at K1
  rw [ho2] at K2
  have HO1 := Lib.hid ho1
  have HO2 := Lib.hid ho2
  obtain ⟨W, hW⟩ : ∃ q, waT a b zs = q := ⟨_, rfl⟩
  rw [hW]
  have HW := Lib.hid hW
  obtain ⟨X, hX⟩ : ∃ X, WaX W w = X := ⟨_, rfl⟩
  have HX := Lib.hid hX
  rw [hX]
  have HB := Lib.hid hb0
  have HNO := Lib.hid (show ∀ v, (if (ok1 && ok2) && decide (kin a = kin b) then waV a b zs else none) = v → W = v from fun v e => by rw [← HW.out, ← e]; unfold waT; rw [HO1.out, HO2.out])
  obtain ⟨w0, hw0⟩ : ∃ v, ((w.alloc (.cells #[.int .i64 a.tag, .int .i64 a.key, .string a.text, .slice A0 a.ps.length c0, .slice A1 a.ks.length c1] 33)).alloc (.cells #[.int .i64 b.tag, .int .i64 b.key, .string b.text, .slice B0 b.ps.length e0, .slice B1 b.ks.length e1] 33)) = v := ⟨_, rfl⟩
  rw [hw0] at d0 d1 d2 d3 d4 z0 z1 z2 z3 z4 HB hsz
  have HW0 := Lib.hid hw0
  clear hn hz hpa ha hpb hb hb0 ho1 ho2 hW hX hw0 hsa hsb hwa hwb hv
  go_enter Tryd.func9, Tryd.ntmps9
  go_wp2_with fail
  (try rw [HW0.out])
  have hHeld0 : (fun w' : World => Below w0.heap.size w0 w' ∧ w'.cell? ⟨w.heap.size, 0, none⟩ = some (.int .i64 a.tag) ∧ w'.cell? ⟨w.heap.size, 1, none⟩ = some (.int .i64 a.key) ∧ w'.cell? ⟨w.heap.size, 2, none⟩ = some (.string a.text) ∧ w'.cell? ⟨w.heap.size, 3, none⟩ = some (.slice A0 a.ps.length c0) ∧ w'.cell? ⟨w.heap.size, 4, none⟩ = some (.slice A1 a.ks.length c1) ∧ w'.cell? ⟨w.heap.size + 1, 0, none⟩ = some (.int .i64 b.tag) ∧ w'.cell? ⟨w.heap.size + 1, 1, none⟩ = some (.int .i64 b.key) ∧ w'.cell? ⟨w.heap.size + 1, 2, none⟩ = some (.string b.text) ∧ w'.cell? ⟨w.heap.size + 1, 3, none⟩ = some (.slice B0 b.ps.length e0) ∧ w'.cell? ⟨w.heap.size + 1, 4, none⟩ = some (.slice B1 b.ks.length e1)) w0.drew := ⟨Below.drew (Below.refl _ _), d0, d1, d2, d3, d4, z0, z1, z2, z3, z4⟩
  refine wp_region_held_drew (S := (fun w' : World => Below w0.heap.size w0 w' ∧ w'.cell? ⟨w.heap.size, 0, none⟩ = some (.int .i64 a.tag) ∧ w'.cell? ⟨w.heap.size, 1, none⟩ = some (.int .i64 a.key) ∧ w'.cell? ⟨w.heap.size, 2, none⟩ = some (.string a.text) ∧ w'.cell? ⟨w.heap.size, 3, none⟩ = some (.slice A0 a.ps.length c0) ∧ w'.cell? ⟨w.heap.size, 4, none⟩ = some (.slice A1 a.ks.length c1) ∧ w'.cell? ⟨w.heap.size + 1, 0, none⟩ = some (.int .i64 b.tag) ∧ w'.cell? ⟨w.heap.size + 1, 1, none⟩ = some (.int .i64 b.key) ∧ w'.cell? ⟨w.heap.size + 1, 2, none⟩ = some (.string b.text) ∧ w'.cell? ⟨w.heap.size + 1, 3, none⟩ = some (.slice B0 b.ps.length e0) ∧ w'.cell? ⟨w.heap.size + 1, 4, none⟩ = some (.slice B1 b.ks.length e1))) (by kernel_rfl) hHeld0 (fun hHeld => ?_)
  clear hHeld0 d0 d1 d2 d3 d4 z0 z1 z2 z3 z4
  refine wpAnyH_take (i := 0) (oi := _) (v := ?_) rfl (by kernel_rfl) (by kernel_rfl) (by kernel_rfl) (fun _ _ _ h => h) (Or.inl ⟨by kernel_rfl, ?_⟩) (by assumption) ?_
  rotate_left
  · (intro w hSw; (try dsimp only at hSw); go_simp)
    try with_reducible rfl
  (try simp only [Act.put, List.getElem_toArray, List.getElem_cons_zero, List.getElem_cons_succ, List.setIfInBounds_toArray, List.set_cons_zero, List.set_cons_succ])
  refine wpAnyH_ready (rs := [1]) (by kernel_rfl) (by simp) ?_
  refine AllReadyH.cons (o := _) rfl (fun K hK => ?_) AllReadyH.nil
  go_simp
  have hB0 := hHeld.1
  refine (K1.out _ (more HB.out (Nat.le_refl _) hB0)).mono ?_
  rintro e v1 ⟨rfl, hb⟩
  refine hK.out _ _ ?_ (fun hHeld2 => ?_)
  · obtain ⟨_, d0, d1, d2, d3, d4, z0, z1, z2, z3, z4⟩ := hHeld
    exact ⟨hB0.trans (hb.mono hB0.size), (hb.cell (p := ⟨w.heap.size, 0, none⟩) (by have := hB0.size; show w.heap.size < _; omega)).trans d0, (hb.cell (p := ⟨w.heap.size, 1, none⟩) (by have := hB0.size; show w.heap.size < _; omega)).trans d1, (hb.cell (p := ⟨w.heap.size, 2, none⟩) (by have := hB0.size; show w.heap.size < _; omega)).trans d2, (hb.cell (p := ⟨w.heap.size, 3, none⟩) (by have := hB0.size; show w.heap.size < _; omega)).trans d3, (hb.cell (p := ⟨w.heap.size, 4, none⟩) (by have := hB0.size; show w.heap.size < _; omega)).trans d4, (hb.cell (p := ⟨w.heap.size + 1, 0, none⟩) (by have := hB0.size; show w.heap.size + 1 < _; omega)).trans z0, (hb.cell (p := ⟨w.heap.size + 1, 1, none⟩) (by have := hB0.size; show w.heap.size + 1 < _; omega)).trans z1, (hb.cell (p := ⟨w.heap.size + 1, 2, none⟩) (by have := hB0.size; show w.heap.size + 1 < _; omega)).trans z2, (hb.cell (p := ⟨w.heap.size + 1, 3, none⟩) (by have := hB0.size; show w.heap.size + 1 < _; omega)).trans z3, (hb.cell (p := ⟨w.heap.size + 1, 4, none⟩) (by have := hB0.size; show w.heap.size + 1 < _; omega)).trans z4⟩
  clear hK K hb hB0 hHeld
  have hHeld := hHeld2
  clear hHeld2
  (try simp only [Act.put, List.getElem_toArray, List.getElem_cons_zero, List.getElem_cons_succ, List.setIfInBounds_toArray, List.set_cons_zero, List.set_cons_succ])
  cases ok1
  · skip
    refine wpAnyH_take (i := 2) (oi := _) (v := ?_) rfl (by kernel_rfl) (by kernel_rfl) (by kernel_rfl) (fun _ _ _ h => h) (Or.inl ⟨by kernel_rfl, ?_⟩) (by assumption) ?_
    rotate_left
    · (intro w hSw; (try dsimp only at hSw); go_simp)
      try with_reducible rfl
    (try simp only [Act.put, List.getElem_toArray, List.getElem_cons_zero, List.getElem_cons_succ, List.setIfInBounds_toArray, List.set_cons_zero, List.set_cons_succ])
    refine wpAnyH_take (i := 3) (oi := _) (v := ?_) rfl (by kernel_rfl) (by kernel_rfl) (by kernel_rfl) (fun _ _ _ h => h) (Or.inl ⟨by kernel_rfl, ?_⟩) (by assumption) ?_
    rotate_left
    · (intro w hSw; (try dsimp only at hSw); go_simp)
      try with_reducible rfl
    (try simp only [Act.put, List.getElem_toArray, List.getElem_cons_zero, List.getElem_cons_succ, List.setIfInBounds_toArray, List.set_cons_zero, List.set_cons_succ])
    refine wpAnyH_take (i := 4) (oi := _) (v := undef) rfl (by kernel_rfl) (by kernel_rfl) (by kernel_rfl) (fun _ _ _ h => h) (Or.inr ⟨by kernel_rfl, rfl⟩) (by assumption) ?_
    (try simp only [Act.put, List.getElem_toArray, List.getElem_cons_zero, List.getElem_cons_succ, List.setIfInBounds_toArray, List.set_cons_zero, List.set_cons_succ])
    refine wpAnyH_take (i := 5) (oi := _) (v := undef) rfl (by kernel_rfl) (by kernel_rfl) (by kernel_rfl) (fun _ _ _ h => h) (Or.inr ⟨by kernel_rfl, rfl⟩) (by assumption) ?_
    (try simp only [Act.put, List.getElem_toArray, List.getElem_cons_zero, List.getElem_cons_succ, List.setIfInBounds_toArray, List.set_cons_zero, List.set_cons_succ])
    refine wpAnyH_take (i := 6) (oi := _) (v := undef) rfl (by kernel_rfl) (by kernel_rfl) (by kernel_rfl) (fun _ _ _ h => h) (Or.inr ⟨by kernel_rfl, rfl⟩) (by assumption) ?_
    (try simp only [Act.put, List.getElem_toArray, List.getElem_cons_zero, List.getElem_cons_succ, List.setIfInBounds_toArray, List.set_cons_zero, List.set_cons_succ])
    refine wpAnyH_take (i := 7) (oi := _) (v := ?_) rfl (by kernel_rfl) (by kernel_rfl) (by kernel_rfl) (fun _ _ _ h => h) (Or.inl ⟨by kernel_rfl, ?_⟩) (by assumption) ?_
    rotate_left
    · (intro w hSw; (try dsimp only at hSw); go_simp)
      try with_reducible rfl
    (try simp only [Act.put, List.getElem_toArray, List.getElem_cons_zero, List.getElem_cons_succ, List.setIfInBounds_toArray, List.set_cons_zero, List.set_cons_succ])
    refine wpAnyH_take (i := 8) (oi := _) (v := ?_) rfl (by kernel_rfl) (by kernel_rfl) (by kernel_rfl) (fun _ _ _ h => h) (Or.inl ⟨by kernel_rfl, ?_⟩) (by assumption) ?_
    rotate_left
    · (intro w hSw; (try dsimp only at hSw); go_simp)
      try with_reducible rfl
    (try simp only [Act.put, List.getElem_toArray, List.getElem_cons_zero, List.getElem_cons_succ, List.setIfInBounds_toArray, List.set_cons_zero, List.set_cons_succ])
    refine wpAnyH_take (i := 9) (oi := _) (v := undef) rfl (by kernel_rfl) (by kernel_rfl) (by kernel_rfl) (fun _ _ _ h => h) (Or.inr ⟨by kernel_rfl, rfl⟩) (by assumption) ?_
    (try simp only [Act.put, List.getElem_toArray, List.getElem_cons_zero, List.getElem_cons_succ, List.setIfInBounds_toArray, List.set_cons_zero, List.set_cons_succ])
    refine wpAnyH_take (i := 10) (oi := _) (v := undef) rfl (by kernel_rfl) (by kernel_rfl) (by kernel_rfl) (fun _ _ _ h => h) (Or.inr ⟨by kernel_rfl, rfl⟩) (by assumption) ?_
    (try simp only [Act.put, List.getElem_toArray, List.getElem_cons_zero, List.getElem_cons_succ, List.setIfInBounds_toArray, List.set_cons_zero, List.set_cons_succ])
    refine wpAnyH_take (i := 11) (oi := _) (v := undef) rfl (by kernel_rfl) (by kernel_rfl) (by kernel_rfl) (fun _ _ _ h => h) (Or.inr ⟨by kernel_rfl, rfl⟩) (by assumption) ?_
    (try simp only [Act.put, List.getElem_toArray, List.getElem_cons_zero, List.getElem_cons_succ, List.setIfInBounds_toArray, List.set_cons_zero, List.set_cons_succ])
    refine wpAnyH_take (i := 12) (oi := _) (v := undef) rfl (by kernel_rfl) (by kernel_rfl) (by kernel_rfl) (fun _ _ _ h => h) (Or.inr ⟨by kernel_rfl, rfl⟩) (by assumption) ?_
    (try simp only [Act.put, List.getElem_toArray, List.getElem_cons_zero, List.getElem_cons_succ, List.setIfInBounds_toArray, List.set_cons_zero, List.set_cons_succ])
    refine wpAnyH_take (i := 13) (oi := _) (v := undef) rfl (by kernel_rfl) (by kernel_rfl) (by kernel_rfl) (fun _ _ _ h => h) (Or.inr ⟨by kernel_rfl, rfl⟩) (by assumption) ?_
    (try simp only [Act.put, List.getElem_toArray, List.getElem_cons_zero, List.getElem_cons_succ, List.setIfInBounds_toArray, List.set_cons_zero, List.set_cons_succ])
    refine wpAnyH_take (i := 14) (oi := _) (v := ?_) rfl (by kernel_rfl) (by kernel_rfl) (by kernel_rfl) (fun _ _ _ h => h) (Or.inl ⟨by kernel_rfl, ?_⟩) (by assumption) ?_
    rotate_left
    · (intro w hSw; (try dsimp only at hSw); go_simp)
      try with_reducible rfl
    (try simp only [Act.put, List.getElem_toArray, List.getElem_cons_zero, List.getElem_cons_succ, List.setIfInBounds_toArray, List.set_cons_zero, List.set_cons_succ])
    refine wpAnyH_done (by kernel_rfl) ?_ _
    obtain ⟨hbv, d0, d1, d2, d3, d4, z0, z1, z2, z3, z4⟩ := hHeld
    replace HB := Lib.hid (more HB.out (Nat.le_refl _) hbv)
    clear hbv
    go_wp2_with fail
    rw [← HX.out, HNO.out none (by simp)]
    exact wax_none HB.out
  refine wpAnyH_take (i := 2) (oi := _) (v := ?_) rfl (by kernel_rfl) (by kernel_rfl) (by kernel_rfl) (fun _ _ _ h => h) (Or.inl ⟨by kernel_rfl, ?_⟩) (by assumption) ?_
  rotate_left
  · (intro w hSw; (try dsimp only at hSw); go_simp)
    try with_reducible rfl
  (try simp only [Act.put, List.getElem_toArray, List.getElem_cons_zero, List.getElem_cons_succ, List.setIfInBounds_toArray, List.set_cons_zero, List.set_cons_succ])
  refine wpAnyH_take (i := 3) (oi := _) (v := ?_) rfl (by kernel_rfl) (by kernel_rfl) (by kernel_rfl) (fun _ _ _ h => h) (Or.inl ⟨by kernel_rfl, ?_⟩) (by assumption) ?_
  rotate_left
  · (intro w hSw; (try dsimp only at hSw); go_simp)
    try with_reducible rfl
  (try simp only [Act.put, List.getElem_toArray, List.getElem_cons_zero, List.getElem_cons_succ, List.setIfInBounds_toArray, List.set_cons_zero, List.set_cons_succ])
  refine wpAnyH_take (i := 4) (oi := _) (v := ?_) rfl (by kernel_rfl) (by kernel_rfl) (by kernel_rfl) (fun _ _ _ h => h) (Or.inl ⟨by kernel_rfl, ?_⟩) (by assumption) ?_
  rotate_left
  · (intro w hSw; (try dsimp only at hSw); go_simp)
    try with_reducible rfl
  (try simp only [Act.put, List.getElem_toArray, List.getElem_cons_zero, List.getElem_cons_succ, List.setIfInBounds_toArray, List.set_cons_zero, List.set_cons_succ])
  refine wpAnyH_ready (rs := [5]) (by kernel_rfl) (by simp) ?_
  refine AllReadyH.cons (o := _) rfl (fun K hK => ?_) AllReadyH.nil
  go_simp
  have hB0 := hHeld.1
  refine (K2.out _ (more HB.out (Nat.le_refl _) hB0)).mono ?_
  rintro e v2 ⟨rfl, hb⟩
  refine hK.out _ _ ?_ (fun hHeld2 => ?_)
  · obtain ⟨_, d0, d1, d2, d3, d4, z0, z1, z2, z3, z4⟩ := hHeld
    exact ⟨hB0.trans (hb.mono hB0.size), (hb.cell (p := ⟨w.heap.size, 0, none⟩) (by have := hB0.size; show w.heap.size < _; omega)).trans d0, (hb.cell (p := ⟨w.heap.size, 1, none⟩) (by have := hB0.size; show w.heap.size < _; omega)).trans d1, (hb.cell (p := ⟨w.heap.size, 2, none⟩) (by have := hB0.size; show w.heap.size < _; omega)).trans d2, (hb.cell (p := ⟨w.heap.size, 3, none⟩) (by have := hB0.size; show w.heap.size < _; omega)).trans d3, (hb.cell (p := ⟨w.heap.size, 4, none⟩) (by have := hB0.size; show w.heap.size < _; omega)).trans d4, (hb.cell (p := ⟨w.heap.size + 1, 0, none⟩) (by have := hB0.size; show w.heap.size + 1 < _; omega)).trans z0, (hb.cell (p := ⟨w.heap.size + 1, 1, none⟩) (by have := hB0.size; show w.heap.size + 1 < _; omega)).trans z1, (hb.cell (p := ⟨w.heap.size + 1, 2, none⟩) (by have := hB0.size; show w.heap.size + 1 < _; omega)).trans z2, (hb.cell (p := ⟨w.heap.size + 1, 3, none⟩) (by have := hB0.size; show w.heap.size + 1 < _; omega)).trans z3, (hb.cell (p := ⟨w.heap.size + 1, 4, none⟩) (by have := hB0.size; show w.heap.size + 1 < _; omega)).trans z4⟩
  clear hK K hb hB0 hHeld
  have hHeld := hHeld2
  clear hHeld2
  (try simp only [Act.put, List.getElem_toArray, List.getElem_cons_zero, List.getElem_cons_succ, List.setIfInBounds_toArray, List.set_cons_zero, List.set_cons_succ])
  cases ok2
  · skip
    refine wpAnyH_take (i := 6) (oi := _) (v := ?_) rfl (by kernel_rfl) (by kernel_rfl) (by kernel_rfl) (fun _ _ _ h => h) (Or.inl ⟨by kernel_rfl, ?_⟩) (by assumption) ?_
    rotate_left
    · (intro w hSw; (try dsimp only at hSw); go_simp)
      try with_reducible rfl
    (try simp only [Act.put, List.getElem_toArray, List.getElem_cons_zero, List.getElem_cons_succ, List.setIfInBounds_toArray, List.set_cons_zero, List.set_cons_succ])
    refine wpAnyH_take (i := 7) (oi := _) (v := ?_) rfl (by kernel_rfl) (by kernel_rfl) (by kernel_rfl) (fun _ _ _ h => h) (Or.inl ⟨by kernel_rfl, ?_⟩) (by assumption) ?_
    rotate_left
    · (intro w hSw; (try dsimp only at hSw); go_simp)
      try with_reducible rfl
    (try simp only [Act.put, List.getElem_toArray, List.getElem_cons_zero, List.getElem_cons_succ, List.setIfInBounds_toArray, List.set_cons_zero, List.set_cons_succ])
    refine wpAnyH_take (i := 8) (oi := _) (v := ?_) rfl (by kernel_rfl) (by kernel_rfl) (by kernel_rfl) (fun _ _ _ h => h) (Or.inl ⟨by kernel_rfl, ?_⟩) (by assumption) ?_
    rotate_left
    · (intro w hSw; (try dsimp only at hSw); go_simp)
      try with_reducible rfl
    (try simp only [Act.put, List.getElem_toArray, List.getElem_cons_zero, List.getElem_cons_succ, List.setIfInBounds_toArray, List.set_cons_zero, List.set_cons_succ])
    refine wpAnyH_take (i := 9) (oi := _) (v := undef) rfl (by kernel_rfl) (by kernel_rfl) (by kernel_rfl) (fun _ _ _ h => h) (Or.inr ⟨by kernel_rfl, rfl⟩) (by assumption) ?_
    (try simp only [Act.put, List.getElem_toArray, List.getElem_cons_zero, List.getElem_cons_succ, List.setIfInBounds_toArray, List.set_cons_zero, List.set_cons_succ])
    refine wpAnyH_take (i := 10) (oi := _) (v := undef) rfl (by kernel_rfl) (by kernel_rfl) (by kernel_rfl) (fun _ _ _ h => h) (Or.inr ⟨by kernel_rfl, rfl⟩) (by assumption) ?_
    (try simp only [Act.put, List.getElem_toArray, List.getElem_cons_zero, List.getElem_cons_succ, List.setIfInBounds_toArray, List.set_cons_zero, List.set_cons_succ])
    refine wpAnyH_take (i := 11) (oi := _) (v := undef) rfl (by kernel_rfl) (by kernel_rfl) (by kernel_rfl) (fun _ _ _ h => h) (Or.inr ⟨by kernel_rfl, rfl⟩) (by assumption) ?_
    (try simp only [Act.put, List.getElem_toArray, List.getElem_cons_zero, List.getElem_cons_succ, List.setIfInBounds_toArray, List.set_cons_zero, List.set_cons_succ])
    refine wpAnyH_take (i := 12) (oi := _) (v := undef) rfl (by kernel_rfl) (by kernel_rfl) (by kernel_rfl) (fun _ _ _ h => h) (Or.inr ⟨by kernel_rfl, rfl⟩) (by assumption) ?_
    (try simp only [Act.put, List.getElem_toArray, List.getElem_cons_zero, List.getElem_cons_succ, List.setIfInBounds_toArray, List.set_cons_zero, List.set_cons_succ])
    refine wpAnyH_take (i := 13) (oi := _) (v := undef) rfl (by kernel_rfl) (by kernel_rfl) (by kernel_rfl) (fun _ _ _ h => h) (Or.inr ⟨by kernel_rfl, rfl⟩) (by assumption) ?_
    (try simp only [Act.put, List.getElem_toArray, List.getElem_cons_zero, List.getElem_cons_succ, List.setIfInBounds_toArray, List.set_cons_zero, List.set_cons_succ])
    refine wpAnyH_take (i := 14) (oi := _) (v := ?_) rfl (by kernel_rfl) (by kernel_rfl) (by kernel_rfl) (fun _ _ _ h => h) (Or.inl ⟨by kernel_rfl, ?_⟩) (by assumption) ?_
    rotate_left
    · (intro w hSw; (try dsimp only at hSw); go_simp)
      try with_reducible rfl
    (try simp only [Act.put, List.getElem_toArray, List.getElem_cons_zero, List.getElem_cons_succ, List.setIfInBounds_toArray, List.set_cons_zero, List.set_cons_succ])
    refine wpAnyH_done (by kernel_rfl) ?_ _
    obtain ⟨hbv, d0, d1, d2, d3, d4, z0, z1, z2, z3, z4⟩ := hHeld
    replace HB := Lib.hid (more HB.out (Nat.le_refl _) hbv)
    clear hbv
    go_wp2_with fail
    rw [← HX.out, HNO.out none (by simp)]
    exact wax_none HB.out
  refine wpAnyH_take (i := 6) (oi := _) (v := ?_) rfl (by kernel_rfl) (by kernel_rfl) (by kernel_rfl) (fun _ _ _ h => h) (Or.inl ⟨by kernel_rfl, ?_⟩) (by assumption) ?_
  rotate_left
  · (intro w hSw; (try dsimp only at hSw); go_simp)
    try with_reducible rfl
  (try simp only [Act.put, List.getElem_toArray, List.getElem_cons_zero, List.getElem_cons_succ, List.setIfInBounds_toArray, List.set_cons_zero, List.set_cons_succ])
  refine wpAnyH_take (i := 7) (oi := _) (v := ?_) rfl (by kernel_rfl) (by kernel_rfl) (by kernel_rfl) (fun _ _ _ h => h) (Or.inl ⟨by kernel_rfl, ?_⟩) (by assumption) ?_
  rotate_left
  · (intro w hSw; (try dsimp only at hSw); go_simp)
    try with_reducible rfl
  (try simp only [Act.put, List.getElem_toArray, List.getElem_cons_zero, List.getElem_cons_succ, List.setIfInBounds_toArray, List.set_cons_zero, List.set_cons_succ])
  refine wpAnyH_take (i := 8) (oi := _) (v := ?_) rfl (by kernel_rfl) (by kernel_rfl) (by kernel_rfl) (fun _ _ _ h => h) (Or.inl ⟨by kernel_rfl, ?_⟩) (by assumption) ?_
  rotate_left
  · (intro w hSw; (try dsimp only at hSw); go_simp)
    try with_reducible rfl
  (try simp only [Act.put, List.getElem_toArray, List.getElem_cons_zero, List.getElem_cons_succ, List.setIfInBounds_toArray, List.set_cons_zero, List.set_cons_succ])
  refine wpAnyH_take (i := 9) (oi := _) (v := ?_) rfl (by kernel_rfl) (by kernel_rfl) (by kernel_rfl) (fun _ _ _ h => h) (Or.inl ⟨by kernel_rfl, ?_⟩) (by assumption) ?_
  rotate_left
  · (intro w hSw; (try dsimp only at hSw); go_simp)
    try with_reducible rfl
  (try simp only [Act.put, List.getElem_toArray, List.getElem_cons_zero, List.getElem_cons_succ, List.setIfInBounds_toArray, List.set_cons_zero, List.set_cons_succ])
  refine wpAnyH_take (i := 11) (oi := _) (v := ?_) rfl (by kernel_rfl) (by kernel_rfl) (by kernel_rfl) (fun _ _ _ h => h) (Or.inl ⟨by kernel_rfl, ?_⟩) (by assumption) ?_
  rotate_left
  · (intro w hSw; (try dsimp only at hSw); go_simp)
    try with_reducible rfl
  (try simp only [Act.put, List.getElem_toArray, List.getElem_cons_zero, List.getElem_cons_succ, List.setIfInBounds_toArray, List.set_cons_zero, List.set_cons_succ])
  refine wpAnyH_ready (rs := [10]) (by kernel_rfl) (by simp) ?_
  refine AllReadyH.cons (o := _) rfl (fun K hK => ?_) AllReadyH.nil
  go_simp
  have hB0 := hHeld.1
  refine (ikin_any a.tag a.key a.text A0 A1 a.ps.length c0 a.ks.length c1 _).mono ?_
  rintro e v3 ⟨rfl, hb⟩
  refine hK.out _ _ ?_ (fun hHeld2 => ?_)
  · obtain ⟨_, d0, d1, d2, d3, d4, z0, z1, z2, z3, z4⟩ := hHeld
    exact ⟨hB0.trans (hb.mono hB0.size), (hb.cell (p := ⟨w.heap.size, 0, none⟩) (by have := hB0.size; show w.heap.size < _; omega)).trans d0, (hb.cell (p := ⟨w.heap.size, 1, none⟩) (by have := hB0.size; show w.heap.size < _; omega)).trans d1, (hb.cell (p := ⟨w.heap.size, 2, none⟩) (by have := hB0.size; show w.heap.size < _; omega)).trans d2, (hb.cell (p := ⟨w.heap.size, 3, none⟩) (by have := hB0.size; show w.heap.size < _; omega)).trans d3, (hb.cell (p := ⟨w.heap.size, 4, none⟩) (by have := hB0.size; show w.heap.size < _; omega)).trans d4, (hb.cell (p := ⟨w.heap.size + 1, 0, none⟩) (by have := hB0.size; show w.heap.size + 1 < _; omega)).trans z0, (hb.cell (p := ⟨w.heap.size + 1, 1, none⟩) (by have := hB0.size; show w.heap.size + 1 < _; omega)).trans z1, (hb.cell (p := ⟨w.heap.size + 1, 2, none⟩) (by have := hB0.size; show w.heap.size + 1 < _; omega)).trans z2, (hb.cell (p := ⟨w.heap.size + 1, 3, none⟩) (by have := hB0.size; show w.heap.size + 1 < _; omega)).trans z3, (hb.cell (p := ⟨w.heap.size + 1, 4, none⟩) (by have := hB0.size; show w.heap.size + 1 < _; omega)).trans z4⟩
  clear hK K hb hB0 hHeld
  have hHeld := hHeld2
  clear hHeld2
  (try simp only [Act.put, List.getElem_toArray, List.getElem_cons_zero, List.getElem_cons_succ, List.setIfInBounds_toArray, List.set_cons_zero, List.set_cons_succ])
  refine wpAnyH_ready (rs := [12]) (by kernel_rfl) (by simp) ?_
  refine AllReadyH.cons (o := _) rfl (fun K hK => ?_) AllReadyH.nil
  go_simp
  have hB0 := hHeld.1
  refine (ikin_any b.tag b.key b.text B0 B1 b.ps.length e0 b.ks.length e1 _).mono ?_
  rintro e v4 ⟨rfl, hb⟩
  refine hK.out _ _ ?_ (fun hHeld2 => ?_)
  · obtain ⟨_, d0, d1, d2, d3, d4, z0, z1, z2, z3, z4⟩ := hHeld
    exact ⟨hB0.trans (hb.mono hB0.size), (hb.cell (p := ⟨w.heap.size, 0, none⟩) (by have := hB0.size; show w.heap.size < _; omega)).trans d0, (hb.cell (p := ⟨w.heap.size, 1, none⟩) (by have := hB0.size; show w.heap.size < _; omega)).trans d1, (hb.cell (p := ⟨w.heap.size, 2, none⟩) (by have := hB0.size; show w.heap.size < _; omega)).trans d2, (hb.cell (p := ⟨w.heap.size, 3, none⟩) (by have := hB0.size; show w.heap.size < _; omega)).trans d3, (hb.cell (p := ⟨w.heap.size, 4, none⟩) (by have := hB0.size; show w.heap.size < _; omega)).trans d4, (hb.cell (p := ⟨w.heap.size + 1, 0, none⟩) (by have := hB0.size; show w.heap.size + 1 < _; omega)).trans z0, (hb.cell (p := ⟨w.heap.size + 1, 1, none⟩) (by have := hB0.size; show w.heap.size + 1 < _; omega)).trans z1, (hb.cell (p := ⟨w.heap.size + 1, 2, none⟩) (by have := hB0.size; show w.heap.size + 1 < _; omega)).trans z2, (hb.cell (p := ⟨w.heap.size + 1, 3, none⟩) (by have := hB0.size; show w.heap.size + 1 < _; omega)).trans z3, (hb.cell (p := ⟨w.heap.size + 1, 4, none⟩) (by have := hB0.size; show w.heap.size + 1 < _; omega)).trans z4⟩
  clear hK K hb hB0 hHeld
  have hHeld := hHeld2
  clear hHeld2
  (try simp only [Act.put, List.getElem_toArray, List.getElem_cons_zero, List.getElem_cons_succ, List.setIfInBounds_toArray, List.set_cons_zero, List.set_cons_succ])
  by_cases hkk : a.tag = b.tag ∧ a.key = b.key
  · obtain ⟨hk0, hk1⟩ := hkk
    have K5 := Lib.hid (K4.out HO1.out HO2.out)
    rw [← HNO.out (waV a b zs) (by simp [show kin a = kin b from Prod.ext hk0 hk1])] at K5
    refine wpAnyH_take (i := 13) (oi := _) (v := ?_) rfl (by kernel_rfl) (by kernel_rfl) (by kernel_rfl) (fun _ _ _ h => h) (Or.inl ⟨by kernel_rfl, ?_⟩) (by assumption) ?_
    rotate_left
    · (intro w hSw; (try dsimp only at hSw); go_simp)
      try with_reducible rfl
    (try simp only [Act.put, List.getElem_toArray, List.getElem_cons_zero, List.getElem_cons_succ, List.setIfInBounds_toArray, List.set_cons_zero, List.set_cons_succ])
    refine wpAnyH_take (i := 14) (oi := _) (v := ?_) rfl (by kernel_rfl) (by kernel_rfl) (by kernel_rfl) (fun _ _ _ h => h) (Or.inl ⟨by kernel_rfl, ?_⟩) (by assumption) ?_
    rotate_left
    · (intro w hSw; (try dsimp only at hSw); go_simp)
      try with_reducible rfl
    (try simp only [Act.put, List.getElem_toArray, List.getElem_cons_zero, List.getElem_cons_succ, List.setIfInBounds_toArray, List.set_cons_zero, List.set_cons_succ])
    refine wpAnyH_done (by kernel_rfl) ?_ _
    obtain ⟨hbv, d0, d1, d2, d3, d4, z0, z1, z2, z3, z4⟩ := hHeld
    replace HB := Lib.hid (more HB.out (Nat.le_refl _) hbv)
    clear hbv
    clear hk0 hk1
    go_wp2_with fail
    refine (K5.out _ HB.out).mono ?_
    rintro e w5 ⟨R, r, rfl, ho, hb⟩
    have HO5 := Lib.hid (row_less ho HB.out.size)
    have HB5 := Lib.hid (more HB.out (Nat.le_refl _) hb)
    clear ho hb K5
    go_wp2_with fail
    rw [← HX.out]
    exact ⟨R, r, rfl, HO5.out, HB5.out⟩
  · have HNV := Lib.hid (show W = none from HNO.out none (by rw [decide_eq_false (fun e => hkk ⟨congrArg Prod.fst e, congrArg Prod.snd e⟩ : ¬ kin a = kin b)]; simp))
    by_cases hk0 : a.tag = b.tag
    · have hk1 : (a.key == b.key) = false := by simpa using fun e => hkk ⟨hk0, e⟩
      clear hkk
      refine wpAnyH_take (i := 13) (oi := _) (v := ?_) rfl (by kernel_rfl) (by kernel_rfl) (by kernel_rfl) (fun _ _ _ h => h) (Or.inl ⟨by kernel_rfl, ?_⟩) (by assumption) ?_
      rotate_left
      · (intro w hSw; (try dsimp only at hSw); go_simp)
        try with_reducible rfl
      (try simp only [Act.put, List.getElem_toArray, List.getElem_cons_zero, List.getElem_cons_succ, List.setIfInBounds_toArray, List.set_cons_zero, List.set_cons_succ])
      refine wpAnyH_take (i := 14) (oi := _) (v := ?_) rfl (by kernel_rfl) (by kernel_rfl) (by kernel_rfl) (fun _ _ _ h => h) (Or.inl ⟨by kernel_rfl, ?_⟩) (by assumption) ?_
      rotate_left
      · (intro w hSw; (try dsimp only at hSw); go_simp)
        try with_reducible rfl
      (try simp only [Act.put, List.getElem_toArray, List.getElem_cons_zero, List.getElem_cons_succ, List.setIfInBounds_toArray, List.set_cons_zero, List.set_cons_succ])
      refine wpAnyH_done (by kernel_rfl) ?_ _
      obtain ⟨hbv, d0, d1, d2, d3, d4, z0, z1, z2, z3, z4⟩ := hHeld
      replace HB := Lib.hid (more HB.out (Nat.le_refl _) hbv)
      clear hbv
      go_wp2_with fail
      rw [← HX.out, HNV.out]
      exact wax_none HB.out
    · have hk1 : (a.tag == b.tag) = false := by simpa using hk0
      clear hkk hk0
      refine wpAnyH_take (i := 13) (oi := _) (v := ?_) rfl (by kernel_rfl) (by kernel_rfl) (by kernel_rfl) (fun _ _ _ h => h) (Or.inl ⟨by kernel_rfl, ?_⟩) (by assumption) ?_
      rotate_left
      · (intro w hSw; (try dsimp only at hSw); go_simp)
        try with_reducible rfl
      (try simp only [Act.put, List.getElem_toArray, List.getElem_cons_zero, List.getElem_cons_succ, List.setIfInBounds_toArray, List.set_cons_zero, List.set_cons_succ])
      refine wpAnyH_take (i := 14) (oi := _) (v := ?_) rfl (by kernel_rfl) (by kernel_rfl) (by kernel_rfl) (fun _ _ _ h => h) (Or.inl ⟨by kernel_rfl, ?_⟩) (by assumption) ?_
      rotate_left
      · (intro w hSw; (try dsimp only at hSw); go_simp)
        try with_reducible rfl
      (try simp only [Act.put, List.getElem_toArray, List.getElem_cons_zero, List.getElem_cons_succ, List.setIfInBounds_toArray, List.set_cons_zero, List.set_cons_succ])
      refine wpAnyH_done (by kernel_rfl) ?_ _
      obtain ⟨hbv, d0, d1, d2, d3, d4, z0, z1, z2, z3, z4⟩ := hHeld
      replace HB := Lib.hid (more HB.out (Nat.le_refl _) hbv)
      clear hbv
      go_wp2_with fail
      rw [← HX.out, HNV.out]
      exact wax_none HB.out
end Go.Proofs.YtcpfjlbicofkeaaDoor
