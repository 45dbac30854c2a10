/- Trees: the part at a way, by the document. -/
import Derived.Test.YtpkhpaioddommaaDoorTat1
import Derived.Test.YtpkhpaioddommaaDoorCps2
import Derived.Test.YtpkhpaioddommaaDoorNoM
namespace Go.Proofs.YtpkhpaioddommaaDoor
open Go.Joins Go.ChangeShapes Go.WideShapes Go.ChangeAt Go.RowKit Go.Deep
set_option linter.unusedVariables false
set_option linter.unusedSimpArgs false

theorem atT_ok : ∀ (zs : List Int) (t x : Tr), treeOkB t = true → atT t zs = some x → treeOkB x = true
  | [], t, x, h, e => by
    rw [atT] at e
    injection e with e
    subst e
    exact h
  | z :: zs, t, x, h, e => by
    rw [atT] at e
    split at e
    · cases hx : t.ks[z.toNat]? with
      | none => rw [hx] at e; cases e
      | some y =>
        rw [hx] at e
        exact atT_ok zs y x (kid_valid h (List.mem_of_getElem? hx)) e
    · cases e
set_option maxRecDepth 100000 in
set_option maxHeartbeats 2000000 in
theorem sTreeAt_any (t : Tr) (hsm : SmT t) (zs : List Int) (hzl : zs.length ≤ maxLen) : ∀ (A A0 A1 : Option Addr) (c c0 c1 : Nat) (w : World), PrL w A0 t.ps → TrL w 0 A1 t.ks → IntL w A zs →
    Calls Tryd.prog 20 #[.agg #[.int .i64 t.tag, .int .i64 t.key, .string t.text, .slice A0 t.ps.length c0, .slice A1 t.ks.length c1], .slice A zs.length c] w (TaX t zs w) := by
  intro A A0 A1 c c0 c1 w hp hk hz
  have k1 := fun w hp hk => svalidTree_any t hsm A0 A1 c0 c1 w hp hk
  have k2 := fun w hp hk hz => partAt_any t hsm zs hzl A A0 A1 c c0 c1 w hp hk hz
  unfold PAtX at k2
  have HTX := Lib.hid (show ∀ e w', Below w.heap.size w w' ∧ ((atV t zs = none ∧ e = .returned (.tuple #[.agg #[.int .i64 0, .int .i64 0, .string ⟨#[]⟩, .slice none 0 0, .slice none 0 0], .bool false])) ∨ ∃ (x : Tr) (B0 B1 : Option Addr) (f0 f1 : Nat), atV t zs = some x ∧ e = .returned (.tuple #[.agg #[.int .i64 x.tag, .int .i64 x.key, .string x.text, .slice B0 x.ps.length f0, .slice B1 x.ks.length f1], .bool true]) ∧ PrL w' B0 x.ps ∧ (∀ b o, B0 = some ⟨b, o, none⟩ → w.heap.size ≤ b) ∧ TrL w' w.heap.size B1 x.ks) → TaX t zs w e w' from fun e w' h => h)
  obtain ⟨Q, hQ⟩ : ∃ Q, TaX t zs w = Q := ⟨_, rfl⟩
  rw [hQ] at HTX ⊢
  clear hQ
  obtain ⟨n, hn⟩ : ∃ n, zs.length = n := ⟨_, rfl⟩
  rw [hn] at k2 ⊢
  have hb0 : Below w.heap.size w ((w.alloc (.cells #[.int .i64 t.tag, .int .i64 t.key, .string t.text, .slice A0 t.ps.length c0, .slice A1 t.ks.length c1] 26)).alloc (.cells #[.int .i64 0, .int .i64 0, .string ⟨#[]⟩, .slice none 0 0, .slice none 0 0] 26)) := (Below.alloc (Below.refl w.heap.size w) (Nat.le_refl _) _).alloc (by simp) _
  have d0 : ((w.alloc (.cells #[.int .i64 t.tag, .int .i64 t.key, .string t.text, .slice A0 t.ps.length c0, .slice A1 t.ks.length c1] 26)).alloc (.cells #[.int .i64 0, .int .i64 0, .string ⟨#[]⟩, .slice none 0 0, .slice none 0 0] 26)).cell? ⟨w.heap.size, 0, none⟩ = some (.int .i64 t.tag) := by go_simp
  have d1 : ((w.alloc (.cells #[.int .i64 t.tag, .int .i64 t.key, .string t.text, .slice A0 t.ps.length c0, .slice A1 t.ks.length c1] 26)).alloc (.cells #[.int .i64 0, .int .i64 0, .string ⟨#[]⟩, .slice none 0 0, .slice none 0 0] 26)).cell? ⟨w.heap.size, 1, none⟩ = some (.int .i64 t.key) := by go_simp
  have d2 : ((w.alloc (.cells #[.int .i64 t.tag, .int .i64 t.key, .string t.text, .slice A0 t.ps.length c0, .slice A1 t.ks.length c1] 26)).alloc (.cells #[.int .i64 0, .int .i64 0, .string ⟨#[]⟩, .slice none 0 0, .slice none 0 0] 26)).cell? ⟨w.heap.size, 2, none⟩ = some (.string t.text) := by go_simp
  have d3 : ((w.alloc (.cells #[.int .i64 t.tag, .int .i64 t.key, .string t.text, .slice A0 t.ps.length c0, .slice A1 t.ks.length c1] 26)).alloc (.cells #[.int .i64 0, .int .i64 0, .string ⟨#[]⟩, .slice none 0 0, .slice none 0 0] 26)).cell? ⟨w.heap.size, 3, none⟩ = some (.slice A0 t.ps.length c0) := by go_simp
  have d4 : ((w.alloc (.cells #[.int .i64 t.tag, .int .i64 t.key, .string t.text, .slice A0 t.ps.length c0, .slice A1 t.ks.length c1] 26)).alloc (.cells #[.int .i64 0, .int .i64 0, .string ⟨#[]⟩, .slice none 0 0, .slice none 0 0] 26)).cell? ⟨w.heap.size, 4, none⟩ = some (.slice A1 t.ks.length c1) := by go_simp
  have z0 : ((w.alloc (.cells #[.int .i64 t.tag, .int .i64 t.key, .string t.text, .slice A0 t.ps.length c0, .slice A1 t.ks.length c1] 26)).alloc (.cells #[.int .i64 0, .int .i64 0, .string ⟨#[]⟩, .slice none 0 0, .slice none 0 0] 26)).cell? ⟨w.heap.size + 1, 0, none⟩ = some (.int .i64 0) := by go_simp
  have z1 : ((w.alloc (.cells #[.int .i64 t.tag, .int .i64 t.key, .string t.text, .slice A0 t.ps.length c0, .slice A1 t.ks.length c1] 26)).alloc (.cells #[.int .i64 0, .int .i64 0, .string ⟨#[]⟩, .slice none 0 0, .slice none 0 0] 26)).cell? ⟨w.heap.size + 1, 1, none⟩ = some (.int .i64 0) := by go_simp
  have z2 : ((w.alloc (.cells #[.int .i64 t.tag, .int .i64 t.key, .string t.text, .slice A0 t.ps.length c0, .slice A1 t.ks.length c1] 26)).alloc (.cells #[.int .i64 0, .int .i64 0, .string ⟨#[]⟩, .slice none 0 0, .slice none 0 0] 26)).cell? ⟨w.heap.size + 1, 2, none⟩ = some (.string ⟨#[]⟩) := by go_simp
  have z3 : ((w.alloc (.cells #[.int .i64 t.tag, .int .i64 t.key, .string t.text, .slice A0 t.ps.length c0, .slice A1 t.ks.length c1] 26)).alloc (.cells #[.int .i64 0, .int .i64 0, .string ⟨#[]⟩, .slice none 0 0, .slice none 0 0] 26)).cell? ⟨w.heap.size + 1, 3, none⟩ = some (.slice none 0 0) := by go_simp
  have z4 : ((w.alloc (.cells #[.int .i64 t.tag, .int .i64 t.key, .string t.text, .slice A0 t.ps.length c0, .slice A1 t.ks.length c1] 26)).alloc (.cells #[.int .i64 0, .int .i64 0, .string ⟨#[]⟩, .slice none 0 0, .slice none 0 0] 26)).cell? ⟨w.heap.size + 1, 4, none⟩ = some (.slice none 0 0) := by go_simp
  have f4 : ∀ o, ((w.alloc (.cells #[.int .i64 t.tag, .int .i64 t.key, .string t.text, .slice A0 t.ps.length c0, .slice A1 t.ks.length c1] 26)).alloc (.cells #[.int .i64 0, .int .i64 0, .string ⟨#[]⟩, .slice none 0 0, .slice none 0 0] 26)).frozen? ⟨w.heap.size + 1, o, none⟩ = false := fun o => by go_simp
  have hsz : w.heap.size + 1 < ((w.alloc (.cells #[.int .i64 t.tag, .int .i64 t.key, .string t.text, .slice A0 t.ps.length c0, .slice A1 t.ks.length c1] 26)).alloc (.cells #[.int .i64 0, .int .i64 0, .string ⟨#[]⟩, .slice none 0 0, .slice none 0 0] 26)).heap.size := by simp
  have HB0 := Lib.hid hb0
  have K1 := Lib.hid (k1 _ (hp.below hb0) (hk.below hb0))
  have HZ := Lib.hid hz
  have HP := Lib.hid hp
  have HK := Lib.hid hk
  have K2 := Lib.hid k2
  have HAV := Lib.hid (show ∀ v, treeOkB t = v → atV t zs = if v = true then atT t zs else none from fun v hv => by unfold atV; rw [hv])
  obtain ⟨wb, hwb⟩ : ∃ v, ((w.alloc (.cells #[.int .i64 t.tag, .int .i64 t.key, .string t.text, .slice A0 t.ps.length c0, .slice A1 t.ks.length c1] 26)).alloc (.cells #[.int .i64 0, .int .i64 0, .string ⟨#[]⟩, .slice none 0 0, .slice none 0 0] 26)) = v := ⟨_, rfl⟩
  rw [hwb] at d0 d1 d2 d3 d4 z0 z1 z2 z3 z4 f4 hsz HB0 K1
  obtain ⟨ok, hok⟩ : ∃ v, treeOkB t = v := ⟨_, rfl⟩
  have HOK := Lib.hid hok
  rw [hok] at K1
  clear hb0 hz hp hk hsm hn hok k1 k2
  go_enter Tryd.func20, Tryd.ntmps20
  go_wp2_with fail
  refine K1.out.mono ?_
  rintro e w1 ⟨rfl, hb⟩
  replace d0 := (hb.cell (p := ⟨w.heap.size, 0, none⟩) (by first | omega | (dsimp only; omega) | (simp; omega))).trans d0
  replace z0 := (hb.cell (p := ⟨w.heap.size + 1, 0, none⟩) (by first | omega | (dsimp only; omega) | (simp; omega))).trans z0
  replace d1 := (hb.cell (p := ⟨w.heap.size, 1, none⟩) (by first | omega | (dsimp only; omega) | (simp; omega))).trans d1
  replace z1 := (hb.cell (p := ⟨w.heap.size + 1, 1, none⟩) (by first | omega | (dsimp only; omega) | (simp; omega))).trans z1
  replace d2 := (hb.cell (p := ⟨w.heap.size, 2, none⟩) (by first | omega | (dsimp only; omega) | (simp; omega))).trans d2
  replace z2 := (hb.cell (p := ⟨w.heap.size + 1, 2, none⟩) (by first | omega | (dsimp only; omega) | (simp; omega))).trans z2
  replace d3 := (hb.cell (p := ⟨w.heap.size, 3, none⟩) (by first | omega | (dsimp only; omega) | (simp; omega))).trans d3
  replace z3 := (hb.cell (p := ⟨w.heap.size + 1, 3, none⟩) (by first | omega | (dsimp only; omega) | (simp; omega))).trans z3
  replace d4 := (hb.cell (p := ⟨w.heap.size, 4, none⟩) (by first | omega | (dsimp only; omega) | (simp; omega))).trans d4
  replace z4 := (hb.cell (p := ⟨w.heap.size + 1, 4, none⟩) (by first | omega | (dsimp only; omega) | (simp; omega))).trans z4
  replace f4 := fun o => (hb.frozen (p := ⟨w.heap.size + 1, o, none⟩) (by first | omega | (dsimp only; omega) | (simp; omega))).trans (f4 o)
  have HB1 := Lib.hid (more HB0.out (Nat.le_refl _) hb)
  replace hsz := Nat.lt_of_lt_of_le hsz hb.size
  clear hb hwb K1 HB0
  cases ok
  · have HE := Lib.hid ((HAV.out _ HOK.out).trans (if_neg (by decide)))
    clear HAV
    go_wp2_with fail
    refine bodyPost_ret (v := .tuple #[.agg #[.int .i64 0, .int .i64 0, .string ⟨#[]⟩, .slice none 0 0, .slice none 0 0], .bool false]) (by simp [results, Tryd.results20, go_sem, d0, d1, d2, d3, d4, z0, z1, z2, z3, z4, f4]) rfl (HTX.out _ _ ⟨?_, .inl ⟨HE.out, rfl⟩⟩)
    exact ((((HB1.out.setCell (p := ⟨w.heap.size + 1, 0, none⟩) (by simp) _).setCell (p := ⟨w.heap.size + 1, 1, none⟩) (by simp) _).setCell (p := ⟨w.heap.size + 1, 2, none⟩) (by simp) _).setCell (p := ⟨w.heap.size + 1, 3, none⟩) (by simp) _).setCell (p := ⟨w.heap.size + 1, 4, none⟩) (by simp) _
  have HAT := Lib.hid ((HAV.out _ HOK.out).trans (if_pos rfl))
  clear HAV
  go_wp2_with fail
  refine (K2.out _ (HP.out.below HB1.out) (HK.out.below HB1.out) (HZ.out.below HB1.out)).mono ?_
  rintro e w2 ⟨hb, ⟨hno, rfl⟩ | ⟨x, E0, E1, g0, g1, hx, _, hpx, hkx, rfl⟩⟩
  · have HE := Lib.hid (HAT.out.trans hno)
    replace d0 := (hb.cell (p := ⟨w.heap.size, 0, none⟩) (by first | omega | (dsimp only; omega) | (simp; omega))).trans d0
    replace z0 := (hb.cell (p := ⟨w.heap.size + 1, 0, none⟩) (by first | omega | (dsimp only; omega) | (simp; omega))).trans z0
    replace d1 := (hb.cell (p := ⟨w.heap.size, 1, none⟩) (by first | omega | (dsimp only; omega) | (simp; omega))).trans d1
    replace z1 := (hb.cell (p := ⟨w.heap.size + 1, 1, none⟩) (by first | omega | (dsimp only; omega) | (simp; omega))).trans z1
    replace d2 := (hb.cell (p := ⟨w.heap.size, 2, none⟩) (by first | omega | (dsimp only; omega) | (simp; omega))).trans d2
    replace z2 := (hb.cell (p := ⟨w.heap.size + 1, 2, none⟩) (by first | omega | (dsimp only; omega) | (simp; omega))).trans z2
    replace d3 := (hb.cell (p := ⟨w.heap.size, 3, none⟩) (by first | omega | (dsimp only; omega) | (simp; omega))).trans d3
    replace z3 := (hb.cell (p := ⟨w.heap.size + 1, 3, none⟩) (by first | omega | (dsimp only; omega) | (simp; omega))).trans z3
    replace d4 := (hb.cell (p := ⟨w.heap.size, 4, none⟩) (by first | omega | (dsimp only; omega) | (simp; omega))).trans d4
    replace z4 := (hb.cell (p := ⟨w.heap.size + 1, 4, none⟩) (by first | omega | (dsimp only; omega) | (simp; omega))).trans z4
    replace f4 := fun o => (hb.frozen (p := ⟨w.heap.size + 1, o, none⟩) (by first | omega | (dsimp only; omega) | (simp; omega))).trans (f4 o)
    have HB2 := Lib.hid (more HB1.out (Nat.le_refl _) hb)
    replace hsz := Nat.lt_of_lt_of_le hsz hb.size
    clear hb hno K2 HB1
    go_wp2_with fail
    have hbz : Below w.heap.size w ((((((w2.setCell ⟨w.heap.size + 1, 0, none⟩ (.int .i64 0)).setCell ⟨w.heap.size + 1, 1, none⟩ (.int .i64 0)).setCell ⟨w.heap.size + 1, 2, none⟩ (.string ⟨#[]⟩)).setCell ⟨w.heap.size + 1, 3, none⟩ (.slice none 0 0)).setCell ⟨w.heap.size + 1, 4, none⟩ (.slice none 0 0)).alloc (.cells #[.int .i64 0, .int .i64 0, .string ⟨#[]⟩, .slice none 0 0, .slice none 0 0] 26)) := Below.alloc (((((HB2.out.setCell (p := ⟨w.heap.size + 1, 0, none⟩) (by simp) _).setCell (p := ⟨w.heap.size + 1, 1, none⟩) (by simp) _).setCell (p := ⟨w.heap.size + 1, 2, none⟩) (by simp) _).setCell (p := ⟨w.heap.size + 1, 3, none⟩) (by simp) _).setCell (p := ⟨w.heap.size + 1, 4, none⟩) (by simp) _) (by simp only [World.size_setCell]; omega) _
    have y0 : ((((((w2.setCell ⟨w.heap.size + 1, 0, none⟩ (.int .i64 0)).setCell ⟨w.heap.size + 1, 1, none⟩ (.int .i64 0)).setCell ⟨w.heap.size + 1, 2, none⟩ (.string ⟨#[]⟩)).setCell ⟨w.heap.size + 1, 3, none⟩ (.slice none 0 0)).setCell ⟨w.heap.size + 1, 4, none⟩ (.slice none 0 0)).alloc (.cells #[.int .i64 0, .int .i64 0, .string ⟨#[]⟩, .slice none 0 0, .slice none 0 0] 26)).cell? ⟨w.heap.size + 1, 0, none⟩ = some (.int .i64 0) := (World.cell?_alloc_lt _ _ _ (by simp only [World.size_setCell]; omega)).trans (by go_simp)
    have y1 : ((((((w2.setCell ⟨w.heap.size + 1, 0, none⟩ (.int .i64 0)).setCell ⟨w.heap.size + 1, 1, none⟩ (.int .i64 0)).setCell ⟨w.heap.size + 1, 2, none⟩ (.string ⟨#[]⟩)).setCell ⟨w.heap.size + 1, 3, none⟩ (.slice none 0 0)).setCell ⟨w.heap.size + 1, 4, none⟩ (.slice none 0 0)).alloc (.cells #[.int .i64 0, .int .i64 0, .string ⟨#[]⟩, .slice none 0 0, .slice none 0 0] 26)).cell? ⟨w.heap.size + 1, 1, none⟩ = some (.int .i64 0) := (World.cell?_alloc_lt _ _ _ (by simp only [World.size_setCell]; omega)).trans (by go_simp)
    have y2 : ((((((w2.setCell ⟨w.heap.size + 1, 0, none⟩ (.int .i64 0)).setCell ⟨w.heap.size + 1, 1, none⟩ (.int .i64 0)).setCell ⟨w.heap.size + 1, 2, none⟩ (.string ⟨#[]⟩)).setCell ⟨w.heap.size + 1, 3, none⟩ (.slice none 0 0)).setCell ⟨w.heap.size + 1, 4, none⟩ (.slice none 0 0)).alloc (.cells #[.int .i64 0, .int .i64 0, .string ⟨#[]⟩, .slice none 0 0, .slice none 0 0] 26)).cell? ⟨w.heap.size + 1, 2, none⟩ = some (.string ⟨#[]⟩) := (World.cell?_alloc_lt _ _ _ (by simp only [World.size_setCell]; omega)).trans (by go_simp)
    have y3 : ((((((w2.setCell ⟨w.heap.size + 1, 0, none⟩ (.int .i64 0)).setCell ⟨w.heap.size + 1, 1, none⟩ (.int .i64 0)).setCell ⟨w.heap.size + 1, 2, none⟩ (.string ⟨#[]⟩)).setCell ⟨w.heap.size + 1, 3, none⟩ (.slice none 0 0)).setCell ⟨w.heap.size + 1, 4, none⟩ (.slice none 0 0)).alloc (.cells #[.int .i64 0, .int .i64 0, .string ⟨#[]⟩, .slice none 0 0, .slice none 0 0] 26)).cell? ⟨w.heap.size + 1, 3, none⟩ = some (.slice none 0 0) := (World.cell?_alloc_lt _ _ _ (by simp only [World.size_setCell]; omega)).trans (by go_simp)
    have y4 : ((((((w2.setCell ⟨w.heap.size + 1, 0, none⟩ (.int .i64 0)).setCell ⟨w.heap.size + 1, 1, none⟩ (.int .i64 0)).setCell ⟨w.heap.size + 1, 2, none⟩ (.string ⟨#[]⟩)).setCell ⟨w.heap.size + 1, 3, none⟩ (.slice none 0 0)).setCell ⟨w.heap.size + 1, 4, none⟩ (.slice none 0 0)).alloc (.cells #[.int .i64 0, .int .i64 0, .string ⟨#[]⟩, .slice none 0 0, .slice none 0 0] 26)).cell? ⟨w.heap.size + 1, 4, none⟩ = some (.slice none 0 0) := (World.cell?_alloc_lt _ _ _ (by simp only [World.size_setCell]; omega)).trans (by go_simp)
    obtain ⟨wz, hwz⟩ : ∃ v, ((((((w2.setCell ⟨w.heap.size + 1, 0, none⟩ (.int .i64 0)).setCell ⟨w.heap.size + 1, 1, none⟩ (.int .i64 0)).setCell ⟨w.heap.size + 1, 2, none⟩ (.string ⟨#[]⟩)).setCell ⟨w.heap.size + 1, 3, none⟩ (.slice none 0 0)).setCell ⟨w.heap.size + 1, 4, none⟩ (.slice none 0 0)).alloc (.cells #[.int .i64 0, .int .i64 0, .string ⟨#[]⟩, .slice none 0 0, .slice none 0 0] 26)) = v := ⟨_, rfl⟩
    rw [hwz] at hbz y0 y1 y2 y3 y4 ⊢
    refine bodyPost_ret (v := .tuple #[.agg #[.int .i64 0, .int .i64 0, .string ⟨#[]⟩, .slice none 0 0, .slice none 0 0], .bool false]) (by simp [results, Tryd.results20, go_sem, y0, y1, y2, y3, y4]) rfl (HTX.out _ _ ⟨hbz, .inl ⟨HE.out, rfl⟩⟩)
  · have HE := Lib.hid (HAT.out.trans hx)
    have hcx := scopyTree_any x (atT_ok zs t x HOK.out hx) E0 E1 g0 g1
    have hcq : ∀ W e w', CpX x W e w' → ∃ B0 f0 B1 f1, e = .returned (.agg #[.int .i64 x.tag, .int .i64 x.key, .string x.text, .slice B0 x.ps.length f0, .slice B1 x.ks.length f1]) ∧ PrL w' B0 x.ps ∧ (∀ b o, B0 = some ⟨b, o, none⟩ → W.heap.size ≤ b) ∧ TrL w' W.heap.size B1 x.ks ∧ Below W.heap.size W w' := fun W e w' h => h
    replace d0 := (hb.cell (p := ⟨w.heap.size, 0, none⟩) (by first | omega | (dsimp only; omega) | (simp; omega))).trans d0
    replace z0 := (hb.cell (p := ⟨w.heap.size + 1, 0, none⟩) (by first | omega | (dsimp only; omega) | (simp; omega))).trans z0
    replace d1 := (hb.cell (p := ⟨w.heap.size, 1, none⟩) (by first | omega | (dsimp only; omega) | (simp; omega))).trans d1
    replace z1 := (hb.cell (p := ⟨w.heap.size + 1, 1, none⟩) (by first | omega | (dsimp only; omega) | (simp; omega))).trans z1
    replace d2 := (hb.cell (p := ⟨w.heap.size, 2, none⟩) (by first | omega | (dsimp only; omega) | (simp; omega))).trans d2
    replace z2 := (hb.cell (p := ⟨w.heap.size + 1, 2, none⟩) (by first | omega | (dsimp only; omega) | (simp; omega))).trans z2
    replace d3 := (hb.cell (p := ⟨w.heap.size, 3, none⟩) (by first | omega | (dsimp only; omega) | (simp; omega))).trans d3
    replace z3 := (hb.cell (p := ⟨w.heap.size + 1, 3, none⟩) (by first | omega | (dsimp only; omega) | (simp; omega))).trans z3
    replace d4 := (hb.cell (p := ⟨w.heap.size, 4, none⟩) (by first | omega | (dsimp only; omega) | (simp; omega))).trans d4
    replace z4 := (hb.cell (p := ⟨w.heap.size + 1, 4, none⟩) (by first | omega | (dsimp only; omega) | (simp; omega))).trans z4
    replace f4 := fun o => (hb.frozen (p := ⟨w.heap.size + 1, o, none⟩) (by first | omega | (dsimp only; omega) | (simp; omega))).trans (f4 o)
    have HB2 := Lib.hid (more HB1.out (Nat.le_refl _) hb)
    have hb3 := Below.alloc (Below.refl w2.heap.size w2) (Nat.le_refl _) (.cells #[.int .i64 x.tag, .int .i64 x.key, .string x.text, .slice E0 x.ps.length g0, .slice E1 x.ks.length g1] 26)
    have KC := Lib.hid (hcx (w2.alloc (.cells #[.int .i64 x.tag, .int .i64 x.key, .string x.text, .slice E0 x.ps.length g0, .slice E1 x.ks.length g1] 26)) ((hpx.below hb).below hb3) ((hkx.below hb).below hb3))
    replace hsz := Nat.lt_of_lt_of_le hsz hb.size
    clear hb hx hpx hkx K2 HB1 hcx
    replace d0 := (hb3.cell (p := ⟨w.heap.size, 0, none⟩) (by first | omega | (dsimp only; omega) | (simp; omega))).trans d0
    replace z0 := (hb3.cell (p := ⟨w.heap.size + 1, 0, none⟩) (by first | omega | (dsimp only; omega) | (simp; omega))).trans z0
    replace d1 := (hb3.cell (p := ⟨w.heap.size, 1, none⟩) (by first | omega | (dsimp only; omega) | (simp; omega))).trans d1
    replace z1 := (hb3.cell (p := ⟨w.heap.size + 1, 1, none⟩) (by first | omega | (dsimp only; omega) | (simp; omega))).trans z1
    replace d2 := (hb3.cell (p := ⟨w.heap.size, 2, none⟩) (by first | omega | (dsimp only; omega) | (simp; omega))).trans d2
    replace z2 := (hb3.cell (p := ⟨w.heap.size + 1, 2, none⟩) (by first | omega | (dsimp only; omega) | (simp; omega))).trans z2
    replace d3 := (hb3.cell (p := ⟨w.heap.size, 3, none⟩) (by first | omega | (dsimp only; omega) | (simp; omega))).trans d3
    replace z3 := (hb3.cell (p := ⟨w.heap.size + 1, 3, none⟩) (by first | omega | (dsimp only; omega) | (simp; omega))).trans z3
    replace d4 := (hb3.cell (p := ⟨w.heap.size, 4, none⟩) (by first | omega | (dsimp only; omega) | (simp; omega))).trans d4
    replace z4 := (hb3.cell (p := ⟨w.heap.size + 1, 4, none⟩) (by first | omega | (dsimp only; omega) | (simp; omega))).trans z4
    replace f4 := fun o => (hb3.frozen (p := ⟨w.heap.size + 1, o, none⟩) (by first | omega | (dsimp only; omega) | (simp; omega))).trans (f4 o)
    have HB3 := Lib.hid (more HB2.out (Nat.le_refl _) hb3)
    replace hsz := Nat.lt_of_lt_of_le hsz hb3.size
    clear hb3
    go_wp2_with fail
    refine KC.out.mono ?_
    intro e w4 hq
    obtain ⟨B0, f0, B1, f1, rfl, hpp, hplo, hkk, hb⟩ := hcq _ _ _ hq
    replace d0 := (hb.cell (p := ⟨w.heap.size, 0, none⟩) (by first | omega | (dsimp only; omega) | (simp; omega))).trans d0
    replace z0 := (hb.cell (p := ⟨w.heap.size + 1, 0, none⟩) (by first | omega | (dsimp only; omega) | (simp; omega))).trans z0
    replace d1 := (hb.cell (p := ⟨w.heap.size, 1, none⟩) (by first | omega | (dsimp only; omega) | (simp; omega))).trans d1
    replace z1 := (hb.cell (p := ⟨w.heap.size + 1, 1, none⟩) (by first | omega | (dsimp only; omega) | (simp; omega))).trans z1
    replace d2 := (hb.cell (p := ⟨w.heap.size, 2, none⟩) (by first | omega | (dsimp only; omega) | (simp; omega))).trans d2
    replace z2 := (hb.cell (p := ⟨w.heap.size + 1, 2, none⟩) (by first | omega | (dsimp only; omega) | (simp; omega))).trans z2
    replace d3 := (hb.cell (p := ⟨w.heap.size, 3, none⟩) (by first | omega | (dsimp only; omega) | (simp; omega))).trans d3
    replace z3 := (hb.cell (p := ⟨w.heap.size + 1, 3, none⟩) (by first | omega | (dsimp only; omega) | (simp; omega))).trans z3
    replace d4 := (hb.cell (p := ⟨w.heap.size, 4, none⟩) (by first | omega | (dsimp only; omega) | (simp; omega))).trans d4
    replace z4 := (hb.cell (p := ⟨w.heap.size + 1, 4, none⟩) (by first | omega | (dsimp only; omega) | (simp; omega))).trans z4
    replace f4 := fun o => (hb.frozen (p := ⟨w.heap.size + 1, o, none⟩) (by first | omega | (dsimp only; omega) | (simp; omega))).trans (f4 o)
    have HB4 := Lib.hid (more HB3.out (Nat.le_refl _) hb)
    have HPP := Lib.hid hpp
    have HPL := Lib.hid (fun b o e => Nat.lt_of_lt_of_le hsz (hplo b o e))
    have HKK := Lib.hid hkk
    have hz2 : w.heap.size + 1 < (w2.alloc (.cells #[.int .i64 x.tag, .int .i64 x.key, .string x.text, .slice E0 x.ps.length g0, .slice E1 x.ks.length g1] 26)).heap.size := hsz
    clear hpp hplo hkk hb hq hcq KC
    go_wp2_with fail
    refine bodyPost_ret (v := .tuple #[.agg #[.int .i64 x.tag, .int .i64 x.key, .string x.text, .slice B0 x.ps.length f0, .slice B1 x.ks.length f1], .bool true]) (by simp [results, Tryd.results20, go_sem, z0, z1, z2, z3, z4, f4]) rfl (HTX.out _ _ ⟨?_, .inr ⟨x, B0, B1, f0, f1, HE.out, rfl, ?_, fun b o e => by have := HPL.out b o e; omega, ?_⟩⟩)
    · exact ((((HB4.out.setCell (p := ⟨w.heap.size + 1, 0, none⟩) (by simp) _).setCell (p := ⟨w.heap.size + 1, 1, none⟩) (by simp) _).setCell (p := ⟨w.heap.size + 1, 2, none⟩) (by simp) _).setCell (p := ⟨w.heap.size + 1, 3, none⟩) (by simp) _).setCell (p := ⟨w.heap.size + 1, 4, none⟩) (by simp) _
    · refine PrL.kept (w := w4) (lo := w.heap.size + 1 + 1) (by simp [World.setCell]) (fun b hb _ => ?_) HPP.out (fun b o e => HPL.out b o e)
      rw [Below.heap_setCell _ _ _ b (by first | omega | (simp; omega) | (simp <;> omega)), Below.heap_setCell _ _ _ b (by first | omega | (simp; omega) | (simp <;> omega)), Below.heap_setCell _ _ _ b (by first | omega | (simp; omega) | (simp <;> omega)), Below.heap_setCell _ _ _ b (by first | omega | (simp; omega) | (simp <;> omega)), Below.heap_setCell _ _ _ b (by first | omega | (simp; omega) | (simp <;> omega))]
    · refine TrL.mono (lo := (w2.alloc (.cells #[.int .i64 x.tag, .int .i64 x.key, .string x.text, .slice E0 x.ps.length g0, .slice E1 x.ks.length g1] 26)).heap.size) (by omega) (TrL.kept (w := w4) (by simp [World.setCell]) (fun b hb _ => ?_) HKK.out)
      have hb5 : w.heap.size + 1 < b := Nat.lt_of_lt_of_le hz2 hb
      rw [Below.heap_setCell _ _ _ b (by first | omega | (simp; omega) | (simp <;> omega)), Below.heap_setCell _ _ _ b (by first | omega | (simp; omega) | (simp <;> omega)), Below.heap_setCell _ _ _ b (by first | omega | (simp; omega) | (simp <;> omega)), Below.heap_setCell _ _ _ b (by first | omega | (simp; omega) | (simp <;> omega)), Below.heap_setCell _ _ _ b (by first | omega | (simp; omega) | (simp <;> omega))]
end Go.Proofs.YtpkhpaioddommaaDoor
