/- The law FnFindAll answers true at every code, and leaves it as it was, where the library's variables stand. -/
import Derived.Test.YtmfibedcloknlaaGreatDoorFncM
import Derived.Test.YtmfibedcloknlaaGreatDoorFnaM
import Derived.Test.YtmfibedcloknlaaGreatDoorFnbM
import Derived.Test.YtmfibedcloknlaaGreatDoorTreM
import Derived.Test.YtmfibedcloknlaaGreatDoorTre17
namespace Go.Proofs.YtmfibedcloknlaaGreatDoor.fnFindAll
open Go.Joins Go.ChangeShapes Go.WideShapes Go.ChangeAt Go.RowKit Go.Deep
set_option linter.unusedVariables false
set_option linter.unusedSimpArgs false

theorem shOk : ShOk Vs := ⟨fun w w' h hb => h.next hb, fun s w hl hv => ishown_any s w hl hv⟩
theorem vpL_mem {sh : ByteArray → Bool} {x : Tr} : ∀ {ks : List Tr}, vpL sh ks = true → x ∈ ks → vpT sh x = true
 | [], _, hx => by cases hx
 | y :: ys, h, hx => by
  simp only [vpL, Bool.and_eq_true] at h
  rcases List.mem_cons.1 hx with rfl | hx
  ·exact h.1
  ·exact vpL_mem h.2 hx
theorem sizeL_mem {x : Tr} : ∀ {ks : List Tr}, x ∈ ks → sizeT x ≤ sizeL ks
 | [], hx => by cases hx
 | y :: ys, hx => by
  simp only [sizeL]
  rcases List.mem_cons.1 hx with rfl | hx
  ·omega
  ·have := sizeL_mem hx; omega
/-- A valid tree's size is one and its Kids' sizes. -/
theorem kid_size {t : Tr} (h : treeOkB t = true) : treeSizeV t = (1 + sizeL t.ks : Nat) ∧ sizeL t.ks ≤ 200 ∧ ∀ x ∈ t.ks, treeSizeV x = (sizeT x : Nat) := by
 obtain ⟨_, e1, e2⟩ := treeB_yes (show treeB shownB t = true from h)
 have hv : vpT shownB t = true := by unfold treeOkB at h; rw [Bool.and_eq_true] at h; exact h.2
 have hd : deepT t + 1 ≤ 25 := by
  rcases Decidable.em (deepT t + 1 ≤ 25 ∧ sizeT t ≤ 200) with hq | hq
  ·exact hq.1
  ·have := (tsT_is t 1).2 hq; omega
 rw [deepT_eq] at hd
 rw [sizeT_eq] at e1 e2
 rw [vpT_eq, Bool.and_eq_true] at hv
 refine ⟨by unfold treeSizeV; rw [if_pos h, e1], by omega, fun x hx => ?_⟩
 have d1 := deepL_mem hx
 have d2 := sizeL_mem hx
 have e3 := (tsT_is x 1).1 ⟨by omega, by omega⟩
 have hk : treeOkB x = true := by
  unfold treeOkB
  rw [Bool.and_eq_true]
  exact ⟨decide_eq_true (by omega), vpL_mem hv.2 hx⟩
 unfold treeSizeV
 rw [if_pos hk, e3]
theorem gsm : ∀ t, GdT t → SmT t := Tr.by_kids fun t ih h => by
 cases h with
 | mk h0 h1 h2 h3 h4 h5 => exact .mk (by unfold maxLen; omega) (by unfold maxLen; omega) (fun x hx => by have := h2 x hx; unfold maxLen; omega) (by unfold maxLen; omega) (fun x hx => ih x hx (h4 x hx))
theorem gkey {t : Tr} (h : GdT t) : -1000 ≤ t.key ∧ t.key ≤ 1000 := by cases h with | mk h0 h1 h2 h3 h4 h5 => exact h5
theorem small_wf (z : Int) (h : -1000 ≤ z ∧ z ≤ 1000) : (Lit.int .i64 z).wf = true := by
 have e1 : IntKind.min .i64 = -9223372036854775808 := by decide
 have e2 : IntKind.max .i64 = 9223372036854775807 := by decide
 simp only [Lit.wf, Bool.and_eq_true, decide_eq_true_eq]
 rw [e1, e2]
 omega
theorem gkw : ∀ t, GdT t → KwT t := Tr.by_kids fun t ih h => by
 cases h with
 | mk h0 h1 h2 h3 h4 h5 => exact .mk (fun x hx => small_wf _ (gkey (h4 x hx))) (fun x hx => ih x hx (h4 x hx)) (by omega)
theorem gks {t : Tr} (h : GdT t) : t.ks.length ≤ 10 ∧ ∀ x ∈ t.ks, GdT x := by cases h with | mk h0 h1 h2 h3 h4 h5 => exact ⟨h3, h4⟩
theorem lkx_lies {xss : List (List Int)} {w w' : World} {e : Ending} (h : LkX xss w e w') : ∃ A c, e = .returned (.slice A xss.length c) ∧ RwL w' A xss ∧ Below w.heap.size w w' := by
 obtain ⟨A, c, rfl, h1, h2⟩ := h
 exact ⟨A, c, rfl, h1.rows.lies, h2⟩
theorem way_len : ∀ t : Tr, ∀ (way : List Nat), ∀ y ∈ partsT way t, y.1.length + 1 ≤ way.length + sizeT t := Tr.by_kids fun t ih way y hy => by
 rw [partsT_eq] at hy
 rcases List.mem_cons.1 hy with rfl | hy
 ·have := sizeT_pos t
  dsimp only
  omega
 ·have hL : ∀ (ks : List Tr), (∀ x ∈ ks, x ∈ t.ks) → ∀ i, y ∈ partsL way i ks → y.1.length + 1 ≤ way.length + sizeT t := by
   intro ks
   induction ks with
   | nil => intro _ i h; rw [partsL_nil] at h; cases h
   | cons x xs ihx =>
    intro hm i h
    rw [show partsL way i (x :: xs) = partsT (way ++ [i]) x ++ partsL way (i + 1) xs by simp only [partsL]] at h
    rcases List.mem_append.1 h with h | h
    ·have h1 := ih x (hm x (by simp)) _ y h
     have h2 := sizeT_kid (hm x (by simp))
     rw [List.length_append, List.length_singleton] at h1
     omega
    ·exact ihx (fun z hz => hm z (List.mem_cons_of_mem _ hz)) _ h
  exact hL t.ks (fun x hx => hx) 0 hy
theorem faV_len (x : Ru) (t : Tr) : (faV x t).length ≤ 200 := by
 unfold faV
 split
 ·rename_i h
  rw [Bool.and_eq_true] at h
  unfold findA
  rw [List.length_map]
  exact Nat.le_trans (selP_sub _ _).length_le (by rw [partsT_length]; exact size_small9 h.1)
 ·simp
theorem faV_ways (x : Ru) (t : Tr) : ∀ y ∈ faV x t, y.length ≤ 200 := by
 unfold faV
 split
 ·rename_i h
  rw [Bool.and_eq_true] at h
  intro y hy
  obtain ⟨q, hq, rfl⟩ := List.mem_map.1 hy
  have h1 := way_len t [] q ((selP_sub _ _).subset hq)
  have h2 := size_small9 h.1
  simp only [List.length_nil] at h1
  omega
 ·simp
set_option maxRecDepth 100000 in
set_option maxHeartbeats 8000000 in
theorem walk (A : Option Addr) (len cap : Nat) (w : World) (hc0 : Code w w.heap.size A len) (hl : len ≤ maxLen) (hT : Vs w) :
  Calls Tryz.prog 4 #[.slice A len cap] w fun e w' => e = .returned (.bool true) ∧ Below w.heap.size w w' := by
 have HC := Lib.hid hc0
 have HLN := Lib.hid hl
 have HT := Lib.hid hT
 unfold maxLen at hl
 clear hc0 hT
 by_cases hbig : (1048576 : Int) < len
 ·go_enter Tryz.func4, Tryz.ntmps4
  go_wp2_with fail
  go_ret
  exact ⟨rfl, by go_grown⟩
 have hd : decide ((1048576 : Int) < len) = false := by simp; omega
 go_enter Tryz.func4, Tryz.ntmps4
 go_wp2_with fail
 refine (DrawFindAll_any A len cap w HC.out HLN.out).mono ?_
 rintro e w1 ⟨A0, c0, A1, c1, t, x, rfl, hp, hk, hG, hB⟩
 have hsm := gsm t hG
 have hkw := gkw t hG
 have k1 := fun w hv hp hk => (iFindAll_any Vs ⟨fun w w' h hb => h.next hb, fun s w hl hv => ishown_any s w hl hv⟩ t x hsm hkw A0 A1 c0 c1 w hv hp hk).mono (fun e w' h => h.rows)
 have k2 := fun w hp hk => (sFindAll_any t x hsm A0 A1 c0 c1 w hp hk).mono (fun e w' h => lkx_lies h)
 have k3 := fun w hv hp hk => iTreeOk_any Vs shOk t hsm hkw A0 A1 c0 c1 w hv hp hk
 have k4 := fun b w h => irules_any (some ⟨b, 0, none⟩) 1 1 [x] w h rfl (by decide)
 have k5 := fun b w hv hp hk hr => (iLooksAll_any Vs shOk t [x.on] 1 hsm hkw rfl (by decide) A0 A1 (some ⟨b, 0, none⟩) c0 c1 1 w hv hp hk hr).mono (fun e w' h => lkx_lies h)
 have hml := faV_len x t
 have hmw := faV_ways x t
 have k6 := fun A B c d w ha hb => sameRows_any A B c d ((faV x t).map natI).length ((faV x t).map natI) w ha hb rfl (by rw [List.length_map]; unfold maxLen; omega) (fun z hz => by obtain ⟨y, hy, rfl⟩ := List.mem_map.1 hz; rw [natI_len]; have := hmw y hy; unfold maxLen; omega)
 have k7 := fun A c w hx => countWide_any A c (lookV [x.on] t).length (lookV [x.on] t) w hx rfl (by have := lookV_len [x.on] t; omega) (lookV_five [x.on] t)
 have hr1 : rulesB [x] = ruleB x := by unfold rulesB; simp
 rw [hr1] at k4
 have hok : ∀ v v2, treeOkB t = v → ruleB x = v2 → v = true → v2 = true → (((lookV [x.on] t).filter wideB).length : Int) = ((faV x t).length : Int) := by
  intro v v2 hv hv2 e1 e2
  subst e1 e2
  rw [fa_count hv hv2]
 obtain ⟨ws, hws⟩ : ∃ q, faV x t = q := ⟨_, rfl⟩
 rw [hws] at k1 k2 k6 hok hml
 obtain ⟨zs, hzs⟩ : ∃ q, lookV [x.on] t = q := ⟨_, rfl⟩
 rw [hzs] at k5 k7 hok
 obtain ⟨ok, hok1⟩ : ∃ v, treeOkB t = v := ⟨_, rfl⟩
 obtain ⟨ok2, hok2⟩ : ∃ v, ruleB x = v := ⟨_, rfl⟩
 have hoks := hok ok ok2 hok1 hok2
 rw [hok1] at k3
 rw [hok2] at k4
 rw [List.length_map] at k2 k6
 obtain ⟨nw, hnw⟩ : ∃ n, ws.length = n := ⟨_, rfl⟩
 rw [hnw] at k1 k2 k6 hoks hml
 obtain ⟨nz, hnz⟩ : ∃ n, zs.length = n := ⟨_, rfl⟩
 rw [hnz] at k5 k7
 obtain ⟨m, hm⟩ : ∃ n, (zs.filter wideB).length = n := ⟨_, rfl⟩
 rw [hm] at k7 hoks
 obtain ⟨wi, hwi⟩ : ∃ n, ws.map natI = n := ⟨_, rfl⟩
 rw [hwi] at k1 k2 k6
 clear hok hok1 hok2 hG hzs hws hmw hr1 hnw hnz hm hwi hsm hkw
 obtain ⟨tag, key, text, ps, ks⟩ := t
 dsimp only [Tr.tag, Tr.key, Tr.text, Tr.ps, Tr.ks] at *
 have hzB := hB.size
 have HB1 := Lib.hid hB
 have HV1 := Lib.hid (HT.out.next hB)
 generalize ps.length = np at *
 generalize ks.length = nk at *
 have HOK := Lib.hid hoks
 have hb1 : Below w1.heap.size w1 ((w1.alloc (.cells #[.int .i64 tag, .int .i64 key, .string text, .slice A0 np c0, .slice A1 nk c1] 26)).alloc (.cells #[.int .i64 x.t, .int .i64 x.a, .int .i64 x.nm, .int .i64 x.v.k, .int .i64 x.v.n, .string x.v.s, .int .i64 x.l, .int .i64 x.g] 42)) := (Below.alloc (Below.refl w1.heap.size w1) (Nat.le_refl _) _).alloc (by simp) _
 have hbz : w1.heap.size + 1 < ((w1.alloc (.cells #[.int .i64 tag, .int .i64 key, .string text, .slice A0 np c0, .slice A1 nk c1] 26)).alloc (.cells #[.int .i64 x.t, .int .i64 x.a, .int .i64 x.nm, .int .i64 x.v.k, .int .i64 x.v.n, .string x.v.s, .int .i64 x.l, .int .i64 x.g] 42)).heap.size := by simp
 have hbt : w1.heap.size < ((w1.alloc (.cells #[.int .i64 tag, .int .i64 key, .string text, .slice A0 np c0, .slice A1 nk c1] 26)).alloc (.cells #[.int .i64 x.t, .int .i64 x.a, .int .i64 x.nm, .int .i64 x.v.k, .int .i64 x.v.n, .string x.v.s, .int .i64 x.l, .int .i64 x.g] 42)).heap.size := Nat.lt_of_succ_lt hbz
 have o0 : ((w1.alloc (.cells #[.int .i64 tag, .int .i64 key, .string text, .slice A0 np c0, .slice A1 nk c1] 26)).alloc (.cells #[.int .i64 x.t, .int .i64 x.a, .int .i64 x.nm, .int .i64 x.v.k, .int .i64 x.v.n, .string x.v.s, .int .i64 x.l, .int .i64 x.g] 42)).cell? ⟨w1.heap.size, 0, none⟩ = some (.int .i64 tag) := by rw [Below.cell (Below.alloc (Below.refl (w1.alloc (.cells #[.int .i64 tag, .int .i64 key, .string text, .slice A0 np c0, .slice A1 nk c1] 26)).heap.size _) (Nat.le_refl _) _) (p := ⟨w1.heap.size, 0, none⟩) (by simp), World.cell?_alloc_new]; rfl
 have o1 : ((w1.alloc (.cells #[.int .i64 tag, .int .i64 key, .string text, .slice A0 np c0, .slice A1 nk c1] 26)).alloc (.cells #[.int .i64 x.t, .int .i64 x.a, .int .i64 x.nm, .int .i64 x.v.k, .int .i64 x.v.n, .string x.v.s, .int .i64 x.l, .int .i64 x.g] 42)).cell? ⟨w1.heap.size, 1, none⟩ = some (.int .i64 key) := by rw [Below.cell (Below.alloc (Below.refl (w1.alloc (.cells #[.int .i64 tag, .int .i64 key, .string text, .slice A0 np c0, .slice A1 nk c1] 26)).heap.size _) (Nat.le_refl _) _) (p := ⟨w1.heap.size, 1, none⟩) (by simp), World.cell?_alloc_new]; rfl
 have o2 : ((w1.alloc (.cells #[.int .i64 tag, .int .i64 key, .string text, .slice A0 np c0, .slice A1 nk c1] 26)).alloc (.cells #[.int .i64 x.t, .int .i64 x.a, .int .i64 x.nm, .int .i64 x.v.k, .int .i64 x.v.n, .string x.v.s, .int .i64 x.l, .int .i64 x.g] 42)).cell? ⟨w1.heap.size, 2, none⟩ = some (.string text) := by rw [Below.cell (Below.alloc (Below.refl (w1.alloc (.cells #[.int .i64 tag, .int .i64 key, .string text, .slice A0 np c0, .slice A1 nk c1] 26)).heap.size _) (Nat.le_refl _) _) (p := ⟨w1.heap.size, 2, none⟩) (by simp), World.cell?_alloc_new]; rfl
 have o3 : ((w1.alloc (.cells #[.int .i64 tag, .int .i64 key, .string text, .slice A0 np c0, .slice A1 nk c1] 26)).alloc (.cells #[.int .i64 x.t, .int .i64 x.a, .int .i64 x.nm, .int .i64 x.v.k, .int .i64 x.v.n, .string x.v.s, .int .i64 x.l, .int .i64 x.g] 42)).cell? ⟨w1.heap.size, 3, none⟩ = some (.slice A0 np c0) := by rw [Below.cell (Below.alloc (Below.refl (w1.alloc (.cells #[.int .i64 tag, .int .i64 key, .string text, .slice A0 np c0, .slice A1 nk c1] 26)).heap.size _) (Nat.le_refl _) _) (p := ⟨w1.heap.size, 3, none⟩) (by simp), World.cell?_alloc_new]; rfl
 have o4 : ((w1.alloc (.cells #[.int .i64 tag, .int .i64 key, .string text, .slice A0 np c0, .slice A1 nk c1] 26)).alloc (.cells #[.int .i64 x.t, .int .i64 x.a, .int .i64 x.nm, .int .i64 x.v.k, .int .i64 x.v.n, .string x.v.s, .int .i64 x.l, .int .i64 x.g] 42)).cell? ⟨w1.heap.size, 4, none⟩ = some (.slice A1 nk c1) := by rw [Below.cell (Below.alloc (Below.refl (w1.alloc (.cells #[.int .i64 tag, .int .i64 key, .string text, .slice A0 np c0, .slice A1 nk c1] 26)).heap.size _) (Nat.le_refl _) _) (p := ⟨w1.heap.size, 4, none⟩) (by simp), World.cell?_alloc_new]; rfl
 have y0 : ((w1.alloc (.cells #[.int .i64 tag, .int .i64 key, .string text, .slice A0 np c0, .slice A1 nk c1] 26)).alloc (.cells #[.int .i64 x.t, .int .i64 x.a, .int .i64 x.nm, .int .i64 x.v.k, .int .i64 x.v.n, .string x.v.s, .int .i64 x.l, .int .i64 x.g] 42)).cell? ⟨w1.heap.size + 1, 0, none⟩ = some (.int .i64 x.t) := by have h : ((w1.alloc (.cells #[.int .i64 tag, .int .i64 key, .string text, .slice A0 np c0, .slice A1 nk c1] 26)).alloc (.cells #[.int .i64 x.t, .int .i64 x.a, .int .i64 x.nm, .int .i64 x.v.k, .int .i64 x.v.n, .string x.v.s, .int .i64 x.l, .int .i64 x.g] 42)).cell? ⟨(w1.alloc (.cells #[.int .i64 tag, .int .i64 key, .string text, .slice A0 np c0, .slice A1 nk c1] 26)).heap.size, 0, none⟩ = some (.int .i64 x.t) := (by rw [World.cell?_alloc_new]; rfl); rwa [World.size_alloc] at h
 have y1 : ((w1.alloc (.cells #[.int .i64 tag, .int .i64 key, .string text, .slice A0 np c0, .slice A1 nk c1] 26)).alloc (.cells #[.int .i64 x.t, .int .i64 x.a, .int .i64 x.nm, .int .i64 x.v.k, .int .i64 x.v.n, .string x.v.s, .int .i64 x.l, .int .i64 x.g] 42)).cell? ⟨w1.heap.size + 1, 1, none⟩ = some (.int .i64 x.a) := by have h : ((w1.alloc (.cells #[.int .i64 tag, .int .i64 key, .string text, .slice A0 np c0, .slice A1 nk c1] 26)).alloc (.cells #[.int .i64 x.t, .int .i64 x.a, .int .i64 x.nm, .int .i64 x.v.k, .int .i64 x.v.n, .string x.v.s, .int .i64 x.l, .int .i64 x.g] 42)).cell? ⟨(w1.alloc (.cells #[.int .i64 tag, .int .i64 key, .string text, .slice A0 np c0, .slice A1 nk c1] 26)).heap.size, 1, none⟩ = some (.int .i64 x.a) := (by rw [World.cell?_alloc_new]; rfl); rwa [World.size_alloc] at h
 have y2 : ((w1.alloc (.cells #[.int .i64 tag, .int .i64 key, .string text, .slice A0 np c0, .slice A1 nk c1] 26)).alloc (.cells #[.int .i64 x.t, .int .i64 x.a, .int .i64 x.nm, .int .i64 x.v.k, .int .i64 x.v.n, .string x.v.s, .int .i64 x.l, .int .i64 x.g] 42)).cell? ⟨w1.heap.size + 1, 2, none⟩ = some (.int .i64 x.nm) := by have h : ((w1.alloc (.cells #[.int .i64 tag, .int .i64 key, .string text, .slice A0 np c0, .slice A1 nk c1] 26)).alloc (.cells #[.int .i64 x.t, .int .i64 x.a, .int .i64 x.nm, .int .i64 x.v.k, .int .i64 x.v.n, .string x.v.s, .int .i64 x.l, .int .i64 x.g] 42)).cell? ⟨(w1.alloc (.cells #[.int .i64 tag, .int .i64 key, .string text, .slice A0 np c0, .slice A1 nk c1] 26)).heap.size, 2, none⟩ = some (.int .i64 x.nm) := (by rw [World.cell?_alloc_new]; rfl); rwa [World.size_alloc] at h
 have y3 : ((w1.alloc (.cells #[.int .i64 tag, .int .i64 key, .string text, .slice A0 np c0, .slice A1 nk c1] 26)).alloc (.cells #[.int .i64 x.t, .int .i64 x.a, .int .i64 x.nm, .int .i64 x.v.k, .int .i64 x.v.n, .string x.v.s, .int .i64 x.l, .int .i64 x.g] 42)).cell? ⟨w1.heap.size + 1, 3, none⟩ = some (.int .i64 x.v.k) := by have h : ((w1.alloc (.cells #[.int .i64 tag, .int .i64 key, .string text, .slice A0 np c0, .slice A1 nk c1] 26)).alloc (.cells #[.int .i64 x.t, .int .i64 x.a, .int .i64 x.nm, .int .i64 x.v.k, .int .i64 x.v.n, .string x.v.s, .int .i64 x.l, .int .i64 x.g] 42)).cell? ⟨(w1.alloc (.cells #[.int .i64 tag, .int .i64 key, .string text, .slice A0 np c0, .slice A1 nk c1] 26)).heap.size, 3, none⟩ = some (.int .i64 x.v.k) := (by rw [World.cell?_alloc_new]; rfl); rwa [World.size_alloc] at h
 have y4 : ((w1.alloc (.cells #[.int .i64 tag, .int .i64 key, .string text, .slice A0 np c0, .slice A1 nk c1] 26)).alloc (.cells #[.int .i64 x.t, .int .i64 x.a, .int .i64 x.nm, .int .i64 x.v.k, .int .i64 x.v.n, .string x.v.s, .int .i64 x.l, .int .i64 x.g] 42)).cell? ⟨w1.heap.size + 1, 4, none⟩ = some (.int .i64 x.v.n) := by have h : ((w1.alloc (.cells #[.int .i64 tag, .int .i64 key, .string text, .slice A0 np c0, .slice A1 nk c1] 26)).alloc (.cells #[.int .i64 x.t, .int .i64 x.a, .int .i64 x.nm, .int .i64 x.v.k, .int .i64 x.v.n, .string x.v.s, .int .i64 x.l, .int .i64 x.g] 42)).cell? ⟨(w1.alloc (.cells #[.int .i64 tag, .int .i64 key, .string text, .slice A0 np c0, .slice A1 nk c1] 26)).heap.size, 4, none⟩ = some (.int .i64 x.v.n) := (by rw [World.cell?_alloc_new]; rfl); rwa [World.size_alloc] at h
 have y5 : ((w1.alloc (.cells #[.int .i64 tag, .int .i64 key, .string text, .slice A0 np c0, .slice A1 nk c1] 26)).alloc (.cells #[.int .i64 x.t, .int .i64 x.a, .int .i64 x.nm, .int .i64 x.v.k, .int .i64 x.v.n, .string x.v.s, .int .i64 x.l, .int .i64 x.g] 42)).cell? ⟨w1.heap.size + 1, 5, none⟩ = some (.string x.v.s) := by have h : ((w1.alloc (.cells #[.int .i64 tag, .int .i64 key, .string text, .slice A0 np c0, .slice A1 nk c1] 26)).alloc (.cells #[.int .i64 x.t, .int .i64 x.a, .int .i64 x.nm, .int .i64 x.v.k, .int .i64 x.v.n, .string x.v.s, .int .i64 x.l, .int .i64 x.g] 42)).cell? ⟨(w1.alloc (.cells #[.int .i64 tag, .int .i64 key, .string text, .slice A0 np c0, .slice A1 nk c1] 26)).heap.size, 5, none⟩ = some (.string x.v.s) := (by rw [World.cell?_alloc_new]; rfl); rwa [World.size_alloc] at h
 have y6 : ((w1.alloc (.cells #[.int .i64 tag, .int .i64 key, .string text, .slice A0 np c0, .slice A1 nk c1] 26)).alloc (.cells #[.int .i64 x.t, .int .i64 x.a, .int .i64 x.nm, .int .i64 x.v.k, .int .i64 x.v.n, .string x.v.s, .int .i64 x.l, .int .i64 x.g] 42)).cell? ⟨w1.heap.size + 1, 6, none⟩ = some (.int .i64 x.l) := by have h : ((w1.alloc (.cells #[.int .i64 tag, .int .i64 key, .string text, .slice A0 np c0, .slice A1 nk c1] 26)).alloc (.cells #[.int .i64 x.t, .int .i64 x.a, .int .i64 x.nm, .int .i64 x.v.k, .int .i64 x.v.n, .string x.v.s, .int .i64 x.l, .int .i64 x.g] 42)).cell? ⟨(w1.alloc (.cells #[.int .i64 tag, .int .i64 key, .string text, .slice A0 np c0, .slice A1 nk c1] 26)).heap.size, 6, none⟩ = some (.int .i64 x.l) := (by rw [World.cell?_alloc_new]; rfl); rwa [World.size_alloc] at h
 have y7 : ((w1.alloc (.cells #[.int .i64 tag, .int .i64 key, .string text, .slice A0 np c0, .slice A1 nk c1] 26)).alloc (.cells #[.int .i64 x.t, .int .i64 x.a, .int .i64 x.nm, .int .i64 x.v.k, .int .i64 x.v.n, .string x.v.s, .int .i64 x.l, .int .i64 x.g] 42)).cell? ⟨w1.heap.size + 1, 7, none⟩ = some (.int .i64 x.g) := by have h : ((w1.alloc (.cells #[.int .i64 tag, .int .i64 key, .string text, .slice A0 np c0, .slice A1 nk c1] 26)).alloc (.cells #[.int .i64 x.t, .int .i64 x.a, .int .i64 x.nm, .int .i64 x.v.k, .int .i64 x.v.n, .string x.v.s, .int .i64 x.l, .int .i64 x.g] 42)).cell? ⟨(w1.alloc (.cells #[.int .i64 tag, .int .i64 key, .string text, .slice A0 np c0, .slice A1 nk c1] 26)).heap.size, 7, none⟩ = some (.int .i64 x.g) := (by rw [World.cell?_alloc_new]; rfl); rwa [World.size_alloc] at h
 have HV := Lib.hid (HV1.out.next hb1)
 have HP := Lib.hid (hp.below hb1)
 have HK := Lib.hid (hk.below hb1)
 have HB := Lib.hid (HB1.out.trans (hb1.mono HB1.out.size))
 have K1 := Lib.hid k1
 have K2 := Lib.hid k2
 have K3 := Lib.hid k3
 have K4 := Lib.hid k4
 have K5 := Lib.hid k5
 have K6 := Lib.hid k6
 have K7 := Lib.hid k7
 clear hp hk hB hb1 HB1 HV1 HT HC k1 k2 k3 k4 k5 k6 k7 hoks
 obtain ⟨wd, hwd⟩ : ∃ wd, ((w1.alloc (.cells #[.int .i64 tag, .int .i64 key, .string text, .slice A0 np c0, .slice A1 nk c1] 26)).alloc (.cells #[.int .i64 x.t, .int .i64 x.a, .int .i64 x.nm, .int .i64 x.v.k, .int .i64 x.v.n, .string x.v.s, .int .i64 x.l, .int .i64 x.g] 42)) = wd := ⟨_, rfl⟩
 rw [hwd] at o0 o1 o2 o3 o4 y0 y1 y2 y3 y4 y5 y6 y7 HV HP HK HB hbz hbt
 have HWD := Lib.hid hwd
 have hwz : w.heap.size ≤ w1.heap.size := hzB
 clear hwd
 go_wp2_with fail
 (try rw [HWD.out])
 refine (K1.out _ HV.out HP.out HK.out).mono ?_
 rintro e w2 ⟨S0, s0, rfl, ho, hb⟩
 replace o0 := (hb.cell (p := ⟨w1.heap.size, 0, none⟩) hbt).trans o0
 replace o1 := (hb.cell (p := ⟨w1.heap.size, 1, none⟩) hbt).trans o1
 replace o2 := (hb.cell (p := ⟨w1.heap.size, 2, none⟩) hbt).trans o2
 replace o3 := (hb.cell (p := ⟨w1.heap.size, 3, none⟩) hbt).trans o3
 replace o4 := (hb.cell (p := ⟨w1.heap.size, 4, none⟩) hbt).trans o4
 replace y0 := (hb.cell (p := ⟨w1.heap.size + 1, 0, none⟩) hbz).trans y0
 replace y1 := (hb.cell (p := ⟨w1.heap.size + 1, 1, none⟩) hbz).trans y1
 replace y2 := (hb.cell (p := ⟨w1.heap.size + 1, 2, none⟩) hbz).trans y2
 replace y3 := (hb.cell (p := ⟨w1.heap.size + 1, 3, none⟩) hbz).trans y3
 replace y4 := (hb.cell (p := ⟨w1.heap.size + 1, 4, none⟩) hbz).trans y4
 replace y5 := (hb.cell (p := ⟨w1.heap.size + 1, 5, none⟩) hbz).trans y5
 replace y6 := (hb.cell (p := ⟨w1.heap.size + 1, 6, none⟩) hbz).trans y6
 replace y7 := (hb.cell (p := ⟨w1.heap.size + 1, 7, none⟩) hbz).trans y7
 replace HV := Lib.hid (HV.out.next hb)
 replace HP := Lib.hid (HP.out.below hb)
 replace HK := Lib.hid (HK.out.below hb)
 replace HB := Lib.hid (more HB.out (Nat.le_refl _) hb)
 have HS := Lib.hid ho.lies
 replace hbz := Nat.lt_of_lt_of_le hbz hb.size
 replace hbt := Nat.lt_of_lt_of_le hbt hb.size
 clear hb ho HWD
 go_wp2_with fail
 refine (K2.out _ HP.out HK.out).mono ?_
 rintro e w3 ⟨R0, r0, rfl, ho, hb⟩
 replace o0 := (hb.cell (p := ⟨w1.heap.size, 0, none⟩) hbt).trans o0
 replace o1 := (hb.cell (p := ⟨w1.heap.size, 1, none⟩) hbt).trans o1
 replace o2 := (hb.cell (p := ⟨w1.heap.size, 2, none⟩) hbt).trans o2
 replace o3 := (hb.cell (p := ⟨w1.heap.size, 3, none⟩) hbt).trans o3
 replace o4 := (hb.cell (p := ⟨w1.heap.size, 4, none⟩) hbt).trans o4
 replace y0 := (hb.cell (p := ⟨w1.heap.size + 1, 0, none⟩) hbz).trans y0
 replace y1 := (hb.cell (p := ⟨w1.heap.size + 1, 1, none⟩) hbz).trans y1
 replace y2 := (hb.cell (p := ⟨w1.heap.size + 1, 2, none⟩) hbz).trans y2
 replace y3 := (hb.cell (p := ⟨w1.heap.size + 1, 3, none⟩) hbz).trans y3
 replace y4 := (hb.cell (p := ⟨w1.heap.size + 1, 4, none⟩) hbz).trans y4
 replace y5 := (hb.cell (p := ⟨w1.heap.size + 1, 5, none⟩) hbz).trans y5
 replace y6 := (hb.cell (p := ⟨w1.heap.size + 1, 6, none⟩) hbz).trans y6
 replace y7 := (hb.cell (p := ⟨w1.heap.size + 1, 7, none⟩) hbz).trans y7
 replace HV := Lib.hid (HV.out.next hb)
 replace HP := Lib.hid (HP.out.below hb)
 replace HK := Lib.hid (HK.out.below hb)
 replace HB := Lib.hid (more HB.out (Nat.le_refl _) hb)
 have HW := Lib.hid ho
 replace HS := Lib.hid (HS.out.below hb)
 replace hbz := Nat.lt_of_lt_of_le hbz hb.size
 replace hbt := Nat.lt_of_lt_of_le hbt hb.size
 clear hb ho
 go_wp2_with fail
 refine (K6.out _ _ _ _ _ HS.out HW.out).mono ?_
 rintro e w4 ⟨rfl, hb⟩
 replace o0 := (hb.cell (p := ⟨w1.heap.size, 0, none⟩) hbt).trans o0
 replace o1 := (hb.cell (p := ⟨w1.heap.size, 1, none⟩) hbt).trans o1
 replace o2 := (hb.cell (p := ⟨w1.heap.size, 2, none⟩) hbt).trans o2
 replace o3 := (hb.cell (p := ⟨w1.heap.size, 3, none⟩) hbt).trans o3
 replace o4 := (hb.cell (p := ⟨w1.heap.size, 4, none⟩) hbt).trans o4
 replace y0 := (hb.cell (p := ⟨w1.heap.size + 1, 0, none⟩) hbz).trans y0
 replace y1 := (hb.cell (p := ⟨w1.heap.size + 1, 1, none⟩) hbz).trans y1
 replace y2 := (hb.cell (p := ⟨w1.heap.size + 1, 2, none⟩) hbz).trans y2
 replace y3 := (hb.cell (p := ⟨w1.heap.size + 1, 3, none⟩) hbz).trans y3
 replace y4 := (hb.cell (p := ⟨w1.heap.size + 1, 4, none⟩) hbz).trans y4
 replace y5 := (hb.cell (p := ⟨w1.heap.size + 1, 5, none⟩) hbz).trans y5
 replace y6 := (hb.cell (p := ⟨w1.heap.size + 1, 6, none⟩) hbz).trans y6
 replace y7 := (hb.cell (p := ⟨w1.heap.size + 1, 7, none⟩) hbz).trans y7
 replace HV := Lib.hid (HV.out.next hb)
 replace HP := Lib.hid (HP.out.below hb)
 replace HK := Lib.hid (HK.out.below hb)
 replace HB := Lib.hid (more HB.out (Nat.le_refl _) hb)
 replace hbz := Nat.lt_of_lt_of_le hbz hb.size
 replace hbt := Nat.lt_of_lt_of_le hbt hb.size
 clear hb HW HS
 go_wp2_with fail
 refine (K3.out _ HV.out HP.out HK.out).mono ?_
 rintro e w5 ⟨rfl, hb⟩
 replace o0 := (hb.cell (p := ⟨w1.heap.size, 0, none⟩) hbt).trans o0
 replace o1 := (hb.cell (p := ⟨w1.heap.size, 1, none⟩) hbt).trans o1
 replace o2 := (hb.cell (p := ⟨w1.heap.size, 2, none⟩) hbt).trans o2
 replace o3 := (hb.cell (p := ⟨w1.heap.size, 3, none⟩) hbt).trans o3
 replace o4 := (hb.cell (p := ⟨w1.heap.size, 4, none⟩) hbt).trans o4
 replace y0 := (hb.cell (p := ⟨w1.heap.size + 1, 0, none⟩) hbz).trans y0
 replace y1 := (hb.cell (p := ⟨w1.heap.size + 1, 1, none⟩) hbz).trans y1
 replace y2 := (hb.cell (p := ⟨w1.heap.size + 1, 2, none⟩) hbz).trans y2
 replace y3 := (hb.cell (p := ⟨w1.heap.size + 1, 3, none⟩) hbz).trans y3
 replace y4 := (hb.cell (p := ⟨w1.heap.size + 1, 4, none⟩) hbz).trans y4
 replace y5 := (hb.cell (p := ⟨w1.heap.size + 1, 5, none⟩) hbz).trans y5
 replace y6 := (hb.cell (p := ⟨w1.heap.size + 1, 6, none⟩) hbz).trans y6
 replace y7 := (hb.cell (p := ⟨w1.heap.size + 1, 7, none⟩) hbz).trans y7
 replace HV := Lib.hid (HV.out.next hb)
 replace HP := Lib.hid (HP.out.below hb)
 replace HK := Lib.hid (HK.out.below hb)
 replace HB := Lib.hid (more HB.out (Nat.le_refl _) hb)
 replace hbz := Nat.lt_of_lt_of_le hbz hb.size
 replace hbt := Nat.lt_of_lt_of_le hbt hb.size
 clear hb
 cases ok
 ·go_wp2_with fail
  go_ret
  exact ⟨rfl, HB.out⟩
 go_wp2_with fail
 have hbr := Below.alloc (Below.refl w5.heap.size w5) (Nat.le_refl _) (.cells #[.int .i64 x.t, .int .i64 x.a, .int .i64 x.nm, .int .i64 x.v.k, .int .i64 x.v.n, .string x.v.s, .int .i64 x.l, .int .i64 x.g] 42)
 refine (K4.out _ _ (ru_one_new x _)).mono ?_
 rintro e w6 ⟨rfl, hb0⟩
 have hb := hbr.trans (hb0.mono hbr.size)
 clear hbr hb0
 replace o0 := (hb.cell (p := ⟨w1.heap.size, 0, none⟩) hbt).trans o0
 replace o1 := (hb.cell (p := ⟨w1.heap.size, 1, none⟩) hbt).trans o1
 replace o2 := (hb.cell (p := ⟨w1.heap.size, 2, none⟩) hbt).trans o2
 replace o3 := (hb.cell (p := ⟨w1.heap.size, 3, none⟩) hbt).trans o3
 replace o4 := (hb.cell (p := ⟨w1.heap.size, 4, none⟩) hbt).trans o4
 replace y0 := (hb.cell (p := ⟨w1.heap.size + 1, 0, none⟩) hbz).trans y0
 replace y1 := (hb.cell (p := ⟨w1.heap.size + 1, 1, none⟩) hbz).trans y1
 replace y2 := (hb.cell (p := ⟨w1.heap.size + 1, 2, none⟩) hbz).trans y2
 replace y3 := (hb.cell (p := ⟨w1.heap.size + 1, 3, none⟩) hbz).trans y3
 replace y4 := (hb.cell (p := ⟨w1.heap.size + 1, 4, none⟩) hbz).trans y4
 replace y5 := (hb.cell (p := ⟨w1.heap.size + 1, 5, none⟩) hbz).trans y5
 replace y6 := (hb.cell (p := ⟨w1.heap.size + 1, 6, none⟩) hbz).trans y6
 replace y7 := (hb.cell (p := ⟨w1.heap.size + 1, 7, none⟩) hbz).trans y7
 replace HV := Lib.hid (HV.out.next hb)
 replace HP := Lib.hid (HP.out.below hb)
 replace HK := Lib.hid (HK.out.below hb)
 replace HB := Lib.hid (more HB.out (Nat.le_refl _) hb)
 replace hbz := Nat.lt_of_lt_of_le hbz hb.size
 replace hbt := Nat.lt_of_lt_of_le hbt hb.size
 clear hb
 cases ok2
 ·go_wp2_with fail
  go_ret
  exact ⟨rfl, HB.out⟩
 have hoks := HOK.out (by trivial) (by trivial)
 clear HOK
 go_wp2_with fail
 have hby : Below w6.heap.size w6 ((w6.alloc (.cells #[.int .i64 x.t, .int .i64 x.a, .int .i64 x.nm, .int .i64 x.v.k, .int .i64 x.v.n, .string x.v.s, .int .i64 0, .int .i64 1] 42)).alloc (.cells #[.int .i64 x.t, .int .i64 x.a, .int .i64 x.nm, .int .i64 x.v.k, .int .i64 x.v.n, .string x.v.s, .int .i64 0, .int .i64 1] 42)) := (Below.alloc (Below.refl w6.heap.size w6) (Nat.le_refl _) _).alloc (by simp) _
 have hry : RuL ((w6.alloc (.cells #[.int .i64 x.t, .int .i64 x.a, .int .i64 x.nm, .int .i64 x.v.k, .int .i64 x.v.n, .string x.v.s, .int .i64 0, .int .i64 1] 42)).alloc (.cells #[.int .i64 x.t, .int .i64 x.a, .int .i64 x.nm, .int .i64 x.v.k, .int .i64 x.v.n, .string x.v.s, .int .i64 0, .int .i64 1] 42)) (some ⟨w6.heap.size + 1, 0, none⟩) [x.on] := by
  have h := ru_one_new x.on (w6.alloc (.cells #[.int .i64 x.t, .int .i64 x.a, .int .i64 x.nm, .int .i64 x.v.k, .int .i64 x.v.n, .string x.v.s, .int .i64 0, .int .i64 1] 42))
  rw [World.size_alloc] at h
  exact h
 refine (K5.out _ _ (HV.out.next hby) (HP.out.below hby) (HK.out.below hby) hry).mono ?_
 rintro e w7 ⟨T0, t0, rfl, ho, hb⟩
 have HB7 := Lib.hid (more HB.out (Nat.le_refl _) (hby.trans (hb.mono hby.size)))
 have HO7 := Lib.hid ho
 obtain rfl : m = nw := by omega
 clear hb ho hby hry o0 o1 o2 o3 o4 y0 y1 y2 y3 y4 y5 y6 y7 HB HV HP HK
 go_wp2_with fail
 refine (K7.out _ _ _ HO7.out).mono ?_
 rintro e w8 ⟨rfl, rfl⟩
 go_wp2_with fail
 go_ret
 exact ⟨rfl, HB7.out⟩
end Go.Proofs.YtmfibedcloknlaaGreatDoor.fnFindAll
