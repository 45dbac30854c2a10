/- Trees: the part at a way, by the program. -/
import Derived.Test.YtpkhpaioddommaaDoorCptM
import Derived.Test.YtpkhpaioddommaaDoorNoM
import Derived.Test.YtpkhpaioddommaaDoorIntM
namespace Go.Proofs.YtpkhpaioddommaaDoor
open Go.Joins Go.ChangeShapes Go.WideShapes Go.ChangeAt Go.RowKit Go.Deep
set_option linter.unusedVariables false
set_option linter.unusedSimpArgs false

def atV (t : Tr) (zs : List Int) : Option Tr := if treeOkB t = true then atT t zs else none
/-- What TreeAt answers: a copy of the part; or none. -/
def TaX (t : Tr) (zs : List Int) (w : World) (e : Ending) (w' : World) : Prop :=
  Below w.heap.size w w' ∧ ((atV t zs = none ∧ e = .returned (.tuple #[.agg #[.int .i64 0, .int .i64 0, .string ⟨#[]⟩, .slice none 0 0, .slice none 0 0], .bool false])) ∨ ∃ (x : Tr) (B0 B1 : Option Addr) (f0 f1 : Nat), atV t zs = some x ∧ e = .returned (.tuple #[.agg #[.int .i64 x.tag, .int .i64 x.key, .string x.text, .slice B0 x.ps.length f0, .slice B1 x.ks.length f1], .bool true]) ∧ PrL w' B0 x.ps ∧ (∀ b o, B0 = some ⟨b, o, none⟩ → w.heap.size ≤ b) ∧ TrL w' w.heap.size B1 x.ks)
set_option maxRecDepth 100000 in
set_option maxHeartbeats 2000000 in
theorem iTreeAt_any (V : World → Prop) (hV : ShOk V) (t : Tr) (hsm : SmT t) (hkw : KwT t) (zs : List Int) (hzl : zs.length ≤ maxLen) : ∀ (A A0 A1 : Option Addr) (c c0 c1 : Nat) (w : World), V w → PrL w A0 t.ps → TrL w 0 A1 t.ks → IntL w A zs →
    Calls Tryd.prog 19 #[.agg #[.int .i64 t.tag, .int .i64 t.key, .string t.text, .slice A0 t.ps.length c0, .slice A1 t.ks.length c1], .slice A zs.length c] w (TaX t zs w) := by
  intro A A0 A1 c c0 c1 w hv hp hk hz
  have k1 := fun w hv hp hk => iTreeOk_any V hV t hsm hkw A0 A1 c0 c1 w hv hp hk
  unfold maxLen at hzl
  have HTX := Lib.hid (show ∀ e w', Below w.heap.size w w' ∧ ((atV t zs = none ∧ e = .returned (.tuple #[.agg #[.int .i64 0, .int .i64 0, .string ⟨#[]⟩, .slice none 0 0, .slice none 0 0], .bool false])) ∨ ∃ (x : Tr) (B0 B1 : Option Addr) (f0 f1 : Nat), atV t zs = some x ∧ e = .returned (.tuple #[.agg #[.int .i64 x.tag, .int .i64 x.key, .string x.text, .slice B0 x.ps.length f0, .slice B1 x.ks.length f1], .bool true]) ∧ PrL w' B0 x.ps ∧ (∀ b o, B0 = some ⟨b, o, none⟩ → w.heap.size ≤ b) ∧ TrL w' w.heap.size B1 x.ks) → TaX t zs w e w' from fun e w' h => h)
  obtain ⟨Q, hQ⟩ : ∃ Q, TaX t zs w = Q := ⟨_, rfl⟩
  rw [hQ] at HTX ⊢
  clear hQ
  obtain ⟨n, hn⟩ : ∃ n, zs.length = n := ⟨_, rfl⟩
  have HN := Lib.hid hn
  rw [hn] at hzl ⊢
  have hb0 : Below w.heap.size w ((w.alloc (.cells #[.int .i64 t.tag, .int .i64 t.key, .string t.text, .slice A0 t.ps.length c0, .slice A1 t.ks.length c1] 26)).alloc (.cells #[.int .i64 0, .int .i64 0, .string ⟨#[]⟩, .slice none 0 0, .slice none 0 0] 26)) := (Below.alloc (Below.refl w.heap.size w) (Nat.le_refl _) _).alloc (by simp) _
  have d0 : ((w.alloc (.cells #[.int .i64 t.tag, .int .i64 t.key, .string t.text, .slice A0 t.ps.length c0, .slice A1 t.ks.length c1] 26)).alloc (.cells #[.int .i64 0, .int .i64 0, .string ⟨#[]⟩, .slice none 0 0, .slice none 0 0] 26)).cell? ⟨w.heap.size, 0, none⟩ = some (.int .i64 t.tag) := by go_simp
  have d1 : ((w.alloc (.cells #[.int .i64 t.tag, .int .i64 t.key, .string t.text, .slice A0 t.ps.length c0, .slice A1 t.ks.length c1] 26)).alloc (.cells #[.int .i64 0, .int .i64 0, .string ⟨#[]⟩, .slice none 0 0, .slice none 0 0] 26)).cell? ⟨w.heap.size, 1, none⟩ = some (.int .i64 t.key) := by go_simp
  have d2 : ((w.alloc (.cells #[.int .i64 t.tag, .int .i64 t.key, .string t.text, .slice A0 t.ps.length c0, .slice A1 t.ks.length c1] 26)).alloc (.cells #[.int .i64 0, .int .i64 0, .string ⟨#[]⟩, .slice none 0 0, .slice none 0 0] 26)).cell? ⟨w.heap.size, 2, none⟩ = some (.string t.text) := by go_simp
  have d3 : ((w.alloc (.cells #[.int .i64 t.tag, .int .i64 t.key, .string t.text, .slice A0 t.ps.length c0, .slice A1 t.ks.length c1] 26)).alloc (.cells #[.int .i64 0, .int .i64 0, .string ⟨#[]⟩, .slice none 0 0, .slice none 0 0] 26)).cell? ⟨w.heap.size, 3, none⟩ = some (.slice A0 t.ps.length c0) := by go_simp
  have d4 : ((w.alloc (.cells #[.int .i64 t.tag, .int .i64 t.key, .string t.text, .slice A0 t.ps.length c0, .slice A1 t.ks.length c1] 26)).alloc (.cells #[.int .i64 0, .int .i64 0, .string ⟨#[]⟩, .slice none 0 0, .slice none 0 0] 26)).cell? ⟨w.heap.size, 4, none⟩ = some (.slice A1 t.ks.length c1) := by go_simp
  have z0 : ((w.alloc (.cells #[.int .i64 t.tag, .int .i64 t.key, .string t.text, .slice A0 t.ps.length c0, .slice A1 t.ks.length c1] 26)).alloc (.cells #[.int .i64 0, .int .i64 0, .string ⟨#[]⟩, .slice none 0 0, .slice none 0 0] 26)).cell? ⟨w.heap.size + 1, 0, none⟩ = some (.int .i64 0) := by go_simp
  have z1 : ((w.alloc (.cells #[.int .i64 t.tag, .int .i64 t.key, .string t.text, .slice A0 t.ps.length c0, .slice A1 t.ks.length c1] 26)).alloc (.cells #[.int .i64 0, .int .i64 0, .string ⟨#[]⟩, .slice none 0 0, .slice none 0 0] 26)).cell? ⟨w.heap.size + 1, 1, none⟩ = some (.int .i64 0) := by go_simp
  have z2 : ((w.alloc (.cells #[.int .i64 t.tag, .int .i64 t.key, .string t.text, .slice A0 t.ps.length c0, .slice A1 t.ks.length c1] 26)).alloc (.cells #[.int .i64 0, .int .i64 0, .string ⟨#[]⟩, .slice none 0 0, .slice none 0 0] 26)).cell? ⟨w.heap.size + 1, 2, none⟩ = some (.string ⟨#[]⟩) := by go_simp
  have z3 : ((w.alloc (.cells #[.int .i64 t.tag, .int .i64 t.key, .string t.text, .slice A0 t.ps.length c0, .slice A1 t.ks.length c1] 26)).alloc (.cells #[.int .i64 0, .int .i64 0, .string ⟨#[]⟩, .slice none 0 0, .slice none 0 0] 26)).cell? ⟨w.heap.size + 1, 3, none⟩ = some (.slice none 0 0) := by go_simp
  have z4 : ((w.alloc (.cells #[.int .i64 t.tag, .int .i64 t.key, .string t.text, .slice A0 t.ps.length c0, .slice A1 t.ks.length c1] 26)).alloc (.cells #[.int .i64 0, .int .i64 0, .string ⟨#[]⟩, .slice none 0 0, .slice none 0 0] 26)).cell? ⟨w.heap.size + 1, 4, none⟩ = some (.slice none 0 0) := by go_simp
  have f2 : ∀ o, ((w.alloc (.cells #[.int .i64 t.tag, .int .i64 t.key, .string t.text, .slice A0 t.ps.length c0, .slice A1 t.ks.length c1] 26)).alloc (.cells #[.int .i64 0, .int .i64 0, .string ⟨#[]⟩, .slice none 0 0, .slice none 0 0] 26)).frozen? ⟨w.heap.size, o, none⟩ = false := fun o => by go_simp
  have f4 : ∀ o, ((w.alloc (.cells #[.int .i64 t.tag, .int .i64 t.key, .string t.text, .slice A0 t.ps.length c0, .slice A1 t.ks.length c1] 26)).alloc (.cells #[.int .i64 0, .int .i64 0, .string ⟨#[]⟩, .slice none 0 0, .slice none 0 0] 26)).frozen? ⟨w.heap.size + 1, o, none⟩ = false := fun o => by go_simp
  have hsz : w.heap.size + 1 < ((w.alloc (.cells #[.int .i64 t.tag, .int .i64 t.key, .string t.text, .slice A0 t.ps.length c0, .slice A1 t.ks.length c1] 26)).alloc (.cells #[.int .i64 0, .int .i64 0, .string ⟨#[]⟩, .slice none 0 0, .slice none 0 0] 26)).heap.size := by simp
  have HB0 := Lib.hid hb0
  have K1 := Lib.hid (k1 _ (hV.stays _ _ hv hb0) (hp.below hb0) (hk.below hb0))
  have HZ := Lib.hid hz
  have HP := Lib.hid hp
  have HK := Lib.hid hk
  have HS := Lib.hid hsm
  have HAV := Lib.hid (show ∀ v, treeOkB t = v → atV t zs = if v = true then atT t zs else none from fun v hv => by unfold atV; rw [hv])
  obtain ⟨wb, hwb⟩ : ∃ v, ((w.alloc (.cells #[.int .i64 t.tag, .int .i64 t.key, .string t.text, .slice A0 t.ps.length c0, .slice A1 t.ks.length c1] 26)).alloc (.cells #[.int .i64 0, .int .i64 0, .string ⟨#[]⟩, .slice none 0 0, .slice none 0 0] 26)) = v := ⟨_, rfl⟩
  rw [hwb] at d0 d1 d2 d3 d4 z0 z1 z2 z3 z4 f2 f4 hsz HB0 K1
  obtain ⟨ok, hok⟩ : ∃ v, treeOkB t = v := ⟨_, rfl⟩
  have HOK := Lib.hid hok
  rw [hok] at K1
  clear hb0 hz hp hk hsm hv hn hok k1
  go_enter Tryd.func19, Tryd.ntmps19
  go_wp2_with fail
  refine K1.out.mono ?_
  rintro e w1 ⟨rfl, hb⟩
  replace d0 := (hb.cell (p := ⟨w.heap.size, 0, none⟩) (by first | omega | (simp; omega))).trans d0
  replace z0 := (hb.cell (p := ⟨w.heap.size + 1, 0, none⟩) (by first | omega | (simp; omega))).trans z0
  replace d1 := (hb.cell (p := ⟨w.heap.size, 1, none⟩) (by first | omega | (simp; omega))).trans d1
  replace z1 := (hb.cell (p := ⟨w.heap.size + 1, 1, none⟩) (by first | omega | (simp; omega))).trans z1
  replace d2 := (hb.cell (p := ⟨w.heap.size, 2, none⟩) (by first | omega | (simp; omega))).trans d2
  replace z2 := (hb.cell (p := ⟨w.heap.size + 1, 2, none⟩) (by first | omega | (simp; omega))).trans z2
  replace d3 := (hb.cell (p := ⟨w.heap.size, 3, none⟩) (by first | omega | (simp; omega))).trans d3
  replace z3 := (hb.cell (p := ⟨w.heap.size + 1, 3, none⟩) (by first | omega | (simp; omega))).trans z3
  replace d4 := (hb.cell (p := ⟨w.heap.size, 4, none⟩) (by first | omega | (simp; omega))).trans d4
  replace z4 := (hb.cell (p := ⟨w.heap.size + 1, 4, none⟩) (by first | omega | (simp; omega))).trans z4
  replace f2 := fun o => (hb.frozen (p := ⟨w.heap.size, o, none⟩) (by first | omega | (simp; omega))).trans (f2 o)
  replace f4 := fun o => (hb.frozen (p := ⟨w.heap.size + 1, o, none⟩) (by first | omega | (simp; omega))).trans (f4 o)
  have HB1 := Lib.hid (more HB0.out (Nat.le_refl _) hb)
  replace hsz := Nat.lt_of_lt_of_le hsz hb.size
  clear hb hwb K1 HB0
  cases ok
  · have HE := Lib.hid ((HAV.out _ HOK.out).trans (if_neg (by decide)))
    clear HAV
    go_wp2_with fail
    refine bodyPost_ret (v := .tuple #[.agg #[.int .i64 0, .int .i64 0, .string ⟨#[]⟩, .slice none 0 0, .slice none 0 0], .bool false]) (by simp [results, Tryd.results19, go_sem, d0, d1, d2, d3, d4, z0, z1, z2, z3, z4, f2, f4]) rfl (HTX.out _ _ ⟨?_, .inl ⟨HE.out, rfl⟩⟩)
    exact ((((HB1.out.setCell (p := ⟨w.heap.size + 1, 0, none⟩) (by simp) _).setCell (p := ⟨w.heap.size + 1, 1, none⟩) (by simp) _).setCell (p := ⟨w.heap.size + 1, 2, none⟩) (by simp) _).setCell (p := ⟨w.heap.size + 1, 3, none⟩) (by simp) _).setCell (p := ⟨w.heap.size + 1, 4, none⟩) (by simp) _
  have HAT := Lib.hid ((HAV.out _ HOK.out).trans (if_pos rfl))
  clear HAV
  go_wp2_with fail
  go_loopw [14] (fun i wr => ∃ (k : Nat) (x : Tr) (A0 A1 : Option Addr) (c0 c1 : Nat), k ≤ n ∧ i = .int .i64 k ∧ Hid (atT x (zs.drop k) = atT t zs) ∧ Hid (SmT x) ∧ Hid (treeOkB x = true) ∧ Hid (PrL w A0 x.ps) ∧ Hid (TrL w 0 A1 x.ks) ∧ wr.cell? ⟨w.heap.size, 0, none⟩ = some (.int .i64 x.tag) ∧ wr.cell? ⟨w.heap.size, 1, none⟩ = some (.int .i64 x.key) ∧ wr.cell? ⟨w.heap.size, 2, none⟩ = some (.string x.text) ∧ wr.cell? ⟨w.heap.size, 3, none⟩ = some (.slice A0 x.ps.length c0) ∧ wr.cell? ⟨w.heap.size, 4, none⟩ = some (.slice A1 x.ks.length c1) ∧ wr.cell? ⟨w.heap.size + 1, 0, none⟩ = some (.int .i64 0) ∧ wr.cell? ⟨w.heap.size + 1, 1, none⟩ = some (.int .i64 0) ∧ wr.cell? ⟨w.heap.size + 1, 2, none⟩ = some (.string ⟨#[]⟩) ∧ wr.cell? ⟨w.heap.size + 1, 3, none⟩ = some (.slice none 0 0) ∧ wr.cell? ⟨w.heap.size + 1, 4, none⟩ = some (.slice none 0 0) ∧ (∀ o, wr.frozen? ⟨w.heap.size, o, none⟩ = false) ∧ (∀ o, wr.frozen? ⟨w.heap.size + 1, o, none⟩ = false) ∧ w.heap.size + 1 < wr.heap.size ∧ Hid (Below w.heap.size w wr)) (fun i _ => n - (intOf i).toNat)
  case atStart => exact ⟨0, t, A0, A1, c0, c1, by omega, rfl, Lib.hid rfl, HS, HOK, HP, HK, d0, d1, d2, d3, d4, z0, z1, z2, z3, z4, f2, f4, hsz, HB1⟩
  case round =>
    clear d0 d1 d2 d3 d4 z0 z1 z2 z3 z4 f2 f4 hsz HB1 HS HOK HP HK
    obtain ⟨k, x, A0, A1, c0, c1, hk, rfl, HE, HS, HOK, HP, HK, d0, d1, d2, d3, d4, z0, z1, z2, z3, z4, f2, f4, hsz, HB⟩ := hrel
    by_cases hlt : k < n
    · obtain ⟨z, hz⟩ := at_some (show k < zs.length by rw [HN.out]; exact hlt)
      obtain ⟨bz, oz, rfl, hbz, ez⟩ := HZ.out.at_ hz
      replace ez := (HB.out.cell (p := ⟨bz, _, none⟩) hbz).trans ez
      have hE := HE.out
      rw [atT_step hz] at hE
      obtain ⟨s0, s1, s2, s3, s4⟩ := HS.out.open_
      have hi1 : (0 : Int) ≤ (k : Int) := by omega
      have hi2 : (k : Int) < (n : Int) := by omega
      have HSK := Lib.hid s4
      unfold maxLen at s3
      clear hz HE s0 s1 s2 s4
      by_cases hr : 0 ≤ z ∧ z ≤ (x.ks.length : Int) - 1
      · obtain ⟨j, rfl⟩ : ∃ j : Nat, z = (j : Int) := ⟨z.toNat, by omega⟩
        rw [if_pos hr, show ((j : Int)).toNat = j by omega] at hE
        obtain ⟨y, hy⟩ := at_some (show j < x.ks.length by omega)
        rw [hy, Option.bind_some] at hE
        obtain ⟨b, off, E0, g0, E1, g1, rfl, hblt, _, e0, e1, e2, e3, e4, hp, _, hks⟩ := HK.out.at_ hy
        replace e0 := (HB.out.cell (p := ⟨b, _, none⟩) hblt).trans e0
        replace e1 := (HB.out.cell (p := ⟨b, _, none⟩) hblt).trans e1
        replace e2 := (HB.out.cell (p := ⟨b, _, none⟩) hblt).trans e2
        replace e3 := (HB.out.cell (p := ⟨b, _, none⟩) hblt).trans e3
        replace e4 := (HB.out.cell (p := ⟨b, _, none⟩) hblt).trans e4
        have HSY := Lib.hid (HSK.out y (List.mem_of_getElem? hy))
        have HOY := Lib.hid (kid_valid HOK.out (List.mem_of_getElem? hy))
        have HPY := Lib.hid hp
        have HKY := Lib.hid hks
        have HEY := Lib.hid hE
        have hj1 : (0 : Int) ≤ (j : Int) := by omega
        have hj2 : (j : Int) < (x.ks.length : Int) := by omega
        have hj3 : (j : Int) ≤ (x.ks.length : Int) - 1 := by omega
        have hne : b ≠ w.heap.size := by omega
        have hne2 : bz ≠ w.heap.size := by omega
        obtain ⟨ln, hln⟩ : ∃ ln, x.ks.length = ln := ⟨_, rfl⟩
        rw [hln] at hj2 hj3 s3 d4
        have U1 := Lib.hid (fun w => (show Calls Tryd.prog 51 #[.int .i64 (j : Int), .int .i64 ((ln : Int) - 1)] w fun e w' => e = .returned (.bool true) ∧ w = w' by have := upTo_any (j : Int) ((ln : Int) - 1) w; rwa [decide_eq_true (show 0 ≤ (j : Int) ∧ (j : Int) ≤ (ln : Int) - 1 by omega)] at this))
        clear hp hks hE hr hy hln HSK HS HP HK HOK
        obtain ⟨yt, yk, ys, yp, yq⟩ := y
        dsimp only [Tr.tag, Tr.key, Tr.text, Tr.ps, Tr.ks] at e0 e1 e2 e3 e4
        go_wp2_with fail
        refine (U1.out _).mono ?_
        rintro e w' ⟨rfl, rfl⟩
        go_wp2_with fail
        go_roundw
        case rel =>
          refine ⟨k + 1, .mk yt yk ys yp yq, E0, E1, g0, g1, by omega, by go_num, HEY, HSY, HOY, HPY, HKY, ?_, ?_, ?_, ?_, ?_, ?_, ?_, ?_, ?_, ?_, fun o => ?_, fun o => ?_, by (simp [World.setCell]; omega), Lib.hid (((((HB.out.setCell (p := ⟨w.heap.size, 0, none⟩) (by simp) _).setCell (p := ⟨w.heap.size, 1, none⟩) (by simp) _).setCell (p := ⟨w.heap.size, 2, none⟩) (by simp) _).setCell (p := ⟨w.heap.size, 3, none⟩) (by simp) _).setCell (p := ⟨w.heap.size, 4, none⟩) (by simp) _)⟩
          all_goals ((try dsimp only [Tr.tag, Tr.key, Tr.text, Tr.ps, Tr.ks]); go_simp)
        case measure => simp [intOf]; omega
      · rw [if_neg hr] at hE
        have HEN := Lib.hid (HAT.out.trans hE.symm)
        obtain ⟨ln, hln⟩ : ∃ ln, x.ks.length = ln := ⟨_, rfl⟩
        rw [hln] at hr s3 d4
        have U1 := Lib.hid (fun w => (show Calls Tryd.prog 51 #[.int .i64 z, .int .i64 ((ln : Int) - 1)] w fun e w' => e = .returned (.bool false) ∧ w = w' by have := upTo_any z ((ln : Int) - 1) w; rwa [decide_eq_false hr] at this))
        clear hE HSK hr hln HOK HS HP HK
        go_wp2_with fail
        refine (U1.out _).mono ?_
        rintro e w' ⟨rfl, rfl⟩
        go_wp2_with fail
        refine bodyPost_ret (v := .tuple #[.agg #[.int .i64 0, .int .i64 0, .string ⟨#[]⟩, .slice none 0 0, .slice none 0 0], .bool false]) (by simp [results, Tryd.results19, go_sem, d0, d1, d2, d3, d4, z0, z1, z2, z3, z4, f2, f4]) rfl (HTX.out _ _ ⟨?_, .inl ⟨HEN.out, rfl⟩⟩)
        exact ((((HB.out.setCell (p := ⟨w.heap.size + 1, 0, none⟩) (by simp) _).setCell (p := ⟨w.heap.size + 1, 1, none⟩) (by simp) _).setCell (p := ⟨w.heap.size + 1, 2, none⟩) (by simp) _).setCell (p := ⟨w.heap.size + 1, 3, none⟩) (by simp) _).setCell (p := ⟨w.heap.size + 1, 4, none⟩) (by simp) _
    · obtain rfl : k = n := by omega
      have hE := HE.out
      rw [← HN.out, List.drop_length, atT] at hE
      have HEN := Lib.hid (HAT.out.trans hE.symm)
      have KC := Lib.hid (fun W hp hk => copyTree_any x (MiT.of_ok x HOK.out) A0 A1 c0 c1 W hp hk)
      have hcx : ∀ W e w', CpX x W e w' → ∃ B0 f0 B1 f1, e = .returned (.agg #[.int .i64 x.tag, .int .i64 x.key, .string x.text, .slice B0 x.ps.length f0, .slice B1 x.ks.length f1]) ∧ PrL w' B0 x.ps ∧ (∀ b o, B0 = some ⟨b, o, none⟩ → W.heap.size ≤ b) ∧ TrL w' W.heap.size B1 x.ks ∧ Below W.heap.size W w' := fun W e w' h => h
      clear hE HE
      go_wp2_with fail
      refine (KC.out _ (HP.out.below HB.out) (HK.out.below HB.out)).mono ?_
      intro e w2 hq
      obtain ⟨B0, f0, B1, f1, rfl, hpp, hplo, hkk, hb⟩ := hcx _ _ _ hq
      replace z0 := (hb.cell (p := ⟨w.heap.size + 1, 0, none⟩) (by first | omega | (simp; omega))).trans z0
      replace z1 := (hb.cell (p := ⟨w.heap.size + 1, 1, none⟩) (by first | omega | (simp; omega))).trans z1
      replace z2 := (hb.cell (p := ⟨w.heap.size + 1, 2, none⟩) (by first | omega | (simp; omega))).trans z2
      replace z3 := (hb.cell (p := ⟨w.heap.size + 1, 3, none⟩) (by first | omega | (simp; omega))).trans z3
      replace z4 := (hb.cell (p := ⟨w.heap.size + 1, 4, none⟩) (by first | omega | (simp; omega))).trans z4
      replace f4 := fun o => (hb.frozen (p := ⟨w.heap.size + 1, o, none⟩) (by first | omega | (simp; omega))).trans (f4 o)
      have HB2 := Lib.hid (more HB.out (Nat.le_refl _) hb)
      have HPP := Lib.hid hpp
      have HPL := Lib.hid hplo
      have HKK := Lib.hid hkk
      clear hpp hplo hkk hb hq hcx KC HP HK
      go_wp2_with fail
      refine bodyPost_ret (v := .tuple #[.agg #[.int .i64 x.tag, .int .i64 x.key, .string x.text, .slice B0 x.ps.length f0, .slice B1 x.ks.length f1], .bool true]) (by simp [results, Tryd.results19, go_sem, z0, z1, z2, z3, z4, f4]) rfl (HTX.out _ _ ⟨?_, .inr ⟨x, B0, B1, f0, f1, HEN.out, rfl, ?_, fun b o e => by have := HPL.out b o e; omega, ?_⟩⟩)
      · exact ((((HB2.out.setCell (p := ⟨w.heap.size + 1, 0, none⟩) (by simp) _).setCell (p := ⟨w.heap.size + 1, 1, none⟩) (by simp) _).setCell (p := ⟨w.heap.size + 1, 2, none⟩) (by simp) _).setCell (p := ⟨w.heap.size + 1, 3, none⟩) (by simp) _).setCell (p := ⟨w.heap.size + 1, 4, none⟩) (by simp) _
      · refine PrL.kept (w := w2) (lo := w.heap.size + 1 + 1) (by simp [World.setCell]) (fun b hb _ => ?_) HPP.out (fun b o e => by have := HPL.out b o e; omega)
        rw [Below.heap_setCell _ _ _ b (by first | omega | (simp; omega) | (simp <;> omega)), Below.heap_setCell _ _ _ b (by first | omega | (simp; omega) | (simp <;> omega)), Below.heap_setCell _ _ _ b (by first | omega | (simp; omega) | (simp <;> omega)), Below.heap_setCell _ _ _ b (by first | omega | (simp; omega) | (simp <;> omega)), Below.heap_setCell _ _ _ b (by first | omega | (simp; omega) | (simp <;> omega))]
      · refine TrL.mono (lo := wr.heap.size) (by omega) (TrL.kept (w := w2) (by simp [World.setCell]) (fun b hb _ => ?_) HKK.out)
        rw [Below.heap_setCell _ _ _ b (by first | omega | (simp; omega) | (simp <;> omega)), Below.heap_setCell _ _ _ b (by first | omega | (simp; omega) | (simp <;> omega)), Below.heap_setCell _ _ _ b (by first | omega | (simp; omega) | (simp <;> omega)), Below.heap_setCell _ _ _ b (by first | omega | (simp; omega) | (simp <;> omega)), Below.heap_setCell _ _ _ b (by first | omega | (simp; omega) | (simp <;> omega))]
end Go.Proofs.YtpkhpaioddommaaDoor
