/- Tat1, Cps1, Cps2, Tat2, Cpo1 in one text. -/
import Derived.Test.YtpkhpaioddommaaDoorCptM
import Derived.Test.YtpkhpaioddommaaDoorNoM
import Derived.Test.YtpkhpaioddommaaDoorIntM
import Derived.Deep.RegionHeld3
import Derived.Test.YtpkhpaioddommaaDoorMktM
namespace Go.Proofs.YtpkhpaioddommaaDoor
open Go.Joins Go.ChangeShapes Go.WideShapes Go.ChangeAt Go.RowKit Go.Deep
set_option linter.unusedVariables false
set_option linter.unusedSimpArgs false

def atV (t : Tr) (zs : List Int) : Option Tr := if treeOkB t = true then atT t zs else none
/-- What TreeAt answers: a copy of the part; or none. -/
def TaX (t : Tr) (zs : List Int) (w : World) (e : Ending) (w' : World) : Prop :=
  Below w.heap.size w w' ∧ ((atV t zs = none ∧ e = .returned (.tuple #[.agg #[.int .i64 0, .int .i64 0, .string ⟨#[]⟩, .slice none 0 0, .slice none 0 0], .bool false])) ∨ ∃ (x : Tr) (B0 B1 : Option Addr) (f0 f1 : Nat), atV t zs = some x ∧ e = .returned (.tuple #[.agg #[.int .i64 x.tag, .int .i64 x.key, .string x.text, .slice B0 x.ps.length f0, .slice B1 x.ks.length f1], .bool true]) ∧ PrL w' B0 x.ps ∧ (∀ b o, B0 = some ⟨b, o, none⟩ → w.heap.size ≤ b) ∧ TrL w' w.heap.size B1 x.ks)
set_option maxRecDepth 100000 in
set_option maxHeartbeats 2000000 in
theorem iTreeAt_any (V : World → Prop) (hV : ShOk V) (t : Tr) (hsm : SmT t) (hkw : KwT t) (zs : List Int) (hzl : zs.length ≤ maxLen) : ∀ (A A0 A1 : Option Addr) (c c0 c1 : Nat) (w : World), V w → PrL w A0 t.ps → TrL w 0 A1 t.ks → IntL w A zs →
    Calls Tryd.prog 19 #[.agg #[.int .i64 t.tag, .int .i64 t.key, .string t.text, .slice A0 t.ps.length c0, .slice A1 t.ks.length c1], .slice A zs.length c] w (TaX t zs w) := by
  intro A A0 A1 c c0 c1 w hv hp hk hz
  have k1 := fun w hv hp hk => iTreeOk_any V hV t hsm hkw A0 A1 c0 c1 w hv hp hk
  unfold maxLen at hzl
  have HTX := Lib.hid (show ∀ e w', Below w.heap.size w w' ∧ ((atV t zs = none ∧ e = .returned (.tuple #[.agg #[.int .i64 0, .int .i64 0, .string ⟨#[]⟩, .slice none 0 0, .slice none 0 0], .bool false])) ∨ ∃ (x : Tr) (B0 B1 : Option Addr) (f0 f1 : Nat), atV t zs = some x ∧ e = .returned (.tuple #[.agg #[.int .i64 x.tag, .int .i64 x.key, .string x.text, .slice B0 x.ps.length f0, .slice B1 x.ks.length f1], .bool true]) ∧ PrL w' B0 x.ps ∧ (∀ b o, B0 = some ⟨b, o, none⟩ → w.heap.size ≤ b) ∧ TrL w' w.heap.size B1 x.ks) → TaX t zs w e w' from fun e w' h => h)
  obtain ⟨Q, hQ⟩ : ∃ Q, TaX t zs w = Q := ⟨_, rfl⟩
  rw [hQ] at HTX ⊢
  clear hQ
  obtain ⟨n, hn⟩ : ∃ n, zs.length = n := ⟨_, rfl⟩
  have HN := Lib.hid hn
  rw [hn] at hzl ⊢
  have hb0 : Below w.heap.size w ((w.alloc (.cells #[.int .i64 t.tag, .int .i64 t.key, .string t.text, .slice A0 t.ps.length c0, .slice A1 t.ks.length c1] 26)).alloc (.cells #[.int .i64 0, .int .i64 0, .string ⟨#[]⟩, .slice none 0 0, .slice none 0 0] 26)) := (Below.alloc (Below.refl w.heap.size w) (Nat.le_refl _) _).alloc (by simp) _
  have d0 : ((w.alloc (.cells #[.int .i64 t.tag, .int .i64 t.key, .string t.text, .slice A0 t.ps.length c0, .slice A1 t.ks.length c1] 26)).alloc (.cells #[.int .i64 0, .int .i64 0, .string ⟨#[]⟩, .slice none 0 0, .slice none 0 0] 26)).cell? ⟨w.heap.size, 0, none⟩ = some (.int .i64 t.tag) := by go_simp
  have d1 : ((w.alloc (.cells #[.int .i64 t.tag, .int .i64 t.key, .string t.text, .slice A0 t.ps.length c0, .slice A1 t.ks.length c1] 26)).alloc (.cells #[.int .i64 0, .int .i64 0, .string ⟨#[]⟩, .slice none 0 0, .slice none 0 0] 26)).cell? ⟨w.heap.size, 1, none⟩ = some (.int .i64 t.key) := by go_simp
  have d2 : ((w.alloc (.cells #[.int .i64 t.tag, .int .i64 t.key, .string t.text, .slice A0 t.ps.length c0, .slice A1 t.ks.length c1] 26)).alloc (.cells #[.int .i64 0, .int .i64 0, .string ⟨#[]⟩, .slice none 0 0, .slice none 0 0] 26)).cell? ⟨w.heap.size, 2, none⟩ = some (.string t.text) := by go_simp
  have d3 : ((w.alloc (.cells #[.int .i64 t.tag, .int .i64 t.key, .string t.text, .slice A0 t.ps.length c0, .slice A1 t.ks.length c1] 26)).alloc (.cells #[.int .i64 0, .int .i64 0, .string ⟨#[]⟩, .slice none 0 0, .slice none 0 0] 26)).cell? ⟨w.heap.size, 3, none⟩ = some (.slice A0 t.ps.length c0) := by go_simp
  have d4 : ((w.alloc (.cells #[.int .i64 t.tag, .int .i64 t.key, .string t.text, .slice A0 t.ps.length c0, .slice A1 t.ks.length c1] 26)).alloc (.cells #[.int .i64 0, .int .i64 0, .string ⟨#[]⟩, .slice none 0 0, .slice none 0 0] 26)).cell? ⟨w.heap.size, 4, none⟩ = some (.slice A1 t.ks.length c1) := by go_simp
  have z0 : ((w.alloc (.cells #[.int .i64 t.tag, .int .i64 t.key, .string t.text, .slice A0 t.ps.length c0, .slice A1 t.ks.length c1] 26)).alloc (.cells #[.int .i64 0, .int .i64 0, .string ⟨#[]⟩, .slice none 0 0, .slice none 0 0] 26)).cell? ⟨w.heap.size + 1, 0, none⟩ = some (.int .i64 0) := by go_simp
  have z1 : ((w.alloc (.cells #[.int .i64 t.tag, .int .i64 t.key, .string t.text, .slice A0 t.ps.length c0, .slice A1 t.ks.length c1] 26)).alloc (.cells #[.int .i64 0, .int .i64 0, .string ⟨#[]⟩, .slice none 0 0, .slice none 0 0] 26)).cell? ⟨w.heap.size + 1, 1, none⟩ = some (.int .i64 0) := by go_simp
  have z2 : ((w.alloc (.cells #[.int .i64 t.tag, .int .i64 t.key, .string t.text, .slice A0 t.ps.length c0, .slice A1 t.ks.length c1] 26)).alloc (.cells #[.int .i64 0, .int .i64 0, .string ⟨#[]⟩, .slice none 0 0, .slice none 0 0] 26)).cell? ⟨w.heap.size + 1, 2, none⟩ = some (.string ⟨#[]⟩) := by go_simp
  have z3 : ((w.alloc (.cells #[.int .i64 t.tag, .int .i64 t.key, .string t.text, .slice A0 t.ps.length c0, .slice A1 t.ks.length c1] 26)).alloc (.cells #[.int .i64 0, .int .i64 0, .string ⟨#[]⟩, .slice none 0 0, .slice none 0 0] 26)).cell? ⟨w.heap.size + 1, 3, none⟩ = some (.slice none 0 0) := by go_simp
  have z4 : ((w.alloc (.cells #[.int .i64 t.tag, .int .i64 t.key, .string t.text, .slice A0 t.ps.length c0, .slice A1 t.ks.length c1] 26)).alloc (.cells #[.int .i64 0, .int .i64 0, .string ⟨#[]⟩, .slice none 0 0, .slice none 0 0] 26)).cell? ⟨w.heap.size + 1, 4, none⟩ = some (.slice none 0 0) := by go_simp
  have f2 : ∀ o, ((w.alloc (.cells #[.int .i64 t.tag, .int .i64 t.key, .string t.text, .slice A0 t.ps.length c0, .slice A1 t.ks.length c1] 26)).alloc (.cells #[.int .i64 0, .int .i64 0, .string ⟨#[]⟩, .slice none 0 0, .slice none 0 0] 26)).frozen? ⟨w.heap.size, o, none⟩ = false := fun o => by go_simp
  have f4 : ∀ o, ((w.alloc (.cells #[.int .i64 t.tag, .int .i64 t.key, .string t.text, .slice A0 t.ps.length c0, .slice A1 t.ks.length c1] 26)).alloc (.cells #[.int .i64 0, .int .i64 0, .string ⟨#[]⟩, .slice none 0 0, .slice none 0 0] 26)).frozen? ⟨w.heap.size + 1, o, none⟩ = false := fun o => by go_simp
  have hsz : w.heap.size + 1 < ((w.alloc (.cells #[.int .i64 t.tag, .int .i64 t.key, .string t.text, .slice A0 t.ps.length c0, .slice A1 t.ks.length c1] 26)).alloc (.cells #[.int .i64 0, .int .i64 0, .string ⟨#[]⟩, .slice none 0 0, .slice none 0 0] 26)).heap.size := by simp
  have HB0 := Lib.hid hb0
  have K1 := Lib.hid (k1 _ (hV.stays _ _ hv hb0) (hp.below hb0) (hk.below hb0))
  have HZ := Lib.hid hz
  have HP := Lib.hid hp
  have HK := Lib.hid hk
  have HS := Lib.hid hsm
  have HAV := Lib.hid (show ∀ v, treeOkB t = v → atV t zs = if v = true then atT t zs else none from fun v hv => by unfold atV; rw [hv])
  obtain ⟨wb, hwb⟩ : ∃ v, ((w.alloc (.cells #[.int .i64 t.tag, .int .i64 t.key, .string t.text, .slice A0 t.ps.length c0, .slice A1 t.ks.length c1] 26)).alloc (.cells #[.int .i64 0, .int .i64 0, .string ⟨#[]⟩, .slice none 0 0, .slice none 0 0] 26)) = v := ⟨_, rfl⟩
  rw [hwb] at d0 d1 d2 d3 d4 z0 z1 z2 z3 z4 f2 f4 hsz HB0 K1
  obtain ⟨ok, hok⟩ : ∃ v, treeOkB t = v := ⟨_, rfl⟩
  have HOK := Lib.hid hok
  rw [hok] at K1
  clear hb0 hz hp hk hsm hv hn hok k1
  go_enter Tryd.func19, Tryd.ntmps19
  go_wp2_with fail
  refine K1.out.mono ?_
  rintro e w1 ⟨rfl, hb⟩
  replace d0 := (hb.cell (p := ⟨w.heap.size, 0, none⟩) (by first | omega | (simp; omega))).trans d0
  replace z0 := (hb.cell (p := ⟨w.heap.size + 1, 0, none⟩) (by first | omega | (simp; omega))).trans z0
  replace d1 := (hb.cell (p := ⟨w.heap.size, 1, none⟩) (by first | omega | (simp; omega))).trans d1
  replace z1 := (hb.cell (p := ⟨w.heap.size + 1, 1, none⟩) (by first | omega | (simp; omega))).trans z1
  replace d2 := (hb.cell (p := ⟨w.heap.size, 2, none⟩) (by first | omega | (simp; omega))).trans d2
  replace z2 := (hb.cell (p := ⟨w.heap.size + 1, 2, none⟩) (by first | omega | (simp; omega))).trans z2
  replace d3 := (hb.cell (p := ⟨w.heap.size, 3, none⟩) (by first | omega | (simp; omega))).trans d3
  replace z3 := (hb.cell (p := ⟨w.heap.size + 1, 3, none⟩) (by first | omega | (simp; omega))).trans z3
  replace d4 := (hb.cell (p := ⟨w.heap.size, 4, none⟩) (by first | omega | (simp; omega))).trans d4
  replace z4 := (hb.cell (p := ⟨w.heap.size + 1, 4, none⟩) (by first | omega | (simp; omega))).trans z4
  replace f2 := fun o => (hb.frozen (p := ⟨w.heap.size, o, none⟩) (by first | omega | (simp; omega))).trans (f2 o)
  replace f4 := fun o => (hb.frozen (p := ⟨w.heap.size + 1, o, none⟩) (by first | omega | (simp; omega))).trans (f4 o)
  have HB1 := Lib.hid (more HB0.out (Nat.le_refl _) hb)
  replace hsz := Nat.lt_of_lt_of_le hsz hb.size
  clear hb hwb K1 HB0
  cases ok
  · have HE := Lib.hid ((HAV.out _ HOK.out).trans (if_neg (by decide)))
    clear HAV
    go_wp2_with fail
    refine bodyPost_ret (v := .tuple #[.agg #[.int .i64 0, .int .i64 0, .string ⟨#[]⟩, .slice none 0 0, .slice none 0 0], .bool false]) (by simp [results, Tryd.results19, go_sem, d0, d1, d2, d3, d4, z0, z1, z2, z3, z4, f2, f4]) rfl (HTX.out _ _ ⟨?_, .inl ⟨HE.out, rfl⟩⟩)
    exact ((((HB1.out.setCell (p := ⟨w.heap.size + 1, 0, none⟩) (by simp) _).setCell (p := ⟨w.heap.size + 1, 1, none⟩) (by simp) _).setCell (p := ⟨w.heap.size + 1, 2, none⟩) (by simp) _).setCell (p := ⟨w.heap.size + 1, 3, none⟩) (by simp) _).setCell (p := ⟨w.heap.size + 1, 4, none⟩) (by simp) _
  have HAT := Lib.hid ((HAV.out _ HOK.out).trans (if_pos rfl))
  clear HAV
  go_wp2_with fail
  go_loopw [14] (fun i wr => ∃ (k : Nat) (x : Tr) (A0 A1 : Option Addr) (c0 c1 : Nat), k ≤ n ∧ i = .int .i64 k ∧ Hid (atT x (zs.drop k) = atT t zs) ∧ Hid (SmT x) ∧ Hid (treeOkB x = true) ∧ Hid (PrL w A0 x.ps) ∧ Hid (TrL w 0 A1 x.ks) ∧ wr.cell? ⟨w.heap.size, 0, none⟩ = some (.int .i64 x.tag) ∧ wr.cell? ⟨w.heap.size, 1, none⟩ = some (.int .i64 x.key) ∧ wr.cell? ⟨w.heap.size, 2, none⟩ = some (.string x.text) ∧ wr.cell? ⟨w.heap.size, 3, none⟩ = some (.slice A0 x.ps.length c0) ∧ wr.cell? ⟨w.heap.size, 4, none⟩ = some (.slice A1 x.ks.length c1) ∧ wr.cell? ⟨w.heap.size + 1, 0, none⟩ = some (.int .i64 0) ∧ wr.cell? ⟨w.heap.size + 1, 1, none⟩ = some (.int .i64 0) ∧ wr.cell? ⟨w.heap.size + 1, 2, none⟩ = some (.string ⟨#[]⟩) ∧ wr.cell? ⟨w.heap.size + 1, 3, none⟩ = some (.slice none 0 0) ∧ wr.cell? ⟨w.heap.size + 1, 4, none⟩ = some (.slice none 0 0) ∧ (∀ o, wr.frozen? ⟨w.heap.size, o, none⟩ = false) ∧ (∀ o, wr.frozen? ⟨w.heap.size + 1, o, none⟩ = false) ∧ w.heap.size + 1 < wr.heap.size ∧ Hid (Below w.heap.size w wr)) (fun i _ => n - (intOf i).toNat)
  case atStart => exact ⟨0, t, A0, A1, c0, c1, by omega, rfl, Lib.hid rfl, HS, HOK, HP, HK, d0, d1, d2, d3, d4, z0, z1, z2, z3, z4, f2, f4, hsz, HB1⟩
  case round =>
    clear d0 d1 d2 d3 d4 z0 z1 z2 z3 z4 f2 f4 hsz HB1 HS HOK HP HK
    obtain ⟨k, x, A0, A1, c0, c1, hk, rfl, HE, HS, HOK, HP, HK, d0, d1, d2, d3, d4, z0, z1, z2, z3, z4, f2, f4, hsz, HB⟩ := hrel
    by_cases hlt : k < n
    · obtain ⟨z, hz⟩ := at_some (show k < zs.length by rw [HN.out]; exact hlt)
      obtain ⟨bz, oz, rfl, hbz, ez⟩ := HZ.out.at_ hz
      replace ez := (HB.out.cell (p := ⟨bz, _, none⟩) hbz).trans ez
      have hE := HE.out
      rw [atT_step hz] at hE
      obtain ⟨s0, s1, s2, s3, s4⟩ := HS.out.open_
      have hi1 : (0 : Int) ≤ (k : Int) := by omega
      have hi2 : (k : Int) < (n : Int) := by omega
      have HSK := Lib.hid s4
      unfold maxLen at s3
      clear hz HE s0 s1 s2 s4
      by_cases hr : 0 ≤ z ∧ z ≤ (x.ks.length : Int) - 1
      · obtain ⟨j, rfl⟩ : ∃ j : Nat, z = (j : Int) := ⟨z.toNat, by omega⟩
        rw [if_pos hr, show ((j : Int)).toNat = j by omega] at hE
        obtain ⟨y, hy⟩ := at_some (show j < x.ks.length by omega)
        rw [hy, Option.bind_some] at hE
        obtain ⟨b, off, E0, g0, E1, g1, rfl, hblt, _, e0, e1, e2, e3, e4, hp, _, hks⟩ := HK.out.at_ hy
        replace e0 := (HB.out.cell (p := ⟨b, _, none⟩) hblt).trans e0
        replace e1 := (HB.out.cell (p := ⟨b, _, none⟩) hblt).trans e1
        replace e2 := (HB.out.cell (p := ⟨b, _, none⟩) hblt).trans e2
        replace e3 := (HB.out.cell (p := ⟨b, _, none⟩) hblt).trans e3
        replace e4 := (HB.out.cell (p := ⟨b, _, none⟩) hblt).trans e4
        have HSY := Lib.hid (HSK.out y (List.mem_of_getElem? hy))
        have HOY := Lib.hid (kid_valid HOK.out (List.mem_of_getElem? hy))
        have HPY := Lib.hid hp
        have HKY := Lib.hid hks
        have HEY := Lib.hid hE
        have hj1 : (0 : Int) ≤ (j : Int) := by omega
        have hj2 : (j : Int) < (x.ks.length : Int) := by omega
        have hj3 : (j : Int) ≤ (x.ks.length : Int) - 1 := by omega
        have hne : b ≠ w.heap.size := by omega
        have hne2 : bz ≠ w.heap.size := by omega
        obtain ⟨ln, hln⟩ : ∃ ln, x.ks.length = ln := ⟨_, rfl⟩
        rw [hln] at hj2 hj3 s3 d4
        have U1 := Lib.hid (fun w => (show Calls Tryd.prog 51 #[.int .i64 (j : Int), .int .i64 ((ln : Int) - 1)] w fun e w' => e = .returned (.bool true) ∧ w = w' by have := upTo_any (j : Int) ((ln : Int) - 1) w; rwa [decide_eq_true (show 0 ≤ (j : Int) ∧ (j : Int) ≤ (ln : Int) - 1 by omega)] at this))
        clear hp hks hE hr hy hln HSK HS HP HK HOK
        obtain ⟨yt, yk, ys, yp, yq⟩ := y
        dsimp only [Tr.tag, Tr.key, Tr.text, Tr.ps, Tr.ks] at e0 e1 e2 e3 e4
        go_wp2_with fail
        refine (U1.out _).mono ?_
        rintro e w' ⟨rfl, rfl⟩
        go_wp2_with fail
        go_roundw
        case rel =>
          refine ⟨k + 1, .mk yt yk ys yp yq, E0, E1, g0, g1, by omega, by go_num, HEY, HSY, HOY, HPY, HKY, ?_, ?_, ?_, ?_, ?_, ?_, ?_, ?_, ?_, ?_, fun o => ?_, fun o => ?_, by (simp [World.setCell]; omega), Lib.hid (((((HB.out.setCell (p := ⟨w.heap.size, 0, none⟩) (by simp) _).setCell (p := ⟨w.heap.size, 1, none⟩) (by simp) _).setCell (p := ⟨w.heap.size, 2, none⟩) (by simp) _).setCell (p := ⟨w.heap.size, 3, none⟩) (by simp) _).setCell (p := ⟨w.heap.size, 4, none⟩) (by simp) _)⟩
          all_goals ((try dsimp only [Tr.tag, Tr.key, Tr.text, Tr.ps, Tr.ks]); go_simp)
        case measure => simp [intOf]; omega
      · rw [if_neg hr] at hE
        have HEN := Lib.hid (HAT.out.trans hE.symm)
        obtain ⟨ln, hln⟩ : ∃ ln, x.ks.length = ln := ⟨_, rfl⟩
        rw [hln] at hr s3 d4
        have U1 := Lib.hid (fun w => (show Calls Tryd.prog 51 #[.int .i64 z, .int .i64 ((ln : Int) - 1)] w fun e w' => e = .returned (.bool false) ∧ w = w' by have := upTo_any z ((ln : Int) - 1) w; rwa [decide_eq_false hr] at this))
        clear hE HSK hr hln HOK HS HP HK
        go_wp2_with fail
        refine (U1.out _).mono ?_
        rintro e w' ⟨rfl, rfl⟩
        go_wp2_with fail
        refine bodyPost_ret (v := .tuple #[.agg #[.int .i64 0, .int .i64 0, .string ⟨#[]⟩, .slice none 0 0, .slice none 0 0], .bool false]) (by simp [results, Tryd.results19, go_sem, d0, d1, d2, d3, d4, z0, z1, z2, z3, z4, f2, f4]) rfl (HTX.out _ _ ⟨?_, .inl ⟨HEN.out, rfl⟩⟩)
        exact ((((HB.out.setCell (p := ⟨w.heap.size + 1, 0, none⟩) (by simp) _).setCell (p := ⟨w.heap.size + 1, 1, none⟩) (by simp) _).setCell (p := ⟨w.heap.size + 1, 2, none⟩) (by simp) _).setCell (p := ⟨w.heap.size + 1, 3, none⟩) (by simp) _).setCell (p := ⟨w.heap.size + 1, 4, none⟩) (by simp) _
    · obtain rfl : k = n := by omega
      have hE := HE.out
      rw [← HN.out, List.drop_length, atT] at hE
      have HEN := Lib.hid (HAT.out.trans hE.symm)
      have KC := Lib.hid (fun W hp hk => copyTree_any x (MiT.of_ok x HOK.out) A0 A1 c0 c1 W hp hk)
      have hcx : ∀ W e w', CpX x W e w' → ∃ B0 f0 B1 f1, e = .returned (.agg #[.int .i64 x.tag, .int .i64 x.key, .string x.text, .slice B0 x.ps.length f0, .slice B1 x.ks.length f1]) ∧ PrL w' B0 x.ps ∧ (∀ b o, B0 = some ⟨b, o, none⟩ → W.heap.size ≤ b) ∧ TrL w' W.heap.size B1 x.ks ∧ Below W.heap.size W w' := fun W e w' h => h
      clear hE HE
      go_wp2_with fail
      refine (KC.out _ (HP.out.below HB.out) (HK.out.below HB.out)).mono ?_
      intro e w2 hq
      obtain ⟨B0, f0, B1, f1, rfl, hpp, hplo, hkk, hb⟩ := hcx _ _ _ hq
      replace z0 := (hb.cell (p := ⟨w.heap.size + 1, 0, none⟩) (by first | omega | (simp; omega))).trans z0
      replace z1 := (hb.cell (p := ⟨w.heap.size + 1, 1, none⟩) (by first | omega | (simp; omega))).trans z1
      replace z2 := (hb.cell (p := ⟨w.heap.size + 1, 2, none⟩) (by first | omega | (simp; omega))).trans z2
      replace z3 := (hb.cell (p := ⟨w.heap.size + 1, 3, none⟩) (by first | omega | (simp; omega))).trans z3
      replace z4 := (hb.cell (p := ⟨w.heap.size + 1, 4, none⟩) (by first | omega | (simp; omega))).trans z4
      replace f4 := fun o => (hb.frozen (p := ⟨w.heap.size + 1, o, none⟩) (by first | omega | (simp; omega))).trans (f4 o)
      have HB2 := Lib.hid (more HB.out (Nat.le_refl _) hb)
      have HPP := Lib.hid hpp
      have HPL := Lib.hid hplo
      have HKK := Lib.hid hkk
      clear hpp hplo hkk hb hq hcx KC HP HK
      go_wp2_with fail
      refine bodyPost_ret (v := .tuple #[.agg #[.int .i64 x.tag, .int .i64 x.key, .string x.text, .slice B0 x.ps.length f0, .slice B1 x.ks.length f1], .bool true]) (by simp [results, Tryd.results19, go_sem, z0, z1, z2, z3, z4, f4]) rfl (HTX.out _ _ ⟨?_, .inr ⟨x, B0, B1, f0, f1, HEN.out, rfl, ?_, fun b o e => by have := HPL.out b o e; omega, ?_⟩⟩)
      · exact ((((HB2.out.setCell (p := ⟨w.heap.size + 1, 0, none⟩) (by simp) _).setCell (p := ⟨w.heap.size + 1, 1, none⟩) (by simp) _).setCell (p := ⟨w.heap.size + 1, 2, none⟩) (by simp) _).setCell (p := ⟨w.heap.size + 1, 3, none⟩) (by simp) _).setCell (p := ⟨w.heap.size + 1, 4, none⟩) (by simp) _
      · refine PrL.kept (w := w2) (lo := w.heap.size + 1 + 1) (by simp [World.setCell]) (fun b hb _ => ?_) HPP.out (fun b o e => by have := HPL.out b o e; omega)
        rw [Below.heap_setCell _ _ _ b (by first | omega | (simp; omega) | (simp <;> omega)), Below.heap_setCell _ _ _ b (by first | omega | (simp; omega) | (simp <;> omega)), Below.heap_setCell _ _ _ b (by first | omega | (simp; omega) | (simp <;> omega)), Below.heap_setCell _ _ _ b (by first | omega | (simp; omega) | (simp <;> omega)), Below.heap_setCell _ _ _ b (by first | omega | (simp; omega) | (simp <;> omega))]
      · refine TrL.mono (lo := wr.heap.size) (by omega) (TrL.kept (w := w2) (by simp [World.setCell]) (fun b hb _ => ?_) HKK.out)
        rw [Below.heap_setCell _ _ _ b (by first | omega | (simp; omega) | (simp <;> omega)), Below.heap_setCell _ _ _ b (by first | omega | (simp; omega) | (simp <;> omega)), Below.heap_setCell _ _ _ b (by first | omega | (simp; omega) | (simp <;> omega)), Below.heap_setCell _ _ _ b (by first | omega | (simp; omega) | (simp <;> omega)), Below.heap_setCell _ _ _ b (by first | omega | (simp; omega) | (simp <;> omega))]
end Go.Proofs.YtpkhpaioddommaaDoor

namespace Go.Proofs.YtpkhpaioddommaaDoor
open Go.Joins Go.ChangeShapes Go.WideShapes Go.ChangeAt Go.RowKit Go.Deep
set_option linter.unusedVariables false
set_option linter.unusedSimpArgs false

/-- What has been laid so far: the Props' row, the tree's own block. -/
structure RP (base : Nat) (w0 w : World) (row : Option (Value × Nat × List Value)) (g7 : Option Nat) : Prop where
  below : Below base w0 w
  le : base ≤ w.heap.size
  own : ∀ v n L, row = some (v, n, L) → w.ownsRow base 95 4 v n L
  box : ∀ g, g7 = some g → base ≤ g ∧ w.heap[g]? = some (.cells #[.int .i64 0, .int .i64 0, .string ⟨#[]⟩, .slice none 0 0, .slice none 0 0] 26) ∧ ∀ v n L, row = some (v, n, L) → v.ownBlock ≠ some g
theorem RP.start {base : Nat} {w0 w : World} (hb : Below base w0 w) (hl : base ≤ w.heap.size) : RP base w0 w none none := ⟨hb, hl, fun _ _ _ h => (by cases h), fun _ h => (by cases h)⟩
theorem RP.alloc {base : Nat} {w0 w : World} {row : Option (Value × Nat × List Value)} {g7 : Option Nat} (h : RP base w0 w row g7) (o : Obj) : RP base w0 (w.alloc o) row g7 :=
  ⟨h.below.alloc h.le o, by have := h.le; simp; omega, fun v n L e => own_alloc (h.own v n L e) o,
    fun g e => ⟨(h.box g e).1, (Below.heap_alloc w o g (Array.getElem?_eq_some_iff.1 (h.box g e).2.1).1).trans (h.box g e).2.1, (h.box g e).2.2⟩⟩
theorem RP.newRow {base : Nat} {w0 w : World} {g7 : Option Nat} (h : RP base w0 w none g7) : RP base w0 (w.alloc (.cells #[] 95)) (some (.slice (some ⟨w.heap.size, 0, none⟩) 0 0, 0, [])) g7 := by
  have h1 := h.alloc (.cells #[] 95)
  refine ⟨h1.below, h1.le, fun v n L e => ?_, fun g e => ⟨(h1.box g e).1, (h1.box g e).2.1, fun v n L e2 => ?_⟩⟩
  · cases e
    exact ⟨rfl, .inr ⟨w.heap.size, 0, #[], rfl, h.le, World.alloc_heap_new w _, Nat.le_refl _, Nat.zero_le _, rfl, rfl⟩⟩
  · cases e2
    have := (Array.getElem?_eq_some_iff.1 (h.box g e).2.1).1
    simp [Value.ownBlock]
    omega
theorem RP.newBox {base : Nat} {w0 w : World} {row : Option (Value × Nat × List Value)} (h : RP base w0 w row none) : RP base w0 (w.alloc (.cells #[.int .i64 0, .int .i64 0, .string ⟨#[]⟩, .slice none 0 0, .slice none 0 0] 26)) row (some w.heap.size) := by
  have h1 := h.alloc (.cells #[.int .i64 0, .int .i64 0, .string ⟨#[]⟩, .slice none 0 0, .slice none 0 0] 26)
  refine ⟨h1.below, h1.le, h1.own, fun g e => ?_⟩
  cases e
  refine ⟨h.le, World.alloc_heap_new w _, fun v n L e2 e3 => ?_⟩
  have := ((h.own v n L e2).lt _ e3).2
  omega
theorem RP.app {base : Nat} {w0 w w' : World} {v v' : Value} {n n' : Nat} {L L' : List Value} {g7 : Option Nat} (h : RP base w0 w (some (v, n, L)) g7) (ho : w'.ownsRow base 95 4 v' n' L') (hg : w.grownBy w' v.ownBlock) (hat : v'.ownBlock = v.ownBlock ∨ v'.ownBlock = some w.heap.size) : RP base w0 w' (some (v', n', L')) g7 := by
  refine ⟨h.below.grown hg h.le (fun k hk => ((h.own v n L rfl).lt k hk).1), Nat.le_trans h.le hg.size, fun v1 n1 L1 e => ?_, fun g e => ?_⟩
  · cases e; exact ho
  · obtain ⟨h1, h2, h3⟩ := h.box g e
    have hlt := (Array.getElem?_eq_some_iff.1 h2).1
    refine ⟨h1, (hg.block g hlt (fun e => h3 _ _ _ rfl e.symm)).trans h2, fun v1 n1 L1 e2 e3 => ?_⟩
    cases e2
    rcases hat with hat | hat
    · exact h3 _ _ _ rfl (hat.symm.trans e3)
    · rw [hat] at e3
      injection e3 with e3
      omega
theorem own_formP {w : World} {base sz : Nat} {e : TypeId} {n : Nat} {v : Value} {g : Nat} {L : List Value} (ho : w.ownsRow base e sz v n L) (hv : v.ownBlock = some g) : ∃ c, v = .slice (some ⟨g, 0, none⟩) n c := by
  rcases ho.2 with ⟨rfl, _⟩ | ⟨g', c, cur, rfl, _⟩
  · cases hv
  · simp [Value.ownBlock] at hv
    subst hv
    exact ⟨c, rfl⟩
/-- The Props, appended onto nothing. -/
theorem step_props {w w0 : World} {ops : Array Oper} {o : Oper} {a : Act} {K : Act → World → Prop} {Q : Exit → Act → World → Prop} {E : Prop} (hgd : o.guard = none) (s x : Operand)
    (ho : o.op = .call { callee := .builtin .append, args := #[s, x], argTypes := #[23, 23] }) (base b m c2 : Nat) (A : Option Addr) (L : List Value) (g7 : Option Nat) (hs : a.eval s = .slice (some ⟨b, 0, none⟩) 0 0) (hx : a.eval x = .slice A m c2)
    (h : RP base w0 w (some (.slice (some ⟨b, 0, none⟩) 0 0, 0, [])) g7) (hl : L.length = m * 4) (h1 : ∀ u ∈ L, u.oneCell' = true) (hc : 0 < m → ∃ ad, A = some ad ∧ ∀ j u, L[j]? = some u → w.cell? (ad.add j) = some u) (hm : m ≤ 1000)
    (hK : ∀ b' c' w', RP base w0 w' (some (.slice (some ⟨b', 0, none⟩) m c', m, L)) g7 → K (a.put o.dst (.slice (some ⟨b', 0, none⟩) m c')) w') :
    if Region.wanted o (yielded ops a.tmps) = true then Oper.wp Tryd.prog o a w K Q else E := by
  have hw : Region.wanted o (yielded ops a.tmps) = true := by simp [Region.wanted, hgd]
  rw [if_pos hw]
  obtain ⟨i, hi, hz, hsz, hby⟩ := info_parts infoPr
  rcases Nat.eq_zero_or_pos m with rfl | hp
  · obtain rfl : L = [] := List.eq_nil_of_length_eq_zero (by simpa using hl)
    have hr := run_append0 w 23 o.type 95 i Tryd.underlying23 hi ⟨b, 0, none⟩ A c2
    unfold Oper.wp execOp
    simp only [ho, resolve, invoke, builtin, Sem.run_bind, Sem.run_pure, Result.andThen_ok, List.map_toArray, List.map_cons, List.map_nil, hs, hx, hr]
    exact hK b 0 w h
  · obtain ⟨ad, rfl, hcells⟩ := hc hp
    obtain ⟨v', w', hr, hown', hg, hn, hat⟩ := run_append_own_at (P := Tryd.prog) w base 23 o.type 95 i _ 4 40 Tryd.underlying23 hi hz hsz hby rfl (by omega) _ 0 [] (h.own _ _ _ rfl) ad m c2 L hl hcells h1 (by simp only [maxLen]; omega) (by omega) h.le
    rw [Nat.zero_add, List.nil_append] at hown'
    have hR := h.app hown' hg hat
    obtain ⟨b', c', rfl⟩ : ∃ b' c', v' = .slice (some ⟨b', 0, none⟩) m c' := by
      rcases hat with hat | hat
      · obtain ⟨c', e⟩ := own_formP hown' hat
        exact ⟨_, c', e⟩
      · obtain ⟨c', e⟩ := own_formP hown' hat
        exact ⟨_, c', e⟩
    unfold Oper.wp execOp
    simp only [ho, resolve, invoke, builtin, Sem.run_bind, Sem.run_pure, Result.andThen_ok, List.map_toArray, List.map_cons, List.map_nil, hs, hx, hr]
    exact hK b' c' w' hR
/-- A tree that lies in blocks from lo up to hi, whatever else is done. -/
def Stands (w : World) (lo hi : Nat) (cs : List Value) (t : Tr) : Prop := ∀ w' : World, hi ≤ w'.heap.size → (∀ b, lo ≤ b → b < hi → w'.heap[b]? = w.heap[b]?) → TrC w' lo cs t
theorem TrC.stands {w : World} {lo : Nat} {cs : List Value} {t : Tr} (h : TrC w lo cs t) : Stands w lo w.heap.size cs t := fun w' hs hb => h.kept hs (fun b h1 h2 => hb b h1 h2)
theorem Stands.next {w w' : World} {lo hi : Nat} {cs : List Value} {t : Tr} (h : Stands w lo hi cs t) (hb : ∀ b, lo ≤ b → b < hi → w'.heap[b]? = w.heap[b]?) : Stands w' lo hi cs t := fun w2 hs h2 => h w2 hs (fun b h3 h4 => (h2 b h3 h4).trans (hb b h3 h4))
/-- The Kids copied so far: a row of their cells, each standing apart from it. -/
structure KdC (base : Nat) (w : World) (gb : Nat) (v : Value) (xs : List Tr) : Prop where
  L : ∃ L, w.ownsRow base 26 5 v xs.length L ∧ v.ownBlock ≠ some gb ∧ ∀ i x, xs[i]? = some x → ∃ cs lo hi, cs.length = 5 ∧ base ≤ lo ∧ hi ≤ w.heap.size ∧ (∀ g, v.ownBlock = some g → g < lo ∨ hi ≤ g) ∧ (gb < lo ∨ hi ≤ gb) ∧ Stands w lo hi cs x ∧ ∀ j, j < 5 → L[i * 5 + j]? = cs[j]?
theorem KdC.start {base : Nat} {w : World} {gb : Nat} : KdC base w gb (.slice none 0 0) [] := ⟨[], World.ownsRow_nil w _ _ _, by simp [Value.ownBlock], fun i x h => by simp at h⟩
/-- Other blocks than these have turned. -/
theorem KdC.move {base : Nat} {w w' : World} {gb : Nat} {v : Value} {xs : List Tr} (h : KdC base w gb v xs) (hs : w.heap.size ≤ w'.heap.size) (hb : ∀ b, b < w.heap.size → b ≠ gb → w'.heap[b]? = w.heap[b]?) (hg : gb < w.heap.size) : KdC base w' gb v xs := by
  obtain ⟨L, ho, hgb, hk⟩ := h.L
  refine ⟨L, ⟨ho.1, ?_⟩, hgb, fun i x hx => ?_⟩
  · rcases ho.2 with hn | ⟨g, cap, cur, rfl, hbg, hgg, rest⟩
    · exact .inl hn
    · exact .inr ⟨g, cap, cur, rfl, hbg, (hb g (Array.getElem?_eq_some_iff.1 hgg).1 (fun e => hgb (by simp [Value.ownBlock, e]))).trans hgg, rest⟩
  · obtain ⟨cs, lo, hi, h1, h2, h3, h4, h5, h6, h7⟩ := hk i x hx
    exact ⟨cs, lo, hi, h1, h2, Nat.le_trans h3 hs, h4, h5, h6.next (fun b h8 h9 => hb b (Nat.lt_of_lt_of_le h9 h3) (fun e => by omega)), h7⟩
theorem KdC.trl {base : Nat} {w : World} {gb : Nat} {v : Value} {xs : List Tr} (h : KdC base w gb v xs) : ∃ A c, v = .slice A xs.length c ∧ TrL w base A xs := by
  obtain ⟨L, ho, hgb, hk⟩ := h.L
  rcases ho.2 with ⟨rfl, h0⟩ | ⟨g, cap, cur, rfl, hbg, hgg, rest⟩
  · obtain rfl : xs = [] := List.eq_nil_of_length_eq_zero h0
    exact ⟨_, _, rfl, TrL.nil⟩
  · refine ⟨some ⟨g, 0, none⟩, cap, rfl, fun i => if h : i < xs.length then (hk i xs[i] (List.getElem?_eq_getElem h)).choose else [], fun _ => ⟨g, 0, rfl, hbg, (Array.getElem?_eq_some_iff.1 hgg).1, fun i hi j u hu => ?_⟩, fun i x hx => ?_⟩
    · dsimp only at hu
      rw [dif_pos hi] at hu
      obtain ⟨lo, hi2, k1, k2, k3, k4, k5, k6, k7⟩ := (hk i xs[i] (List.getElem?_eq_getElem hi)).choose_spec
      have hj : j < 5 := by rw [← k1]; exact (List.getElem?_eq_some_iff.1 hu).1
      have e := k7 j hj
      rw [hu] at e
      have := ho.cells (g := g) rfl (i * 5 + j) u e
      rw [addr_add] at this
      rw [show 0 + i * 5 + j = 0 + (i * 5 + j) by omega]
      exact this
    · have hi := (List.getElem?_eq_some_iff.1 hx).1
      show TrC w base (if h : i < xs.length then (hk i xs[i] (List.getElem?_eq_getElem h)).choose else []) x
      rw [dif_pos hi]
      obtain ⟨lo, hi2, k1, k2, k3, k4, k5, k6, k7⟩ := (hk i xs[i] (List.getElem?_eq_getElem hi)).choose_spec
      have e : xs[i] = x := (List.getElem?_eq_some_iff.1 hx).2
      have := (k6 w k3 (fun _ _ _ => rfl)).mono k2
      rw [← e]
      exact this
/-- A Kid more. -/
theorem KdC.add {base : Nat} {w w' : World} {gb : Nat} {v v' : Value} {xs : List Tr} {x : Tr} {L cs : List Value} {lo hi : Nat} (hgb2 : gb < w.heap.size)
    (ho : w.ownsRow base 26 5 v xs.length L) (hgb : v.ownBlock ≠ some gb) (hk : ∀ i x, xs[i]? = some x → ∃ cs lo hi, cs.length = 5 ∧ base ≤ lo ∧ hi ≤ w.heap.size ∧ (∀ g, v.ownBlock = some g → g < lo ∨ hi ≤ g) ∧ (gb < lo ∨ hi ≤ gb) ∧ Stands w lo hi cs x ∧ ∀ j, j < 5 → L[i * 5 + j]? = cs[j]?)
    (ho' : w'.ownsRow base 26 5 v' (xs.length + 1) (L ++ cs)) (hg : w.grownBy w' v.ownBlock) (hat : v'.ownBlock = v.ownBlock ∨ v'.ownBlock = some w.heap.size)
    (hc5 : cs.length = 5) (hlo : base ≤ lo) (hhi : hi ≤ w.heap.size) (hv : ∀ g, v.ownBlock = some g → g < lo ∨ hi ≤ g) (hgl : gb < lo ∨ hi ≤ gb) (hst : Stands w lo hi cs x) : KdC base w' gb v' (xs ++ [x]) := by
  have hL : L.length = xs.length * 5 := ho.1
  have hvn : ∀ (lo hi : Nat), hi ≤ w.heap.size → (∀ g, v.ownBlock = some g → g < lo ∨ hi ≤ g) → (∀ g, v'.ownBlock = some g → g < lo ∨ hi ≤ g) := fun lo hi h1 h2 g h3 => by
    rcases hat with hat | hat
    · exact h2 g (hat.symm.trans h3)
    · rw [hat] at h3; injection h3 with h3; omega
  have hnx : ∀ (lo hi : Nat) (cs : List Value) (t : Tr), hi ≤ w.heap.size → (∀ g, v.ownBlock = some g → g < lo ∨ hi ≤ g) → Stands w lo hi cs t → Stands w' lo hi cs t := fun lo hi cs t h1 h2 h3 => h3.next (fun b h4 h5 => hg.block b (by omega) (fun e => by have := h2 b e.symm; omega))
  refine ⟨L ++ cs, by rw [List.length_append]; exact ho', fun e => ?_, fun i y hy => ?_⟩
  · rcases hat with hat | hat
    · exact hgb (hat.symm.trans e)
    · rw [hat] at e; injection e with e; omega
  · by_cases hi2 : i < xs.length
    · rw [List.getElem?_append_left hi2] at hy
      obtain ⟨cs', lo', hi', h1, h2, h3, h4, h5, h6, h7⟩ := hk i y hy
      exact ⟨cs', lo', hi', h1, h2, Nat.le_trans h3 hg.size, hvn lo' hi' h3 h4, h5, hnx lo' hi' cs' y h3 h4 h6, fun j hj => by rw [List.getElem?_append_left (by omega)]; exact h7 j hj⟩
    · rw [List.getElem?_append_right (by omega)] at hy
      have hi3 : i - xs.length = 0 := by
        have := (List.getElem?_eq_some_iff.1 hy).1
        simp only [List.length_cons, List.length_nil] at this
        omega
      rw [hi3] at hy
      simp only [List.getElem?_cons_zero, Option.some.injEq] at hy
      subst hy
      exact ⟨cs, lo, hi, hc5, hlo, Nat.le_trans hhi hg.size, hvn lo hi hhi hv, hgl, hnx lo hi cs x hhi hv hst, fun j hj => by rw [List.getElem?_append_right (by omega)]; congr 1; omega⟩
theorem five5 {w : World} {b : Nat} {v0 v1 v2 v3 v4 : Value} {t : TypeId} (h : w.heap[b]? = some (.cells #[v0, v1, v2, v3, v4] t (0, 0))) : w.cell? ⟨b, 0, none⟩ = some v0 ∧ w.cell? ⟨b, 1, none⟩ = some v1 ∧ w.cell? ⟨b, 2, none⟩ = some v2 ∧ w.cell? ⟨b, 3, none⟩ = some v3 ∧ w.cell? ⟨b, 4, none⟩ = some v4 := by
  simp [World.cell?, h]
theorem own_mv {w w' : World} {base n m : Nat} {e : TypeId} {v : Value} {xs : List Value} (h : w.ownsRow base e n v m xs) (hb : ∀ g, v.ownBlock = some g → w'.heap[g]? = w.heap[g]?) : w'.ownsRow base e n v m xs := by
  refine ⟨h.1, ?_⟩
  rcases h.2 with hn | ⟨g, cap, cur, rfl, hbg, hgg, rest⟩
  · exact .inl hn
  · exact .inr ⟨g, cap, cur, rfl, hbg, (hb g rfl).trans hgg, rest⟩
/-- The tree's own block is filled. -/
theorem RP.filled {base : Nat} {w0 w : World} {v : Value} {n g : Nat} {L : List Value} (h : RP base w0 w (some (v, n, L)) (some g)) (u0 u1 u2 u3 u4 : Value) :
    Below base w0 (((((w.setCell ⟨g, 0, none⟩ u0).setCell ⟨g, 1, none⟩ u1).setCell ⟨g, 2, none⟩ u2).setCell ⟨g, 3, none⟩ u3).setCell ⟨g, 4, none⟩ u4) ∧ (((((w.setCell ⟨g, 0, none⟩ u0).setCell ⟨g, 1, none⟩ u1).setCell ⟨g, 2, none⟩ u2).setCell ⟨g, 3, none⟩ u3).setCell ⟨g, 4, none⟩ u4).ownsRow base 95 4 v n L ∧ v.ownBlock ≠ some g ∧
      (((((w.setCell ⟨g, 0, none⟩ u0).setCell ⟨g, 1, none⟩ u1).setCell ⟨g, 2, none⟩ u2).setCell ⟨g, 3, none⟩ u3).setCell ⟨g, 4, none⟩ u4).heap[g]? = some (.cells #[u0, u1, u2, u3, u4] 26) ∧ base ≤ g := by
  obtain ⟨h1, h2, h3⟩ := h.box g rfl
  have h4 := h3 _ _ _ rfl
  refine ⟨((((h.below.setCell (p := ⟨g, 0, none⟩) h1 u0).setCell (p := ⟨g, 1, none⟩) h1 u1).setCell (p := ⟨g, 2, none⟩) h1 u2).setCell (p := ⟨g, 3, none⟩) h1 u3).setCell (p := ⟨g, 4, none⟩) h1 u4, own_mv (h.own _ _ _ rfl) (fun b hb => ?_), h4, ?_, h1⟩
  · have hne : b ≠ g := fun e => h4 (by rw [← e]; exact hb)
    rw [Below.heap_setCell _ _ _ _ hne, Below.heap_setCell _ _ _ _ hne, Below.heap_setCell _ _ _ _ hne, Below.heap_setCell _ _ _ _ hne, Below.heap_setCell _ _ _ _ hne]
  · simp [World.setCell, Array.getElem?_modify, h2]
end Go.Proofs.YtpkhpaioddommaaDoor

namespace Go.Proofs.YtpkhpaioddommaaDoor
open Go.Joins Go.ChangeShapes Go.WideShapes Go.ChangeAt Go.RowKit Go.Deep
set_option linter.unusedVariables false
set_option linter.unusedSimpArgs false

/-- What is left is the same, in whatever order it was laid. -/
theorem later4 {P : Prop} {F G : Nat → Nat → Nat → Nat → World → Prop} (h : Hid (∀ a b c d w, F a b c d w → G a b c d w) → P) (ht : ∀ a b c d w, F a b c d w → G a b c d w) : P := h (Lib.hid ht)
def SCpT (t : Tr) : Prop := ∀ (A0 A1 : Option Addr) (c0 c1 : Nat) (w : World), PrL w A0 t.ps → TrL w 0 A1 t.ks →
  Calls Tryd.prog 54 #[.agg #[.int .i64 t.tag, .int .i64 t.key, .string t.text, .slice A0 t.ps.length c0, .slice A1 t.ks.length c1]] w (CpX t w)
set_option maxRecDepth 100000 in
set_option maxHeartbeats 20000000 in
theorem scopyTree_any (t : Tr) : treeOkB t = true → SCpT t := by
  induction t using Tr.by_kids with
  | h t ih =>
  intro hok A0 A1 c0 c1 w hp hk
  have hi := fun x hx => ih x hx (kid_valid hok hx)
  have hmi := MiT.of_ok t hok
  have hsz := (treeB_yes (show treeB shownB t = true from hok)).2.2
  have hkl := kids_le_size t.ks
  rw [sizeT_eq] at hsz
  have hpl : t.ps.length ≤ 1000 := by
    rcases node_ok hok with ⟨h0, _⟩ | ⟨_, _, _, _, _, h5⟩
    · have h1 := hok
      unfold treeOkB at h1
      rw [Bool.and_eq_true, vpT_eq, Bool.and_eq_true] at h1
      have h2 := h1.2.1
      rw [partB_text h0] at h2
      simp only [Bool.and_eq_true] at h2
      have := List.isEmpty_iff.1 h2.2.2.1
      rw [this]
      exact Nat.zero_le _
    · have := runP_len4 h5
      omega
  have hT : ∀ e w', (∃ B0 f0 B1 f1, e = .returned (.agg #[.int .i64 t.tag, .int .i64 t.key, .string t.text, .slice B0 t.ps.length f0, .slice B1 t.ks.length f1]) ∧ PrL w' B0 t.ps ∧ (∀ b o, B0 = some ⟨b, o, none⟩ → w.heap.size ≤ b) ∧ TrL w' w.heap.size B1 t.ks ∧ Below w.heap.size w w') → CpX t w e w' := fun e w' h => h
  obtain ⟨Q, hQ⟩ : ∃ Q, CpX t w = Q := ⟨_, rfl⟩
  rw [hQ] at hT ⊢
  have HQ := Lib.hid hT
  have HP := Lib.hid hp
  have HK := Lib.hid hk
  have HI := Lib.hid hi
  have hpc := prs_cells hp
  clear hp hk ih hi hT hQ hmi hok
  obtain ⟨tag, key, text, ps, ks⟩ := t
  dsimp only [Tr.tag, Tr.key, Tr.text, Tr.ps, Tr.ks] at *
  have hpn := prs_len ps
  have HP1 := Lib.hid (prs_one ps)
  obtain ⟨LP, hLP⟩ : ∃ q, ps.flatMap Pr.cells = q := ⟨_, rfl⟩
  rw [hLP] at hpc hpn HP1
  have HLP := Lib.hid hLP.symm
  obtain ⟨np, hnp⟩ : ∃ q, ps.length = q := ⟨_, rfl⟩
  obtain ⟨nk, hnk⟩ : ∃ q, ks.length = q := ⟨_, rfl⟩
  rw [hnp] at HQ hpc hpn hpl ⊢
  rw [hnk] at HQ hkl ⊢
  have HPL := Lib.hid hpn
  have HPC := Lib.hid hpc
  have HN10 := Lib.hid hpl
  have HNP := Lib.hid hnp
  have HNK := Lib.hid hnk
  have hnk2 : nk ≤ 200 := by omega
  clear hLP hnp hnk hpn hpc hpl hsz hkl
  obtain ⟨i0, hi, hj0, hj1, hj2⟩ := info_parts infoTr
  have I0 := Lib.hid (And.intro hi (And.intro hj0 (And.intro hj1 hj2)))
  clear hi hj0 hj1 hj2
  have hb0 : Below w.heap.size w ((w.alloc (.cells #[.int .i64 tag, .int .i64 key, .string text, .slice A0 np c0, .slice A1 nk c1] 26)).alloc (.cells #[.int .i64 0, .int .i64 0, .string ⟨#[]⟩, .slice none 0 0, .slice none 0 0] 26)) := (Below.alloc (Below.refl w.heap.size w) (Nat.le_refl _) _).alloc (by simp) _
  have a0 : ((w.alloc (.cells #[.int .i64 tag, .int .i64 key, .string text, .slice A0 np c0, .slice A1 nk c1] 26)).alloc (.cells #[.int .i64 0, .int .i64 0, .string ⟨#[]⟩, .slice none 0 0, .slice none 0 0] 26)).cell? ⟨w.heap.size, 0, none⟩ = some (.int .i64 tag) := by go_simp
  have a1 : ((w.alloc (.cells #[.int .i64 tag, .int .i64 key, .string text, .slice A0 np c0, .slice A1 nk c1] 26)).alloc (.cells #[.int .i64 0, .int .i64 0, .string ⟨#[]⟩, .slice none 0 0, .slice none 0 0] 26)).cell? ⟨w.heap.size, 1, none⟩ = some (.int .i64 key) := by go_simp
  have a2 : ((w.alloc (.cells #[.int .i64 tag, .int .i64 key, .string text, .slice A0 np c0, .slice A1 nk c1] 26)).alloc (.cells #[.int .i64 0, .int .i64 0, .string ⟨#[]⟩, .slice none 0 0, .slice none 0 0] 26)).cell? ⟨w.heap.size, 2, none⟩ = some (.string text) := by go_simp
  have a3 : ((w.alloc (.cells #[.int .i64 tag, .int .i64 key, .string text, .slice A0 np c0, .slice A1 nk c1] 26)).alloc (.cells #[.int .i64 0, .int .i64 0, .string ⟨#[]⟩, .slice none 0 0, .slice none 0 0] 26)).cell? ⟨w.heap.size, 3, none⟩ = some (.slice A0 np c0) := by go_simp
  have a4 : ((w.alloc (.cells #[.int .i64 tag, .int .i64 key, .string text, .slice A0 np c0, .slice A1 nk c1] 26)).alloc (.cells #[.int .i64 0, .int .i64 0, .string ⟨#[]⟩, .slice none 0 0, .slice none 0 0] 26)).cell? ⟨w.heap.size, 4, none⟩ = some (.slice A1 nk c1) := by go_simp
  have z0 : ((w.alloc (.cells #[.int .i64 tag, .int .i64 key, .string text, .slice A0 np c0, .slice A1 nk c1] 26)).alloc (.cells #[.int .i64 0, .int .i64 0, .string ⟨#[]⟩, .slice none 0 0, .slice none 0 0] 26)).cell? ⟨w.heap.size + 1, 0, none⟩ = some (.int .i64 0) := by go_simp
  have z1 : ((w.alloc (.cells #[.int .i64 tag, .int .i64 key, .string text, .slice A0 np c0, .slice A1 nk c1] 26)).alloc (.cells #[.int .i64 0, .int .i64 0, .string ⟨#[]⟩, .slice none 0 0, .slice none 0 0] 26)).cell? ⟨w.heap.size + 1, 1, none⟩ = some (.int .i64 0) := by go_simp
  have z2 : ((w.alloc (.cells #[.int .i64 tag, .int .i64 key, .string text, .slice A0 np c0, .slice A1 nk c1] 26)).alloc (.cells #[.int .i64 0, .int .i64 0, .string ⟨#[]⟩, .slice none 0 0, .slice none 0 0] 26)).cell? ⟨w.heap.size + 1, 2, none⟩ = some (.string ⟨#[]⟩) := by go_simp
  have z3 : ((w.alloc (.cells #[.int .i64 tag, .int .i64 key, .string text, .slice A0 np c0, .slice A1 nk c1] 26)).alloc (.cells #[.int .i64 0, .int .i64 0, .string ⟨#[]⟩, .slice none 0 0, .slice none 0 0] 26)).cell? ⟨w.heap.size + 1, 3, none⟩ = some (.slice none 0 0) := by go_simp
  have z4 : ((w.alloc (.cells #[.int .i64 tag, .int .i64 key, .string text, .slice A0 np c0, .slice A1 nk c1] 26)).alloc (.cells #[.int .i64 0, .int .i64 0, .string ⟨#[]⟩, .slice none 0 0, .slice none 0 0] 26)).cell? ⟨w.heap.size + 1, 4, none⟩ = some (.slice none 0 0) := by go_simp
  have zf : ∀ o, ((w.alloc (.cells #[.int .i64 tag, .int .i64 key, .string text, .slice A0 np c0, .slice A1 nk c1] 26)).alloc (.cells #[.int .i64 0, .int .i64 0, .string ⟨#[]⟩, .slice none 0 0, .slice none 0 0] 26)).frozen? ⟨w.heap.size + 1, o, none⟩ = false := fun o => by go_simp
  have hlt : ((w.alloc (.cells #[.int .i64 tag, .int .i64 key, .string text, .slice A0 np c0, .slice A1 nk c1] 26)).alloc (.cells #[.int .i64 0, .int .i64 0, .string ⟨#[]⟩, .slice none 0 0, .slice none 0 0] 26)).heap.size = w.heap.size + 2 := by simp
  have HB0 := Lib.hid hb0
  obtain ⟨wb, hwb⟩ : ∃ v, ((w.alloc (.cells #[.int .i64 tag, .int .i64 key, .string text, .slice A0 np c0, .slice A1 nk c1] 26)).alloc (.cells #[.int .i64 0, .int .i64 0, .string ⟨#[]⟩, .slice none 0 0, .slice none 0 0] 26)) = v := ⟨_, rfl⟩
  rw [hwb] at a0 a1 a2 a3 a4 z0 z1 z2 z3 z4 zf hlt HB0
  have HWB := Lib.hid hwb
  clear hb0 hwb
  go_enter Tryd.func54, Tryd.ntmps54
  go_wp2_with fail
  rw [HWB.out]
  clear HWB
  have SF : Hid (∀ W, Below wb.heap.size wb.drew W → (fun w' : World => w'.cell? ⟨w.heap.size, 0, none⟩ = some (.int .i64 tag) ∧ w'.cell? ⟨w.heap.size, 1, none⟩ = some (.int .i64 key) ∧ w'.cell? ⟨w.heap.size, 2, none⟩ = some (.string text) ∧ w'.cell? ⟨w.heap.size, 3, none⟩ = some (.slice A0 np c0)) W) := Lib.hid (fun W hb => ⟨(hb.cell (p := ⟨w.heap.size, 0, none⟩) (by show w.heap.size < wb.heap.size; omega)).trans a0, (hb.cell (p := ⟨w.heap.size, 1, none⟩) (by show w.heap.size < wb.heap.size; omega)).trans a1, (hb.cell (p := ⟨w.heap.size, 2, none⟩) (by show w.heap.size < wb.heap.size; omega)).trans a2, (hb.cell (p := ⟨w.heap.size, 3, none⟩) (by show w.heap.size < wb.heap.size; omega)).trans a3⟩)
  apply later4 (F := fun gz bp cp r0 wz => Hid (Below wb.heap.size wb.drew wz ∧ wz.ownsRow wb.heap.size 95 4 (.slice (some ⟨bp, 0, none⟩) np cp) np LP ∧ (Value.slice (some ⟨bp, 0, none⟩) np cp).ownBlock ≠ some gz ∧ wz.heap[gz]? = some (.cells #[.int .i64 tag, .int .i64 key, .string text, .slice (some ⟨bp, 0, none⟩) np cp, .slice none 0 0] 26) ∧ wb.heap.size ≤ gz))
  · intro hTail
    have HR := Lib.hid (RP.start (Below.refl wb.heap.size wb.drew) (Nat.le_refl _))
    refine wp_region_held_drew (S := fun w' : World => w'.cell? ⟨w.heap.size, 0, none⟩ = some (.int .i64 tag) ∧ w'.cell? ⟨w.heap.size, 1, none⟩ = some (.int .i64 key) ∧ w'.cell? ⟨w.heap.size, 2, none⟩ = some (.string text) ∧ w'.cell? ⟨w.heap.size, 3, none⟩ = some (.slice A0 np c0)) (by kernel_rfl) (SF.out _ (Below.refl _ _)) (fun hHeld => ?_)
    obtain ⟨wd3, hwd3⟩ : ∃ v, wb.drew = v := ⟨_, rfl⟩
    rw [show RP wb.heap.size wb.drew wb.drew = RP wb.heap.size wb.drew wd3 from by rw [hwd3]] at HR
    rw [hwd3] at hHeld ⊢
    clear hwd3
    refine wpAnyH_take (i := 0) (oi := _) (v := ?_) rfl (by kernel_rfl) (by kernel_rfl) (by kernel_rfl) (fun _ _ _ h => h) (Or.inl ⟨by kernel_rfl, ?_⟩) (by assumption) ?_
    rotate_left
    · (intro w hSw; (try dsimp only at hSw); go_simp)
      try with_reducible rfl
    (try simp only [Act.put, List.getElem_toArray, List.getElem_cons_zero, List.getElem_cons_succ, List.setIfInBounds_toArray, List.set_cons_zero, List.set_cons_succ])
    refine wpAnyH_take (i := 1) (oi := _) (v := ?_) rfl (by kernel_rfl) (by kernel_rfl) (by kernel_rfl) (fun _ _ _ h => h) (Or.inl ⟨by kernel_rfl, ?_⟩) (by assumption) ?_
    rotate_left
    · (intro w hSw; (try dsimp only at hSw); go_simp)
      try with_reducible rfl
    (try simp only [Act.put, List.getElem_toArray, List.getElem_cons_zero, List.getElem_cons_succ, List.setIfInBounds_toArray, List.set_cons_zero, List.set_cons_succ])
    refine wpAnyH_take (i := 2) (oi := _) (v := ?_) rfl (by kernel_rfl) (by kernel_rfl) (by kernel_rfl) (fun _ _ _ h => h) (Or.inl ⟨by kernel_rfl, ?_⟩) (by assumption) ?_
    rotate_left
    · (intro w hSw; (try dsimp only at hSw); go_simp)
      try with_reducible rfl
    (try simp only [Act.put, List.getElem_toArray, List.getElem_cons_zero, List.getElem_cons_succ, List.setIfInBounds_toArray, List.set_cons_zero, List.set_cons_succ])
    refine wpAnyH_take (i := 3) (oi := _) (v := ?_) rfl (by kernel_rfl) (by kernel_rfl) (by kernel_rfl) (fun _ _ _ h => h) (Or.inl ⟨by kernel_rfl, ?_⟩) (by assumption) ?_
    rotate_left
    · (intro w hSw; (try dsimp only at hSw); go_simp)
      try with_reducible rfl
    (try simp only [Act.put, List.getElem_toArray, List.getElem_cons_zero, List.getElem_cons_succ, List.setIfInBounds_toArray, List.set_cons_zero, List.set_cons_succ])
    refine wpAnyH_take (i := 4) (oi := _) (v := ?_) rfl (by kernel_rfl) (by kernel_rfl) (by kernel_rfl) (fun _ _ _ h => h) (Or.inl ⟨by kernel_rfl, ?_⟩) (by assumption) ?_
    rotate_left
    · (intro w hSw; (try dsimp only at hSw); go_simp)
      try with_reducible rfl
    (try simp only [Act.put, List.getElem_toArray, List.getElem_cons_zero, List.getElem_cons_succ, List.setIfInBounds_toArray, List.set_cons_zero, List.set_cons_succ])
    refine wpAnyH_take (i := 5) (oi := _) (v := ?_) rfl (by kernel_rfl) (by kernel_rfl) (by kernel_rfl) (fun _ _ _ h => h) (Or.inl ⟨by kernel_rfl, ?_⟩) (by assumption) ?_
    rotate_left
    · (intro w hSw; (try dsimp only at hSw); go_simp)
      try with_reducible rfl
    (try simp only [Act.put, List.getElem_toArray, List.getElem_cons_zero, List.getElem_cons_succ, List.setIfInBounds_toArray, List.set_cons_zero, List.set_cons_succ])
    refine wpAnyH_take (i := 7) (oi := _) (v := ?_) rfl (by kernel_rfl) (by kernel_rfl) (by kernel_rfl) (fun _ _ _ h => h) (Or.inl ⟨by kernel_rfl, ?_⟩) (by assumption) ?_
    rotate_left
    · (intro w hSw; (try dsimp only at hSw); go_simp)
      try with_reducible rfl
    (try simp only [Act.put, List.getElem_toArray, List.getElem_cons_zero, List.getElem_cons_succ, List.setIfInBounds_toArray, List.set_cons_zero, List.set_cons_succ])
    refine wpAnyH_take (i := 8) (oi := _) (v := ?_) rfl (by kernel_rfl) (by kernel_rfl) (by kernel_rfl) (fun _ _ _ h => h) (Or.inl ⟨by kernel_rfl, ?_⟩) (by assumption) ?_
    rotate_left
    · (intro w hSw; (try dsimp only at hSw); go_simp)
      try with_reducible rfl
    (try simp only [Act.put, List.getElem_toArray, List.getElem_cons_zero, List.getElem_cons_succ, List.setIfInBounds_toArray, List.set_cons_zero, List.set_cons_succ])
    refine wpAnyH_ready (rs := [6, 11]) (by kernel_rfl) (by simp) ?_
    refine AllReadyH.cons (o := _) rfl (fun K hK => ?_) ?_
    · skip
      go_simp
      have hR1 : RP wb.heap.size wb.drew (wd3.alloc (.cells #[] 95)) (some (.slice (some ⟨wd3.heap.size, 0, none⟩) 0 0, 0, [])) none := HR.out.newRow
      refine hK.out _ _ (SF.out _ hR1.below) (fun hHeld2 => ?_)
      have hHeld3 := SF.out _ hR1.below
      obtain ⟨rb1, hrb1⟩ : ∃ b, wd3.heap.size = b := ⟨_, rfl⟩
      obtain ⟨v1, hv1⟩ : ∃ v, wd3.alloc (.cells #[] 95) = v := ⟨_, rfl⟩
      rw [hv1] at hR1 hHeld3 ⊢
      rw [hrb1] at hR1 ⊢
      clear hHeld2 hK K HR hHeld hv1 hrb1
      have HR := Lib.hid hR1
      have hHeld := hHeld3
      clear hR1 hHeld3
      (try simp only [Act.put, List.getElem_toArray, List.getElem_cons_zero, List.getElem_cons_succ, List.setIfInBounds_toArray, List.set_cons_zero, List.set_cons_succ])
      refine wpAnyH_ready (rs := [9, 11]) (by kernel_rfl) (by simp) ?_
      refine AllReadyH.cons (o := _) rfl (fun K hK => ?_) ?_
      · skip
        refine step_props (by rfl) (.tmp 11) (.tmp 13) (by rfl) _ _ np c0 A0 LP _ (by rfl) (by rfl) HR.out HPL.out HP1.out (fun hp => by obtain ⟨ad, e, hc⟩ := HPC.out hp; exact ⟨ad, e, hc _ (HB0.out.trans ((Below.trans (Below.drew (Below.refl _ wb)) HR.out.below).mono HB0.out.size))⟩) HN10.out ?_
        intro rb2 rc2 v2 hR1
        refine hK.out _ _ (SF.out _ hR1.below) (fun hHeld2 => ?_)
        have hHeld3 := SF.out _ hR1.below
        clear hHeld2 hK K HR hHeld
        have HR := Lib.hid hR1
        have hHeld := hHeld3
        clear hR1 hHeld3
        (try simp only [Act.put, List.getElem_toArray, List.getElem_cons_zero, List.getElem_cons_succ, List.setIfInBounds_toArray, List.set_cons_zero, List.set_cons_succ])
        refine wpAnyH_take (i := 10) (oi := _) (v := ?_) rfl (by kernel_rfl) (by kernel_rfl) (by kernel_rfl) (fun _ _ _ h => h) (Or.inl ⟨by kernel_rfl, ?_⟩) (by assumption) ?_
        rotate_left
        · (intro w hSw; (try dsimp only at hSw); go_simp)
          try with_reducible rfl
        (try simp only [Act.put, List.getElem_toArray, List.getElem_cons_zero, List.getElem_cons_succ, List.setIfInBounds_toArray, List.set_cons_zero, List.set_cons_succ])
        refine wpAnyH_ready (rs := [11]) (by kernel_rfl) (by simp) ?_
        refine AllReadyH.cons (o := _) rfl (fun K hK => ?_) AllReadyH.nil
        go_simp
        have hR1 : RP wb.heap.size wb.drew (v2.alloc (.cells #[.int .i64 0, .int .i64 0, .string ⟨#[]⟩, .slice none 0 0, .slice none 0 0] 26)) (some (.slice (some ⟨rb2, 0, none⟩) np rc2, np, LP)) (some v2.heap.size) := HR.out.newBox
        refine hK.out _ _ (SF.out _ hR1.below) (fun hHeld2 => ?_)
        have hHeld3 := SF.out _ hR1.below
        obtain ⟨rb3, hrb3⟩ : ∃ b, v2.heap.size = b := ⟨_, rfl⟩
        obtain ⟨v3, hv3⟩ : ∃ v, v2.alloc (.cells #[.int .i64 0, .int .i64 0, .string ⟨#[]⟩, .slice none 0 0, .slice none 0 0] 26) = v := ⟨_, rfl⟩
        rw [hv3] at hR1 hHeld3 ⊢
        rw [hrb3] at hR1 ⊢
        clear hHeld2 hK K HR hHeld hv3 hrb3
        have HR := Lib.hid hR1
        have hHeld := hHeld3
        clear hR1 hHeld3
        (try simp only [Act.put, List.getElem_toArray, List.getElem_cons_zero, List.getElem_cons_succ, List.setIfInBounds_toArray, List.set_cons_zero, List.set_cons_succ])
        refine wpAnyH_ready (rs := [12]) (by kernel_rfl) (by simp) ?_
        refine AllReadyH.cons (o := _) rfl (fun K hK => ?_) AllReadyH.nil
        obtain ⟨_, hbk, _⟩ := HR.out.box _ rfl
        obtain ⟨z0', z1', z2', z3', z4'⟩ := five5 hbk
        have zf' := fun j => Lib.frozen_of_heap hbk j
        clear hbk
        go_simp
        have hF := HR.out.filled (.int .i64 tag) (.int .i64 key) (.string text) (.slice (some ⟨rb2, 0, none⟩) np rc2) (.slice none 0 0)
        refine hK.out _ _ (SF.out _ hF.1) (fun hHeld2 => ?_)
        obtain ⟨wz, hwz⟩ : ∃ v, (((((v3.setCell ⟨rb3, 0, none⟩ (.int .i64 tag)).setCell ⟨rb3, 1, none⟩ (.int .i64 key)).setCell ⟨rb3, 2, none⟩ (.string text)).setCell ⟨rb3, 3, none⟩ (.slice (some ⟨rb2, 0, none⟩) np rc2)).setCell ⟨rb3, 4, none⟩ (.slice none 0 0)) = v := ⟨_, rfl⟩
        rw [hwz] at hF ⊢
        have HF := Lib.hid hF
        clear hHeld2 hK K HR hHeld hF z0' z1' z2' z3' z4' zf' hwz
        (try simp only [Act.put, List.getElem_toArray, List.getElem_cons_zero, List.getElem_cons_succ, List.setIfInBounds_toArray, List.set_cons_zero, List.set_cons_succ])
        refine wpAnyH_done (by kernel_rfl) ?_ _
        exact hTail.out rb3 rb2 rc2 rb1 wz HF
      refine AllReadyH.cons (o := _) rfl (fun K hK => ?_) AllReadyH.nil
      go_simp
      have hR1 : RP wb.heap.size wb.drew (v1.alloc (.cells #[.int .i64 0, .int .i64 0, .string ⟨#[]⟩, .slice none 0 0, .slice none 0 0] 26)) (some (.slice (some ⟨rb1, 0, none⟩) 0 0, 0, [])) (some v1.heap.size) := HR.out.newBox
      refine hK.out _ _ (SF.out _ hR1.below) (fun hHeld2 => ?_)
      have hHeld3 := SF.out _ hR1.below
      obtain ⟨rb4, hrb4⟩ : ∃ b, v1.heap.size = b := ⟨_, rfl⟩
      obtain ⟨v4, hv4⟩ : ∃ v, v1.alloc (.cells #[.int .i64 0, .int .i64 0, .string ⟨#[]⟩, .slice none 0 0, .slice none 0 0] 26) = v := ⟨_, rfl⟩
      rw [hv4] at hR1 hHeld3 ⊢
      rw [hrb4] at hR1 ⊢
      clear hHeld2 hK K HR hHeld hv4 hrb4
      have HR := Lib.hid hR1
      have hHeld := hHeld3
      clear hR1 hHeld3
      (try simp only [Act.put, List.getElem_toArray, List.getElem_cons_zero, List.getElem_cons_succ, List.setIfInBounds_toArray, List.set_cons_zero, List.set_cons_succ])
      refine wpAnyH_ready (rs := [9]) (by kernel_rfl) (by simp) ?_
      refine AllReadyH.cons (o := _) rfl (fun K hK => ?_) AllReadyH.nil
      refine step_props (by rfl) (.tmp 11) (.tmp 13) (by rfl) _ _ np c0 A0 LP _ (by rfl) (by rfl) HR.out HPL.out HP1.out (fun hp => by obtain ⟨ad, e, hc⟩ := HPC.out hp; exact ⟨ad, e, hc _ (HB0.out.trans ((Below.trans (Below.drew (Below.refl _ wb)) HR.out.below).mono HB0.out.size))⟩) HN10.out ?_
      intro rb5 rc5 v5 hR1
      refine hK.out _ _ (SF.out _ hR1.below) (fun hHeld2 => ?_)
      have hHeld3 := SF.out _ hR1.below
      clear hHeld2 hK K HR hHeld
      have HR := Lib.hid hR1
      have hHeld := hHeld3
      clear hR1 hHeld3
      (try simp only [Act.put, List.getElem_toArray, List.getElem_cons_zero, List.getElem_cons_succ, List.setIfInBounds_toArray, List.set_cons_zero, List.set_cons_succ])
      refine wpAnyH_take (i := 10) (oi := _) (v := ?_) rfl (by kernel_rfl) (by kernel_rfl) (by kernel_rfl) (fun _ _ _ h => h) (Or.inl ⟨by kernel_rfl, ?_⟩) (by assumption) ?_
      rotate_left
      · (intro w hSw; (try dsimp only at hSw); go_simp)
        try with_reducible rfl
      (try simp only [Act.put, List.getElem_toArray, List.getElem_cons_zero, List.getElem_cons_succ, List.setIfInBounds_toArray, List.set_cons_zero, List.set_cons_succ])
      refine wpAnyH_ready (rs := [12]) (by kernel_rfl) (by simp) ?_
      refine AllReadyH.cons (o := _) rfl (fun K hK => ?_) AllReadyH.nil
      obtain ⟨_, hbk, _⟩ := HR.out.box _ rfl
      obtain ⟨z0', z1', z2', z3', z4'⟩ := five5 hbk
      have zf' := fun j => Lib.frozen_of_heap hbk j
      clear hbk
      go_simp
      have hF := HR.out.filled (.int .i64 tag) (.int .i64 key) (.string text) (.slice (some ⟨rb5, 0, none⟩) np rc5) (.slice none 0 0)
      refine hK.out _ _ (SF.out _ hF.1) (fun hHeld2 => ?_)
      obtain ⟨wz, hwz⟩ : ∃ v, (((((v5.setCell ⟨rb4, 0, none⟩ (.int .i64 tag)).setCell ⟨rb4, 1, none⟩ (.int .i64 key)).setCell ⟨rb4, 2, none⟩ (.string text)).setCell ⟨rb4, 3, none⟩ (.slice (some ⟨rb5, 0, none⟩) np rc5)).setCell ⟨rb4, 4, none⟩ (.slice none 0 0)) = v := ⟨_, rfl⟩
      rw [hwz] at hF ⊢
      have HF := Lib.hid hF
      clear hHeld2 hK K HR hHeld hF z0' z1' z2' z3' z4' zf' hwz
      (try simp only [Act.put, List.getElem_toArray, List.getElem_cons_zero, List.getElem_cons_succ, List.setIfInBounds_toArray, List.set_cons_zero, List.set_cons_succ])
      refine wpAnyH_done (by kernel_rfl) ?_ _
      exact hTail.out rb4 rb5 rc5 rb1 wz HF
    refine AllReadyH.cons (o := _) rfl (fun K hK => ?_) AllReadyH.nil
    go_simp
    have hR1 : RP wb.heap.size wb.drew (wd3.alloc (.cells #[.int .i64 0, .int .i64 0, .string ⟨#[]⟩, .slice none 0 0, .slice none 0 0] 26)) none (some wd3.heap.size) := HR.out.newBox
    refine hK.out _ _ (SF.out _ hR1.below) (fun hHeld2 => ?_)
    have hHeld3 := SF.out _ hR1.below
    obtain ⟨rb6, hrb6⟩ : ∃ b, wd3.heap.size = b := ⟨_, rfl⟩
    obtain ⟨v6, hv6⟩ : ∃ v, wd3.alloc (.cells #[.int .i64 0, .int .i64 0, .string ⟨#[]⟩, .slice none 0 0, .slice none 0 0] 26) = v := ⟨_, rfl⟩
    rw [hv6] at hR1 hHeld3 ⊢
    rw [hrb6] at hR1 ⊢
    clear hHeld2 hK K HR hHeld hv6 hrb6
    have HR := Lib.hid hR1
    have hHeld := hHeld3
    clear hR1 hHeld3
    (try simp only [Act.put, List.getElem_toArray, List.getElem_cons_zero, List.getElem_cons_succ, List.setIfInBounds_toArray, List.set_cons_zero, List.set_cons_succ])
    refine wpAnyH_ready (rs := [6]) (by kernel_rfl) (by simp) ?_
    refine AllReadyH.cons (o := _) rfl (fun K hK => ?_) AllReadyH.nil
    go_simp
    have hR1 : RP wb.heap.size wb.drew (v6.alloc (.cells #[] 95)) (some (.slice (some ⟨v6.heap.size, 0, none⟩) 0 0, 0, [])) (some rb6) := HR.out.newRow
    refine hK.out _ _ (SF.out _ hR1.below) (fun hHeld2 => ?_)
    have hHeld3 := SF.out _ hR1.below
    obtain ⟨rb7, hrb7⟩ : ∃ b, v6.heap.size = b := ⟨_, rfl⟩
    obtain ⟨v7, hv7⟩ : ∃ v, v6.alloc (.cells #[] 95) = v := ⟨_, rfl⟩
    rw [hv7] at hR1 hHeld3 ⊢
    rw [hrb7] at hR1 ⊢
    clear hHeld2 hK K HR hHeld hv7 hrb7
    have HR := Lib.hid hR1
    have hHeld := hHeld3
    clear hR1 hHeld3
    (try simp only [Act.put, List.getElem_toArray, List.getElem_cons_zero, List.getElem_cons_succ, List.setIfInBounds_toArray, List.set_cons_zero, List.set_cons_succ])
    refine wpAnyH_ready (rs := [9]) (by kernel_rfl) (by simp) ?_
    refine AllReadyH.cons (o := _) rfl (fun K hK => ?_) AllReadyH.nil
    refine step_props (by rfl) (.tmp 11) (.tmp 13) (by rfl) _ _ np c0 A0 LP _ (by rfl) (by rfl) HR.out HPL.out HP1.out (fun hp => by obtain ⟨ad, e, hc⟩ := HPC.out hp; exact ⟨ad, e, hc _ (HB0.out.trans ((Below.trans (Below.drew (Below.refl _ wb)) HR.out.below).mono HB0.out.size))⟩) HN10.out ?_
    intro rb8 rc8 v8 hR1
    refine hK.out _ _ (SF.out _ hR1.below) (fun hHeld2 => ?_)
    have hHeld3 := SF.out _ hR1.below
    clear hHeld2 hK K HR hHeld
    have HR := Lib.hid hR1
    have hHeld := hHeld3
    clear hR1 hHeld3
    (try simp only [Act.put, List.getElem_toArray, List.getElem_cons_zero, List.getElem_cons_succ, List.setIfInBounds_toArray, List.set_cons_zero, List.set_cons_succ])
    refine wpAnyH_take (i := 10) (oi := _) (v := ?_) rfl (by kernel_rfl) (by kernel_rfl) (by kernel_rfl) (fun _ _ _ h => h) (Or.inl ⟨by kernel_rfl, ?_⟩) (by assumption) ?_
    rotate_left
    · (intro w hSw; (try dsimp only at hSw); go_simp)
      try with_reducible rfl
    (try simp only [Act.put, List.getElem_toArray, List.getElem_cons_zero, List.getElem_cons_succ, List.setIfInBounds_toArray, List.set_cons_zero, List.set_cons_succ])
    refine wpAnyH_ready (rs := [12]) (by kernel_rfl) (by simp) ?_
    refine AllReadyH.cons (o := _) rfl (fun K hK => ?_) AllReadyH.nil
    obtain ⟨_, hbk, _⟩ := HR.out.box _ rfl
    obtain ⟨z0', z1', z2', z3', z4'⟩ := five5 hbk
    have zf' := fun j => Lib.frozen_of_heap hbk j
    clear hbk
    go_simp
    have hF := HR.out.filled (.int .i64 tag) (.int .i64 key) (.string text) (.slice (some ⟨rb8, 0, none⟩) np rc8) (.slice none 0 0)
    refine hK.out _ _ (SF.out _ hF.1) (fun hHeld2 => ?_)
    obtain ⟨wz, hwz⟩ : ∃ v, (((((v8.setCell ⟨rb6, 0, none⟩ (.int .i64 tag)).setCell ⟨rb6, 1, none⟩ (.int .i64 key)).setCell ⟨rb6, 2, none⟩ (.string text)).setCell ⟨rb6, 3, none⟩ (.slice (some ⟨rb8, 0, none⟩) np rc8)).setCell ⟨rb6, 4, none⟩ (.slice none 0 0)) = v := ⟨_, rfl⟩
    rw [hwz] at hF ⊢
    have HF := Lib.hid hF
    clear hHeld2 hK K HR hHeld hF z0' z1' z2' z3' z4' zf' hwz
    (try simp only [Act.put, List.getElem_toArray, List.getElem_cons_zero, List.getElem_cons_succ, List.setIfInBounds_toArray, List.set_cons_zero, List.set_cons_succ])
    refine wpAnyH_done (by kernel_rfl) ?_ _
    exact hTail.out rb6 rb8 rc8 rb7 wz HF
  intro gz bp cp r0 wz HF
  (try dsimp only at HF)
  clear a0 a1 a2 a3
  obtain ⟨hF1, hF2, hF3, hF4, hF5⟩ := HF.out
  have hgw : w.heap.size + 1 < gz := by omega
  have hgz2 := (Array.getElem?_eq_some_iff.1 hF4).1
  have hbwz := Below.trans (Below.drew (Below.refl _ wb)) hF1
  have HBZ := Lib.hid (HB0.out.trans (hbwz.mono HB0.out.size))
  have HOP := Lib.hid hF2
  have hzz : wb.heap.size ≤ wz.heap.size := hbwz.size
  have hx4 : wz.cell? ⟨w.heap.size, 4, none⟩ = some (.slice A1 nk c1) := (hbwz.cell (p := ⟨w.heap.size, 4, none⟩) (by show w.heap.size < _; omega)).trans a4
  replace z0 := (hbwz.cell (p := ⟨w.heap.size + 1, 0, none⟩) (by show w.heap.size + 1 < _; omega)).trans z0
  replace z1 := (hbwz.cell (p := ⟨w.heap.size + 1, 1, none⟩) (by show w.heap.size + 1 < _; omega)).trans z1
  replace z2 := (hbwz.cell (p := ⟨w.heap.size + 1, 2, none⟩) (by show w.heap.size + 1 < _; omega)).trans z2
  replace z3 := (hbwz.cell (p := ⟨w.heap.size + 1, 3, none⟩) (by show w.heap.size + 1 < _; omega)).trans z3
  replace z4 := (hbwz.cell (p := ⟨w.heap.size + 1, 4, none⟩) (by show w.heap.size + 1 < _; omega)).trans z4
  replace zf := fun o => (hbwz.frozen (p := ⟨w.heap.size + 1, o, none⟩) (by show w.heap.size + 1 < _; omega)).trans (zf o)
  have HF4 := Lib.hid hF4
  have HGB := Lib.hid hF3
  clear hF1 hF2 hF3 hF4 HF hbwz
  go_wp2_with fail
  go_loopw [4] (fun i wr => ∃ (k : Nat) (v : Value), k ≤ nk ∧ i = .int .i64 k ∧ Hid (wr.heap[gz]? = some (.cells #[.int .i64 tag, .int .i64 key, .string text, .slice (some ⟨bp, 0, none⟩) np cp, v] 26)) ∧ Hid (KdC wz.heap.size wr gz v (ks.take k)) ∧ Hid (Keep gz wz.heap.size wz wr)) (fun i _ => nk - (intOf i).toNat)
  case atStart => exact ⟨0, .slice none 0 0, by omega, rfl, HF4, Lib.hid (by rw [List.take_zero]; exact KdC.start), Lib.hid (Keep.refl _ _ _)⟩
  case round =>
    obtain ⟨k, v, hk, rfl, H7, HKD, HKP⟩ := hrel
    have hks := HKP.out.size
    have x4 : wr.cell? ⟨w.heap.size, 4, none⟩ = some (.slice A1 nk c1) := (HKP.out.cell.1 w.heap.size 4 (by omega) (by omega)).trans hx4
    by_cases hlt : k < nk
    · obtain ⟨x, hx⟩ := at_some (show k < ks.length by rw [HNK.out]; exact hlt)
      obtain ⟨b2, off, E0, d0, E1, d1, rfl, hblt, _, e0, e1, e2, e3, e4, hpx, _, hkx⟩ := HK.out.at_ hx
      have hb2z : b2 < wz.heap.size := by omega
      have hcar : ∀ o, wr.cell? ⟨b2, o, none⟩ = w.cell? ⟨b2, o, none⟩ := fun o => (HKP.out.cell.1 b2 o hb2z (by omega)).trans (HBZ.out.cell (p := ⟨b2, o, none⟩) hblt)
      replace e0 := (hcar _).trans e0
      replace e1 := (hcar _).trans e1
      replace e2 := (hcar _).trans e2
      replace e3 := (hcar _).trans e3
      replace e4 := (hcar _).trans e4
      have hwr : Below w.heap.size w wr := HBZ.out.trans ((HKP.out.mono (show w.heap.size ≤ wz.heap.size by omega)).below (by omega))
      have HI2 := Lib.hid (fun W (hb : Below wr.heap.size wr W) => (HI.out x (List.mem_of_getElem? hx) E0 E1 d0 d1 W (hpx.below (more hwr (Nat.le_refl _) hb)) (hkx.below (more hwr (Nat.le_refl _) hb))).mono fun e w' h => h.front hb)
      have HXK := Lib.hid hx
      clear hx hpx hkx hcar hwr
      obtain ⟨xt, xk, xs, xp, xq⟩ := x
      dsimp only [Tr.tag, Tr.key, Tr.text, Tr.ps, Tr.ks] at e0 e1 e2 e3 e4 HI2
      have hcx : ∀ e w', CpX (.mk xt xk xs xp xq) wr e w' → ∃ B0 f0 B1 f1, e = .returned (.agg #[.int .i64 xt, .int .i64 xk, .string xs, .slice B0 xp.length f0, .slice B1 xq.length f1]) ∧ TrC w' wr.heap.size [.int .i64 xt, .int .i64 xk, .string xs, .slice B0 xp.length f0, .slice B1 xq.length f1] (.mk xt xk xs xp xq) ∧ Below wr.heap.size wr w' := fun e w' h => by
        obtain ⟨B0, f0, B1, f1, rfl, h1, h2, h3, h4⟩ := h
        exact ⟨B0, f0, B1, f1, rfl, TrC.shut (t := .mk xt xk xs xp xq) h1 h2 h3, h4⟩
      obtain ⟨Q2, hQ2⟩ : ∃ Q, CpX (.mk xt xk xs xp xq) wr = Q := ⟨_, rfl⟩
      rw [hQ2] at HI2 hcx
      have HCX := Lib.hid hcx
      clear hcx hQ2
      obtain ⟨yp, hyp⟩ : ∃ q, xp.length = q := ⟨_, rfl⟩
      obtain ⟨yk, hyk⟩ : ∃ q, xq.length = q := ⟨_, rfl⟩
      rw [hyp] at e3 HI2 HCX
      rw [hyk] at e4 HI2 HCX
      clear hyp hyk
      have hi1 : (0 : Int) ≤ (k : Int) := by omega
      have hi2 : (k : Int) < (nk : Int) := by omega
      have hgr2 : gz < wr.heap.size := by omega
      have SG : Hid (∀ W, Keep gz wr.heap.size wr W → (fun w' : World => w'.cell? ⟨w.heap.size, 4, none⟩ = some (.slice (some ⟨b2, off, none⟩) nk c1) ∧ w'.cell? ⟨b2, off + k * 5, none⟩ = some (.int .i64 xt) ∧ w'.cell? ⟨b2, off + k * 5 + 1, none⟩ = some (.int .i64 xk) ∧ w'.cell? ⟨b2, off + k * 5 + 2, none⟩ = some (.string xs) ∧ w'.cell? ⟨b2, off + k * 5 + 3, none⟩ = some (.slice E0 yp d0) ∧ w'.cell? ⟨b2, off + k * 5 + 4, none⟩ = some (.slice E1 yk d1)) W) := Lib.hid (fun W hk => ⟨(hk.cell.1 w.heap.size 4 (by omega) (by omega)).trans x4, (hk.cell.1 b2 _ (by omega) (by omega)).trans e0, (hk.cell.1 b2 _ (by omega) (by omega)).trans e1, (hk.cell.1 b2 _ (by omega) (by omega)).trans e2, (hk.cell.1 b2 _ (by omega) (by omega)).trans e3, (hk.cell.1 b2 _ (by omega) (by omega)).trans e4⟩)
      have hkt : (ks.take k).length = k := by rw [List.length_take, HNK.out]; omega
      have HKT := Lib.hid hkt
      clear hkt
      go_wp2_with fail
      refine wp_region_held_drew (S := fun w' : World => w'.cell? ⟨w.heap.size, 4, none⟩ = some (.slice (some ⟨b2, off, none⟩) nk c1) ∧ w'.cell? ⟨b2, off + k * 5, none⟩ = some (.int .i64 xt) ∧ w'.cell? ⟨b2, off + k * 5 + 1, none⟩ = some (.int .i64 xk) ∧ w'.cell? ⟨b2, off + k * 5 + 2, none⟩ = some (.string xs) ∧ w'.cell? ⟨b2, off + k * 5 + 3, none⟩ = some (.slice E0 yp d0) ∧ w'.cell? ⟨b2, off + k * 5 + 4, none⟩ = some (.slice E1 yk d1)) (by kernel_rfl) (SG.out _ (Keep.refl _ _ wr).drew) (fun hHeld => ?_)
      have HW := Lib.hid (Keep.drew (Keep.refl gz wr.heap.size wr))
      have HBW := Lib.hid (Below.drew (Below.refl wr.heap.size wr))
      have H7W := Lib.hid (show wr.drew.heap[gz]? = _ from H7.out)
      have HKW := Lib.hid (show KdC wz.heap.size wr.drew gz v (ks.take k) from HKD.out.move (Nat.le_refl _) (fun _ _ _ => rfl) hgr2)
      have hgW : wr.heap.size ≤ wr.drew.heap.size := Nat.le_refl _
      clear x4 e0 e1 e2 e3 e4
      obtain ⟨wd4, hwd4⟩ : ∃ v, wr.drew = v := ⟨_, rfl⟩
      rw [hwd4] at HW HBW H7W HKW hgW hHeld ⊢
      clear hwd4
      refine wpAnyH_take (i := 0) (oi := _) (v := ?_) rfl (by kernel_rfl) (by kernel_rfl) (by kernel_rfl) (fun _ _ _ h => h) (Or.inl ⟨by kernel_rfl, ?_⟩) (by assumption) ?_
      rotate_left
      · (intro w hSw; (try dsimp only at hSw); go_simp)
        try with_reducible rfl
      (try simp only [Act.put, List.getElem_toArray, List.getElem_cons_zero, List.getElem_cons_succ, List.setIfInBounds_toArray, List.set_cons_zero, List.set_cons_succ])
      refine wpAnyH_take (i := 2) (oi := _) (v := ?_) rfl (by kernel_rfl) (by kernel_rfl) (by kernel_rfl) (fun _ _ _ h => h) (Or.inl ⟨by kernel_rfl, ?_⟩) (by assumption) ?_
      rotate_left
      · (intro w hSw; (try dsimp only at hSw); go_simp)
        try with_reducible rfl
      (try simp only [Act.put, List.getElem_toArray, List.getElem_cons_zero, List.getElem_cons_succ, List.setIfInBounds_toArray, List.set_cons_zero, List.set_cons_succ])
      refine wpAnyH_take (i := 3) (oi := _) (v := ?_) rfl (by kernel_rfl) (by kernel_rfl) (by kernel_rfl) (fun _ _ _ h => h) (Or.inl ⟨by kernel_rfl, ?_⟩) (by assumption) ?_
      rotate_left
      · (intro w hSw; (try dsimp only at hSw); go_simp)
        try with_reducible rfl
      (try simp only [Act.put, List.getElem_toArray, List.getElem_cons_zero, List.getElem_cons_succ, List.setIfInBounds_toArray, List.set_cons_zero, List.set_cons_succ])
      refine wpAnyH_take (i := 4) (oi := _) (v := ?_) rfl (by kernel_rfl) (by kernel_rfl) (by kernel_rfl) (fun _ _ _ h => h) (Or.inl ⟨by kernel_rfl, ?_⟩) (by assumption) ?_
      rotate_left
      · (intro w hSw; (try dsimp only at hSw); go_simp)
        try with_reducible rfl
      (try simp only [Act.put, List.getElem_toArray, List.getElem_cons_zero, List.getElem_cons_succ, List.setIfInBounds_toArray, List.set_cons_zero, List.set_cons_succ])
      refine wpAnyH_take (i := 5) (oi := _) (v := ?_) rfl (by kernel_rfl) (by kernel_rfl) (by kernel_rfl) (fun _ _ _ h => h) (Or.inl ⟨by kernel_rfl, ?_⟩) (by assumption) ?_
      rotate_left
      · (intro w hSw; (try dsimp only at hSw); go_simp)
        try with_reducible rfl
      (try simp only [Act.put, List.getElem_toArray, List.getElem_cons_zero, List.getElem_cons_succ, List.setIfInBounds_toArray, List.set_cons_zero, List.set_cons_succ])
      refine wpAnyH_take (i := 6) (oi := _) (v := ?_) rfl (by kernel_rfl) (by kernel_rfl) (by kernel_rfl) (fun _ _ _ h => h) (Or.inl ⟨by kernel_rfl, ?_⟩) (by assumption) ?_
      rotate_left
      · (intro w hSw; (try dsimp only at hSw); go_simp)
        try with_reducible rfl
      (try simp only [Act.put, List.getElem_toArray, List.getElem_cons_zero, List.getElem_cons_succ, List.setIfInBounds_toArray, List.set_cons_zero, List.set_cons_succ])
      refine wpAnyH_ready (rs := [1, 7]) (by kernel_rfl) (by simp) ?_
      refine AllReadyH.cons (o := _) rfl (fun K hK => ?_) ?_
      · skip
        have h74 := (five5 H7W.out).2.2.2.2
        go_simp
        refine hK.out _ _ hHeld (fun hHeld2 => ?_)
        clear hHeld2 hK K h74
        (try simp only [Act.put, List.getElem_toArray, List.getElem_cons_zero, List.getElem_cons_succ, List.setIfInBounds_toArray, List.set_cons_zero, List.set_cons_succ])
        refine wpAnyH_ready (rs := [7]) (by kernel_rfl) (by simp) ?_
        refine AllReadyH.cons (o := _) rfl (fun K hK => ?_) AllReadyH.nil
        go_simp
        refine (HI2.out _ HBW.out).mono ?_
        intro e u10 hq
        obtain ⟨B0, f0, B1, f1, rfl, htc, hb⟩ := HCX.out e u10 hq
        have hkN : Keep gz wr.heap.size wr u10 := Keep.of_below hb
        refine hK.out _ _ (SG.out _ hkN) (fun hHeld2 => ?_)
        have hHeld3 := SG.out _ hkN
        replace HW := Lib.hid hkN
        replace H7W := Lib.hid ((hb.block gz hgr2).trans H7.out)
        replace HKW := Lib.hid (HKD.out.move hb.size (fun b h1 _ => hb.block b h1) hgr2)
        have HST := Lib.hid htc.stands
        have HCF := Lib.hid htc.five
        replace hgW := hb.size
        obtain ⟨hi7, hhi7⟩ : ∃ q, u10.heap.size = q := ⟨_, rfl⟩
        rw [hhi7] at HST
        have hhi8 : hi7 ≤ u10.heap.size := by omega
        have hhi9 : wr.heap.size ≤ hi7 := by omega
        clear hHeld2 hK K hHeld hq htc hb hkN HBW hhi7
        have hHeld := hHeld3
        clear hHeld3
        (try simp only [Act.put, List.getElem_toArray, List.getElem_cons_zero, List.getElem_cons_succ, List.setIfInBounds_toArray, List.set_cons_zero, List.set_cons_succ])
        refine wpAnyH_ready (rs := [8]) (by kernel_rfl) (by simp) ?_
        refine AllReadyH.cons (o := _) rfl (fun K hK => ?_) AllReadyH.nil
        go_simp
        have hb := Below.alloc (Below.refl u10.heap.size u10) (Nat.le_refl _) (.cells #[.int .i64 xt, .int .i64 xk, .string xs, .slice B0 yp f0, .slice B1 yk f1] 26)
        have hkN := HW.out.alloc hgW (.cells #[.int .i64 xt, .int .i64 xk, .string xs, .slice B0 yp f0, .slice B1 yk f1] 26)
        have hbx : (u10.alloc (.cells #[.int .i64 xt, .int .i64 xk, .string xs, .slice B0 yp f0, .slice B1 yk f1] 26)).heap[u10.heap.size]? = some (.cells #[.int .i64 xt, .int .i64 xk, .string xs, .slice B0 yp f0, .slice B1 yk f1] 26) := World.alloc_heap_new u10 _
        refine hK.out _ _ (SG.out _ hkN) (fun hHeld2 => ?_)
        have hHeld3 := SG.out _ hkN
        obtain ⟨bx, hbxq⟩ : ∃ q, u10.heap.size = q := ⟨_, rfl⟩
        have hbx3 : hi7 ≤ bx := by omega
        replace H7W := Lib.hid ((hb.block gz (by omega)).trans H7W.out)
        replace HKW := Lib.hid (HKW.out.move hb.size (fun b h1 _ => hb.block b h1) (by omega))
        replace HST := Lib.hid (HST.out.next (fun b _ h2 => hb.block b (by omega)))
        have hsN := hb.size
        have hbxl : u10.heap.size < (u10.alloc (.cells #[.int .i64 xt, .int .i64 xk, .string xs, .slice B0 yp f0, .slice B1 yk f1] 26)).heap.size := by simp
        obtain ⟨u11, hu11⟩ : ∃ v, u10.alloc (.cells #[.int .i64 xt, .int .i64 xk, .string xs, .slice B0 yp f0, .slice B1 yk f1] 26) = v := ⟨_, rfl⟩
        rw [hu11] at hkN hbx hHeld3 H7W HKW HST hsN hbxl ⊢
        rw [hbxq] at hbx hbxl ⊢
        replace HW := Lib.hid hkN
        have HBX := Lib.hid hbx
        replace hgW : wr.heap.size ≤ u11.heap.size := by omega
        replace hhi8 : hi7 ≤ u11.heap.size := by omega
        clear hHeld2 hK K hHeld hb hkN hbx hu11 hbxq
        have hHeld := hHeld3
        clear hHeld3
        (try simp only [Act.put, List.getElem_toArray, List.getElem_cons_zero, List.getElem_cons_succ, List.setIfInBounds_toArray, List.set_cons_zero, List.set_cons_succ])
        refine wpAnyH_ready (rs := [9]) (by kernel_rfl) (by simp) ?_
        refine AllReadyH.cons (o := _) rfl (fun K hK => ?_) AllReadyH.nil
        obtain ⟨LK, hown, hvg, hkk⟩ := HKW.out.L
        have hvlt := fun g h => (hown.lt g h)
        have hvr : ∀ g, v.ownBlock = some g → g < wr.heap.size ∨ hi7 ≤ g := fun g h => by obtain ⟨_, hown0, _, _⟩ := HKD.out.L; exact .inl (hown0.lt g h).2
        rw [HKT.out] at hown
        refine step_append_own (by rfl) (.tmp 24) (.tmp 31) 24 26 i0 _ 5 80 (by rfl) Tryd.underlying24 I0.out.1 I0.out.2.1 I0.out.2.2.1 I0.out.2.2.2 (by rfl) (by omega) wz.heap.size v k LK (by rfl) hown ⟨bx, 0, none⟩ 1 [.int .i64 xt, .int .i64 xk, .string xs, .slice B0 yp f0, .slice B1 yk f1] (by rfl) rfl (fun j u hu => by rw [addr_add, Nat.zero_add, cell_of_row _ bx j _ _ _ HBX.out]; simpa using hu) HCF.out.2 (by omega) (by omega) (by omega) ?_
        intro v' u12 hown' hgr hat
        have hvne : ∀ b, b < wz.heap.size → some b ≠ v.ownBlock := fun b hb e => by have := (hvlt b e.symm).1; omega
        have hSN : (fun w' : World => w'.cell? ⟨w.heap.size, 4, none⟩ = some (.slice (some ⟨b2, off, none⟩) nk c1) ∧ w'.cell? ⟨b2, off + k * 5, none⟩ = some (.int .i64 xt) ∧ w'.cell? ⟨b2, off + k * 5 + 1, none⟩ = some (.int .i64 xk) ∧ w'.cell? ⟨b2, off + k * 5 + 2, none⟩ = some (.string xs) ∧ w'.cell? ⟨b2, off + k * 5 + 3, none⟩ = some (.slice E0 yp d0) ∧ w'.cell? ⟨b2, off + k * 5 + 4, none⟩ = some (.slice E1 yk d1)) u12 := ⟨(World.cell?_of_block (hgr.block _ (by show w.heap.size < _; omega) (hvne _ (by show w.heap.size < _; omega)))).trans hHeld.1, (World.cell?_of_block (hgr.block _ (by show b2 < _; omega) (hvne _ (by show b2 < _; omega)))).trans hHeld.2.1, (World.cell?_of_block (hgr.block _ (by show b2 < _; omega) (hvne _ (by show b2 < _; omega)))).trans hHeld.2.2.1, (World.cell?_of_block (hgr.block _ (by show b2 < _; omega) (hvne _ (by show b2 < _; omega)))).trans hHeld.2.2.2.1, (World.cell?_of_block (hgr.block _ (by show b2 < _; omega) (hvne _ (by show b2 < _; omega)))).trans hHeld.2.2.2.2.1, (World.cell?_of_block (hgr.block _ (by show b2 < _; omega) (hvne _ (by show b2 < _; omega)))).trans hHeld.2.2.2.2.2⟩
        have hKD2 : KdC wz.heap.size u12 gz v' (ks.take k ++ [.mk xt xk xs xp xq]) := KdC.add (w := u11) (by omega) (by rw [HKT.out]; exact hown) hvg hkk (by rw [HKT.out]; exact hown') hgr hat rfl (show wz.heap.size ≤ wr.heap.size from hks) hhi8 hvr (.inl hgr2) HST.out
        have h7N : u12.heap[gz]? = some (.cells #[.int .i64 tag, .int .i64 key, .string text, .slice (some ⟨bp, 0, none⟩) np cp, v] 26) := (hgr.block gz (by omega) (fun e => hvg e.symm)).trans H7W.out
        have hKP2 : Keep gz wz.heap.size wz u12 := HKP.out.trans (Keep.trans (HW.out.mono hks) ⟨hgr.os, hgr.tape, hgr.output, hgr.size, fun b h1 _ => hgr.block b (by omega) (fun e => by have := (hvlt _ e.symm).1; omega)⟩)
        obtain ⟨A9, c9, rfl⟩ : ∃ A9 c9, v' = .slice A9 (k + 1) c9 := by
          rcases hown'.2 with ⟨_, h0⟩ | ⟨g', cap', cur, rfl, _⟩
          · omega
          · exact ⟨_, _, rfl⟩
        refine hK.out _ _ hSN (fun hHeld2 => ?_)
        replace H7W := Lib.hid h7N
        have HKD2 := Lib.hid hKD2
        have HKP2 := Lib.hid hKP2
        have hgN : gz < u12.heap.size := by have := hgr.size; omega
        clear hHeld2 hK K hHeld hown hvg hkk hvlt hvr hown' hgr hat hvne hKD2 h7N hKP2 HKW HST HCF HBX HW
        have hHeld := hSN
        clear hSN
        (try simp only [Act.put, List.getElem_toArray, List.getElem_cons_zero, List.getElem_cons_succ, List.setIfInBounds_toArray, List.set_cons_zero, List.set_cons_succ])
        refine wpAnyH_take (i := 10) (oi := _) (v := ?_) rfl (by kernel_rfl) (by kernel_rfl) (by kernel_rfl) (fun _ _ _ h => h) (Or.inl ⟨by kernel_rfl, ?_⟩) (by assumption) ?_
        rotate_left
        · (intro w hSw; (try dsimp only at hSw); go_simp)
          try with_reducible rfl
        (try simp only [Act.put, List.getElem_toArray, List.getElem_cons_zero, List.getElem_cons_succ, List.setIfInBounds_toArray, List.set_cons_zero, List.set_cons_succ])
        refine wpAnyH_ready (rs := [11]) (by kernel_rfl) (by simp) ?_
        refine AllReadyH.cons (o := _) rfl (fun K hK => ?_) AllReadyH.nil
        have h74 := (five5 H7W.out).2.2.2.2
        have h7f := Lib.frozen_of_heap H7W.out 4
        go_simp
        have h7s : (u12.setCell ⟨gz, 4, none⟩ (.slice A9 (k + 1) c9)).heap[gz]? = some (.cells #[.int .i64 tag, .int .i64 key, .string text, .slice (some ⟨bp, 0, none⟩) np cp, .slice A9 (k + 1) c9] 26) := by simp [World.setCell, Array.getElem?_modify, H7W.out]
        have hfar : ∀ b, b ≠ gz → (u12.setCell ⟨gz, 4, none⟩ (.slice A9 (k + 1) c9)).heap[b]? = u12.heap[b]? := fun b hb => Below.heap_setCell _ _ _ _ hb
        refine hK.out _ _ ⟨(World.cell?_of_block (hfar _ (by show w.heap.size ≠ gz; omega))).trans hHeld.1, (World.cell?_of_block (hfar _ (by show b2 ≠ gz; omega))).trans hHeld.2.1, (World.cell?_of_block (hfar _ (by show b2 ≠ gz; omega))).trans hHeld.2.2.1, (World.cell?_of_block (hfar _ (by show b2 ≠ gz; omega))).trans hHeld.2.2.2.1, (World.cell?_of_block (hfar _ (by show b2 ≠ gz; omega))).trans hHeld.2.2.2.2.1, (World.cell?_of_block (hfar _ (by show b2 ≠ gz; omega))).trans hHeld.2.2.2.2.2⟩ (fun hHeld2 => ?_)
        have HR7 := Lib.hid h7s
        have HRK := Lib.hid (HKD2.out.move (w' := (u12.setCell ⟨gz, 4, none⟩ (.slice A9 (k + 1) c9))) (by simp [World.setCell]) (fun b _ hb => hfar b hb) hgN)
        have HRP := Lib.hid (HKP2.out.set_ (p := ⟨gz, 4, none⟩) (.inl rfl) (.slice A9 (k + 1) c9))
        obtain ⟨we, hwe⟩ : ∃ v, (u12.setCell ⟨gz, 4, none⟩ (.slice A9 (k + 1) c9)) = v := ⟨_, rfl⟩
        rw [hwe] at HR7 HRK HRP ⊢
        clear hHeld2 hK K hHeld h74 h7f h7s hfar hwe HKD2 HKP2 H7W
        (try simp only [Act.put, List.getElem_toArray, List.getElem_cons_zero, List.getElem_cons_succ, List.setIfInBounds_toArray, List.set_cons_zero, List.set_cons_succ])
        refine wpAnyH_done (by kernel_rfl) ?_ _
        go_wp2_with fail
        go_roundw
        case rel => exact ⟨k + 1, _, by omega, by go_num, HR7, Lib.hid (by rw [List.take_succ_eq_append_getElem (show k < ks.length by rw [HNK.out]; exact hlt), (List.getElem?_eq_some_iff.1 HXK.out).2]; exact HRK.out), HRP⟩
        case measure => simp [intOf]; omega
      refine AllReadyH.cons (o := _) rfl (fun K hK => ?_) AllReadyH.nil
      go_simp
      refine (HI2.out _ HBW.out).mono ?_
      intro e u13 hq
      obtain ⟨B0, f0, B1, f1, rfl, htc, hb⟩ := HCX.out e u13 hq
      have hkN : Keep gz wr.heap.size wr u13 := Keep.of_below hb
      refine hK.out _ _ (SG.out _ hkN) (fun hHeld2 => ?_)
      have hHeld3 := SG.out _ hkN
      replace HW := Lib.hid hkN
      replace H7W := Lib.hid ((hb.block gz hgr2).trans H7.out)
      replace HKW := Lib.hid (HKD.out.move hb.size (fun b h1 _ => hb.block b h1) hgr2)
      have HST := Lib.hid htc.stands
      have HCF := Lib.hid htc.five
      replace hgW := hb.size
      obtain ⟨hi7, hhi7⟩ : ∃ q, u13.heap.size = q := ⟨_, rfl⟩
      rw [hhi7] at HST
      have hhi8 : hi7 ≤ u13.heap.size := by omega
      have hhi9 : wr.heap.size ≤ hi7 := by omega
      clear hHeld2 hK K hHeld hq htc hb hkN HBW hhi7
      have hHeld := hHeld3
      clear hHeld3
      (try simp only [Act.put, List.getElem_toArray, List.getElem_cons_zero, List.getElem_cons_succ, List.setIfInBounds_toArray, List.set_cons_zero, List.set_cons_succ])
      refine wpAnyH_ready (rs := [1, 8]) (by kernel_rfl) (by simp) ?_
      refine AllReadyH.cons (o := _) rfl (fun K hK => ?_) ?_
      · skip
        have h74 := (five5 H7W.out).2.2.2.2
        go_simp
        refine hK.out _ _ hHeld (fun hHeld2 => ?_)
        clear hHeld2 hK K h74
        (try simp only [Act.put, List.getElem_toArray, List.getElem_cons_zero, List.getElem_cons_succ, List.setIfInBounds_toArray, List.set_cons_zero, List.set_cons_succ])
        refine wpAnyH_ready (rs := [8]) (by kernel_rfl) (by simp) ?_
        refine AllReadyH.cons (o := _) rfl (fun K hK => ?_) AllReadyH.nil
        go_simp
        have hb := Below.alloc (Below.refl u13.heap.size u13) (Nat.le_refl _) (.cells #[.int .i64 xt, .int .i64 xk, .string xs, .slice B0 yp f0, .slice B1 yk f1] 26)
        have hkN := HW.out.alloc hgW (.cells #[.int .i64 xt, .int .i64 xk, .string xs, .slice B0 yp f0, .slice B1 yk f1] 26)
        have hbx : (u13.alloc (.cells #[.int .i64 xt, .int .i64 xk, .string xs, .slice B0 yp f0, .slice B1 yk f1] 26)).heap[u13.heap.size]? = some (.cells #[.int .i64 xt, .int .i64 xk, .string xs, .slice B0 yp f0, .slice B1 yk f1] 26) := World.alloc_heap_new u13 _
        refine hK.out _ _ (SG.out _ hkN) (fun hHeld2 => ?_)
        have hHeld3 := SG.out _ hkN
        obtain ⟨bx, hbxq⟩ : ∃ q, u13.heap.size = q := ⟨_, rfl⟩
        have hbx3 : hi7 ≤ bx := by omega
        replace H7W := Lib.hid ((hb.block gz (by omega)).trans H7W.out)
        replace HKW := Lib.hid (HKW.out.move hb.size (fun b h1 _ => hb.block b h1) (by omega))
        replace HST := Lib.hid (HST.out.next (fun b _ h2 => hb.block b (by omega)))
        have hsN := hb.size
        have hbxl : u13.heap.size < (u13.alloc (.cells #[.int .i64 xt, .int .i64 xk, .string xs, .slice B0 yp f0, .slice B1 yk f1] 26)).heap.size := by simp
        obtain ⟨u15, hu15⟩ : ∃ v, u13.alloc (.cells #[.int .i64 xt, .int .i64 xk, .string xs, .slice B0 yp f0, .slice B1 yk f1] 26) = v := ⟨_, rfl⟩
        rw [hu15] at hkN hbx hHeld3 H7W HKW HST hsN hbxl ⊢
        rw [hbxq] at hbx hbxl ⊢
        replace HW := Lib.hid hkN
        have HBX := Lib.hid hbx
        replace hgW : wr.heap.size ≤ u15.heap.size := by omega
        replace hhi8 : hi7 ≤ u15.heap.size := by omega
        clear hHeld2 hK K hHeld hb hkN hbx hu15 hbxq
        have hHeld := hHeld3
        clear hHeld3
        (try simp only [Act.put, List.getElem_toArray, List.getElem_cons_zero, List.getElem_cons_succ, List.setIfInBounds_toArray, List.set_cons_zero, List.set_cons_succ])
        refine wpAnyH_ready (rs := [9]) (by kernel_rfl) (by simp) ?_
        refine AllReadyH.cons (o := _) rfl (fun K hK => ?_) AllReadyH.nil
        obtain ⟨LK, hown, hvg, hkk⟩ := HKW.out.L
        have hvlt := fun g h => (hown.lt g h)
        have hvr : ∀ g, v.ownBlock = some g → g < wr.heap.size ∨ hi7 ≤ g := fun g h => by obtain ⟨_, hown0, _, _⟩ := HKD.out.L; exact .inl (hown0.lt g h).2
        rw [HKT.out] at hown
        refine step_append_own (by rfl) (.tmp 24) (.tmp 31) 24 26 i0 _ 5 80 (by rfl) Tryd.underlying24 I0.out.1 I0.out.2.1 I0.out.2.2.1 I0.out.2.2.2 (by rfl) (by omega) wz.heap.size v k LK (by rfl) hown ⟨bx, 0, none⟩ 1 [.int .i64 xt, .int .i64 xk, .string xs, .slice B0 yp f0, .slice B1 yk f1] (by rfl) rfl (fun j u hu => by rw [addr_add, Nat.zero_add, cell_of_row _ bx j _ _ _ HBX.out]; simpa using hu) HCF.out.2 (by omega) (by omega) (by omega) ?_
        intro v' u16 hown' hgr hat
        have hvne : ∀ b, b < wz.heap.size → some b ≠ v.ownBlock := fun b hb e => by have := (hvlt b e.symm).1; omega
        have hSN : (fun w' : World => w'.cell? ⟨w.heap.size, 4, none⟩ = some (.slice (some ⟨b2, off, none⟩) nk c1) ∧ w'.cell? ⟨b2, off + k * 5, none⟩ = some (.int .i64 xt) ∧ w'.cell? ⟨b2, off + k * 5 + 1, none⟩ = some (.int .i64 xk) ∧ w'.cell? ⟨b2, off + k * 5 + 2, none⟩ = some (.string xs) ∧ w'.cell? ⟨b2, off + k * 5 + 3, none⟩ = some (.slice E0 yp d0) ∧ w'.cell? ⟨b2, off + k * 5 + 4, none⟩ = some (.slice E1 yk d1)) u16 := ⟨(World.cell?_of_block (hgr.block _ (by show w.heap.size < _; omega) (hvne _ (by show w.heap.size < _; omega)))).trans hHeld.1, (World.cell?_of_block (hgr.block _ (by show b2 < _; omega) (hvne _ (by show b2 < _; omega)))).trans hHeld.2.1, (World.cell?_of_block (hgr.block _ (by show b2 < _; omega) (hvne _ (by show b2 < _; omega)))).trans hHeld.2.2.1, (World.cell?_of_block (hgr.block _ (by show b2 < _; omega) (hvne _ (by show b2 < _; omega)))).trans hHeld.2.2.2.1, (World.cell?_of_block (hgr.block _ (by show b2 < _; omega) (hvne _ (by show b2 < _; omega)))).trans hHeld.2.2.2.2.1, (World.cell?_of_block (hgr.block _ (by show b2 < _; omega) (hvne _ (by show b2 < _; omega)))).trans hHeld.2.2.2.2.2⟩
        have hKD2 : KdC wz.heap.size u16 gz v' (ks.take k ++ [.mk xt xk xs xp xq]) := KdC.add (w := u15) (by omega) (by rw [HKT.out]; exact hown) hvg hkk (by rw [HKT.out]; exact hown') hgr hat rfl (show wz.heap.size ≤ wr.heap.size from hks) hhi8 hvr (.inl hgr2) HST.out
        have h7N : u16.heap[gz]? = some (.cells #[.int .i64 tag, .int .i64 key, .string text, .slice (some ⟨bp, 0, none⟩) np cp, v] 26) := (hgr.block gz (by omega) (fun e => hvg e.symm)).trans H7W.out
        have hKP2 : Keep gz wz.heap.size wz u16 := HKP.out.trans (Keep.trans (HW.out.mono hks) ⟨hgr.os, hgr.tape, hgr.output, hgr.size, fun b h1 _ => hgr.block b (by omega) (fun e => by have := (hvlt _ e.symm).1; omega)⟩)
        obtain ⟨A9, c9, rfl⟩ : ∃ A9 c9, v' = .slice A9 (k + 1) c9 := by
          rcases hown'.2 with ⟨_, h0⟩ | ⟨g', cap', cur, rfl, _⟩
          · omega
          · exact ⟨_, _, rfl⟩
        refine hK.out _ _ hSN (fun hHeld2 => ?_)
        replace H7W := Lib.hid h7N
        have HKD2 := Lib.hid hKD2
        have HKP2 := Lib.hid hKP2
        have hgN : gz < u16.heap.size := by have := hgr.size; omega
        clear hHeld2 hK K hHeld hown hvg hkk hvlt hvr hown' hgr hat hvne hKD2 h7N hKP2 HKW HST HCF HBX HW
        have hHeld := hSN
        clear hSN
        (try simp only [Act.put, List.getElem_toArray, List.getElem_cons_zero, List.getElem_cons_succ, List.setIfInBounds_toArray, List.set_cons_zero, List.set_cons_succ])
        refine wpAnyH_take (i := 10) (oi := _) (v := ?_) rfl (by kernel_rfl) (by kernel_rfl) (by kernel_rfl) (fun _ _ _ h => h) (Or.inl ⟨by kernel_rfl, ?_⟩) (by assumption) ?_
        rotate_left
        · (intro w hSw; (try dsimp only at hSw); go_simp)
          try with_reducible rfl
        (try simp only [Act.put, List.getElem_toArray, List.getElem_cons_zero, List.getElem_cons_succ, List.setIfInBounds_toArray, List.set_cons_zero, List.set_cons_succ])
        refine wpAnyH_ready (rs := [11]) (by kernel_rfl) (by simp) ?_
        refine AllReadyH.cons (o := _) rfl (fun K hK => ?_) AllReadyH.nil
        have h74 := (five5 H7W.out).2.2.2.2
        have h7f := Lib.frozen_of_heap H7W.out 4
        go_simp
        have h7s : (u16.setCell ⟨gz, 4, none⟩ (.slice A9 (k + 1) c9)).heap[gz]? = some (.cells #[.int .i64 tag, .int .i64 key, .string text, .slice (some ⟨bp, 0, none⟩) np cp, .slice A9 (k + 1) c9] 26) := by simp [World.setCell, Array.getElem?_modify, H7W.out]
        have hfar : ∀ b, b ≠ gz → (u16.setCell ⟨gz, 4, none⟩ (.slice A9 (k + 1) c9)).heap[b]? = u16.heap[b]? := fun b hb => Below.heap_setCell _ _ _ _ hb
        refine hK.out _ _ ⟨(World.cell?_of_block (hfar _ (by show w.heap.size ≠ gz; omega))).trans hHeld.1, (World.cell?_of_block (hfar _ (by show b2 ≠ gz; omega))).trans hHeld.2.1, (World.cell?_of_block (hfar _ (by show b2 ≠ gz; omega))).trans hHeld.2.2.1, (World.cell?_of_block (hfar _ (by show b2 ≠ gz; omega))).trans hHeld.2.2.2.1, (World.cell?_of_block (hfar _ (by show b2 ≠ gz; omega))).trans hHeld.2.2.2.2.1, (World.cell?_of_block (hfar _ (by show b2 ≠ gz; omega))).trans hHeld.2.2.2.2.2⟩ (fun hHeld2 => ?_)
        have HR7 := Lib.hid h7s
        have HRK := Lib.hid (HKD2.out.move (w' := (u16.setCell ⟨gz, 4, none⟩ (.slice A9 (k + 1) c9))) (by simp [World.setCell]) (fun b _ hb => hfar b hb) hgN)
        have HRP := Lib.hid (HKP2.out.set_ (p := ⟨gz, 4, none⟩) (.inl rfl) (.slice A9 (k + 1) c9))
        obtain ⟨we, hwe⟩ : ∃ v, (u16.setCell ⟨gz, 4, none⟩ (.slice A9 (k + 1) c9)) = v := ⟨_, rfl⟩
        rw [hwe] at HR7 HRK HRP ⊢
        clear hHeld2 hK K hHeld h74 h7f h7s hfar hwe HKD2 HKP2 H7W
        (try simp only [Act.put, List.getElem_toArray, List.getElem_cons_zero, List.getElem_cons_succ, List.setIfInBounds_toArray, List.set_cons_zero, List.set_cons_succ])
        refine wpAnyH_done (by kernel_rfl) ?_ _
        go_wp2_with fail
        go_roundw
        case rel => exact ⟨k + 1, _, by omega, by go_num, HR7, Lib.hid (by rw [List.take_succ_eq_append_getElem (show k < ks.length by rw [HNK.out]; exact hlt), (List.getElem?_eq_some_iff.1 HXK.out).2]; exact HRK.out), HRP⟩
        case measure => simp [intOf]; omega
      refine AllReadyH.cons (o := _) rfl (fun K hK => ?_) AllReadyH.nil
      go_simp
      have hb := Below.alloc (Below.refl u13.heap.size u13) (Nat.le_refl _) (.cells #[.int .i64 xt, .int .i64 xk, .string xs, .slice B0 yp f0, .slice B1 yk f1] 26)
      have hkN := HW.out.alloc hgW (.cells #[.int .i64 xt, .int .i64 xk, .string xs, .slice B0 yp f0, .slice B1 yk f1] 26)
      have hbx : (u13.alloc (.cells #[.int .i64 xt, .int .i64 xk, .string xs, .slice B0 yp f0, .slice B1 yk f1] 26)).heap[u13.heap.size]? = some (.cells #[.int .i64 xt, .int .i64 xk, .string xs, .slice B0 yp f0, .slice B1 yk f1] 26) := World.alloc_heap_new u13 _
      refine hK.out _ _ (SG.out _ hkN) (fun hHeld2 => ?_)
      have hHeld3 := SG.out _ hkN
      obtain ⟨bx, hbxq⟩ : ∃ q, u13.heap.size = q := ⟨_, rfl⟩
      have hbx3 : hi7 ≤ bx := by omega
      replace H7W := Lib.hid ((hb.block gz (by omega)).trans H7W.out)
      replace HKW := Lib.hid (HKW.out.move hb.size (fun b h1 _ => hb.block b h1) (by omega))
      replace HST := Lib.hid (HST.out.next (fun b _ h2 => hb.block b (by omega)))
      have hsN := hb.size
      have hbxl : u13.heap.size < (u13.alloc (.cells #[.int .i64 xt, .int .i64 xk, .string xs, .slice B0 yp f0, .slice B1 yk f1] 26)).heap.size := by simp
      obtain ⟨u17, hu17⟩ : ∃ v, u13.alloc (.cells #[.int .i64 xt, .int .i64 xk, .string xs, .slice B0 yp f0, .slice B1 yk f1] 26) = v := ⟨_, rfl⟩
      rw [hu17] at hkN hbx hHeld3 H7W HKW HST hsN hbxl ⊢
      rw [hbxq] at hbx hbxl ⊢
      replace HW := Lib.hid hkN
      have HBX := Lib.hid hbx
      replace hgW : wr.heap.size ≤ u17.heap.size := by omega
      replace hhi8 : hi7 ≤ u17.heap.size := by omega
      clear hHeld2 hK K hHeld hb hkN hbx hu17 hbxq
      have hHeld := hHeld3
      clear hHeld3
      (try simp only [Act.put, List.getElem_toArray, List.getElem_cons_zero, List.getElem_cons_succ, List.setIfInBounds_toArray, List.set_cons_zero, List.set_cons_succ])
      refine wpAnyH_ready (rs := [1]) (by kernel_rfl) (by simp) ?_
      refine AllReadyH.cons (o := _) rfl (fun K hK => ?_) AllReadyH.nil
      have h74 := (five5 H7W.out).2.2.2.2
      go_simp
      refine hK.out _ _ hHeld (fun hHeld2 => ?_)
      clear hHeld2 hK K h74
      (try simp only [Act.put, List.getElem_toArray, List.getElem_cons_zero, List.getElem_cons_succ, List.setIfInBounds_toArray, List.set_cons_zero, List.set_cons_succ])
      refine wpAnyH_ready (rs := [9]) (by kernel_rfl) (by simp) ?_
      refine AllReadyH.cons (o := _) rfl (fun K hK => ?_) AllReadyH.nil
      obtain ⟨LK, hown, hvg, hkk⟩ := HKW.out.L
      have hvlt := fun g h => (hown.lt g h)
      have hvr : ∀ g, v.ownBlock = some g → g < wr.heap.size ∨ hi7 ≤ g := fun g h => by obtain ⟨_, hown0, _, _⟩ := HKD.out.L; exact .inl (hown0.lt g h).2
      rw [HKT.out] at hown
      refine step_append_own (by rfl) (.tmp 24) (.tmp 31) 24 26 i0 _ 5 80 (by rfl) Tryd.underlying24 I0.out.1 I0.out.2.1 I0.out.2.2.1 I0.out.2.2.2 (by rfl) (by omega) wz.heap.size v k LK (by rfl) hown ⟨bx, 0, none⟩ 1 [.int .i64 xt, .int .i64 xk, .string xs, .slice B0 yp f0, .slice B1 yk f1] (by rfl) rfl (fun j u hu => by rw [addr_add, Nat.zero_add, cell_of_row _ bx j _ _ _ HBX.out]; simpa using hu) HCF.out.2 (by omega) (by omega) (by omega) ?_
      intro v' u19 hown' hgr hat
      have hvne : ∀ b, b < wz.heap.size → some b ≠ v.ownBlock := fun b hb e => by have := (hvlt b e.symm).1; omega
      have hSN : (fun w' : World => w'.cell? ⟨w.heap.size, 4, none⟩ = some (.slice (some ⟨b2, off, none⟩) nk c1) ∧ w'.cell? ⟨b2, off + k * 5, none⟩ = some (.int .i64 xt) ∧ w'.cell? ⟨b2, off + k * 5 + 1, none⟩ = some (.int .i64 xk) ∧ w'.cell? ⟨b2, off + k * 5 + 2, none⟩ = some (.string xs) ∧ w'.cell? ⟨b2, off + k * 5 + 3, none⟩ = some (.slice E0 yp d0) ∧ w'.cell? ⟨b2, off + k * 5 + 4, none⟩ = some (.slice E1 yk d1)) u19 := ⟨(World.cell?_of_block (hgr.block _ (by show w.heap.size < _; omega) (hvne _ (by show w.heap.size < _; omega)))).trans hHeld.1, (World.cell?_of_block (hgr.block _ (by show b2 < _; omega) (hvne _ (by show b2 < _; omega)))).trans hHeld.2.1, (World.cell?_of_block (hgr.block _ (by show b2 < _; omega) (hvne _ (by show b2 < _; omega)))).trans hHeld.2.2.1, (World.cell?_of_block (hgr.block _ (by show b2 < _; omega) (hvne _ (by show b2 < _; omega)))).trans hHeld.2.2.2.1, (World.cell?_of_block (hgr.block _ (by show b2 < _; omega) (hvne _ (by show b2 < _; omega)))).trans hHeld.2.2.2.2.1, (World.cell?_of_block (hgr.block _ (by show b2 < _; omega) (hvne _ (by show b2 < _; omega)))).trans hHeld.2.2.2.2.2⟩
      have hKD2 : KdC wz.heap.size u19 gz v' (ks.take k ++ [.mk xt xk xs xp xq]) := KdC.add (w := u17) (by omega) (by rw [HKT.out]; exact hown) hvg hkk (by rw [HKT.out]; exact hown') hgr hat rfl (show wz.heap.size ≤ wr.heap.size from hks) hhi8 hvr (.inl hgr2) HST.out
      have h7N : u19.heap[gz]? = some (.cells #[.int .i64 tag, .int .i64 key, .string text, .slice (some ⟨bp, 0, none⟩) np cp, v] 26) := (hgr.block gz (by omega) (fun e => hvg e.symm)).trans H7W.out
      have hKP2 : Keep gz wz.heap.size wz u19 := HKP.out.trans (Keep.trans (HW.out.mono hks) ⟨hgr.os, hgr.tape, hgr.output, hgr.size, fun b h1 _ => hgr.block b (by omega) (fun e => by have := (hvlt _ e.symm).1; omega)⟩)
      obtain ⟨A9, c9, rfl⟩ : ∃ A9 c9, v' = .slice A9 (k + 1) c9 := by
        rcases hown'.2 with ⟨_, h0⟩ | ⟨g', cap', cur, rfl, _⟩
        · omega
        · exact ⟨_, _, rfl⟩
      refine hK.out _ _ hSN (fun hHeld2 => ?_)
      replace H7W := Lib.hid h7N
      have HKD2 := Lib.hid hKD2
      have HKP2 := Lib.hid hKP2
      have hgN : gz < u19.heap.size := by have := hgr.size; omega
      clear hHeld2 hK K hHeld hown hvg hkk hvlt hvr hown' hgr hat hvne hKD2 h7N hKP2 HKW HST HCF HBX HW
      have hHeld := hSN
      clear hSN
      (try simp only [Act.put, List.getElem_toArray, List.getElem_cons_zero, List.getElem_cons_succ, List.setIfInBounds_toArray, List.set_cons_zero, List.set_cons_succ])
      refine wpAnyH_take (i := 10) (oi := _) (v := ?_) rfl (by kernel_rfl) (by kernel_rfl) (by kernel_rfl) (fun _ _ _ h => h) (Or.inl ⟨by kernel_rfl, ?_⟩) (by assumption) ?_
      rotate_left
      · (intro w hSw; (try dsimp only at hSw); go_simp)
        try with_reducible rfl
      (try simp only [Act.put, List.getElem_toArray, List.getElem_cons_zero, List.getElem_cons_succ, List.setIfInBounds_toArray, List.set_cons_zero, List.set_cons_succ])
      refine wpAnyH_ready (rs := [11]) (by kernel_rfl) (by simp) ?_
      refine AllReadyH.cons (o := _) rfl (fun K hK => ?_) AllReadyH.nil
      have h74 := (five5 H7W.out).2.2.2.2
      have h7f := Lib.frozen_of_heap H7W.out 4
      go_simp
      have h7s : (u19.setCell ⟨gz, 4, none⟩ (.slice A9 (k + 1) c9)).heap[gz]? = some (.cells #[.int .i64 tag, .int .i64 key, .string text, .slice (some ⟨bp, 0, none⟩) np cp, .slice A9 (k + 1) c9] 26) := by simp [World.setCell, Array.getElem?_modify, H7W.out]
      have hfar : ∀ b, b ≠ gz → (u19.setCell ⟨gz, 4, none⟩ (.slice A9 (k + 1) c9)).heap[b]? = u19.heap[b]? := fun b hb => Below.heap_setCell _ _ _ _ hb
      refine hK.out _ _ ⟨(World.cell?_of_block (hfar _ (by show w.heap.size ≠ gz; omega))).trans hHeld.1, (World.cell?_of_block (hfar _ (by show b2 ≠ gz; omega))).trans hHeld.2.1, (World.cell?_of_block (hfar _ (by show b2 ≠ gz; omega))).trans hHeld.2.2.1, (World.cell?_of_block (hfar _ (by show b2 ≠ gz; omega))).trans hHeld.2.2.2.1, (World.cell?_of_block (hfar _ (by show b2 ≠ gz; omega))).trans hHeld.2.2.2.2.1, (World.cell?_of_block (hfar _ (by show b2 ≠ gz; omega))).trans hHeld.2.2.2.2.2⟩ (fun hHeld2 => ?_)
      have HR7 := Lib.hid h7s
      have HRK := Lib.hid (HKD2.out.move (w' := (u19.setCell ⟨gz, 4, none⟩ (.slice A9 (k + 1) c9))) (by simp [World.setCell]) (fun b _ hb => hfar b hb) hgN)
      have HRP := Lib.hid (HKP2.out.set_ (p := ⟨gz, 4, none⟩) (.inl rfl) (.slice A9 (k + 1) c9))
      obtain ⟨we, hwe⟩ : ∃ v, (u19.setCell ⟨gz, 4, none⟩ (.slice A9 (k + 1) c9)) = v := ⟨_, rfl⟩
      rw [hwe] at HR7 HRK HRP ⊢
      clear hHeld2 hK K hHeld h74 h7f h7s hfar hwe HKD2 HKP2 H7W
      (try simp only [Act.put, List.getElem_toArray, List.getElem_cons_zero, List.getElem_cons_succ, List.setIfInBounds_toArray, List.set_cons_zero, List.set_cons_succ])
      refine wpAnyH_done (by kernel_rfl) ?_ _
      go_wp2_with fail
      go_roundw
      case rel => exact ⟨k + 1, _, by omega, by go_num, HR7, Lib.hid (by rw [List.take_succ_eq_append_getElem (show k < ks.length by rw [HNK.out]; exact hlt), (List.getElem?_eq_some_iff.1 HXK.out).2]; exact HRK.out), HRP⟩
      case measure => simp [intOf]; omega
    · obtain rfl : k = nk := by omega
      have hK2 := HKD.out
      rw [List.take_of_length_le (by rw [HNK.out]; exact Nat.le_refl _)] at hK2
      obtain ⟨AK, cK, rfl, htl⟩ := hK2.trl
      have hnk3 := HNK.out
      rw [hnk3] at H7
      obtain ⟨y0, y1, y2, y3, y4⟩ := five5 H7.out
      have HTL := Lib.hid htl
      have q0 := (HKP.out.cell.1 (w.heap.size + 1) 0 (by omega) (by omega)).trans z0
      have q1 := (HKP.out.cell.1 (w.heap.size + 1) 1 (by omega) (by omega)).trans z1
      have q2 := (HKP.out.cell.1 (w.heap.size + 1) 2 (by omega) (by omega)).trans z2
      have q3 := (HKP.out.cell.1 (w.heap.size + 1) 3 (by omega) (by omega)).trans z3
      have q4 := (HKP.out.cell.1 (w.heap.size + 1) 4 (by omega) (by omega)).trans z4
      have qf := fun o => (HKP.out.cell.2 (w.heap.size + 1) o (by omega) (by omega)).trans (zf o)
      clear hK2 htl hx4 z0 z1 z2 z3 z4 zf hnk3
      go_wp2_with fail
      have hfar : ∀ (u0 u1 u2 u3 u4 : Value) b, b ≠ w.heap.size + 1 → (((((wr.setCell ⟨w.heap.size + 1, 0, none⟩ u0).setCell ⟨w.heap.size + 1, 1, none⟩ u1).setCell ⟨w.heap.size + 1, 2, none⟩ u2).setCell ⟨w.heap.size + 1, 3, none⟩ u3).setCell ⟨w.heap.size + 1, 4, none⟩ u4).heap[b]? = wr.heap[b]? := fun u0 u1 u2 u3 u4 b hb => by
        rw [Below.heap_setCell _ _ _ _ hb, Below.heap_setCell _ _ _ _ hb, Below.heap_setCell _ _ _ _ hb, Below.heap_setCell _ _ _ _ hb, Below.heap_setCell _ _ _ _ hb]
      have hbpl : wb.heap.size ≤ bp ∧ bp < wz.heap.size := HOP.out.lt _ rfl
      have hbpg : bp ≠ gz := fun e => HGB.out (by simp [Value.ownBlock, e])
      refine bodyPost_ret (v := .agg #[.int .i64 tag, .int .i64 key, .string text, .slice (some ⟨bp, 0, none⟩) np cp, .slice AK k cK]) (by simp [results, Tryd.results54, go_sem, q0, q1, q2, q3, q4, y0, y1, y2, y3, y4, qf]) rfl (HQ.out _ _ ⟨some ⟨bp, 0, none⟩, cp, AK, cK, rfl, ?_, fun b o e => by cases e; omega, ?_, ?_⟩)
      · refine Lie.of_own (c := Pr.cells) Pr.cells_len (own_mv (w := wz) (by have hq := HOP.out; rw [← HNP.out, HLP.out] at hq; exact hq) (fun g hg => ?_))
        simp only [Value.ownBlock, Option.some.injEq] at hg
        subst hg
        have hbne : bp ≠ w.heap.size + 1 := by omega
        rw [Below.heap_setCell _ _ _ _ hbne, Below.heap_setCell _ _ _ _ hbne, Below.heap_setCell _ _ _ _ hbne, Below.heap_setCell _ _ _ _ hbne, Below.heap_setCell _ _ _ _ hbne]
        exact HKP.out.block _ (by omega) hbpg
      · refine TrL.mono (lo := wz.heap.size) (by omega) (TrL.kept (w := wr) (by simp [World.setCell]) (fun b hb _ => ?_) HTL.out)
        have hbne : b ≠ w.heap.size + 1 := by omega
        rw [Below.heap_setCell _ _ _ _ hbne, Below.heap_setCell _ _ _ _ hbne, Below.heap_setCell _ _ _ _ hbne, Below.heap_setCell _ _ _ _ hbne, Below.heap_setCell _ _ _ _ hbne]
      · exact ((((((HBZ.out.trans ((HKP.out.mono (show w.heap.size ≤ wz.heap.size by omega)).below (by omega)))).setCell (p := ⟨w.heap.size + 1, 0, none⟩) (by simp) _).setCell (p := ⟨w.heap.size + 1, 1, none⟩) (by simp) _).setCell (p := ⟨w.heap.size + 1, 2, none⟩) (by simp) _).setCell (p := ⟨w.heap.size + 1, 3, none⟩) (by simp) _).setCell (p := ⟨w.heap.size + 1, 4, none⟩) (by simp) _
end Go.Proofs.YtpkhpaioddommaaDoor

namespace Go.Proofs.YtpkhpaioddommaaDoor
open Go.Joins Go.ChangeShapes Go.WideShapes Go.ChangeAt Go.RowKit Go.Deep
set_option linter.unusedVariables false
set_option linter.unusedSimpArgs false

theorem atT_ok : ∀ (zs : List Int) (t x : Tr), treeOkB t = true → atT t zs = some x → treeOkB x = true
  | [], t, x, h, e => by
    rw [atT] at e
    injection e with e
    subst e
    exact h
  | z :: zs, t, x, h, e => by
    rw [atT] at e
    split at e
    · cases hx : t.ks[z.toNat]? with
      | none => rw [hx] at e; cases e
      | some y =>
        rw [hx] at e
        exact atT_ok zs y x (kid_valid h (List.mem_of_getElem? hx)) e
    · cases e
set_option maxRecDepth 100000 in
set_option maxHeartbeats 2000000 in
theorem sTreeAt_any (t : Tr) (hsm : SmT t) (zs : List Int) (hzl : zs.length ≤ maxLen) : ∀ (A A0 A1 : Option Addr) (c c0 c1 : Nat) (w : World), PrL w A0 t.ps → TrL w 0 A1 t.ks → IntL w A zs →
    Calls Tryd.prog 20 #[.agg #[.int .i64 t.tag, .int .i64 t.key, .string t.text, .slice A0 t.ps.length c0, .slice A1 t.ks.length c1], .slice A zs.length c] w (TaX t zs w) := by
  intro A A0 A1 c c0 c1 w hp hk hz
  have k1 := fun w hp hk => svalidTree_any t hsm A0 A1 c0 c1 w hp hk
  have k2 := fun w hp hk hz => partAt_any t hsm zs hzl A A0 A1 c c0 c1 w hp hk hz
  unfold PAtX at k2
  have HTX := Lib.hid (show ∀ e w', Below w.heap.size w w' ∧ ((atV t zs = none ∧ e = .returned (.tuple #[.agg #[.int .i64 0, .int .i64 0, .string ⟨#[]⟩, .slice none 0 0, .slice none 0 0], .bool false])) ∨ ∃ (x : Tr) (B0 B1 : Option Addr) (f0 f1 : Nat), atV t zs = some x ∧ e = .returned (.tuple #[.agg #[.int .i64 x.tag, .int .i64 x.key, .string x.text, .slice B0 x.ps.length f0, .slice B1 x.ks.length f1], .bool true]) ∧ PrL w' B0 x.ps ∧ (∀ b o, B0 = some ⟨b, o, none⟩ → w.heap.size ≤ b) ∧ TrL w' w.heap.size B1 x.ks) → TaX t zs w e w' from fun e w' h => h)
  obtain ⟨Q, hQ⟩ : ∃ Q, TaX t zs w = Q := ⟨_, rfl⟩
  rw [hQ] at HTX ⊢
  clear hQ
  obtain ⟨n, hn⟩ : ∃ n, zs.length = n := ⟨_, rfl⟩
  rw [hn] at k2 ⊢
  have hb0 : Below w.heap.size w ((w.alloc (.cells #[.int .i64 t.tag, .int .i64 t.key, .string t.text, .slice A0 t.ps.length c0, .slice A1 t.ks.length c1] 26)).alloc (.cells #[.int .i64 0, .int .i64 0, .string ⟨#[]⟩, .slice none 0 0, .slice none 0 0] 26)) := (Below.alloc (Below.refl w.heap.size w) (Nat.le_refl _) _).alloc (by simp) _
  have d0 : ((w.alloc (.cells #[.int .i64 t.tag, .int .i64 t.key, .string t.text, .slice A0 t.ps.length c0, .slice A1 t.ks.length c1] 26)).alloc (.cells #[.int .i64 0, .int .i64 0, .string ⟨#[]⟩, .slice none 0 0, .slice none 0 0] 26)).cell? ⟨w.heap.size, 0, none⟩ = some (.int .i64 t.tag) := by go_simp
  have d1 : ((w.alloc (.cells #[.int .i64 t.tag, .int .i64 t.key, .string t.text, .slice A0 t.ps.length c0, .slice A1 t.ks.length c1] 26)).alloc (.cells #[.int .i64 0, .int .i64 0, .string ⟨#[]⟩, .slice none 0 0, .slice none 0 0] 26)).cell? ⟨w.heap.size, 1, none⟩ = some (.int .i64 t.key) := by go_simp
  have d2 : ((w.alloc (.cells #[.int .i64 t.tag, .int .i64 t.key, .string t.text, .slice A0 t.ps.length c0, .slice A1 t.ks.length c1] 26)).alloc (.cells #[.int .i64 0, .int .i64 0, .string ⟨#[]⟩, .slice none 0 0, .slice none 0 0] 26)).cell? ⟨w.heap.size, 2, none⟩ = some (.string t.text) := by go_simp
  have d3 : ((w.alloc (.cells #[.int .i64 t.tag, .int .i64 t.key, .string t.text, .slice A0 t.ps.length c0, .slice A1 t.ks.length c1] 26)).alloc (.cells #[.int .i64 0, .int .i64 0, .string ⟨#[]⟩, .slice none 0 0, .slice none 0 0] 26)).cell? ⟨w.heap.size, 3, none⟩ = some (.slice A0 t.ps.length c0) := by go_simp
  have d4 : ((w.alloc (.cells #[.int .i64 t.tag, .int .i64 t.key, .string t.text, .slice A0 t.ps.length c0, .slice A1 t.ks.length c1] 26)).alloc (.cells #[.int .i64 0, .int .i64 0, .string ⟨#[]⟩, .slice none 0 0, .slice none 0 0] 26)).cell? ⟨w.heap.size, 4, none⟩ = some (.slice A1 t.ks.length c1) := by go_simp
  have z0 : ((w.alloc (.cells #[.int .i64 t.tag, .int .i64 t.key, .string t.text, .slice A0 t.ps.length c0, .slice A1 t.ks.length c1] 26)).alloc (.cells #[.int .i64 0, .int .i64 0, .string ⟨#[]⟩, .slice none 0 0, .slice none 0 0] 26)).cell? ⟨w.heap.size + 1, 0, none⟩ = some (.int .i64 0) := by go_simp
  have z1 : ((w.alloc (.cells #[.int .i64 t.tag, .int .i64 t.key, .string t.text, .slice A0 t.ps.length c0, .slice A1 t.ks.length c1] 26)).alloc (.cells #[.int .i64 0, .int .i64 0, .string ⟨#[]⟩, .slice none 0 0, .slice none 0 0] 26)).cell? ⟨w.heap.size + 1, 1, none⟩ = some (.int .i64 0) := by go_simp
  have z2 : ((w.alloc (.cells #[.int .i64 t.tag, .int .i64 t.key, .string t.text, .slice A0 t.ps.length c0, .slice A1 t.ks.length c1] 26)).alloc (.cells #[.int .i64 0, .int .i64 0, .string ⟨#[]⟩, .slice none 0 0, .slice none 0 0] 26)).cell? ⟨w.heap.size + 1, 2, none⟩ = some (.string ⟨#[]⟩) := by go_simp
  have z3 : ((w.alloc (.cells #[.int .i64 t.tag, .int .i64 t.key, .string t.text, .slice A0 t.ps.length c0, .slice A1 t.ks.length c1] 26)).alloc (.cells #[.int .i64 0, .int .i64 0, .string ⟨#[]⟩, .slice none 0 0, .slice none 0 0] 26)).cell? ⟨w.heap.size + 1, 3, none⟩ = some (.slice none 0 0) := by go_simp
  have z4 : ((w.alloc (.cells #[.int .i64 t.tag, .int .i64 t.key, .string t.text, .slice A0 t.ps.length c0, .slice A1 t.ks.length c1] 26)).alloc (.cells #[.int .i64 0, .int .i64 0, .string ⟨#[]⟩, .slice none 0 0, .slice none 0 0] 26)).cell? ⟨w.heap.size + 1, 4, none⟩ = some (.slice none 0 0) := by go_simp
  have f4 : ∀ o, ((w.alloc (.cells #[.int .i64 t.tag, .int .i64 t.key, .string t.text, .slice A0 t.ps.length c0, .slice A1 t.ks.length c1] 26)).alloc (.cells #[.int .i64 0, .int .i64 0, .string ⟨#[]⟩, .slice none 0 0, .slice none 0 0] 26)).frozen? ⟨w.heap.size + 1, o, none⟩ = false := fun o => by go_simp
  have hsz : w.heap.size + 1 < ((w.alloc (.cells #[.int .i64 t.tag, .int .i64 t.key, .string t.text, .slice A0 t.ps.length c0, .slice A1 t.ks.length c1] 26)).alloc (.cells #[.int .i64 0, .int .i64 0, .string ⟨#[]⟩, .slice none 0 0, .slice none 0 0] 26)).heap.size := by simp
  have HB0 := Lib.hid hb0
  have K1 := Lib.hid (k1 _ (hp.below hb0) (hk.below hb0))
  have HZ := Lib.hid hz
  have HP := Lib.hid hp
  have HK := Lib.hid hk
  have K2 := Lib.hid k2
  have HAV := Lib.hid (show ∀ v, treeOkB t = v → atV t zs = if v = true then atT t zs else none from fun v hv => by unfold atV; rw [hv])
  obtain ⟨wb, hwb⟩ : ∃ v, ((w.alloc (.cells #[.int .i64 t.tag, .int .i64 t.key, .string t.text, .slice A0 t.ps.length c0, .slice A1 t.ks.length c1] 26)).alloc (.cells #[.int .i64 0, .int .i64 0, .string ⟨#[]⟩, .slice none 0 0, .slice none 0 0] 26)) = v := ⟨_, rfl⟩
  rw [hwb] at d0 d1 d2 d3 d4 z0 z1 z2 z3 z4 f4 hsz HB0 K1
  obtain ⟨ok, hok⟩ : ∃ v, treeOkB t = v := ⟨_, rfl⟩
  have HOK := Lib.hid hok
  rw [hok] at K1
  clear hb0 hz hp hk hsm hn hok k1 k2
  go_enter Tryd.func20, Tryd.ntmps20
  go_wp2_with fail
  refine K1.out.mono ?_
  rintro e w1 ⟨rfl, hb⟩
  replace d0 := (hb.cell (p := ⟨w.heap.size, 0, none⟩) (by first | omega | (dsimp only; omega) | (simp; omega))).trans d0
  replace z0 := (hb.cell (p := ⟨w.heap.size + 1, 0, none⟩) (by first | omega | (dsimp only; omega) | (simp; omega))).trans z0
  replace d1 := (hb.cell (p := ⟨w.heap.size, 1, none⟩) (by first | omega | (dsimp only; omega) | (simp; omega))).trans d1
  replace z1 := (hb.cell (p := ⟨w.heap.size + 1, 1, none⟩) (by first | omega | (dsimp only; omega) | (simp; omega))).trans z1
  replace d2 := (hb.cell (p := ⟨w.heap.size, 2, none⟩) (by first | omega | (dsimp only; omega) | (simp; omega))).trans d2
  replace z2 := (hb.cell (p := ⟨w.heap.size + 1, 2, none⟩) (by first | omega | (dsimp only; omega) | (simp; omega))).trans z2
  replace d3 := (hb.cell (p := ⟨w.heap.size, 3, none⟩) (by first | omega | (dsimp only; omega) | (simp; omega))).trans d3
  replace z3 := (hb.cell (p := ⟨w.heap.size + 1, 3, none⟩) (by first | omega | (dsimp only; omega) | (simp; omega))).trans z3
  replace d4 := (hb.cell (p := ⟨w.heap.size, 4, none⟩) (by first | omega | (dsimp only; omega) | (simp; omega))).trans d4
  replace z4 := (hb.cell (p := ⟨w.heap.size + 1, 4, none⟩) (by first | omega | (dsimp only; omega) | (simp; omega))).trans z4
  replace f4 := fun o => (hb.frozen (p := ⟨w.heap.size + 1, o, none⟩) (by first | omega | (dsimp only; omega) | (simp; omega))).trans (f4 o)
  have HB1 := Lib.hid (more HB0.out (Nat.le_refl _) hb)
  replace hsz := Nat.lt_of_lt_of_le hsz hb.size
  clear hb hwb K1 HB0
  cases ok
  · have HE := Lib.hid ((HAV.out _ HOK.out).trans (if_neg (by decide)))
    clear HAV
    go_wp2_with fail
    refine bodyPost_ret (v := .tuple #[.agg #[.int .i64 0, .int .i64 0, .string ⟨#[]⟩, .slice none 0 0, .slice none 0 0], .bool false]) (by simp [results, Tryd.results20, go_sem, d0, d1, d2, d3, d4, z0, z1, z2, z3, z4, f4]) rfl (HTX.out _ _ ⟨?_, .inl ⟨HE.out, rfl⟩⟩)
    exact ((((HB1.out.setCell (p := ⟨w.heap.size + 1, 0, none⟩) (by simp) _).setCell (p := ⟨w.heap.size + 1, 1, none⟩) (by simp) _).setCell (p := ⟨w.heap.size + 1, 2, none⟩) (by simp) _).setCell (p := ⟨w.heap.size + 1, 3, none⟩) (by simp) _).setCell (p := ⟨w.heap.size + 1, 4, none⟩) (by simp) _
  have HAT := Lib.hid ((HAV.out _ HOK.out).trans (if_pos rfl))
  clear HAV
  go_wp2_with fail
  refine (K2.out _ (HP.out.below HB1.out) (HK.out.below HB1.out) (HZ.out.below HB1.out)).mono ?_
  rintro e w2 ⟨hb, ⟨hno, rfl⟩ | ⟨x, E0, E1, g0, g1, hx, _, hpx, hkx, rfl⟩⟩
  · have HE := Lib.hid (HAT.out.trans hno)
    replace d0 := (hb.cell (p := ⟨w.heap.size, 0, none⟩) (by first | omega | (dsimp only; omega) | (simp; omega))).trans d0
    replace z0 := (hb.cell (p := ⟨w.heap.size + 1, 0, none⟩) (by first | omega | (dsimp only; omega) | (simp; omega))).trans z0
    replace d1 := (hb.cell (p := ⟨w.heap.size, 1, none⟩) (by first | omega | (dsimp only; omega) | (simp; omega))).trans d1
    replace z1 := (hb.cell (p := ⟨w.heap.size + 1, 1, none⟩) (by first | omega | (dsimp only; omega) | (simp; omega))).trans z1
    replace d2 := (hb.cell (p := ⟨w.heap.size, 2, none⟩) (by first | omega | (dsimp only; omega) | (simp; omega))).trans d2
    replace z2 := (hb.cell (p := ⟨w.heap.size + 1, 2, none⟩) (by first | omega | (dsimp only; omega) | (simp; omega))).trans z2
    replace d3 := (hb.cell (p := ⟨w.heap.size, 3, none⟩) (by first | omega | (dsimp only; omega) | (simp; omega))).trans d3
    replace z3 := (hb.cell (p := ⟨w.heap.size + 1, 3, none⟩) (by first | omega | (dsimp only; omega) | (simp; omega))).trans z3
    replace d4 := (hb.cell (p := ⟨w.heap.size, 4, none⟩) (by first | omega | (dsimp only; omega) | (simp; omega))).trans d4
    replace z4 := (hb.cell (p := ⟨w.heap.size + 1, 4, none⟩) (by first | omega | (dsimp only; omega) | (simp; omega))).trans z4
    replace f4 := fun o => (hb.frozen (p := ⟨w.heap.size + 1, o, none⟩) (by first | omega | (dsimp only; omega) | (simp; omega))).trans (f4 o)
    have HB2 := Lib.hid (more HB1.out (Nat.le_refl _) hb)
    replace hsz := Nat.lt_of_lt_of_le hsz hb.size
    clear hb hno K2 HB1
    go_wp2_with fail
    have hbz : Below w.heap.size w ((((((w2.setCell ⟨w.heap.size + 1, 0, none⟩ (.int .i64 0)).setCell ⟨w.heap.size + 1, 1, none⟩ (.int .i64 0)).setCell ⟨w.heap.size + 1, 2, none⟩ (.string ⟨#[]⟩)).setCell ⟨w.heap.size + 1, 3, none⟩ (.slice none 0 0)).setCell ⟨w.heap.size + 1, 4, none⟩ (.slice none 0 0)).alloc (.cells #[.int .i64 0, .int .i64 0, .string ⟨#[]⟩, .slice none 0 0, .slice none 0 0] 26)) := Below.alloc (((((HB2.out.setCell (p := ⟨w.heap.size + 1, 0, none⟩) (by simp) _).setCell (p := ⟨w.heap.size + 1, 1, none⟩) (by simp) _).setCell (p := ⟨w.heap.size + 1, 2, none⟩) (by simp) _).setCell (p := ⟨w.heap.size + 1, 3, none⟩) (by simp) _).setCell (p := ⟨w.heap.size + 1, 4, none⟩) (by simp) _) (by simp only [World.size_setCell]; omega) _
    have y0 : ((((((w2.setCell ⟨w.heap.size + 1, 0, none⟩ (.int .i64 0)).setCell ⟨w.heap.size + 1, 1, none⟩ (.int .i64 0)).setCell ⟨w.heap.size + 1, 2, none⟩ (.string ⟨#[]⟩)).setCell ⟨w.heap.size + 1, 3, none⟩ (.slice none 0 0)).setCell ⟨w.heap.size + 1, 4, none⟩ (.slice none 0 0)).alloc (.cells #[.int .i64 0, .int .i64 0, .string ⟨#[]⟩, .slice none 0 0, .slice none 0 0] 26)).cell? ⟨w.heap.size + 1, 0, none⟩ = some (.int .i64 0) := (World.cell?_alloc_lt _ _ _ (by simp only [World.size_setCell]; omega)).trans (by go_simp)
    have y1 : ((((((w2.setCell ⟨w.heap.size + 1, 0, none⟩ (.int .i64 0)).setCell ⟨w.heap.size + 1, 1, none⟩ (.int .i64 0)).setCell ⟨w.heap.size + 1, 2, none⟩ (.string ⟨#[]⟩)).setCell ⟨w.heap.size + 1, 3, none⟩ (.slice none 0 0)).setCell ⟨w.heap.size + 1, 4, none⟩ (.slice none 0 0)).alloc (.cells #[.int .i64 0, .int .i64 0, .string ⟨#[]⟩, .slice none 0 0, .slice none 0 0] 26)).cell? ⟨w.heap.size + 1, 1, none⟩ = some (.int .i64 0) := (World.cell?_alloc_lt _ _ _ (by simp only [World.size_setCell]; omega)).trans (by go_simp)
    have y2 : ((((((w2.setCell ⟨w.heap.size + 1, 0, none⟩ (.int .i64 0)).setCell ⟨w.heap.size + 1, 1, none⟩ (.int .i64 0)).setCell ⟨w.heap.size + 1, 2, none⟩ (.string ⟨#[]⟩)).setCell ⟨w.heap.size + 1, 3, none⟩ (.slice none 0 0)).setCell ⟨w.heap.size + 1, 4, none⟩ (.slice none 0 0)).alloc (.cells #[.int .i64 0, .int .i64 0, .string ⟨#[]⟩, .slice none 0 0, .slice none 0 0] 26)).cell? ⟨w.heap.size + 1, 2, none⟩ = some (.string ⟨#[]⟩) := (World.cell?_alloc_lt _ _ _ (by simp only [World.size_setCell]; omega)).trans (by go_simp)
    have y3 : ((((((w2.setCell ⟨w.heap.size + 1, 0, none⟩ (.int .i64 0)).setCell ⟨w.heap.size + 1, 1, none⟩ (.int .i64 0)).setCell ⟨w.heap.size + 1, 2, none⟩ (.string ⟨#[]⟩)).setCell ⟨w.heap.size + 1, 3, none⟩ (.slice none 0 0)).setCell ⟨w.heap.size + 1, 4, none⟩ (.slice none 0 0)).alloc (.cells #[.int .i64 0, .int .i64 0, .string ⟨#[]⟩, .slice none 0 0, .slice none 0 0] 26)).cell? ⟨w.heap.size + 1, 3, none⟩ = some (.slice none 0 0) := (World.cell?_alloc_lt _ _ _ (by simp only [World.size_setCell]; omega)).trans (by go_simp)
    have y4 : ((((((w2.setCell ⟨w.heap.size + 1, 0, none⟩ (.int .i64 0)).setCell ⟨w.heap.size + 1, 1, none⟩ (.int .i64 0)).setCell ⟨w.heap.size + 1, 2, none⟩ (.string ⟨#[]⟩)).setCell ⟨w.heap.size + 1, 3, none⟩ (.slice none 0 0)).setCell ⟨w.heap.size + 1, 4, none⟩ (.slice none 0 0)).alloc (.cells #[.int .i64 0, .int .i64 0, .string ⟨#[]⟩, .slice none 0 0, .slice none 0 0] 26)).cell? ⟨w.heap.size + 1, 4, none⟩ = some (.slice none 0 0) := (World.cell?_alloc_lt _ _ _ (by simp only [World.size_setCell]; omega)).trans (by go_simp)
    obtain ⟨wz, hwz⟩ : ∃ v, ((((((w2.setCell ⟨w.heap.size + 1, 0, none⟩ (.int .i64 0)).setCell ⟨w.heap.size + 1, 1, none⟩ (.int .i64 0)).setCell ⟨w.heap.size + 1, 2, none⟩ (.string ⟨#[]⟩)).setCell ⟨w.heap.size + 1, 3, none⟩ (.slice none 0 0)).setCell ⟨w.heap.size + 1, 4, none⟩ (.slice none 0 0)).alloc (.cells #[.int .i64 0, .int .i64 0, .string ⟨#[]⟩, .slice none 0 0, .slice none 0 0] 26)) = v := ⟨_, rfl⟩
    rw [hwz] at hbz y0 y1 y2 y3 y4 ⊢
    refine bodyPost_ret (v := .tuple #[.agg #[.int .i64 0, .int .i64 0, .string ⟨#[]⟩, .slice none 0 0, .slice none 0 0], .bool false]) (by simp [results, Tryd.results20, go_sem, y0, y1, y2, y3, y4]) rfl (HTX.out _ _ ⟨hbz, .inl ⟨HE.out, rfl⟩⟩)
  · have HE := Lib.hid (HAT.out.trans hx)
    have hcx := scopyTree_any x (atT_ok zs t x HOK.out hx) E0 E1 g0 g1
    have hcq : ∀ W e w', CpX x W e w' → ∃ B0 f0 B1 f1, e = .returned (.agg #[.int .i64 x.tag, .int .i64 x.key, .string x.text, .slice B0 x.ps.length f0, .slice B1 x.ks.length f1]) ∧ PrL w' B0 x.ps ∧ (∀ b o, B0 = some ⟨b, o, none⟩ → W.heap.size ≤ b) ∧ TrL w' W.heap.size B1 x.ks ∧ Below W.heap.size W w' := fun W e w' h => h
    replace d0 := (hb.cell (p := ⟨w.heap.size, 0, none⟩) (by first | omega | (dsimp only; omega) | (simp; omega))).trans d0
    replace z0 := (hb.cell (p := ⟨w.heap.size + 1, 0, none⟩) (by first | omega | (dsimp only; omega) | (simp; omega))).trans z0
    replace d1 := (hb.cell (p := ⟨w.heap.size, 1, none⟩) (by first | omega | (dsimp only; omega) | (simp; omega))).trans d1
    replace z1 := (hb.cell (p := ⟨w.heap.size + 1, 1, none⟩) (by first | omega | (dsimp only; omega) | (simp; omega))).trans z1
    replace d2 := (hb.cell (p := ⟨w.heap.size, 2, none⟩) (by first | omega | (dsimp only; omega) | (simp; omega))).trans d2
    replace z2 := (hb.cell (p := ⟨w.heap.size + 1, 2, none⟩) (by first | omega | (dsimp only; omega) | (simp; omega))).trans z2
    replace d3 := (hb.cell (p := ⟨w.heap.size, 3, none⟩) (by first | omega | (dsimp only; omega) | (simp; omega))).trans d3
    replace z3 := (hb.cell (p := ⟨w.heap.size + 1, 3, none⟩) (by first | omega | (dsimp only; omega) | (simp; omega))).trans z3
    replace d4 := (hb.cell (p := ⟨w.heap.size, 4, none⟩) (by first | omega | (dsimp only; omega) | (simp; omega))).trans d4
    replace z4 := (hb.cell (p := ⟨w.heap.size + 1, 4, none⟩) (by first | omega | (dsimp only; omega) | (simp; omega))).trans z4
    replace f4 := fun o => (hb.frozen (p := ⟨w.heap.size + 1, o, none⟩) (by first | omega | (dsimp only; omega) | (simp; omega))).trans (f4 o)
    have HB2 := Lib.hid (more HB1.out (Nat.le_refl _) hb)
    have hb3 := Below.alloc (Below.refl w2.heap.size w2) (Nat.le_refl _) (.cells #[.int .i64 x.tag, .int .i64 x.key, .string x.text, .slice E0 x.ps.length g0, .slice E1 x.ks.length g1] 26)
    have KC := Lib.hid (hcx (w2.alloc (.cells #[.int .i64 x.tag, .int .i64 x.key, .string x.text, .slice E0 x.ps.length g0, .slice E1 x.ks.length g1] 26)) ((hpx.below hb).below hb3) ((hkx.below hb).below hb3))
    replace hsz := Nat.lt_of_lt_of_le hsz hb.size
    clear hb hx hpx hkx K2 HB1 hcx
    replace d0 := (hb3.cell (p := ⟨w.heap.size, 0, none⟩) (by first | omega | (dsimp only; omega) | (simp; omega))).trans d0
    replace z0 := (hb3.cell (p := ⟨w.heap.size + 1, 0, none⟩) (by first | omega | (dsimp only; omega) | (simp; omega))).trans z0
    replace d1 := (hb3.cell (p := ⟨w.heap.size, 1, none⟩) (by first | omega | (dsimp only; omega) | (simp; omega))).trans d1
    replace z1 := (hb3.cell (p := ⟨w.heap.size + 1, 1, none⟩) (by first | omega | (dsimp only; omega) | (simp; omega))).trans z1
    replace d2 := (hb3.cell (p := ⟨w.heap.size, 2, none⟩) (by first | omega | (dsimp only; omega) | (simp; omega))).trans d2
    replace z2 := (hb3.cell (p := ⟨w.heap.size + 1, 2, none⟩) (by first | omega | (dsimp only; omega) | (simp; omega))).trans z2
    replace d3 := (hb3.cell (p := ⟨w.heap.size, 3, none⟩) (by first | omega | (dsimp only; omega) | (simp; omega))).trans d3
    replace z3 := (hb3.cell (p := ⟨w.heap.size + 1, 3, none⟩) (by first | omega | (dsimp only; omega) | (simp; omega))).trans z3
    replace d4 := (hb3.cell (p := ⟨w.heap.size, 4, none⟩) (by first | omega | (dsimp only; omega) | (simp; omega))).trans d4
    replace z4 := (hb3.cell (p := ⟨w.heap.size + 1, 4, none⟩) (by first | omega | (dsimp only; omega) | (simp; omega))).trans z4
    replace f4 := fun o => (hb3.frozen (p := ⟨w.heap.size + 1, o, none⟩) (by first | omega | (dsimp only; omega) | (simp; omega))).trans (f4 o)
    have HB3 := Lib.hid (more HB2.out (Nat.le_refl _) hb3)
    replace hsz := Nat.lt_of_lt_of_le hsz hb3.size
    clear hb3
    go_wp2_with fail
    refine KC.out.mono ?_
    intro e w4 hq
    obtain ⟨B0, f0, B1, f1, rfl, hpp, hplo, hkk, hb⟩ := hcq _ _ _ hq
    replace d0 := (hb.cell (p := ⟨w.heap.size, 0, none⟩) (by first | omega | (dsimp only; omega) | (simp; omega))).trans d0
    replace z0 := (hb.cell (p := ⟨w.heap.size + 1, 0, none⟩) (by first | omega | (dsimp only; omega) | (simp; omega))).trans z0
    replace d1 := (hb.cell (p := ⟨w.heap.size, 1, none⟩) (by first | omega | (dsimp only; omega) | (simp; omega))).trans d1
    replace z1 := (hb.cell (p := ⟨w.heap.size + 1, 1, none⟩) (by first | omega | (dsimp only; omega) | (simp; omega))).trans z1
    replace d2 := (hb.cell (p := ⟨w.heap.size, 2, none⟩) (by first | omega | (dsimp only; omega) | (simp; omega))).trans d2
    replace z2 := (hb.cell (p := ⟨w.heap.size + 1, 2, none⟩) (by first | omega | (dsimp only; omega) | (simp; omega))).trans z2
    replace d3 := (hb.cell (p := ⟨w.heap.size, 3, none⟩) (by first | omega | (dsimp only; omega) | (simp; omega))).trans d3
    replace z3 := (hb.cell (p := ⟨w.heap.size + 1, 3, none⟩) (by first | omega | (dsimp only; omega) | (simp; omega))).trans z3
    replace d4 := (hb.cell (p := ⟨w.heap.size, 4, none⟩) (by first | omega | (dsimp only; omega) | (simp; omega))).trans d4
    replace z4 := (hb.cell (p := ⟨w.heap.size + 1, 4, none⟩) (by first | omega | (dsimp only; omega) | (simp; omega))).trans z4
    replace f4 := fun o => (hb.frozen (p := ⟨w.heap.size + 1, o, none⟩) (by first | omega | (dsimp only; omega) | (simp; omega))).trans (f4 o)
    have HB4 := Lib.hid (more HB3.out (Nat.le_refl _) hb)
    have HPP := Lib.hid hpp
    have HPL := Lib.hid (fun b o e => Nat.lt_of_lt_of_le hsz (hplo b o e))
    have HKK := Lib.hid hkk
    have hz2 : w.heap.size + 1 < (w2.alloc (.cells #[.int .i64 x.tag, .int .i64 x.key, .string x.text, .slice E0 x.ps.length g0, .slice E1 x.ks.length g1] 26)).heap.size := hsz
    clear hpp hplo hkk hb hq hcq KC
    go_wp2_with fail
    refine bodyPost_ret (v := .tuple #[.agg #[.int .i64 x.tag, .int .i64 x.key, .string x.text, .slice B0 x.ps.length f0, .slice B1 x.ks.length f1], .bool true]) (by simp [results, Tryd.results20, go_sem, z0, z1, z2, z3, z4, f4]) rfl (HTX.out _ _ ⟨?_, .inr ⟨x, B0, B1, f0, f1, HE.out, rfl, ?_, fun b o e => by have := HPL.out b o e; omega, ?_⟩⟩)
    · exact ((((HB4.out.setCell (p := ⟨w.heap.size + 1, 0, none⟩) (by simp) _).setCell (p := ⟨w.heap.size + 1, 1, none⟩) (by simp) _).setCell (p := ⟨w.heap.size + 1, 2, none⟩) (by simp) _).setCell (p := ⟨w.heap.size + 1, 3, none⟩) (by simp) _).setCell (p := ⟨w.heap.size + 1, 4, none⟩) (by simp) _
    · refine PrL.kept (w := w4) (lo := w.heap.size + 1 + 1) (by simp [World.setCell]) (fun b hb _ => ?_) HPP.out (fun b o e => HPL.out b o e)
      rw [Below.heap_setCell _ _ _ b (by first | omega | (simp; omega) | (simp <;> omega)), Below.heap_setCell _ _ _ b (by first | omega | (simp; omega) | (simp <;> omega)), Below.heap_setCell _ _ _ b (by first | omega | (simp; omega) | (simp <;> omega)), Below.heap_setCell _ _ _ b (by first | omega | (simp; omega) | (simp <;> omega)), Below.heap_setCell _ _ _ b (by first | omega | (simp; omega) | (simp <;> omega))]
    · refine TrL.mono (lo := (w2.alloc (.cells #[.int .i64 x.tag, .int .i64 x.key, .string x.text, .slice E0 x.ps.length g0, .slice E1 x.ks.length g1] 26)).heap.size) (by omega) (TrL.kept (w := w4) (by simp [World.setCell]) (fun b hb _ => ?_) HKK.out)
      have hb5 : w.heap.size + 1 < b := Nat.lt_of_lt_of_le hz2 hb
      rw [Below.heap_setCell _ _ _ b (by first | omega | (simp; omega) | (simp <;> omega)), Below.heap_setCell _ _ _ b (by first | omega | (simp; omega) | (simp <;> omega)), Below.heap_setCell _ _ _ b (by first | omega | (simp; omega) | (simp <;> omega)), Below.heap_setCell _ _ _ b (by first | omega | (simp; omega) | (simp <;> omega)), Below.heap_setCell _ _ _ b (by first | omega | (simp; omega) | (simp <;> omega))]
end Go.Proofs.YtpkhpaioddommaaDoor

namespace Go.Proofs.YtpkhpaioddommaaDoor
open Go.Joins Go.ChangeShapes Go.WideShapes Go.ChangeAt Go.RowKit Go.Deep
set_option linter.unusedVariables false
set_option linter.unusedSimpArgs false

theorem TrO.mono {w : World} {lo hi lo' hi' : Nat} {cs : List Value} {t : Tr} (h : TrO w lo hi cs t) (h1 : lo' ≤ lo) (h2 : hi ≤ hi') : TrO w lo' hi' cs t := by
  cases h with
  | mk A0 c0 A1 c1 hdr P Q q1 q2 hp hk hin hap hks =>
    refine .mk A0 c0 A1 c1 hdr P Q (Nat.le_trans h1 q1) (Nat.le_trans q2 h2) (fun h0 => ?_) (fun h0 => ?_) (fun i hi => ?_) hap hks
    · obtain ⟨g, rfl, a, b, ho⟩ := hp h0
      exact ⟨g, rfl, Nat.le_trans h1 a, b, ho⟩
    · obtain ⟨g, L, rfl, a, b, r⟩ := hk h0
      exact ⟨g, L, rfl, a, Nat.lt_of_lt_of_le b h2, r⟩
    · obtain ⟨a, b, c⟩ := hin i hi
      exact ⟨a, b, Nat.le_trans c h2⟩
def CpO (t : Tr) (w : World) (e : Ending) (w' : World) : Prop :=
  ∃ B0 f0 B1 f1, e = .returned (.agg #[.int .i64 t.tag, .int .i64 t.key, .string t.text, .slice B0 t.ps.length f0, .slice B1 t.ks.length f1]) ∧ TrO w' w.heap.size w'.heap.size [.int .i64 t.tag, .int .i64 t.key, .string t.text, .slice B0 t.ps.length f0, .slice B1 t.ks.length f1] t ∧ Below w.heap.size w w'
theorem CpO.front {t : Tr} {w W w' : World} {e : Ending} (h : CpO t W e w') (hb : Below w.heap.size w W) : CpO t w e w' := by
  obtain ⟨B0, f0, B1, f1, rfl, hp, h2⟩ := h
  exact ⟨B0, f0, B1, f1, rfl, hp.mono hb.size (Nat.le_refl _), hb.trans (h2.mono hb.size)⟩
def CpOT (t : Tr) : Prop := ∀ (A0 A1 : Option Addr) (c0 c1 : Nat) (w : World), PrL w A0 t.ps → TrL w 0 A1 t.ks →
  Calls Tryd.prog 52 #[.agg #[.int .i64 t.tag, .int .i64 t.key, .string t.text, .slice A0 t.ps.length c0, .slice A1 t.ks.length c1]] w (CpO t w)
def CpsO (n : Nat) (xs : List Tr) (w : World) (e : Ending) (w' : World) : Prop :=
  ∃ A' c', e = .returned (.slice A' n c') ∧ (∃ hdr P Q, KdO w' w.heap.size w'.heap.size A' c' hdr P Q xs) ∧ Below w.heap.size w w'
/-- Props copied, in a row of their own. -/
theorem cloneProps_own (A : Option Addr) (c n : Nat) (ps : List Pr) (w : World) (hp : PrL w A ps) (hn : ps.length = n) (hl : n ≤ 1000000) :
    Calls Tryd.prog 82 #[.slice A n c] w fun e w' => ∃ A' c', e = .returned (.slice A' n c') ∧ Below w.heap.size w w' ∧ PrO w' w.heap.size w'.heap.size A' c' ps := by
  refine (cloneP_any A n c (ps.flatMap Pr.cells) w (by rw [prs_len, hn]) (prs_one ps) (fun h => prs_cells hp (by omega)) hl).mono ?_
  rintro e w' ⟨A', c', rfl, hb, hlo, h⟩
  refine ⟨A', c', rfl, hb, fun h0 => ?_⟩
  obtain ⟨g, rfl, ho⟩ := h (by omega)
  rw [hn]
  exact ⟨g, rfl, hlo g 0 rfl, (ho.lt g rfl).2, own_zero ho⟩
set_option maxHeartbeats 2000000 in
set_option maxRecDepth 100000 in
theorem copyAll_own (A : Option Addr) (c n : Nat) (xs : List Tr) (IH : ∀ x ∈ xs, CpOT x) (w : World) (hx : TrL w 0 A xs) (hn : xs.length = n) (hl : n ≤ 1000000) :
    Calls Tryd.prog 83 #[.slice A n c, .func (.func 52) #[] #[]] w (CpsO n xs w) := by
  obtain ⟨L0, hL0, hL1, hLc, hLk⟩ := hx.cells
  rw [hn] at hL0 hLc
  have KC := Lib.hid (cloneT_any A n c L0 w hL0 hL1 hLc hl)
  have HN := Lib.hid hn
  have HI := Lib.hid IH
  have HLK := Lib.hid hLk
  clear hx hn IH hL0 hL1 hLc hLk
  go_enter Tryd.func83, Tryd.ntmps83
  go_wp2_with fail
  refine KC.out.mono ?_
  rintro e w1 ⟨A', c', rfl, hb, hlo, hrow⟩
  have HB1 := Lib.hid hb
  have HLO := Lib.hid hlo
  rcases Nat.eq_zero_or_pos n with hn0 | hn0
  · subst hn0
    clear hb hrow hlo
    obtain rfl : xs = [] := List.eq_nil_of_length_eq_zero HN.out
    go_wp2_with fail
    go_loopw [11] (fun i wr => i = .int .i64 0 ∧ Hid (Below w.heap.size w wr)) (fun _ _ => 0)
    case atStart => exact ⟨rfl, HB1⟩
    case round =>
      obtain ⟨rfl, HB⟩ := hrel
      go_wp2_with fail
      go_ret
      exact ⟨A', c', rfl, ⟨fun _ => [], fun _ => 0, fun _ => 0, ⟨fun h => absurd h (by simp), fun i h => absurd h (by simp), fun i j _ h => absurd h (by simp), fun i x h => by simp at h⟩⟩, HB.out⟩
  obtain ⟨g, rfl, ho⟩ := hrow hn0
  have HO := Lib.hid ho
  clear hb hrow hlo ho KC
  go_wp2_with fail
  go_loopw [11] (fun i wr => ∃ (k : Nat) (L : List Value) (hdr : Nat → List Value) (P Q : Nat → Nat), k ≤ n ∧ i = .int .i64 k ∧ wr.ownsRow w.heap.size 26 5 (.slice (some ⟨g, 0, none⟩) n c') n L ∧ Hid (∀ i, i < k → ∀ j, j < 5 → L[i * 5 + j]? = (hdr i)[j]?) ∧ Hid (∀ i x, i < k → xs[i]? = some x → TrO wr (P i) (Q i) (hdr i) x) ∧ Hid (∀ i, i < k → g + 1 ≤ P i ∧ P i ≤ Q i ∧ Q i ≤ wr.heap.size) ∧ Hid (∀ i j, i < j → j < k → Q i ≤ P j) ∧ Hid (∀ i, k ≤ i → ∀ j, j < 5 → L[i * 5 + j]? = L0[i * 5 + j]?) ∧ Below w.heap.size w wr) (fun i _ => n - (intOf i).toNat)
  case atStart => exact ⟨0, L0, fun _ => [], fun _ => 0, fun _ => 0, by omega, rfl, HO.out, Lib.hid (fun i h => absurd h (by omega)), Lib.hid (fun i x h => absurd h (by omega)), Lib.hid (fun i h => absurd h (by omega)), Lib.hid (fun i j _ h => absurd h (by omega)), Lib.hid (fun i h j hj => rfl), HB1.out⟩
  case round =>
    clear HO
    obtain ⟨k, L, hdr, P, Q, hk, rfl, hown, HH, HT, HPQ, HAP, HU, hB⟩ := hrel
    have HO2 := Lib.hid hown
    have hgl := hown.lt _ rfl
    have hg1 := hgl.1
    have hg2 := hgl.2
    have hLn : L.length = n * 5 := hown.1
    clear hgl
    by_cases hlt : k < n
    · obtain ⟨x, hx⟩ := at_some (show k < xs.length by rw [HN.out]; exact hlt)
      obtain ⟨cs, hcs, htc, hce⟩ := HLK.out k x hx
      obtain ⟨A0, d0, A1, d1, rfl, hp, _, hks⟩ := htc.open_
      have hu := fun j hj => (HU.out k (Nat.le_refl _) j hj).trans (hce j hj)
      have e0 : wr.cell? ⟨g, k * 5, none⟩ = some (.int .i64 x.tag) := (hown.cellAt (k * 5) (by omega)).trans ((hu 0 (by omega)).trans rfl)
      have e1 : wr.cell? ⟨g, k * 5 + 1, none⟩ = some (.int .i64 x.key) := (hown.cellAt (k * 5 + 1) (by omega)).trans ((hu 1 (by omega)).trans rfl)
      have e2 : wr.cell? ⟨g, k * 5 + 2, none⟩ = some (.string x.text) := (hown.cellAt (k * 5 + 2) (by omega)).trans ((hu 2 (by omega)).trans rfl)
      have e3 : wr.cell? ⟨g, k * 5 + 3, none⟩ = some (.slice A0 x.ps.length d0) := (hown.cellAt (k * 5 + 3) (by omega)).trans ((hu 3 (by omega)).trans rfl)
      have e4 : wr.cell? ⟨g, k * 5 + 4, none⟩ = some (.slice A1 x.ks.length d1) := (hown.cellAt (k * 5 + 4) (by omega)).trans ((hu 4 (by omega)).trans rfl)
      have HS := Lib.hid (fun W (hb : Below wr.heap.size wr W) => (HI.out x (List.mem_of_getElem? hx) A0 A1 d0 d1 W (hp.below (more hB (Nat.le_refl _) hb)) (hks.below (more hB (Nat.le_refl _) hb))).mono fun e w' h => h.front hb)
      have HXK := Lib.hid hx
      clear hx hp hks hown hu hce htc hcs
      obtain ⟨tag, key, text, ps, ks⟩ := x
      dsimp only [Tr.tag, Tr.key, Tr.text, Tr.ps, Tr.ks] at e0 e1 e2 e3 e4 HS
      have hcx : ∀ e w', CpO (.mk tag key text ps ks) wr e w' → ∃ B0 f0 B1 f1, e = .returned (.agg #[.int .i64 tag, .int .i64 key, .string text, .slice B0 ps.length f0, .slice B1 ks.length f1]) ∧ TrO w' wr.heap.size w'.heap.size [.int .i64 tag, .int .i64 key, .string text, .slice B0 ps.length f0, .slice B1 ks.length f1] (.mk tag key text ps ks) ∧ Below wr.heap.size wr w' := fun e w' h => h
      obtain ⟨QQ, hQ⟩ : ∃ Q, CpO (.mk tag key text ps ks) wr = Q := ⟨_, rfl⟩
      rw [hQ] at HS hcx
      have HCX := Lib.hid hcx
      clear hcx hQ
      obtain ⟨np, hnp⟩ : ∃ q, ps.length = q := ⟨_, rfl⟩
      obtain ⟨nk, hnk⟩ : ∃ q, ks.length = q := ⟨_, rfl⟩
      have HNP := Lib.hid hnp
      have HNK := Lib.hid hnk
      rw [hnp] at e3 HS HCX
      rw [hnk] at e4 HS HCX
      clear hnp hnk
      have hi1 : (0 : Int) ≤ (k : Int) := by omega
      have hi2 : (k : Int) < (n : Int) := by omega
      go_wp2_with fail
      refine (HS.out _ (by go_grown)).mono ?_
      intro e w2 hq
      obtain ⟨B0, f0, B1, f1, rfl, hto, hb⟩ := HCX.out e w2 hq
      have hO3 := own_below HO2.out hb
      obtain ⟨u0, d0'⟩ : ∃ u, w2.cell? ⟨g, k * 5, none⟩ = some u := ⟨_, (hO3.cellAt (k * 5) (by omega)).trans (List.getElem?_eq_getElem (show k * 5 < L.length by omega))⟩
      have q0 := hO3.frozenAt (k * 5)
      obtain ⟨u1, d1'⟩ : ∃ u, w2.cell? ⟨g, k * 5 + 1, none⟩ = some u := ⟨_, (hO3.cellAt (k * 5 + 1) (by omega)).trans (List.getElem?_eq_getElem (show k * 5 + 1 < L.length by omega))⟩
      have q1 := hO3.frozenAt (k * 5 + 1)
      obtain ⟨u2, d2'⟩ : ∃ u, w2.cell? ⟨g, k * 5 + 2, none⟩ = some u := ⟨_, (hO3.cellAt (k * 5 + 2) (by omega)).trans (List.getElem?_eq_getElem (show k * 5 + 2 < L.length by omega))⟩
      have q2 := hO3.frozenAt (k * 5 + 2)
      obtain ⟨u3, d3'⟩ : ∃ u, w2.cell? ⟨g, k * 5 + 3, none⟩ = some u := ⟨_, (hO3.cellAt (k * 5 + 3) (by omega)).trans (List.getElem?_eq_getElem (show k * 5 + 3 < L.length by omega))⟩
      have q3 := hO3.frozenAt (k * 5 + 3)
      obtain ⟨u4, d4'⟩ : ∃ u, w2.cell? ⟨g, k * 5 + 4, none⟩ = some u := ⟨_, (hO3.cellAt (k * 5 + 4) (by omega)).trans (List.getElem?_eq_getElem (show k * 5 + 4 < L.length by omega))⟩
      have q4 := hO3.frozenAt (k * 5 + 4)
      have HO3 := Lib.hid hO3
      have HB2 := Lib.hid (more hB (Nat.le_refl _) hb)
      have HT2 := Lib.hid (fun i x hi hx => (HT.out i x hi hx).kept (w' := w2) (fun b _ hb2 => hb.block b (by have := HPQ.out i hi; omega)))
      have HTO := Lib.hid hto
      have hsz2 := hb.size
      clear hO3 hb hto e0 e1 e2 e3 e4 HT hq HS HCX
      go_wp2_with fail
      obtain ⟨s1, z1⟩ := HO3.out.stored (k * 5) (.int .i64 tag)
      obtain ⟨s2, z2⟩ := s1.stored (k * 5 + 1) (.int .i64 key)
      obtain ⟨s3, z3⟩ := s2.stored (k * 5 + 2) (.string text)
      obtain ⟨s4, z4⟩ := s3.stored (k * 5 + 3) (.slice B0 np f0)
      obtain ⟨s5, z5⟩ := s4.stored (k * 5 + 4) (.slice B1 nk f1)
      go_roundw
      case rel =>
        have hsz : ∀ (W : World) (p : Addr) (u : Value), (W.setCell p u).heap.size = W.heap.size := fun W p u => by simp [World.setCell]
        refine ⟨k + 1, _, fun i => if i = k then [.int .i64 tag, .int .i64 key, .string text, .slice B0 np f0, .slice B1 nk f1] else hdr i, fun i => if i = k then wr.heap.size else P i, fun i => if i = k then w2.heap.size else Q i, by omega, by go_num, s5, Lib.hid (fun i hi j hj => ?_), Lib.hid (fun i x hi hx => ?_), Lib.hid (fun i hi => ?_), Lib.hid (fun i j hij hj => ?_), Lib.hid (fun i hi j hj => ?_), ((((HB2.out.setCell hg1 _).setCell hg1 _).setCell hg1 _).setCell hg1 _).setCell hg1 _⟩
        · by_cases hik : i = k
          · subst hik
            simp only [↓reduceIte]
            match j, hj with
            | 0, _ => (repeat (rw [List.getElem?_set_ne (by omega)])); rw [show i * 5 + 0 = i * 5 from rfl, List.getElem?_set_self (by first | omega | (simp; omega))]; rfl
            | 1, _ => (repeat (rw [List.getElem?_set_ne (by omega)])); rw [List.getElem?_set_self (by first | omega | (simp; omega))]; rfl
            | 2, _ => (repeat (rw [List.getElem?_set_ne (by omega)])); rw [List.getElem?_set_self (by first | omega | (simp; omega))]; rfl
            | 3, _ => (repeat (rw [List.getElem?_set_ne (by omega)])); rw [List.getElem?_set_self (by first | omega | (simp; omega))]; rfl
            | 4, _ => rw [List.getElem?_set_self (by first | omega | (simp; omega))]; rfl
          · simp only [if_neg hik]
            rw [List.getElem?_set_ne (by omega), List.getElem?_set_ne (by omega), List.getElem?_set_ne (by omega), List.getElem?_set_ne (by omega), List.getElem?_set_ne (by omega)]
            exact HH.out i (by omega) j hj
        · by_cases hik : i = k
          · subst hik
            simp only [↓reduceIte]
            have e := HXK.out
            rw [hx] at e
            injection e with e
            subst e
            refine TrO.kept (w := w2) ?_ (fun b hb _ => by rw [Below.heap_setCell _ _ _ b (by simp <;> omega), Below.heap_setCell _ _ _ b (by simp <;> omega), Below.heap_setCell _ _ _ b (by simp <;> omega), Below.heap_setCell _ _ _ b (by simp <;> omega), Below.heap_setCell _ _ _ b (by simp <;> omega)])
            exact HTO.out
          · simp only [if_neg hik]
            have hq := HPQ.out i (by omega)
            refine TrO.kept (w := w2) (HT2.out i x (by omega) hx) (fun b hb _ => by rw [Below.heap_setCell _ _ _ b (by simp <;> omega), Below.heap_setCell _ _ _ b (by simp <;> omega), Below.heap_setCell _ _ _ b (by simp <;> omega), Below.heap_setCell _ _ _ b (by simp <;> omega), Below.heap_setCell _ _ _ b (by simp <;> omega)])
        · simp only [hsz]
          by_cases hik : i = k
          · subst hik
            simp only [↓reduceIte]
            omega
          · simp only [if_neg hik]
            have hq := HPQ.out i (by omega)
            omega
        · by_cases hjk : j = k
          · subst hjk
            have hq := HPQ.out i (by omega)
            simp only [↓reduceIte, if_neg (show i ≠ j by omega)]
            omega
          · simp only [if_neg hjk, if_neg (show i ≠ k by omega)]
            exact HAP.out i j hij (by omega)
        · rw [List.getElem?_set_ne (by omega), List.getElem?_set_ne (by omega), List.getElem?_set_ne (by omega), List.getElem?_set_ne (by omega), List.getElem?_set_ne (by omega)]
          exact HU.out i (by omega) j hj
      case measure => simp [intOf]; omega
    · obtain rfl : k = n := by omega
      clear hown
      go_wp2_with fail
      go_ret
      have hxl := HN.out
      refine ⟨some ⟨g, 0, none⟩, c', rfl, ⟨hdr, P, Q, ⟨fun h0 => ⟨g, L, rfl, hg1, hg2, fun i hi => by have := HPQ.out i (by omega); omega, by rw [hxl]; exact own_zero HO2.out, fun i hi j hj => HH.out i (by omega) j hj⟩, fun i hi => by have := HPQ.out i (by omega); omega, fun i j hij hj => HAP.out i j hij (by omega), fun i x hx => HT.out i x (by rw [← hxl]; exact (List.getElem?_eq_some_iff.1 hx).1) hx⟩⟩, hB⟩
set_option maxRecDepth 100000 in
set_option maxHeartbeats 2000000 in
theorem copyTree_own (t : Tr) : MiT t → CpOT t := by
  induction t using Tr.by_kids with
  | h t ih =>
  intro hmi A0 A1 c0 c1 w hp hk
  obtain ⟨s1, s3, s4⟩ := hmi.open_
  have HIK := Lib.hid (fun w hw => copyAll_own A1 c1 t.ks.length t.ks (fun x hx => ih x hx (s4 x hx)) w hw rfl s3)
  have HIP := Lib.hid (fun w hw => cloneProps_own A0 c0 t.ps.length t.ps w hw rfl s1)
  have HP := Lib.hid (fun W (hb : Below w.heap.size w W) => hp.below hb)
  have HK := Lib.hid (fun W (hb : Below w.heap.size w W) => hk.below hb)
  have hT : ∀ (B0 B1 : Option Addr) (f0 f1 m : Nat) (hdr : Nat → List Value) (P Q : Nat → Nat) (w' : World), w.heap.size ≤ m → m ≤ w'.heap.size → PrO w' w.heap.size m B0 f0 t.ps → KdO w' m w'.heap.size B1 f1 hdr P Q t.ks → Below w.heap.size w w' → CpO t w (.returned (.agg #[.int .i64 t.tag, .int .i64 t.key, .string t.text, .slice B0 t.ps.length f0, .slice B1 t.ks.length f1])) w' := fun B0 B1 f0 f1 m hdr P Q w' h1 h2 hp hk hb => ⟨B0, f0, B1, f1, rfl, TrO.shut h1 h2 hp hk, hb⟩
  obtain ⟨Q, hQ⟩ : ∃ Q, CpO t w = Q := ⟨_, rfl⟩
  rw [hQ] at hT ⊢
  have HQ := Lib.hid hT
  clear hp hk ih s1 s3 s4 hmi hT hQ
  obtain ⟨tag, key, text, ps, ks⟩ := t
  dsimp only [Tr.tag, Tr.key, Tr.text, Tr.ps, Tr.ks] at *
  have hcs : ∀ n xs w e w', CpsO n xs w e w' → ∃ A' c', e = .returned (.slice A' n c') ∧ (∃ hdr P Q, KdO w' w.heap.size w'.heap.size A' c' hdr P Q xs) ∧ Below w.heap.size w w' := fun _ _ _ _ _ h => h
  obtain ⟨np, hnp⟩ : ∃ q, ps.length = q := ⟨_, rfl⟩
  obtain ⟨nk, hnk⟩ : ∃ q, ks.length = q := ⟨_, rfl⟩
  rw [hnp] at HIP HQ ⊢
  rw [hnk] at HIK HQ ⊢
  clear hnp hnk
  have hb0 : Below w.heap.size w ((w.alloc (.cells #[.int .i64 tag, .int .i64 key, .string text, .slice A0 np c0, .slice A1 nk c1] 26)).alloc (.cells #[.int .i64 0, .int .i64 0, .string ⟨#[]⟩, .slice none 0 0, .slice none 0 0] 26)) := (Below.alloc (Below.refl w.heap.size w) (Nat.le_refl _) _).alloc (by simp) _
  have a0 : ((w.alloc (.cells #[.int .i64 tag, .int .i64 key, .string text, .slice A0 np c0, .slice A1 nk c1] 26)).alloc (.cells #[.int .i64 0, .int .i64 0, .string ⟨#[]⟩, .slice none 0 0, .slice none 0 0] 26)).cell? ⟨w.heap.size, 0, none⟩ = some (.int .i64 tag) := by go_simp
  have a1 : ((w.alloc (.cells #[.int .i64 tag, .int .i64 key, .string text, .slice A0 np c0, .slice A1 nk c1] 26)).alloc (.cells #[.int .i64 0, .int .i64 0, .string ⟨#[]⟩, .slice none 0 0, .slice none 0 0] 26)).cell? ⟨w.heap.size, 1, none⟩ = some (.int .i64 key) := by go_simp
  have a2 : ((w.alloc (.cells #[.int .i64 tag, .int .i64 key, .string text, .slice A0 np c0, .slice A1 nk c1] 26)).alloc (.cells #[.int .i64 0, .int .i64 0, .string ⟨#[]⟩, .slice none 0 0, .slice none 0 0] 26)).cell? ⟨w.heap.size, 2, none⟩ = some (.string text) := by go_simp
  have a3 : ((w.alloc (.cells #[.int .i64 tag, .int .i64 key, .string text, .slice A0 np c0, .slice A1 nk c1] 26)).alloc (.cells #[.int .i64 0, .int .i64 0, .string ⟨#[]⟩, .slice none 0 0, .slice none 0 0] 26)).cell? ⟨w.heap.size, 3, none⟩ = some (.slice A0 np c0) := by go_simp
  have a4 : ((w.alloc (.cells #[.int .i64 tag, .int .i64 key, .string text, .slice A0 np c0, .slice A1 nk c1] 26)).alloc (.cells #[.int .i64 0, .int .i64 0, .string ⟨#[]⟩, .slice none 0 0, .slice none 0 0] 26)).cell? ⟨w.heap.size, 4, none⟩ = some (.slice A1 nk c1) := by go_simp
  have z0 : ((w.alloc (.cells #[.int .i64 tag, .int .i64 key, .string text, .slice A0 np c0, .slice A1 nk c1] 26)).alloc (.cells #[.int .i64 0, .int .i64 0, .string ⟨#[]⟩, .slice none 0 0, .slice none 0 0] 26)).cell? ⟨w.heap.size + 1, 0, none⟩ = some (.int .i64 0) := by go_simp
  have z1 : ((w.alloc (.cells #[.int .i64 tag, .int .i64 key, .string text, .slice A0 np c0, .slice A1 nk c1] 26)).alloc (.cells #[.int .i64 0, .int .i64 0, .string ⟨#[]⟩, .slice none 0 0, .slice none 0 0] 26)).cell? ⟨w.heap.size + 1, 1, none⟩ = some (.int .i64 0) := by go_simp
  have z2 : ((w.alloc (.cells #[.int .i64 tag, .int .i64 key, .string text, .slice A0 np c0, .slice A1 nk c1] 26)).alloc (.cells #[.int .i64 0, .int .i64 0, .string ⟨#[]⟩, .slice none 0 0, .slice none 0 0] 26)).cell? ⟨w.heap.size + 1, 2, none⟩ = some (.string ⟨#[]⟩) := by go_simp
  have z3 : ((w.alloc (.cells #[.int .i64 tag, .int .i64 key, .string text, .slice A0 np c0, .slice A1 nk c1] 26)).alloc (.cells #[.int .i64 0, .int .i64 0, .string ⟨#[]⟩, .slice none 0 0, .slice none 0 0] 26)).cell? ⟨w.heap.size + 1, 3, none⟩ = some (.slice none 0 0) := by go_simp
  have z4 : ((w.alloc (.cells #[.int .i64 tag, .int .i64 key, .string text, .slice A0 np c0, .slice A1 nk c1] 26)).alloc (.cells #[.int .i64 0, .int .i64 0, .string ⟨#[]⟩, .slice none 0 0, .slice none 0 0] 26)).cell? ⟨w.heap.size + 1, 4, none⟩ = some (.slice none 0 0) := by go_simp
  have af : ∀ o, ((w.alloc (.cells #[.int .i64 tag, .int .i64 key, .string text, .slice A0 np c0, .slice A1 nk c1] 26)).alloc (.cells #[.int .i64 0, .int .i64 0, .string ⟨#[]⟩, .slice none 0 0, .slice none 0 0] 26)).frozen? ⟨w.heap.size, o, none⟩ = false := fun o => by go_simp
  have zf : ∀ o, ((w.alloc (.cells #[.int .i64 tag, .int .i64 key, .string text, .slice A0 np c0, .slice A1 nk c1] 26)).alloc (.cells #[.int .i64 0, .int .i64 0, .string ⟨#[]⟩, .slice none 0 0, .slice none 0 0] 26)).frozen? ⟨w.heap.size + 1, o, none⟩ = false := fun o => by go_simp
  have hlt : w.heap.size + 1 < ((w.alloc (.cells #[.int .i64 tag, .int .i64 key, .string text, .slice A0 np c0, .slice A1 nk c1] 26)).alloc (.cells #[.int .i64 0, .int .i64 0, .string ⟨#[]⟩, .slice none 0 0, .slice none 0 0] 26)).heap.size := by simp
  have HB0 := Lib.hid hb0
  obtain ⟨wb, hwb⟩ : ∃ v, ((w.alloc (.cells #[.int .i64 tag, .int .i64 key, .string text, .slice A0 np c0, .slice A1 nk c1] 26)).alloc (.cells #[.int .i64 0, .int .i64 0, .string ⟨#[]⟩, .slice none 0 0, .slice none 0 0] 26)) = v := ⟨_, rfl⟩
  rw [hwb] at a0 a1 a2 a3 a4 z0 z1 z2 z3 z4 af zf hlt HB0
  clear hb0
  go_enter Tryd.func52, Tryd.ntmps52
  go_wp2_with fail
  refine (HIP.out _ (HP.out _ HB0.out)).mono ?_
  rintro e w1 ⟨B0, f0, rfl, hb, hpp⟩
  replace a0 := (hb.cell (p := ⟨w.heap.size, 0, none⟩) (by first | omega | (simp; omega))).trans a0
  replace a1 := (hb.cell (p := ⟨w.heap.size, 1, none⟩) (by first | omega | (simp; omega))).trans a1
  replace a2 := (hb.cell (p := ⟨w.heap.size, 2, none⟩) (by first | omega | (simp; omega))).trans a2
  replace a3 := (hb.cell (p := ⟨w.heap.size, 3, none⟩) (by first | omega | (simp; omega))).trans a3
  replace a4 := (hb.cell (p := ⟨w.heap.size, 4, none⟩) (by first | omega | (simp; omega))).trans a4
  replace af := fun o => (hb.frozen (p := ⟨w.heap.size, o, none⟩) (by first | omega | (simp; omega))).trans (af o)
  replace z0 := (hb.cell (p := ⟨w.heap.size + 1, 0, none⟩) (by first | omega | (simp; omega))).trans z0
  replace z1 := (hb.cell (p := ⟨w.heap.size + 1, 1, none⟩) (by first | omega | (simp; omega))).trans z1
  replace z2 := (hb.cell (p := ⟨w.heap.size + 1, 2, none⟩) (by first | omega | (simp; omega))).trans z2
  replace z3 := (hb.cell (p := ⟨w.heap.size + 1, 3, none⟩) (by first | omega | (simp; omega))).trans z3
  replace z4 := (hb.cell (p := ⟨w.heap.size + 1, 4, none⟩) (by first | omega | (simp; omega))).trans z4
  replace zf := fun o => (hb.frozen (p := ⟨w.heap.size + 1, o, none⟩) (by first | omega | (simp; omega))).trans (zf o)
  have HB1 := Lib.hid (more HB0.out (Nat.le_refl _) hb)
  have HPP := Lib.hid hpp
  have hlw := Nat.lt_of_lt_of_le hlt (Nat.le_refl _)
  obtain ⟨sb, hsb⟩ : ∃ v, wb.heap.size = v := ⟨_, rfl⟩
  obtain ⟨s1, hs1⟩ : ∃ v, w1.heap.size = v := ⟨_, rfl⟩
  rw [hsb, hs1] at HPP
  have hlsb : w.heap.size + 1 < sb := by omega
  have hlt1 := Nat.lt_of_lt_of_le hlt hb.size
  clear hb hpp hwb hlt HIP HP hlw hsb
  go_wp2_with fail
  have y0 : (w1.setCell ⟨w.heap.size, 3, none⟩ (.slice B0 np f0)).cell? ⟨w.heap.size, 0, none⟩ = some (.int .i64 tag) := by go_simp
  have y1 : (w1.setCell ⟨w.heap.size, 3, none⟩ (.slice B0 np f0)).cell? ⟨w.heap.size, 1, none⟩ = some (.int .i64 key) := by go_simp
  have y2 : (w1.setCell ⟨w.heap.size, 3, none⟩ (.slice B0 np f0)).cell? ⟨w.heap.size, 2, none⟩ = some (.string text) := by go_simp
  have y3 : (w1.setCell ⟨w.heap.size, 3, none⟩ (.slice B0 np f0)).cell? ⟨w.heap.size, 3, none⟩ = some (.slice B0 np f0) := by go_simp
  have y4 : (w1.setCell ⟨w.heap.size, 3, none⟩ (.slice B0 np f0)).cell? ⟨w.heap.size, 4, none⟩ = some (.slice A1 nk c1) := by go_simp
  replace z0 : (w1.setCell ⟨w.heap.size, 3, none⟩ (.slice B0 np f0)).cell? ⟨w.heap.size + 1, 0, none⟩ = some (.int .i64 0) := by go_simp
  replace z1 : (w1.setCell ⟨w.heap.size, 3, none⟩ (.slice B0 np f0)).cell? ⟨w.heap.size + 1, 1, none⟩ = some (.int .i64 0) := by go_simp
  replace z2 : (w1.setCell ⟨w.heap.size, 3, none⟩ (.slice B0 np f0)).cell? ⟨w.heap.size + 1, 2, none⟩ = some (.string ⟨#[]⟩) := by go_simp
  replace z3 : (w1.setCell ⟨w.heap.size, 3, none⟩ (.slice B0 np f0)).cell? ⟨w.heap.size + 1, 3, none⟩ = some (.slice none 0 0) := by go_simp
  replace z4 : (w1.setCell ⟨w.heap.size, 3, none⟩ (.slice B0 np f0)).cell? ⟨w.heap.size + 1, 4, none⟩ = some (.slice none 0 0) := by go_simp
  replace af : ∀ o, (w1.setCell ⟨w.heap.size, 3, none⟩ (.slice B0 np f0)).frozen? ⟨w.heap.size, o, none⟩ = false := fun o => by simp only [World.frozen?_setCell]; exact af o
  replace zf : ∀ o, (w1.setCell ⟨w.heap.size, 3, none⟩ (.slice B0 np f0)).frozen? ⟨w.heap.size + 1, o, none⟩ = false := fun o => by simp only [World.frozen?_setCell]; exact zf o
  have HB2 := Lib.hid (HB1.out.setCell (p := ⟨w.heap.size, 3, none⟩) (Nat.le_refl _) (.slice B0 np f0))
  have HPP2 := Lib.hid (PrO.kept (w' := (w1.setCell ⟨w.heap.size, 3, none⟩ (.slice B0 np f0))) HPP.out (fun b hb _ => Below.heap_setCell _ _ _ b (by simp <;> omega)))
  have hs1w : s1 ≤ (w1.setCell ⟨w.heap.size, 3, none⟩ (.slice B0 np f0)).heap.size := by simp [World.setCell]; omega
  have hlt2 : w.heap.size + 1 < (w1.setCell ⟨w.heap.size, 3, none⟩ (.slice B0 np f0)).heap.size := by simp [World.setCell]; omega
  clear a0 a1 a2 a3 a4 HPP HB1
  have a0 := y0
  have a1 := y1
  have a2 := y2
  have a3 := y3
  have a4 := y4
  clear y0 y1 y2 y3 y4
  obtain ⟨ws, hws⟩ : ∃ ws, (w1.setCell ⟨w.heap.size, 3, none⟩ (.slice B0 np f0)) = ws := ⟨_, rfl⟩
  rw [hws] at a0 a1 a2 a3 a4 z0 z1 z2 z3 z4 af zf HB2 HPP2 hlt2 hs1w ⊢
  clear hws hs1
  refine (HIK.out _ (HK.out _ HB2.out)).mono ?_
  intro e w2 hq
  obtain ⟨B1, f1, rfl, ⟨hdr, P, Q2, hkk⟩, hb⟩ := hcs _ _ _ _ _ hq
  replace a0 := (hb.cell (p := ⟨w.heap.size, 0, none⟩) (by first | omega | (simp; omega))).trans a0
  replace a1 := (hb.cell (p := ⟨w.heap.size, 1, none⟩) (by first | omega | (simp; omega))).trans a1
  replace a2 := (hb.cell (p := ⟨w.heap.size, 2, none⟩) (by first | omega | (simp; omega))).trans a2
  replace a3 := (hb.cell (p := ⟨w.heap.size, 3, none⟩) (by first | omega | (simp; omega))).trans a3
  replace a4 := (hb.cell (p := ⟨w.heap.size, 4, none⟩) (by first | omega | (simp; omega))).trans a4
  replace af := fun o => (hb.frozen (p := ⟨w.heap.size, o, none⟩) (by first | omega | (simp; omega))).trans (af o)
  replace z0 := (hb.cell (p := ⟨w.heap.size + 1, 0, none⟩) (by first | omega | (simp; omega))).trans z0
  replace z1 := (hb.cell (p := ⟨w.heap.size + 1, 1, none⟩) (by first | omega | (simp; omega))).trans z1
  replace z2 := (hb.cell (p := ⟨w.heap.size + 1, 2, none⟩) (by first | omega | (simp; omega))).trans z2
  replace z3 := (hb.cell (p := ⟨w.heap.size + 1, 3, none⟩) (by first | omega | (simp; omega))).trans z3
  replace z4 := (hb.cell (p := ⟨w.heap.size + 1, 4, none⟩) (by first | omega | (simp; omega))).trans z4
  replace zf := fun o => (hb.frozen (p := ⟨w.heap.size + 1, o, none⟩) (by first | omega | (simp; omega))).trans (zf o)
  have HB3 := Lib.hid (more HB2.out (Nat.le_refl _) hb)
  have HPP3 := Lib.hid (HPP2.out.kept (fun b _ hb2 => hb.block b (by omega)))
  have hsw := hb.size
  have HKK := Lib.hid hkk
  have hlt3 := Nat.lt_of_lt_of_le hlt2 hb.size
  clear hkk hb HB2 HPP2 hq HIK HK
  go_wp2_with fail
  refine bodyPost_ret (v := .agg #[.int .i64 tag, .int .i64 key, .string text, .slice B0 np f0, .slice B1 nk f1]) (by simp [results, Tryd.results52, go_sem, a0, a1, a2, a3, a4, z0, z1, z2, z3, z4, af, zf]) rfl (HQ.out B0 B1 f0 f1 ws.heap.size hdr P Q2 _ (by omega) (by simp only [World.size_setCell]; omega) ?_ ?_ ?_)
  · intro h0
    obtain ⟨b, e, x1, x2, ho⟩ := HPP3.out h0
    refine ⟨b, e, by omega, Nat.lt_of_lt_of_le x2 hs1w, own_moved ho ?_⟩
    rw [Below.heap_setCell _ _ _ b (by first | omega | (simp; omega) | (simp <;> omega)), Below.heap_setCell _ _ _ b (by first | omega | (simp; omega) | (simp <;> omega)), Below.heap_setCell _ _ _ b (by first | omega | (simp; omega) | (simp <;> omega)), Below.heap_setCell _ _ _ b (by first | omega | (simp; omega) | (simp <;> omega)), Below.heap_setCell _ _ _ b (by first | omega | (simp; omega) | (simp <;> omega)), Below.heap_setCell _ _ _ b (by first | omega | (simp; omega) | (simp <;> omega))]
  · simp only [World.size_setCell]
    refine KdO.kept (w := w2) HKK.out (fun b hb _ => ?_)
    rw [Below.heap_setCell _ _ _ b (by first | omega | (simp; omega) | (simp <;> omega)), Below.heap_setCell _ _ _ b (by first | omega | (simp; omega) | (simp <;> omega)), Below.heap_setCell _ _ _ b (by first | omega | (simp; omega) | (simp <;> omega)), Below.heap_setCell _ _ _ b (by first | omega | (simp; omega) | (simp <;> omega)), Below.heap_setCell _ _ _ b (by first | omega | (simp; omega) | (simp <;> omega)), Below.heap_setCell _ _ _ b (by first | omega | (simp; omega) | (simp <;> omega))]
  · exact ((((((HB3.out.setCell (by first | omega | (simp <;> omega)) _).setCell (by first | omega | (simp <;> omega)) _).setCell (by first | omega | (simp <;> omega)) _).setCell (by first | omega | (simp <;> omega)) _).setCell (by first | omega | (simp <;> omega)) _).setCell (by first | omega | (simp <;> omega)) _)
/-- What TreeAt answers: a copy of the part, in memory of its own; or none. -/
def TaO (t : Tr) (zs : List Int) (w : World) (e : Ending) (w' : World) : Prop :=
  Below w.heap.size w w' ∧ ((atV t zs = none ∧ e = .returned (.tuple #[.agg #[.int .i64 0, .int .i64 0, .string ⟨#[]⟩, .slice none 0 0, .slice none 0 0], .bool false])) ∨ ∃ (x : Tr) (B0 B1 : Option Addr) (f0 f1 : Nat), atV t zs = some x ∧ e = .returned (.tuple #[.agg #[.int .i64 x.tag, .int .i64 x.key, .string x.text, .slice B0 x.ps.length f0, .slice B1 x.ks.length f1], .bool true]) ∧ TrO w' w.heap.size w'.heap.size [.int .i64 x.tag, .int .i64 x.key, .string x.text, .slice B0 x.ps.length f0, .slice B1 x.ks.length f1] x)
set_option maxRecDepth 100000 in
set_option maxHeartbeats 2000000 in
theorem iTreeAt_own (V : World → Prop) (hV : ShOk V) (t : Tr) (hsm : SmT t) (hkw : KwT t) (zs : List Int) (hzl : zs.length ≤ maxLen) : ∀ (A A0 A1 : Option Addr) (c c0 c1 : Nat) (w : World), V w → PrL w A0 t.ps → TrL w 0 A1 t.ks → IntL w A zs →
    Calls Tryd.prog 19 #[.agg #[.int .i64 t.tag, .int .i64 t.key, .string t.text, .slice A0 t.ps.length c0, .slice A1 t.ks.length c1], .slice A zs.length c] w (TaO t zs w) := by
  intro A A0 A1 c c0 c1 w hv hp hk hz
  have k1 := fun w hv hp hk => iTreeOk_any V hV t hsm hkw A0 A1 c0 c1 w hv hp hk
  unfold maxLen at hzl
  have HTX := Lib.hid (show ∀ e w', Below w.heap.size w w' ∧ ((atV t zs = none ∧ e = .returned (.tuple #[.agg #[.int .i64 0, .int .i64 0, .string ⟨#[]⟩, .slice none 0 0, .slice none 0 0], .bool false])) ∨ ∃ (x : Tr) (B0 B1 : Option Addr) (f0 f1 : Nat), atV t zs = some x ∧ e = .returned (.tuple #[.agg #[.int .i64 x.tag, .int .i64 x.key, .string x.text, .slice B0 x.ps.length f0, .slice B1 x.ks.length f1], .bool true]) ∧ TrO w' w.heap.size w'.heap.size [.int .i64 x.tag, .int .i64 x.key, .string x.text, .slice B0 x.ps.length f0, .slice B1 x.ks.length f1] x) → TaO t zs w e w' from fun e w' h => h)
  obtain ⟨Q, hQ⟩ : ∃ Q, TaO t zs w = Q := ⟨_, rfl⟩
  rw [hQ] at HTX ⊢
  clear hQ
  obtain ⟨n, hn⟩ : ∃ n, zs.length = n := ⟨_, rfl⟩
  have HN := Lib.hid hn
  rw [hn] at hzl ⊢
  have hb0 : Below w.heap.size w ((w.alloc (.cells #[.int .i64 t.tag, .int .i64 t.key, .string t.text, .slice A0 t.ps.length c0, .slice A1 t.ks.length c1] 26)).alloc (.cells #[.int .i64 0, .int .i64 0, .string ⟨#[]⟩, .slice none 0 0, .slice none 0 0] 26)) := (Below.alloc (Below.refl w.heap.size w) (Nat.le_refl _) _).alloc (by simp) _
  have d0 : ((w.alloc (.cells #[.int .i64 t.tag, .int .i64 t.key, .string t.text, .slice A0 t.ps.length c0, .slice A1 t.ks.length c1] 26)).alloc (.cells #[.int .i64 0, .int .i64 0, .string ⟨#[]⟩, .slice none 0 0, .slice none 0 0] 26)).cell? ⟨w.heap.size, 0, none⟩ = some (.int .i64 t.tag) := by go_simp
  have d1 : ((w.alloc (.cells #[.int .i64 t.tag, .int .i64 t.key, .string t.text, .slice A0 t.ps.length c0, .slice A1 t.ks.length c1] 26)).alloc (.cells #[.int .i64 0, .int .i64 0, .string ⟨#[]⟩, .slice none 0 0, .slice none 0 0] 26)).cell? ⟨w.heap.size, 1, none⟩ = some (.int .i64 t.key) := by go_simp
  have d2 : ((w.alloc (.cells #[.int .i64 t.tag, .int .i64 t.key, .string t.text, .slice A0 t.ps.length c0, .slice A1 t.ks.length c1] 26)).alloc (.cells #[.int .i64 0, .int .i64 0, .string ⟨#[]⟩, .slice none 0 0, .slice none 0 0] 26)).cell? ⟨w.heap.size, 2, none⟩ = some (.string t.text) := by go_simp
  have d3 : ((w.alloc (.cells #[.int .i64 t.tag, .int .i64 t.key, .string t.text, .slice A0 t.ps.length c0, .slice A1 t.ks.length c1] 26)).alloc (.cells #[.int .i64 0, .int .i64 0, .string ⟨#[]⟩, .slice none 0 0, .slice none 0 0] 26)).cell? ⟨w.heap.size, 3, none⟩ = some (.slice A0 t.ps.length c0) := by go_simp
  have d4 : ((w.alloc (.cells #[.int .i64 t.tag, .int .i64 t.key, .string t.text, .slice A0 t.ps.length c0, .slice A1 t.ks.length c1] 26)).alloc (.cells #[.int .i64 0, .int .i64 0, .string ⟨#[]⟩, .slice none 0 0, .slice none 0 0] 26)).cell? ⟨w.heap.size, 4, none⟩ = some (.slice A1 t.ks.length c1) := by go_simp
  have z0 : ((w.alloc (.cells #[.int .i64 t.tag, .int .i64 t.key, .string t.text, .slice A0 t.ps.length c0, .slice A1 t.ks.length c1] 26)).alloc (.cells #[.int .i64 0, .int .i64 0, .string ⟨#[]⟩, .slice none 0 0, .slice none 0 0] 26)).cell? ⟨w.heap.size + 1, 0, none⟩ = some (.int .i64 0) := by go_simp
  have z1 : ((w.alloc (.cells #[.int .i64 t.tag, .int .i64 t.key, .string t.text, .slice A0 t.ps.length c0, .slice A1 t.ks.length c1] 26)).alloc (.cells #[.int .i64 0, .int .i64 0, .string ⟨#[]⟩, .slice none 0 0, .slice none 0 0] 26)).cell? ⟨w.heap.size + 1, 1, none⟩ = some (.int .i64 0) := by go_simp
  have z2 : ((w.alloc (.cells #[.int .i64 t.tag, .int .i64 t.key, .string t.text, .slice A0 t.ps.length c0, .slice A1 t.ks.length c1] 26)).alloc (.cells #[.int .i64 0, .int .i64 0, .string ⟨#[]⟩, .slice none 0 0, .slice none 0 0] 26)).cell? ⟨w.heap.size + 1, 2, none⟩ = some (.string ⟨#[]⟩) := by go_simp
  have z3 : ((w.alloc (.cells #[.int .i64 t.tag, .int .i64 t.key, .string t.text, .slice A0 t.ps.length c0, .slice A1 t.ks.length c1] 26)).alloc (.cells #[.int .i64 0, .int .i64 0, .string ⟨#[]⟩, .slice none 0 0, .slice none 0 0] 26)).cell? ⟨w.heap.size + 1, 3, none⟩ = some (.slice none 0 0) := by go_simp
  have z4 : ((w.alloc (.cells #[.int .i64 t.tag, .int .i64 t.key, .string t.text, .slice A0 t.ps.length c0, .slice A1 t.ks.length c1] 26)).alloc (.cells #[.int .i64 0, .int .i64 0, .string ⟨#[]⟩, .slice none 0 0, .slice none 0 0] 26)).cell? ⟨w.heap.size + 1, 4, none⟩ = some (.slice none 0 0) := by go_simp
  have f2 : ∀ o, ((w.alloc (.cells #[.int .i64 t.tag, .int .i64 t.key, .string t.text, .slice A0 t.ps.length c0, .slice A1 t.ks.length c1] 26)).alloc (.cells #[.int .i64 0, .int .i64 0, .string ⟨#[]⟩, .slice none 0 0, .slice none 0 0] 26)).frozen? ⟨w.heap.size, o, none⟩ = false := fun o => by go_simp
  have f4 : ∀ o, ((w.alloc (.cells #[.int .i64 t.tag, .int .i64 t.key, .string t.text, .slice A0 t.ps.length c0, .slice A1 t.ks.length c1] 26)).alloc (.cells #[.int .i64 0, .int .i64 0, .string ⟨#[]⟩, .slice none 0 0, .slice none 0 0] 26)).frozen? ⟨w.heap.size + 1, o, none⟩ = false := fun o => by go_simp
  have hsz : w.heap.size + 1 < ((w.alloc (.cells #[.int .i64 t.tag, .int .i64 t.key, .string t.text, .slice A0 t.ps.length c0, .slice A1 t.ks.length c1] 26)).alloc (.cells #[.int .i64 0, .int .i64 0, .string ⟨#[]⟩, .slice none 0 0, .slice none 0 0] 26)).heap.size := by simp
  have HB0 := Lib.hid hb0
  have K1 := Lib.hid (k1 _ (hV.stays _ _ hv hb0) (hp.below hb0) (hk.below hb0))
  have HZ := Lib.hid hz
  have HP := Lib.hid hp
  have HK := Lib.hid hk
  have HS := Lib.hid hsm
  have HAV := Lib.hid (show ∀ v, treeOkB t = v → atV t zs = if v = true then atT t zs else none from fun v hv => by unfold atV; rw [hv])
  obtain ⟨wb, hwb⟩ : ∃ v, ((w.alloc (.cells #[.int .i64 t.tag, .int .i64 t.key, .string t.text, .slice A0 t.ps.length c0, .slice A1 t.ks.length c1] 26)).alloc (.cells #[.int .i64 0, .int .i64 0, .string ⟨#[]⟩, .slice none 0 0, .slice none 0 0] 26)) = v := ⟨_, rfl⟩
  rw [hwb] at d0 d1 d2 d3 d4 z0 z1 z2 z3 z4 f2 f4 hsz HB0 K1
  obtain ⟨ok, hok⟩ : ∃ v, treeOkB t = v := ⟨_, rfl⟩
  have HOK := Lib.hid hok
  rw [hok] at K1
  clear hb0 hz hp hk hsm hv hn hok k1
  go_enter Tryd.func19, Tryd.ntmps19
  go_wp2_with fail
  refine K1.out.mono ?_
  rintro e w1 ⟨rfl, hb⟩
  replace d0 := (hb.cell (p := ⟨w.heap.size, 0, none⟩) (by first | omega | (simp; omega))).trans d0
  replace z0 := (hb.cell (p := ⟨w.heap.size + 1, 0, none⟩) (by first | omega | (simp; omega))).trans z0
  replace d1 := (hb.cell (p := ⟨w.heap.size, 1, none⟩) (by first | omega | (simp; omega))).trans d1
  replace z1 := (hb.cell (p := ⟨w.heap.size + 1, 1, none⟩) (by first | omega | (simp; omega))).trans z1
  replace d2 := (hb.cell (p := ⟨w.heap.size, 2, none⟩) (by first | omega | (simp; omega))).trans d2
  replace z2 := (hb.cell (p := ⟨w.heap.size + 1, 2, none⟩) (by first | omega | (simp; omega))).trans z2
  replace d3 := (hb.cell (p := ⟨w.heap.size, 3, none⟩) (by first | omega | (simp; omega))).trans d3
  replace z3 := (hb.cell (p := ⟨w.heap.size + 1, 3, none⟩) (by first | omega | (simp; omega))).trans z3
  replace d4 := (hb.cell (p := ⟨w.heap.size, 4, none⟩) (by first | omega | (simp; omega))).trans d4
  replace z4 := (hb.cell (p := ⟨w.heap.size + 1, 4, none⟩) (by first | omega | (simp; omega))).trans z4
  replace f2 := fun o => (hb.frozen (p := ⟨w.heap.size, o, none⟩) (by first | omega | (simp; omega))).trans (f2 o)
  replace f4 := fun o => (hb.frozen (p := ⟨w.heap.size + 1, o, none⟩) (by first | omega | (simp; omega))).trans (f4 o)
  have HB1 := Lib.hid (more HB0.out (Nat.le_refl _) hb)
  replace hsz := Nat.lt_of_lt_of_le hsz hb.size
  clear hb hwb K1 HB0
  cases ok
  · have HE := Lib.hid ((HAV.out _ HOK.out).trans (if_neg (by decide)))
    clear HAV
    go_wp2_with fail
    refine bodyPost_ret (v := .tuple #[.agg #[.int .i64 0, .int .i64 0, .string ⟨#[]⟩, .slice none 0 0, .slice none 0 0], .bool false]) (by simp [results, Tryd.results19, go_sem, d0, d1, d2, d3, d4, z0, z1, z2, z3, z4, f2, f4]) rfl (HTX.out _ _ ⟨?_, .inl ⟨HE.out, rfl⟩⟩)
    exact ((((HB1.out.setCell (p := ⟨w.heap.size + 1, 0, none⟩) (by simp) _).setCell (p := ⟨w.heap.size + 1, 1, none⟩) (by simp) _).setCell (p := ⟨w.heap.size + 1, 2, none⟩) (by simp) _).setCell (p := ⟨w.heap.size + 1, 3, none⟩) (by simp) _).setCell (p := ⟨w.heap.size + 1, 4, none⟩) (by simp) _
  have HAT := Lib.hid ((HAV.out _ HOK.out).trans (if_pos rfl))
  clear HAV
  go_wp2_with fail
  go_loopw [14] (fun i wr => ∃ (k : Nat) (x : Tr) (A0 A1 : Option Addr) (c0 c1 : Nat), k ≤ n ∧ i = .int .i64 k ∧ Hid (atT x (zs.drop k) = atT t zs) ∧ Hid (SmT x) ∧ Hid (treeOkB x = true) ∧ Hid (PrL w A0 x.ps) ∧ Hid (TrL w 0 A1 x.ks) ∧ wr.cell? ⟨w.heap.size, 0, none⟩ = some (.int .i64 x.tag) ∧ wr.cell? ⟨w.heap.size, 1, none⟩ = some (.int .i64 x.key) ∧ wr.cell? ⟨w.heap.size, 2, none⟩ = some (.string x.text) ∧ wr.cell? ⟨w.heap.size, 3, none⟩ = some (.slice A0 x.ps.length c0) ∧ wr.cell? ⟨w.heap.size, 4, none⟩ = some (.slice A1 x.ks.length c1) ∧ wr.cell? ⟨w.heap.size + 1, 0, none⟩ = some (.int .i64 0) ∧ wr.cell? ⟨w.heap.size + 1, 1, none⟩ = some (.int .i64 0) ∧ wr.cell? ⟨w.heap.size + 1, 2, none⟩ = some (.string ⟨#[]⟩) ∧ wr.cell? ⟨w.heap.size + 1, 3, none⟩ = some (.slice none 0 0) ∧ wr.cell? ⟨w.heap.size + 1, 4, none⟩ = some (.slice none 0 0) ∧ (∀ o, wr.frozen? ⟨w.heap.size, o, none⟩ = false) ∧ (∀ o, wr.frozen? ⟨w.heap.size + 1, o, none⟩ = false) ∧ w.heap.size + 1 < wr.heap.size ∧ Hid (Below w.heap.size w wr)) (fun i _ => n - (intOf i).toNat)
  case atStart => exact ⟨0, t, A0, A1, c0, c1, by omega, rfl, Lib.hid rfl, HS, HOK, HP, HK, d0, d1, d2, d3, d4, z0, z1, z2, z3, z4, f2, f4, hsz, HB1⟩
  case round =>
    clear d0 d1 d2 d3 d4 z0 z1 z2 z3 z4 f2 f4 hsz HB1 HS HOK HP HK
    obtain ⟨k, x, A0, A1, c0, c1, hk, rfl, HE, HS, HOK, HP, HK, d0, d1, d2, d3, d4, z0, z1, z2, z3, z4, f2, f4, hsz, HB⟩ := hrel
    by_cases hlt : k < n
    · obtain ⟨z, hz⟩ := at_some (show k < zs.length by rw [HN.out]; exact hlt)
      obtain ⟨bz, oz, rfl, hbz, ez⟩ := HZ.out.at_ hz
      replace ez := (HB.out.cell (p := ⟨bz, _, none⟩) hbz).trans ez
      have hE := HE.out
      rw [atT_step hz] at hE
      obtain ⟨s0, s1, s2, s3, s4⟩ := HS.out.open_
      have hi1 : (0 : Int) ≤ (k : Int) := by omega
      have hi2 : (k : Int) < (n : Int) := by omega
      have HSK := Lib.hid s4
      unfold maxLen at s3
      clear hz HE s0 s1 s2 s4
      by_cases hr : 0 ≤ z ∧ z ≤ (x.ks.length : Int) - 1
      · obtain ⟨j, rfl⟩ : ∃ j : Nat, z = (j : Int) := ⟨z.toNat, by omega⟩
        rw [if_pos hr, show ((j : Int)).toNat = j by omega] at hE
        obtain ⟨y, hy⟩ := at_some (show j < x.ks.length by omega)
        rw [hy, Option.bind_some] at hE
        obtain ⟨b, off, E0, g0, E1, g1, rfl, hblt, _, e0, e1, e2, e3, e4, hp, _, hks⟩ := HK.out.at_ hy
        replace e0 := (HB.out.cell (p := ⟨b, _, none⟩) hblt).trans e0
        replace e1 := (HB.out.cell (p := ⟨b, _, none⟩) hblt).trans e1
        replace e2 := (HB.out.cell (p := ⟨b, _, none⟩) hblt).trans e2
        replace e3 := (HB.out.cell (p := ⟨b, _, none⟩) hblt).trans e3
        replace e4 := (HB.out.cell (p := ⟨b, _, none⟩) hblt).trans e4
        have HSY := Lib.hid (HSK.out y (List.mem_of_getElem? hy))
        have HOY := Lib.hid (kid_valid HOK.out (List.mem_of_getElem? hy))
        have HPY := Lib.hid hp
        have HKY := Lib.hid hks
        have HEY := Lib.hid hE
        have hj1 : (0 : Int) ≤ (j : Int) := by omega
        have hj2 : (j : Int) < (x.ks.length : Int) := by omega
        have hj3 : (j : Int) ≤ (x.ks.length : Int) - 1 := by omega
        have hne : b ≠ w.heap.size := by omega
        have hne2 : bz ≠ w.heap.size := by omega
        obtain ⟨ln, hln⟩ : ∃ ln, x.ks.length = ln := ⟨_, rfl⟩
        rw [hln] at hj2 hj3 s3 d4
        have U1 := Lib.hid (fun w => (show Calls Tryd.prog 51 #[.int .i64 (j : Int), .int .i64 ((ln : Int) - 1)] w fun e w' => e = .returned (.bool true) ∧ w = w' by have := upTo_any (j : Int) ((ln : Int) - 1) w; rwa [decide_eq_true (show 0 ≤ (j : Int) ∧ (j : Int) ≤ (ln : Int) - 1 by omega)] at this))
        clear hp hks hE hr hy hln HSK HS HP HK HOK
        obtain ⟨yt, yk, ys, yp, yq⟩ := y
        dsimp only [Tr.tag, Tr.key, Tr.text, Tr.ps, Tr.ks] at e0 e1 e2 e3 e4
        go_wp2_with fail
        refine (U1.out _).mono ?_
        rintro e w' ⟨rfl, rfl⟩
        go_wp2_with fail
        go_roundw
        case rel =>
          refine ⟨k + 1, .mk yt yk ys yp yq, E0, E1, g0, g1, by omega, by go_num, HEY, HSY, HOY, HPY, HKY, ?_, ?_, ?_, ?_, ?_, ?_, ?_, ?_, ?_, ?_, fun o => ?_, fun o => ?_, by (simp [World.setCell]; omega), Lib.hid (((((HB.out.setCell (p := ⟨w.heap.size, 0, none⟩) (by simp) _).setCell (p := ⟨w.heap.size, 1, none⟩) (by simp) _).setCell (p := ⟨w.heap.size, 2, none⟩) (by simp) _).setCell (p := ⟨w.heap.size, 3, none⟩) (by simp) _).setCell (p := ⟨w.heap.size, 4, none⟩) (by simp) _)⟩
          all_goals ((try dsimp only [Tr.tag, Tr.key, Tr.text, Tr.ps, Tr.ks]); go_simp)
        case measure => simp [intOf]; omega
      · rw [if_neg hr] at hE
        have HEN := Lib.hid (HAT.out.trans hE.symm)
        obtain ⟨ln, hln⟩ : ∃ ln, x.ks.length = ln := ⟨_, rfl⟩
        rw [hln] at hr s3 d4
        have U1 := Lib.hid (fun w => (show Calls Tryd.prog 51 #[.int .i64 z, .int .i64 ((ln : Int) - 1)] w fun e w' => e = .returned (.bool false) ∧ w = w' by have := upTo_any z ((ln : Int) - 1) w; rwa [decide_eq_false hr] at this))
        clear hE HSK hr hln HOK HS HP HK
        go_wp2_with fail
        refine (U1.out _).mono ?_
        rintro e w' ⟨rfl, rfl⟩
        go_wp2_with fail
        refine bodyPost_ret (v := .tuple #[.agg #[.int .i64 0, .int .i64 0, .string ⟨#[]⟩, .slice none 0 0, .slice none 0 0], .bool false]) (by simp [results, Tryd.results19, go_sem, d0, d1, d2, d3, d4, z0, z1, z2, z3, z4, f2, f4]) rfl (HTX.out _ _ ⟨?_, .inl ⟨HEN.out, rfl⟩⟩)
        exact ((((HB.out.setCell (p := ⟨w.heap.size + 1, 0, none⟩) (by simp) _).setCell (p := ⟨w.heap.size + 1, 1, none⟩) (by simp) _).setCell (p := ⟨w.heap.size + 1, 2, none⟩) (by simp) _).setCell (p := ⟨w.heap.size + 1, 3, none⟩) (by simp) _).setCell (p := ⟨w.heap.size + 1, 4, none⟩) (by simp) _
    · obtain rfl : k = n := by omega
      have hE := HE.out
      rw [← HN.out, List.drop_length, atT] at hE
      have HEN := Lib.hid (HAT.out.trans hE.symm)
      have KC := Lib.hid (fun W hp hk => copyTree_own x (MiT.of_ok x HOK.out) A0 A1 c0 c1 W hp hk)
      have hcx : ∀ W e w', CpO x W e w' → ∃ B0 f0 B1 f1, e = .returned (.agg #[.int .i64 x.tag, .int .i64 x.key, .string x.text, .slice B0 x.ps.length f0, .slice B1 x.ks.length f1]) ∧ TrO w' W.heap.size w'.heap.size [.int .i64 x.tag, .int .i64 x.key, .string x.text, .slice B0 x.ps.length f0, .slice B1 x.ks.length f1] x ∧ Below W.heap.size W w' := fun W e w' h => h
      clear hE HE
      go_wp2_with fail
      refine (KC.out _ (HP.out.below HB.out) (HK.out.below HB.out)).mono ?_
      intro e w2 hq
      obtain ⟨B0, f0, B1, f1, rfl, hto, hb⟩ := hcx _ _ _ hq
      replace z0 := (hb.cell (p := ⟨w.heap.size + 1, 0, none⟩) (by first | omega | (simp; omega))).trans z0
      replace z1 := (hb.cell (p := ⟨w.heap.size + 1, 1, none⟩) (by first | omega | (simp; omega))).trans z1
      replace z2 := (hb.cell (p := ⟨w.heap.size + 1, 2, none⟩) (by first | omega | (simp; omega))).trans z2
      replace z3 := (hb.cell (p := ⟨w.heap.size + 1, 3, none⟩) (by first | omega | (simp; omega))).trans z3
      replace z4 := (hb.cell (p := ⟨w.heap.size + 1, 4, none⟩) (by first | omega | (simp; omega))).trans z4
      replace f4 := fun o => (hb.frozen (p := ⟨w.heap.size + 1, o, none⟩) (by first | omega | (simp; omega))).trans (f4 o)
      have HB2 := Lib.hid (more HB.out (Nat.le_refl _) hb)
      have HTO := Lib.hid hto
      clear hto hb hq hcx KC HP HK
      go_wp2_with fail
      refine bodyPost_ret (v := .tuple #[.agg #[.int .i64 x.tag, .int .i64 x.key, .string x.text, .slice B0 x.ps.length f0, .slice B1 x.ks.length f1], .bool true]) (by simp [results, Tryd.results19, go_sem, z0, z1, z2, z3, z4, f4]) rfl (HTX.out _ _ ⟨?_, .inr ⟨x, B0, B1, f0, f1, HEN.out, rfl, ?_⟩⟩)
      · exact ((((HB2.out.setCell (p := ⟨w.heap.size + 1, 0, none⟩) (by simp) _).setCell (p := ⟨w.heap.size + 1, 1, none⟩) (by simp) _).setCell (p := ⟨w.heap.size + 1, 2, none⟩) (by simp) _).setCell (p := ⟨w.heap.size + 1, 3, none⟩) (by simp) _).setCell (p := ⟨w.heap.size + 1, 4, none⟩) (by simp) _
      · simp only [World.size_setCell]
        refine (TrO.kept (w := w2) HTO.out (fun b hb _ => ?_)).mono (by omega) (Nat.le_refl _)
        rw [Below.heap_setCell _ _ _ b (by first | omega | (simp; omega) | (simp <;> omega)), Below.heap_setCell _ _ _ b (by first | omega | (simp; omega) | (simp <;> omega)), Below.heap_setCell _ _ _ b (by first | omega | (simp; omega) | (simp <;> omega)), Below.heap_setCell _ _ _ b (by first | omega | (simp; omega) | (simp <;> omega)), Below.heap_setCell _ _ _ b (by first | omega | (simp; omega) | (simp <;> omega))]
end Go.Proofs.YtpkhpaioddommaaDoor
