/- The part at a way, by the document's partAt. -/
import Derived.Test.YtcpfjlbicofkeaaDoorTre5
import Derived.Test.YtcpfjlbicofkeaaDoorIntM
import Derived.StillTailTactics
namespace Go.Proofs.YtcpfjlbicofkeaaDoor
open Go.Joins Go.ChangeShapes Go.WideShapes Go.ChangeAt Go.RowKit Go.Deep
set_option linter.unusedVariables false
set_option linter.unusedSimpArgs false

/-- The part at a way, by the document. -/
def atT : Tr → List Int → Option Tr
  | t, [] => some t
  | t, z :: zs => if 0 ≤ z ∧ z ≤ (t.ks.length : Int) - 1 then (t.ks[z.toNat]?).bind (fun x => atT x zs) else none
theorem wrapI {z : Int} (h0 : -9223372036854775808 ≤ z) (h1 : z ≤ 9223372036854775807) : IntKind.i64.wrap z = z := by
  unfold IntKind.wrap; simp [IntKind.bits, IntKind.signed]; omega
theorem atT_step {x : Tr} {zs : List Int} {k : Nat} {z : Int} (hz : zs[k]? = some z) : atT x (zs.drop k) = if 0 ≤ z ∧ z ≤ (x.ks.length : Int) - 1 then (x.ks[z.toNat]?).bind (fun y => atT y (zs.drop (k + 1))) else none := by
  obtain ⟨hk, he⟩ := List.getElem?_eq_some_iff.1 hz
  rw [List.drop_eq_getElem_cons hk, he, atT]
/-- What partAt answers: the part, lying where it lay; or none. -/
def PAtX (t : Tr) (zs : List Int) (w : World) (e : Ending) (w' : World) : Prop :=
  Below w.heap.size w w' ∧ ((atT t zs = none ∧ e = .returned (.tuple #[.agg #[.int .i64 0, .int .i64 0, .string ⟨#[]⟩, .slice none 0 0, .slice none 0 0], .bool false])) ∨ ∃ (x : Tr) (A0 A1 : Option Addr) (c0 c1 : Nat), atT t zs = some x ∧ SmT x ∧ PrL w A0 x.ps ∧ TrL w 0 A1 x.ks ∧ e = .returned (.tuple #[.agg #[.int .i64 x.tag, .int .i64 x.key, .string x.text, .slice A0 x.ps.length c0, .slice A1 x.ks.length c1], .bool true]))
set_option maxRecDepth 100000 in
set_option maxHeartbeats 2000000 in
theorem partAt_any (t : Tr) (hsm : SmT t) (zs : List Int) (hzl : zs.length ≤ maxLen) : ∀ (A A0 A1 : Option Addr) (c c0 c1 : Nat) (w : World), PrL w A0 t.ps → TrL w 0 A1 t.ks → IntL w A zs →
    Calls Tryd.prog 21 #[.agg #[.int .i64 t.tag, .int .i64 t.key, .string t.text, .slice A0 t.ps.length c0, .slice A1 t.ks.length c1], .slice A zs.length c] w (PAtX t zs w) := by
  intro A A0 A1 c c0 c1 w hp hk hz
  unfold maxLen at hzl
  have HP := Lib.hid hp
  have HK := Lib.hid hk
  have HZ := Lib.hid hz
  have HS := Lib.hid hsm
  obtain ⟨n, hn⟩ : ∃ n, zs.length = n := ⟨_, rfl⟩
  have HN := Lib.hid hn
  rw [hn] at hzl ⊢
  clear hp hk hz hsm hn
  have S0 := Lib.hid (fun z a b w => (inRange_any z a b w).mono (fun e w' h => And.intro h.1 h.2.symm))
  go_enter Tryd.func21, Tryd.ntmps21
  go_wp2_with fail
  go_loopw [6] (fun i wr => ∃ (k : Nat) (x : Tr) (A0 A1 : Option Addr) (c0 c1 : Nat), k ≤ n ∧ i = .int .i64 k ∧ Hid (atT x (zs.drop k) = atT t zs) ∧ Hid (SmT x) ∧ Hid (PrL w A0 x.ps) ∧ Hid (TrL w 0 A1 x.ks) ∧ wr.cell? ⟨w.heap.size, 0, none⟩ = some (.int .i64 x.tag) ∧ wr.cell? ⟨w.heap.size, 1, none⟩ = some (.int .i64 x.key) ∧ wr.cell? ⟨w.heap.size, 2, none⟩ = some (.string x.text) ∧ wr.cell? ⟨w.heap.size, 3, none⟩ = some (.slice A0 x.ps.length c0) ∧ wr.cell? ⟨w.heap.size, 4, none⟩ = some (.slice A1 x.ks.length c1) ∧ wr.cell? ⟨w.heap.size + 1, 0, none⟩ = some (.int .i64 0) ∧ wr.cell? ⟨w.heap.size + 1, 1, none⟩ = some (.int .i64 0) ∧ wr.cell? ⟨w.heap.size + 1, 2, none⟩ = some (.string ⟨#[]⟩) ∧ wr.cell? ⟨w.heap.size + 1, 3, none⟩ = some (.slice none 0 0) ∧ wr.cell? ⟨w.heap.size + 1, 4, none⟩ = some (.slice none 0 0) ∧ (∀ o, wr.frozen? ⟨w.heap.size, o, none⟩ = false) ∧ (∀ o, wr.frozen? ⟨w.heap.size + 1, o, none⟩ = false) ∧ w.heap.size + 1 < wr.heap.size ∧ Hid (Below w.heap.size w wr)) (fun i _ => n - (intOf i).toNat)
  case atStart =>
    refine ⟨0, t, A0, A1, c0, c1, by omega, rfl, Lib.hid rfl, HS, HP, HK, ?_, ?_, ?_, ?_, ?_, ?_, ?_, ?_, ?_, ?_, fun o => ?_, fun o => ?_, by simp, Lib.hid (by go_grown)⟩
    all_goals go_simp
  case round =>
    obtain ⟨k, x, A0, A1, c0, c1, hk, rfl, HE, HS, HP, HK, d0, d1, d2, d3, d4, z0, z1, z2, z3, z4, f2, f4, hsz, HB⟩ := hrel
    by_cases hlt : k < n
    · obtain ⟨z, hz⟩ := at_some (show k < zs.length by rw [HN.out]; exact hlt)
      obtain ⟨bz, oz, rfl, hbz, ez⟩ := HZ.out.at_ hz
      replace ez := (HB.out.cell (p := ⟨bz, _, none⟩) hbz).trans ez
      have hE := HE.out
      rw [atT_step hz] at hE
      obtain ⟨s0, s1, s2, s3, s4⟩ := HS.out.open_
      have hi1 : (0 : Int) ≤ (k : Int) := by omega
      have hi2 : (k : Int) < (n : Int) := by omega
      have HSK := Lib.hid s4
      unfold maxLen at s3
      clear hz HE s0 s1 s2 s4
      by_cases hr : 0 ≤ z ∧ z ≤ (x.ks.length : Int) - 1
      · obtain ⟨j, rfl⟩ : ∃ j : Nat, z = (j : Int) := ⟨z.toNat, by omega⟩
        rw [if_pos hr, show ((j : Int)).toNat = j by omega] at hE
        obtain ⟨y, hy⟩ := at_some (show j < x.ks.length by omega)
        rw [hy, Option.bind_some] at hE
        obtain ⟨b, off, E0, g0, E1, g1, rfl, hblt, _, e0, e1, e2, e3, e4, hp, _, hks⟩ := HK.out.at_ hy
        replace e0 := (HB.out.cell (p := ⟨b, _, none⟩) hblt).trans e0
        replace e1 := (HB.out.cell (p := ⟨b, _, none⟩) hblt).trans e1
        replace e2 := (HB.out.cell (p := ⟨b, _, none⟩) hblt).trans e2
        replace e3 := (HB.out.cell (p := ⟨b, _, none⟩) hblt).trans e3
        replace e4 := (HB.out.cell (p := ⟨b, _, none⟩) hblt).trans e4
        have HSY := Lib.hid (HSK.out y (List.mem_of_getElem? hy))
        have HPY := Lib.hid hp
        have HKY := Lib.hid hks
        have HEY := Lib.hid hE
        have hj1 : (0 : Int) ≤ (j : Int) := by omega
        have hj2 : (j : Int) < (x.ks.length : Int) := by omega
        have hw1 : IntKind.i64.wrap ((x.ks.length : Int) - 1) = (x.ks.length : Int) - 1 := wrapI (by omega) (by omega)
        have hj3 : (j : Int) ≤ (x.ks.length : Int) - 1 := by omega
        have hne : b ≠ w.heap.size := by omega
        have hne2 : bz ≠ w.heap.size := by omega
        obtain ⟨ln, hln⟩ : ∃ ln, x.ks.length = ln := ⟨_, rfl⟩
        rw [hln] at hj2 hj3 hw1 s3 d4
        clear hp hks hE hr hy hln HSK HS HP HK
        obtain ⟨yt, yk, ys, yp, yq⟩ := y
        dsimp only [Tr.tag, Tr.key, Tr.text, Tr.ps, Tr.ks] at e0 e1 e2 e3 e4
        go_wp2_with fail
        refine wp_region_still_tail 9 (by kernel_rfl) (by kernel_rfl) ?_
        change wpStill _ _ wr.drew _ _ _
        simp only [List.take_succ_cons, List.take_zero, List.drop_succ_cons, List.drop_zero]
        repeat still_step
        still_call (S0.out _ _ _ _)
        repeat still_step
        refine wpStill_nil ?_
        change wpList _ _ _ _ _ wr.drew
        go_wp2_with fail
        refine wp_region_still_tail 8 (by kernel_rfl) (by kernel_rfl) ?_
        change wpStill _ _ wr.drew.drew _ _ _
        simp only [List.take_succ_cons, List.take_zero, List.drop_succ_cons, List.drop_zero]
        repeat still_step
        refine wpStill_nil ?_
        change wpList _ _ _ _ _ wr.drew.drew
        go_wp2_with fail
        go_roundw
        case rel =>
          refine ⟨k + 1, .mk yt yk ys yp yq, E0, E1, g0, g1, by omega, by go_num, HEY, HSY, HPY, HKY, ?_, ?_, ?_, ?_, ?_, ?_, ?_, ?_, ?_, ?_, fun o => ?_, fun o => ?_, by (simp [World.setCell]; omega), Lib.hid ((((((HB.out.setCell (p := ⟨w.heap.size, 0, none⟩) (by simp) _).setCell (p := ⟨w.heap.size, 1, none⟩) (by simp) _).setCell (p := ⟨w.heap.size, 2, none⟩) (by simp) _).setCell (p := ⟨w.heap.size, 3, none⟩) (by simp) _).setCell (p := ⟨w.heap.size, 4, none⟩) (by simp) _).drew.drew)⟩
          all_goals ((try dsimp only [Tr.tag, Tr.key, Tr.text, Tr.ps, Tr.ks]); go_simp)
        case measure => simp [intOf]; omega
      · rw [if_neg hr] at hE
        have HEN := Lib.hid hE
        have hw1 : IntKind.i64.wrap ((x.ks.length : Int) - 1) = (x.ks.length : Int) - 1 := wrapI (by omega) (by omega)
        clear hE HSK
        have S1 := Lib.hid (fun w => (show Calls Tryd.prog 41 #[.int .i64 z, .int .i64 0, .int .i64 ((x.ks.length : Int) - 1)] w fun e w' => e = .returned (.bool false) ∧ w' = w by have := S0.out z 0 ((x.ks.length : Int) - 1) w; rwa [decide_eq_false hr] at this))
        clear hr
        all_goals
          go_wp2_with fail
          refine wp_region_still_tail 9 (by kernel_rfl) (by kernel_rfl) ?_
          change wpStill _ _ wr.drew _ _ _
          simp only [List.take_succ_cons, List.take_zero, List.drop_succ_cons, List.drop_zero]
          repeat still_step
          still_call (S1.out _)
          repeat still_step
          refine wpStill_nil ?_
          change wpList _ _ _ _ _ wr.drew
          go_wp2_with fail
          refine bodyPost_ret (v := .tuple #[.agg #[.int .i64 0, .int .i64 0, .string ⟨#[]⟩, .slice none 0 0, .slice none 0 0], .bool false]) (by simp [results, Tryd.results21, go_sem, *]) rfl ⟨?_, .inl ⟨HEN.out.symm, rfl⟩⟩
          exact ((((((HB.out.setCell (p := ⟨w.heap.size + 1, 0, none⟩) (by simp) _).setCell (p := ⟨w.heap.size + 1, 1, none⟩) (by simp) _).setCell (p := ⟨w.heap.size + 1, 2, none⟩) (by simp) _).setCell (p := ⟨w.heap.size + 1, 3, none⟩) (by simp) _).setCell (p := ⟨w.heap.size + 1, 4, none⟩) (by simp) _).drew)
    · obtain rfl : k = n := by omega
      have hE := HE.out
      rw [← HN.out, List.drop_length, atT] at hE
      have HEN := Lib.hid hE.symm
      clear hE HE
      go_wp2_with fail
      refine bodyPost_ret (v := .tuple #[.agg #[.int .i64 x.tag, .int .i64 x.key, .string x.text, .slice A0 x.ps.length c0, .slice A1 x.ks.length c1], .bool true]) (by simp [results, Tryd.results21, go_sem, *]) rfl ⟨?_, .inr ⟨x, A0, A1, c0, c1, HEN.out, HS.out, HP.out, HK.out, rfl⟩⟩
      exact (((((HB.out.setCell (p := ⟨w.heap.size + 1, 0, none⟩) (by simp) _).setCell (p := ⟨w.heap.size + 1, 1, none⟩) (by simp) _).setCell (p := ⟨w.heap.size + 1, 2, none⟩) (by simp) _).setCell (p := ⟨w.heap.size + 1, 3, none⟩) (by simp) _).setCell (p := ⟨w.heap.size + 1, 4, none⟩) (by simp) _)
end Go.Proofs.YtcpfjlbicofkeaaDoor
