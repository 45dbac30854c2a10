/- The law FnExactTreeText answers true at every tree, and leaves it as it was, where the library's variables stand. -/
import Derived.Test.YtpkhpaioddommaaDoorTreM
import Derived.Test.YtpkhpaioddommaaDoorTre17
import Derived.Test.YtpkhpaioddommaaDoorTre4
import Derived.Deep.RegionHeld3
import Derived.Test.YtpkhpaioddommaaDoorWrt5
namespace Go.Proofs.YtpkhpaioddommaaDoor.fnExactTreeText
open Go.Joins Go.ChangeShapes Go.WideShapes Go.ChangeAt Go.RowKit Go.Deep
set_option linter.unusedVariables false
set_option linter.unusedSimpArgs false

theorem shOk : ShOk Vs := ⟨fun w w' h hb => h.next hb, fun s w hl hv => ishown_any s w hl hv⟩
set_option maxRecDepth 100000 in
set_option maxHeartbeats 8000000 in
theorem walk (t : Tr) (A0 A1 : Option Addr) (c0 c1 : Nat) (w : World) (hT : Vs w) (hsm : SmT t) (hkw : szT t ≤ 1048576 → KwT t) (hp : PrL w A0 t.ps) (hk : TrL w 0 A1 t.ks) :
    Calls Tryd.prog 13 #[.agg #[.int .i64 t.tag, .int .i64 t.key, .string t.text, .slice A0 t.ps.length c0, .slice A1 t.ks.length c1]] w fun e w' => e = .returned (.bool true) ∧ Below w.heap.size w w' := by
  have hz := szTree_any t hsm 1048576 A0 A1 c0 c1
  have k1 := fun h => toTree_any t (BdT.of_sz t h)
  have k2 := sTreeText_any t hsm
  have k3 := fun h => iTreeText_any t hsm (hkw h)
  have k4 := eqTree_any t hsm
  unfold ToT ToX at k1
  unfold EqT at k4
  have hzp := szT_pos t
  obtain ⟨u, hu⟩ : ∃ u, szT t = u := ⟨_, rfl⟩
  rw [hu] at hz hzp k1 k3
  generalize treeTextV t = v at k2 k3
  clear hsm hkw hu
  obtain ⟨tag, key, text, ps, ks⟩ := t
  dsimp only [Tr.tag, Tr.key, Tr.text, Tr.ps, Tr.ks] at *
  generalize ps.length = np at *
  generalize ks.length = n at *
  have HB0 := Lib.hid (Below.alloc (Below.refl w.heap.size w) (Nat.le_refl _) (.cells #[.int .i64 tag, .int .i64 key, .string text, .slice A0 np c0, .slice A1 n c1] 47))
  have HX0 := Lib.hid (Below.refl (w.alloc (.cells #[.int .i64 tag, .int .i64 key, .string text, .slice A0 np c0, .slice A1 n c1] 47)).heap.size (w.alloc (.cells #[.int .i64 tag, .int .i64 key, .string text, .slice A0 np c0, .slice A1 n c1] 47)))
  have HP := Lib.hid (hp.below HB0.out)
  have HK := Lib.hid (hk.below HB0.out)
  have HT := Lib.hid (hT.next HB0.out)
  have hZ := fun w hp hk => hz w hp hk (by omega) (by omega)
  clear hp hk hT hz
  have K2 := Lib.hid (fun g0 g1 w hp hk => k2 (some ⟨g0, 0, none⟩) (some ⟨g1, 0, none⟩) np n w hp hk)
  by_cases hl : (1048576 : Int) < u
  · rw [leftV_neg hl] at hZ
    have HZ := Lib.hid hZ
    clear hZ k1 k2 k3 k4
    go_enter Tryd.func13, Tryd.ntmps13
    go_wp2_with fail
    refine (HZ.out _ HP.out HK.out).mono ?_
    rintro e w1 ⟨rfl, hb⟩
    go_wp2_with fail
    go_ret
    exact ⟨rfl, HB0.out.trans (hb.mono HB0.out.size)⟩
  rw [leftV_pos (by omega)] at hZ
  have hle : u ≤ 1048576 := by omega
  have K1 := Lib.hid (fun w hp hk => k1 hle A0 A1 c0 c1 w hp hk)
  have K3 := Lib.hid (fun g0 g1 w hv hp hk => k3 hle (some ⟨g0, 0, none⟩) (some ⟨g1, 0, none⟩) np n w hv hp hk)
  have K4 := Lib.hid (fun g0 g1 h0 h1 w hp hk hq hj => k4 (some ⟨g0, 0, none⟩) (some ⟨g1, 0, none⟩) (some ⟨h0, 0, none⟩) (some ⟨h1, 0, none⟩) np n np n w hp hk hq hj)
  obtain ⟨z, hzz⟩ : ∃ z, (1048576 : Int) - u = z := ⟨_, rfl⟩
  have hz0 : 0 ≤ z := by omega
  rw [hzz] at hZ
  have HZ := Lib.hid hZ
  clear hZ k1 k2 k3 k4 hzz hl hle hzp
  go_enter Tryd.func13, Tryd.ntmps13
  go_wp2_with fail
  refine (HZ.out _ HP.out HK.out).mono ?_
  rintro e w1 ⟨rfl, hb⟩
  have HX1 := Lib.hid (more HX0.out (Nat.le_refl _) hb)
  clear hb
  obtain ⟨hc, hf⟩ := bcell HX1.out
  simp at hc hf
  go_wp2_with fail
  refine (K1.out _ (HP.out.below HX1.out) (HK.out.below HX1.out)).mono ?_
  rintro e w2 ⟨g0, g1, rfl, hp, _, hk, hb⟩
  have HX2 := Lib.hid (more HX1.out (Nat.le_refl _) hb)
  have P1 := Lib.hid hp
  have K1' := Lib.hid (hk.mono (Nat.zero_le _))
  clear hc hf
  clear hb hp hk
  obtain ⟨hc, hf⟩ := bcell HX2.out
  simp at hc hf
  go_wp2_with fail
  refine (K2.out _ _ _ P1.out K1'.out).mono ?_
  rintro e w3 ⟨rfl, hb⟩
  have HX3 := Lib.hid (more HX2.out (Nat.le_refl _) hb)
  clear hc hf
  clear hb P1 K1'
  obtain ⟨hc, hf⟩ := bcell HX3.out
  simp at hc hf
  go_wp2_with fail
  refine (K1.out _ (HP.out.below HX3.out) (HK.out.below HX3.out)).mono ?_
  rintro e w4 ⟨g2, g3, rfl, hp, _, hk, hb⟩
  have HX4 := Lib.hid (more HX3.out (Nat.le_refl _) hb)
  have hba := Below.alloc (Below.refl w4.heap.size w4) (Nat.le_refl _) (.cells #[.int .i64 tag, .int .i64 key, .string text, .slice (some ⟨g2, 0, none⟩) np np, .slice (some ⟨g3, 0, none⟩) n n] 26)
  have P2 := Lib.hid (hp.below hba)
  have K2' := Lib.hid ((hk.mono (Nat.zero_le _)).below hba)
  have HX5 := Lib.hid (more HX4.out (Nat.le_refl _) hba)
  have HT5 := Lib.hid (HT.out.next HX5.out)
  clear hc hf hp hk hb hba
  go_wp2_with fail
  refine (K3.out _ _ _ HT5.out P2.out K2'.out).mono ?_
  rintro e w6 ⟨rfl, hb⟩
  have HX6 := Lib.hid (more HX5.out (Nat.le_refl _) hb)
  have P6 := Lib.hid (P2.out.below hb)
  have K6 := Lib.hid (K2'.out.below hb)
  have d0 := (hb.cell (p := ⟨w4.heap.size, 0, none⟩) (by simp)).trans (by rw [World.cell?_alloc_new]; rfl : _ = some (.int .i64 tag))
  have d1 := (hb.cell (p := ⟨w4.heap.size, 1, none⟩) (by simp)).trans (by rw [World.cell?_alloc_new]; rfl : _ = some (.int .i64 key))
  have d2 := (hb.cell (p := ⟨w4.heap.size, 2, none⟩) (by simp)).trans (by rw [World.cell?_alloc_new]; rfl : _ = some (.string text))
  have d3 := (hb.cell (p := ⟨w4.heap.size, 3, none⟩) (by simp)).trans (by rw [World.cell?_alloc_new]; rfl : _ = some (.slice (some ⟨g2, 0, none⟩) np np))
  have d4 := (hb.cell (p := ⟨w4.heap.size, 4, none⟩) (by simp)).trans (by rw [World.cell?_alloc_new]; rfl : _ = some (.slice (some ⟨g3, 0, none⟩) n n))
  have f0 := (HX6.out.cell (p := ⟨w.heap.size, 0, none⟩) (by simp)).trans (by rw [World.cell?_alloc_new]; rfl : _ = some (.int .i64 tag))
  have f1 := (HX6.out.cell (p := ⟨w.heap.size, 1, none⟩) (by simp)).trans (by rw [World.cell?_alloc_new]; rfl : _ = some (.int .i64 key))
  have f2 := (HX6.out.cell (p := ⟨w.heap.size, 2, none⟩) (by simp)).trans (by rw [World.cell?_alloc_new]; rfl : _ = some (.string text))
  have f3 := (HX6.out.cell (p := ⟨w.heap.size, 3, none⟩) (by simp)).trans (by rw [World.cell?_alloc_new]; rfl : _ = some (.slice A0 np c0))
  have f4 := (HX6.out.cell (p := ⟨w.heap.size, 4, none⟩) (by simp)).trans (by rw [World.cell?_alloc_new]; rfl : _ = some (.slice A1 n c1))
  have hz6 : w4.heap.size < w6.heap.size := by have := hb.size; simp at this; omega
  have hz7 : w.heap.size < w6.heap.size := by have := HX6.out.size; simp at this; omega
  have HPP := Lib.hid (HP.out.below HX6.out)
  have HKK := Lib.hid (HK.out.below HX6.out)
  have HF := Lib.hid (HB0.out.trans (HX6.out.mono HB0.out.size))
  clear hb P2 K2' HT5
  have hvv : (v.toList == v.toList) = true := by simp
  skip
  all_goals
    go_wp2_with fail
    refine wp_region_held_drew (S := fun w' => Below w6.heap.size w6 w' ∧ w'.cell? ⟨w4.heap.size, 0, none⟩ = some (.int .i64 tag) ∧ w'.cell? ⟨w4.heap.size, 1, none⟩ = some (.int .i64 key) ∧ w'.cell? ⟨w4.heap.size, 2, none⟩ = some (.string text) ∧ w'.cell? ⟨w4.heap.size, 3, none⟩ = some (.slice (some ⟨g2, 0, none⟩) np np) ∧ w'.cell? ⟨w4.heap.size, 4, none⟩ = some (.slice (some ⟨g3, 0, none⟩) n n) ∧ w'.cell? ⟨w.heap.size, 0, none⟩ = some (.int .i64 tag) ∧ w'.cell? ⟨w.heap.size, 1, none⟩ = some (.int .i64 key) ∧ w'.cell? ⟨w.heap.size, 2, none⟩ = some (.string text) ∧ w'.cell? ⟨w.heap.size, 3, none⟩ = some (.slice A0 np c0) ∧ w'.cell? ⟨w.heap.size, 4, none⟩ = some (.slice A1 n c1)) (by kernel_rfl) ?_ (fun hHeld => ?_)
    · exact ⟨Below.drew (Below.refl _ _), d0, d1, d2, d3, d4, f0, f1, f2, f3, f4⟩
    refine wpAnyH_take (i := 0) (oi := _) (v := ?_) rfl (by kernel_rfl) (by kernel_rfl) (by kernel_rfl) (fun _ _ _ h => h) (Or.inl ⟨by kernel_rfl, ?_⟩) (by assumption) ?_
    rotate_left
    · (intro w hSw; (try dsimp only at hSw); go_simp)
      try with_reducible rfl
    (try simp only [Act.put, List.getElem_toArray, List.getElem_cons_zero, List.getElem_cons_succ, List.setIfInBounds_toArray, List.set_cons_zero, List.set_cons_succ])
    refine wpAnyH_take (i := 1) (oi := _) (v := ?_) rfl (by kernel_rfl) (by kernel_rfl) (by kernel_rfl) (fun _ _ _ h => h) (Or.inl ⟨by kernel_rfl, ?_⟩) (by assumption) ?_
    rotate_left
    · (intro w hSw; (try dsimp only at hSw); go_simp)
      try with_reducible rfl
    (try simp only [Act.put, List.getElem_toArray, List.getElem_cons_zero, List.getElem_cons_succ, List.setIfInBounds_toArray, List.set_cons_zero, List.set_cons_succ])
    refine wpAnyH_ready (rs := [2]) (by kernel_rfl) (by simp) ?_
    refine AllReadyH.cons (o := _) rfl (fun K hK => ?_) AllReadyH.nil
    go_simp
    have hB0 := hHeld.1
    refine (K1.out _ (HPP.out.below hB0) (HKK.out.below hB0)).mono ?_
    rintro e w' ⟨h0, h1, rfl, hp, _, hk, hb⟩
    refine hK.out _ _ ?_ (fun hHeld2 => ?_)
    · obtain ⟨_, d0, d1, d2, d3, d4, f0, f1, f2, f3, f4⟩ := hHeld
      exact ⟨hB0.trans (hb.mono hB0.size), (hb.cell (p := ⟨w4.heap.size, 0, none⟩) (Nat.lt_of_lt_of_le hz6 hB0.size)).trans d0, (hb.cell (p := ⟨w4.heap.size, 1, none⟩) (Nat.lt_of_lt_of_le hz6 hB0.size)).trans d1, (hb.cell (p := ⟨w4.heap.size, 2, none⟩) (Nat.lt_of_lt_of_le hz6 hB0.size)).trans d2, (hb.cell (p := ⟨w4.heap.size, 3, none⟩) (Nat.lt_of_lt_of_le hz6 hB0.size)).trans d3, (hb.cell (p := ⟨w4.heap.size, 4, none⟩) (Nat.lt_of_lt_of_le hz6 hB0.size)).trans d4, (hb.cell (p := ⟨w.heap.size, 0, none⟩) (Nat.lt_of_lt_of_le hz7 hB0.size)).trans f0, (hb.cell (p := ⟨w.heap.size, 1, none⟩) (Nat.lt_of_lt_of_le hz7 hB0.size)).trans f1, (hb.cell (p := ⟨w.heap.size, 2, none⟩) (Nat.lt_of_lt_of_le hz7 hB0.size)).trans f2, (hb.cell (p := ⟨w.heap.size, 3, none⟩) (Nat.lt_of_lt_of_le hz7 hB0.size)).trans f3, (hb.cell (p := ⟨w.heap.size, 4, none⟩) (Nat.lt_of_lt_of_le hz7 hB0.size)).trans f4⟩
    have PC := Lib.hid hp
    have KC := Lib.hid (hk.mono (Nat.zero_le _))
    clear hp hk
    clear hK K hb hB0 hHeld
    (try simp only [Act.put, List.getElem_toArray, List.getElem_cons_zero, List.getElem_cons_succ, List.setIfInBounds_toArray, List.set_cons_zero, List.set_cons_succ])
    refine wpAnyH_ready (rs := [3]) (by kernel_rfl) (by simp) ?_
    refine AllReadyH.cons (o := _) rfl (fun K hK => ?_) AllReadyH.nil
    go_simp
    have hB0 := hHeld2.1
    refine (K4.out _ _ _ _ _ (P6.out.below hB0) (K6.out.below hB0) PC.out KC.out).mono ?_
    rintro e w' ⟨rfl, hb⟩
    refine hK.out _ _ ?_ (fun hHeld3 => ?_)
    · obtain ⟨_, d0, d1, d2, d3, d4, f0, f1, f2, f3, f4⟩ := hHeld2
      exact ⟨hB0.trans (hb.mono hB0.size), (hb.cell (p := ⟨w4.heap.size, 0, none⟩) (Nat.lt_of_lt_of_le hz6 hB0.size)).trans d0, (hb.cell (p := ⟨w4.heap.size, 1, none⟩) (Nat.lt_of_lt_of_le hz6 hB0.size)).trans d1, (hb.cell (p := ⟨w4.heap.size, 2, none⟩) (Nat.lt_of_lt_of_le hz6 hB0.size)).trans d2, (hb.cell (p := ⟨w4.heap.size, 3, none⟩) (Nat.lt_of_lt_of_le hz6 hB0.size)).trans d3, (hb.cell (p := ⟨w4.heap.size, 4, none⟩) (Nat.lt_of_lt_of_le hz6 hB0.size)).trans d4, (hb.cell (p := ⟨w.heap.size, 0, none⟩) (Nat.lt_of_lt_of_le hz7 hB0.size)).trans f0, (hb.cell (p := ⟨w.heap.size, 1, none⟩) (Nat.lt_of_lt_of_le hz7 hB0.size)).trans f1, (hb.cell (p := ⟨w.heap.size, 2, none⟩) (Nat.lt_of_lt_of_le hz7 hB0.size)).trans f2, (hb.cell (p := ⟨w.heap.size, 3, none⟩) (Nat.lt_of_lt_of_le hz7 hB0.size)).trans f3, (hb.cell (p := ⟨w.heap.size, 4, none⟩) (Nat.lt_of_lt_of_le hz7 hB0.size)).trans f4⟩
    clear hK K hb hB0 hHeld2
    (try simp only [Act.put, List.getElem_toArray, List.getElem_cons_zero, List.getElem_cons_succ, List.setIfInBounds_toArray, List.set_cons_zero, List.set_cons_succ])
    refine wpAnyH_take (i := 4) (oi := _) (v := ?_) rfl (by kernel_rfl) (by kernel_rfl) (by kernel_rfl) (fun _ _ _ h => h) (Or.inl ⟨by kernel_rfl, ?_⟩) (by assumption) ?_
    rotate_left
    · (intro w hSw; (try dsimp only at hSw); go_simp)
      try with_reducible rfl
    (try simp only [Act.put, List.getElem_toArray, List.getElem_cons_zero, List.getElem_cons_succ, List.setIfInBounds_toArray, List.set_cons_zero, List.set_cons_succ])
    refine wpAnyH_done (by kernel_rfl) ?_ _
    obtain ⟨hK3, _⟩ := hHeld3
    go_wp2_with fail
    go_ret
    exact ⟨rfl, HF.out.trans (hK3.mono HF.out.size)⟩
end Go.Proofs.YtpkhpaioddommaaDoor.fnExactTreeText
