/- Trees: the number of the part at a way, by the document's numberOf and PartNumber. -/
import Derived.Test.YtpkhpaioddommaaDoorNo3
namespace Go.Proofs.YtpkhpaioddommaaDoor
open Go.Joins Go.ChangeShapes Go.WideShapes Go.ChangeAt Go.RowKit Go.Deep
set_option linter.unusedVariables false
set_option linter.unusedSimpArgs false

theorem numT_lt {t : Tr} {zs : List Int} (h : atT t zs ≠ none) : numT t zs < sizeT t := by
  have e := idx_T zs t []
  cases ha : atT t zs with
  | none => exact absurd ha h
  | some u =>
    rw [ha, Option.map_some] at e
    have := List.findIdx?_eq_some_iff_getElem.1 e
    obtain ⟨hl, _⟩ := this
    rw [partsT_length] at hl
    exact hl
theorem sizeL_take {ks : List Tr} {j : Nat} {y : Tr} (h : ks[j]? = some y) : sizeL (ks.take (j + 1)) = sizeL (ks.take j) + sizeT y := by
  induction ks generalizing j with
  | nil => simp at h
  | cons x xs ih =>
    cases j with
    | zero => simp at h; subst h; simp only [List.take_succ_cons, List.take_zero, sizeL]; omega
    | succ j =>
      rw [List.getElem?_cons_succ] at h
      rw [List.take_succ_cons, List.take_succ_cons]
      simp only [sizeL]
      rw [ih h]; omega
theorem sizeL_takeLe : ∀ (ks : List Tr) (j : Nat), sizeL (ks.take j) ≤ sizeL ks
  | [], j => by simp only [List.take_nil]; exact Nat.le_refl _
  | x :: xs, 0 => by simp only [List.take_zero, sizeL]; exact Nat.zero_le _
  | x :: xs, j + 1 => by
    have := sizeL_takeLe xs j
    simp only [List.take_succ_cons, sizeL]; omega
theorem valid_size {y : Tr} (h : treeOkB y = true) : tsT 1 y = sizeT y := (treeB_yes (show treeB shownB y = true from h)).2.1
theorem atT_some {x : Tr} {zs : List Int} {k : Nat} {z : Int} (hz : zs[k]? = some z) (h : atT x (zs.drop k) ≠ none) : ∃ (j : Nat) (y : Tr), z = j ∧ x.ks[j]? = some y ∧ atT y (zs.drop (k + 1)) ≠ none ∧ numT x (zs.drop k) = 1 + sizeL (x.ks.take j) + numT y (zs.drop (k + 1)) := by
  rw [atT_step hz] at h
  split at h
  case isFalse => exact absurd rfl h
  case isTrue hc =>
    obtain ⟨y, hy⟩ := at_some (show z.toNat < x.ks.length by omega)
    rw [hy, Option.bind_some] at h
    refine ⟨z.toNat, y, by omega, hy, h, ?_⟩
    obtain ⟨hk, he⟩ := List.getElem?_eq_some_iff.1 hz
    rw [List.drop_eq_getElem_cons hk, he, numT, hy, Option.elim_some]
set_option maxRecDepth 100000 in
set_option maxHeartbeats 2000000 in
theorem numberOf_any (t : Tr) (hsm : SmT t) (hok : treeOkB t = true) (zs : List Int) (hzl : zs.length ≤ maxLen) (hat : atT t zs ≠ none) : ∀ (A A0 A1 : Option Addr) (c c0 c1 : Nat) (w : World), PrL w A0 t.ps → TrL w 0 A1 t.ks → IntL w A zs →
    Calls Tryd.prog 63 #[.agg #[.int .i64 t.tag, .int .i64 t.key, .string t.text, .slice A0 t.ps.length c0, .slice A1 t.ks.length c1], .slice A zs.length c] w fun e w' => e = .returned (.int .i64 (numT t zs)) ∧ Below w.heap.size w w' := by
  intro A A0 A1 c c0 c1 w hp hk hz
  unfold maxLen at hzl
  have htot := numT_lt hat
  have hs200 : sizeT t ≤ 200 := by have := (treeB_yes (show treeB shownB t = true from hok)); omega
  obtain ⟨tot, htt⟩ : ∃ m, numT t zs = m := ⟨_, rfl⟩
  have HT := Lib.hid htt
  rw [htt] at htot ⊢
  have htl : tot ≤ 200 := by omega
  have HP := Lib.hid hp
  have HK := Lib.hid hk
  have HZ := Lib.hid hz
  have HS := Lib.hid hsm
  have HOK := Lib.hid hok
  have HAT := Lib.hid hat
  obtain ⟨n, hn⟩ : ∃ n, zs.length = n := ⟨_, rfl⟩
  have HN := Lib.hid hn
  rw [hn] at hzl ⊢
  clear hp hk hz hsm hn hok hat htt htot hs200
  go_enter Tryd.func63, Tryd.ntmps63
  go_wp2_with fail
  go_loopw [5, 6] (fun m i wr => ∃ (k q : Nat) (x : Tr) (A0 A1 : Option Addr) (c0 c1 : Nat), k ≤ n ∧ i = .int .i64 k ∧ m = .int .i64 q ∧ q ≤ tot ∧ Hid (q + numT x (zs.drop k) = tot) ∧ Hid (atT x (zs.drop k) ≠ none) ∧ Hid (treeOkB x = true) ∧ Hid (SmT x) ∧ Hid (PrL w A0 x.ps) ∧ Hid (TrL w 0 A1 x.ks) ∧ wr.cell? ⟨w.heap.size, 0, none⟩ = some (.int .i64 x.tag) ∧ wr.cell? ⟨w.heap.size, 1, none⟩ = some (.int .i64 x.key) ∧ wr.cell? ⟨w.heap.size, 2, none⟩ = some (.string x.text) ∧ wr.cell? ⟨w.heap.size, 3, none⟩ = some (.slice A0 x.ps.length c0) ∧ wr.cell? ⟨w.heap.size, 4, none⟩ = some (.slice A1 x.ks.length c1) ∧ (∀ o, wr.frozen? ⟨w.heap.size, o, none⟩ = false) ∧ w.heap.size < wr.heap.size ∧ Hid (Below w.heap.size w wr)) (fun _ i _ => n - (intOf i).toNat)
  case atStart =>
    refine ⟨0, 0, t, A0, A1, c0, c1, by omega, rfl, rfl, by omega, Lib.hid (by rw [List.drop_zero, HT.out]; omega), Lib.hid (by rw [List.drop_zero]; exact HAT.out), HOK, HS, HP, HK, ?_, ?_, ?_, ?_, ?_, fun o => ?_, by simp, Lib.hid (by go_grown)⟩
    all_goals go_simp
  case round =>
    obtain ⟨k, q, x, A0, A1, c0, c1, hk, rfl, rfl, hq, HQ, HE, HOK, HS, HP, HK, d0, d1, d2, d3, d4, f2, hsz, HB⟩ := hrel
    by_cases hlt : k < n
    · obtain ⟨z, hz⟩ := at_some (show k < zs.length by rw [HN.out]; exact hlt)
      obtain ⟨bz, oz, rfl, hbz, ez⟩ := HZ.out.at_ hz
      replace ez := (HB.out.cell (p := ⟨bz, _, none⟩) hbz).trans ez
      obtain ⟨j, y, rfl, hy, hay, hnum⟩ := atT_some hz HE.out
      have hQ := HQ.out
      rw [hnum] at hQ
      obtain ⟨s0, s1, s2, s3, s4⟩ := HS.out.open_
      have hi1 : (0 : Int) ≤ (k : Int) := by omega
      have hi2 : (k : Int) < (n : Int) := by omega
      have hjl : j < x.ks.length := (List.getElem?_eq_some_iff.1 hy).1
      have HSK := Lib.hid s4
      have HY := Lib.hid hy
      have HAY := Lib.hid hay
      unfold maxLen at s3
      obtain ⟨ln, hln⟩ : ∃ ln, x.ks.length = ln := ⟨_, rfl⟩
      have HLN := Lib.hid hln
      rw [hln] at s3 hjl d4
      have hq1 : q + 1 + sizeL (x.ks.take j) ≤ 200 := by omega
      have HQ1 := Lib.hid hq1
      have hq4 : q + 1 ≤ 200 := by omega
      have HQ2 := Lib.hid hQ
      have hbne : bz ≠ w.heap.size := by omega
      have hq2 : (q : Int) + 1 ≤ 201 := by omega
      have hq3 : (0 : Int) ≤ (q : Int) + 1 := by omega
      clear hz HE HQ s0 s1 s2 s4 hQ hq1 hnum hy hay hln
      go_wp2_with fail
      go_loopw [5, 7] (fun m i wi => ∃ (g s : Nat), g ≤ j ∧ i = .int .i64 g ∧ m = .int .i64 s ∧ s ≤ 200 ∧ Hid (s = q + 1 + sizeL (x.ks.take g)) ∧ wi.cell? ⟨w.heap.size, 0, none⟩ = some (.int .i64 x.tag) ∧ wi.cell? ⟨w.heap.size, 1, none⟩ = some (.int .i64 x.key) ∧ wi.cell? ⟨w.heap.size, 2, none⟩ = some (.string x.text) ∧ wi.cell? ⟨w.heap.size, 3, none⟩ = some (.slice A0 x.ps.length c0) ∧ wi.cell? ⟨w.heap.size, 4, none⟩ = some (.slice A1 x.ks.length c1) ∧ wi.cell? ⟨bz, oz + k, none⟩ = some (.int .i64 j) ∧ (∀ o, wi.frozen? ⟨w.heap.size, o, none⟩ = false) ∧ w.heap.size < wi.heap.size ∧ Hid (Below w.heap.size w wi)) (fun _ i _ => j - (intOf i).toNat)
      case atStart => exact ⟨0, q + 1, by omega, rfl, by go_num, by omega, Lib.hid (by simp only [List.take_zero, sizeL]), d0, d1, d2, d3, by rw [HLN.out]; exact d4, ez, f2, hsz, HB⟩
      case round =>
        clear d0 d1 d2 d3 d4 f2 hsz HB ez
        obtain ⟨g, s, hg, rfl, rfl, hs2, HSS, d0, d1, d2, d3, d4, ez, f2, hsz, HB⟩ := hrel
        rw [HLN.out] at d4
        by_cases hgj : g < j
        · obtain ⟨v, hv⟩ := at_some (show g < x.ks.length by rw [HLN.out]; omega)
          obtain ⟨b, off, E0, g0, E1, g1, rfl, hblt, _, e0, e1, e2, e3, e4, hp, _, hks⟩ := HK.out.at_ hv
          have KV := streeSize_any v (HSK.out v (List.mem_of_getElem? hv)) 1 E0 E1 g0 g1 wr (hks.below HB.out) (by omega)
          rw [valid_size (kid_valid HOK.out (List.mem_of_getElem? hv))] at KV
          have hsum := sizeL_take hv
          have hmono : sizeL (x.ks.take (g + 1)) ≤ sizeL (x.ks.take j) := by
            have e : x.ks.take (g + 1) = (x.ks.take j).take (g + 1) := by rw [List.take_take]; congr 1; omega
            rw [e]; exact sizeL_takeLe _ _
          replace e0 := (HB.out.cell (p := ⟨b, _, none⟩) hblt).trans e0
          replace e1 := (HB.out.cell (p := ⟨b, _, none⟩) hblt).trans e1
          replace e2 := (HB.out.cell (p := ⟨b, _, none⟩) hblt).trans e2
          replace e3 := (HB.out.cell (p := ⟨b, _, none⟩) hblt).trans e3
          replace e4 := (HB.out.cell (p := ⟨b, _, none⟩) hblt).trans e4
          have hS1 := HSS.out
          have hQ1 := HQ1.out
          have hs3 : s + sizeT v = q + 1 + sizeL (x.ks.take (g + 1)) := by omega
          have hs4 : s + sizeT v ≤ 200 := by omega
          have HS3 := Lib.hid hs3
          obtain ⟨sv, hsv⟩ : ∃ sv, sizeT v = sv := ⟨_, rfl⟩
          rw [hsv] at hs4 HS3 KV
          have KV' : Calls Tryd.prog 49 #[.agg #[.int .i64 v.tag, .int .i64 v.key, .string v.text, .slice E0 v.ps.length g0, .slice E1 v.ks.length g1], .int .i64 1] wr fun e w' => e = .returned (.int .i64 sv) ∧ Below wr.heap.size wr w' := KV
          have HKV := Lib.hid KV'
          have hg1 : (0 : Int) ≤ (g : Int) := by omega
          have hg2 : (g : Int) < (ln : Int) := by omega
          have hg3 : (g : Int) < (j : Int) := by omega
          have hsa : (s : Int) + (sv : Int) ≤ 200 := by omega
          have hsb : (0 : Int) ≤ (s : Int) + (sv : Int) := by omega
          clear hv hp hks KV KV' hsum hmono hS1 hQ1 hs3 hsv HSS
          obtain ⟨vt, vk, vs, vp, vq⟩ := v
          dsimp only [Tr.tag, Tr.key, Tr.text, Tr.ps, Tr.ks] at e0 e1 e2 e3 e4 HKV
          go_wp2_with fail
          refine HKV.out.mono ?_
          rintro e wj ⟨rfl, hb⟩
          replace d0 := (hb.cell (p := ⟨w.heap.size, 0, none⟩) hsz).trans d0
          replace d1 := (hb.cell (p := ⟨w.heap.size, 1, none⟩) hsz).trans d1
          replace d2 := (hb.cell (p := ⟨w.heap.size, 2, none⟩) hsz).trans d2
          replace d3 := (hb.cell (p := ⟨w.heap.size, 3, none⟩) hsz).trans d3
          replace d4 := (hb.cell (p := ⟨w.heap.size, 4, none⟩) hsz).trans d4
          replace ez := (hb.cell (p := ⟨bz, oz + k, none⟩) (by show bz < wr.heap.size; omega)).trans ez
          replace f2 := fun o => (hb.frozen (p := ⟨w.heap.size, o, none⟩) hsz).trans (f2 o)
          replace hsz := Nat.lt_of_lt_of_le hsz hb.size
          have HBJ := Lib.hid (HB.out.trans (hb.mono HB.out.size))
          clear hb HKV HB
          go_wp2_with fail
          go_roundw
          case rel => exact ⟨g + 1, s + sv, by omega, by go_num, by go_num, by omega, HS3, d0, d1, d2, d3, by rw [HLN.out]; exact d4, ez, f2, hsz, HBJ⟩
          case measure => simp [intOf]; omega
        · obtain rfl : g = j := by omega
          obtain ⟨b, off, E0, g0, E1, g1, rfl, hblt, _, e0, e1, e2, e3, e4, hp, _, hks⟩ := HK.out.at_ HY.out
          replace e0 := (HB.out.cell (p := ⟨b, _, none⟩) hblt).trans e0
          replace e1 := (HB.out.cell (p := ⟨b, _, none⟩) hblt).trans e1
          replace e2 := (HB.out.cell (p := ⟨b, _, none⟩) hblt).trans e2
          replace e3 := (HB.out.cell (p := ⟨b, _, none⟩) hblt).trans e3
          replace e4 := (HB.out.cell (p := ⟨b, _, none⟩) hblt).trans e4
          have HSY := Lib.hid (HSK.out y (List.mem_of_getElem? HY.out))
          have HOY := Lib.hid (kid_valid HOK.out (List.mem_of_getElem? HY.out))
          have HPY := Lib.hid hp
          have HKY := Lib.hid hks
          have hj1 : (0 : Int) ≤ (g : Int) := by omega
          have hj2 : (g : Int) < (ln : Int) := by omega
          have hne : b ≠ w.heap.size := by omega
          have hs3 := HSS.out
          have hQ2 := HQ2.out
          have hst : s ≤ tot := by omega
          have HQN := Lib.hid (show s + numT y (zs.drop (k + 1)) = tot by omega)
          clear hp hks HSK HS HP HK HSS HQ2 hs3 hQ2 HOK HY
          obtain ⟨yt, yk, ys, yp, yq⟩ := y
          dsimp only [Tr.tag, Tr.key, Tr.text, Tr.ps, Tr.ks] at e0 e1 e2 e3 e4
          go_wp2_with fail
          refine wp_region_still_tail 8 (by kernel_rfl) (by kernel_rfl) ?_
          change wpStill _ _ wr.drew _ _ _
          simp only [List.take_succ_cons, List.take_zero, List.drop_succ_cons, List.drop_zero]
          repeat still_step
          refine wpStill_nil ?_
          change wpList _ _ _ _ _ wr.drew
          go_wp2_with fail
          go_roundw
          case rel =>
            refine ⟨k + 1, s, .mk yt yk ys yp yq, E0, E1, g0, g1, by omega, by go_num, rfl, hst, HQN, HAY, HOY, HSY, HPY, HKY, ?_, ?_, ?_, ?_, ?_, fun o => ?_, by (simp [World.setCell]; omega), Lib.hid ((((((HB.out.setCell (p := ⟨w.heap.size, 0, none⟩) (by simp) _).setCell (p := ⟨w.heap.size, 1, none⟩) (by simp) _).setCell (p := ⟨w.heap.size, 2, none⟩) (by simp) _).setCell (p := ⟨w.heap.size, 3, none⟩) (by simp) _).setCell (p := ⟨w.heap.size, 4, none⟩) (by simp) _).drew)⟩
            all_goals ((try dsimp only [Tr.tag, Tr.key, Tr.text, Tr.ps, Tr.ks]); go_simp)
          case measure => simp [intOf]; omega
    · obtain rfl : k = n := by omega
      have hQ := HQ.out
      rw [← HN.out, List.drop_length, numT] at hQ
      obtain rfl : q = tot := by omega
      clear hQ HQ HE
      go_wp2_with fail
      go_ret
      exact ⟨rfl, HB.out⟩
end Go.Proofs.YtpkhpaioddommaaDoor
