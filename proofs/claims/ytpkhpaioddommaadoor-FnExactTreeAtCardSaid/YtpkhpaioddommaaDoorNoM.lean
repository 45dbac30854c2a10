/- No1, No3, No4 in one text. -/
import Derived.Test.YtpkhpaioddommaaDoorIntM
import Derived.StillTailTactics
namespace Go.Proofs.YtpkhpaioddommaaDoor
open Go.Joins Go.ChangeShapes Go.WideShapes Go.ChangeAt Go.RowKit Go.Deep
set_option linter.unusedVariables false
set_option linter.unusedSimpArgs false

/-- Whether a part is at the way. -/
def isAt (zs : List Int) (y : List Nat × Tr) : Bool := decide (natI y.1 = zs)
def noP (zs : List Int) (l : List (List Nat × Tr)) : Int := (l.findIdx? (isAt zs)).elim (-1) (fun i => (i : Int))
theorem noP_none {zs : List Int} {l : List (List Nat × Tr)} (h : ∀ y ∈ l, isAt zs y = false) : noP zs l = -1 := by
  unfold noP
  rw [List.findIdx?_eq_none_iff.2 h]
  rfl
theorem noP_some {zs : List Int} {a b : List (List Nat × Tr)} {y : List Nat × Tr} (h : ∀ y ∈ a, isAt zs y = false) (hy : isAt zs y = true) : noP zs (a ++ y :: b) = a.length := by
  unfold noP
  rw [List.findIdx?_append, List.findIdx?_eq_none_iff.2 h, List.findIdx?_cons, if_pos hy]
  simp
/-- The part at a way, by the document. -/
def atT : Tr → List Int → Option Tr
  | t, [] => some t
  | t, z :: zs => if 0 ≤ z ∧ z ≤ (t.ks.length : Int) - 1 then (t.ks[z.toNat]?).bind (fun x => atT x zs) else none
/-- Its number, by the document. -/
def numT : Tr → List Int → Nat
  | _, [] => 0
  | t, z :: zs => 1 + sizeL (t.ks.take z.toNat) + (t.ks[z.toNat]?).elim 0 (fun x => numT x zs)
theorem way_pre : ∀ (t : Tr) (way : List Nat), ∀ y ∈ partsT way t, way <+: y.1 := Tr.by_kids fun t ih way y hy => by
  have hl : ∀ (ks : List Tr) (i : Nat), (∀ x ∈ ks, ∀ way, ∀ y ∈ partsT way x, way <+: y.1) → ∀ y ∈ partsL way i ks, ∃ j, i ≤ j ∧ (way ++ [j]) <+: y.1 := by
    intro ks
    induction ks with
    | nil => intro i _ y hy; simp only [partsL] at hy; cases hy
    | cons x xs ihx =>
      intro i h y hy
      simp only [partsL] at hy
      rcases List.mem_append.1 hy with hy | hy
      · exact ⟨i, Nat.le_refl _, h x (by simp) _ y hy⟩
      · obtain ⟨j, hj, hp⟩ := ihx (i + 1) (fun z hz => h z (List.mem_cons_of_mem _ hz)) y hy
        exact ⟨j, by omega, hp⟩
  rw [partsT_eq] at hy
  rcases List.mem_cons.1 hy with rfl | hy
  · exact List.prefix_refl _
  · obtain ⟨j, _, hp⟩ := hl t.ks 0 ih y hy
    exact (List.prefix_append way [j]).trans hp
theorem natI_append (a b : List Nat) : natI (a ++ b) = natI a ++ natI b := by simp [natI]
/-- Parts of another Kid are not at the way. -/
theorem isAt_other {way : List Nat} {i : Nat} {z : Int} {zs : List Int} (h : z ≠ i) {x : Tr} : ∀ y ∈ partsT (way ++ [i]) x, isAt (natI way ++ z :: zs) y = false := fun y hy => by
  obtain ⟨q, hq⟩ := way_pre x _ y hy
  unfold isAt
  rw [decide_eq_false_iff_not, ← hq, natI_append, natI_append, List.append_assoc]
  intro e
  have := List.append_cancel_left e
  simp [natI] at this
  exact h this.1.symm
theorem idx_T : ∀ (zs : List Int) (t : Tr) (way : List Nat), (partsT way t).findIdx? (isAt (natI way ++ zs)) = (atT t zs).map (fun _ => numT t zs)
  | [], t, way => by
    rw [partsT_eq, List.findIdx?_cons, if_pos (by unfold isAt; simp), atT, Option.map_some, numT]
  | z :: zs, t, way => by
    have IH := idx_T zs
    have hl : ∀ (ks : List Tr) (i : Nat), (partsL way i ks).findIdx? (isAt (natI way ++ z :: zs)) = if i ≤ z ∧ z ≤ (i : Int) + ks.length - 1 then (ks[(z - i).toNat]?).bind (fun x => (atT x zs).map (fun _ => sizeL (ks.take (z - i).toNat) + numT x zs)) else none := by
      intro ks
      induction ks with
      | nil =>
        intro i
        rw [partsL_nil, if_neg (by simp only [List.length_nil]; omega)]
        rfl
      | cons x xs ih =>
        intro i
        have e : partsL way i (x :: xs) = partsT (way ++ [i]) x ++ partsL way (i + 1) xs := by simp only [partsL]
        rw [e, List.findIdx?_append]
        by_cases hz : z = i
        · subst hz
          rw [if_pos ⟨by omega, by simp only [List.length_cons]; omega⟩]
          have h1 := IH x (way ++ [i])
          rw [natI_append, List.append_assoc, show natI [i] ++ zs = (i : Int) :: zs from rfl] at h1
          rw [h1, show ((i : Int) - i).toNat = 0 by omega]
          simp only [List.getElem?_cons_zero, Option.bind_some, List.take_zero, sizeL, Nat.zero_add]
          cases atT x zs with
          | none =>
            simp only [Option.map_none, Option.none_or]
            rw [ih (i + 1), if_neg (by omega)]
            rfl
          | some u => simp
        · rw [List.findIdx?_eq_none_iff.2 (isAt_other hz), Option.none_or, ih (i + 1), partsT_length]
          by_cases hc : ((i + 1 : Nat) : Int) ≤ z ∧ z ≤ ((i + 1 : Nat) : Int) + xs.length - 1
          · rw [if_pos hc, if_pos ⟨by omega, by simp only [List.length_cons]; omega⟩, show (z - i).toNat = (z - (i + 1 : Nat)).toNat + 1 by omega, List.getElem?_cons_succ, List.take_succ_cons]
            cases xs[(z - ((i + 1 : Nat) : Int)).toNat]? with
            | none => rfl
            | some y =>
              simp only [Option.bind_some, Option.map_map, sizeL]
              cases atT y zs with
              | none => rfl
              | some u => simp only [Option.map_some, Function.comp]; congr 1; omega
          · rw [if_neg hc, if_neg (by simp only [List.length_cons]; omega)]
            rfl
    rw [partsT_eq, List.findIdx?_cons, if_neg (by unfold isAt; simp), hl t.ks 0, atT]
    by_cases hc : 0 ≤ z ∧ z ≤ (t.ks.length : Int) - 1
    · rw [if_pos hc, if_pos ⟨by omega, by omega⟩, show (z - ((0 : Nat) : Int)).toNat = z.toNat by omega, numT]
      cases t.ks[z.toNat]? with
      | none => rfl
      | some y =>
        simp only [Option.bind_some, Option.elim_some]
        cases atT y zs with
        | none => rfl
        | some u => simp only [Option.map_some]; congr 1; omega
    · rw [if_neg hc, if_neg (by omega)]
      rfl
/-- The number by the parts in order is the document's own. -/
theorem noP_is (t : Tr) (zs : List Int) : noP zs (partsT [] t) = (atT t zs).elim (-1) (fun _ => (numT t zs : Int)) := by
  unfold noP
  have h := idx_T zs t []
  rw [show natI [] ++ zs = zs from rfl] at h
  rw [h]
  cases atT t zs <;> rfl
end Go.Proofs.YtpkhpaioddommaaDoor

namespace Go.Proofs.YtpkhpaioddommaaDoor
open Go.Joins Go.ChangeShapes Go.WideShapes Go.ChangeAt Go.RowKit Go.Deep
set_option linter.unusedVariables false
set_option linter.unusedSimpArgs false

theorem wrapI {z : Int} (h0 : -9223372036854775808 ≤ z) (h1 : z ≤ 9223372036854775807) : IntKind.i64.wrap z = z := by
  unfold IntKind.wrap; simp [IntKind.bits, IntKind.signed]; omega
theorem atT_step {x : Tr} {zs : List Int} {k : Nat} {z : Int} (hz : zs[k]? = some z) : atT x (zs.drop k) = if 0 ≤ z ∧ z ≤ (x.ks.length : Int) - 1 then (x.ks[z.toNat]?).bind (fun y => atT y (zs.drop (k + 1))) else none := by
  obtain ⟨hk, he⟩ := List.getElem?_eq_some_iff.1 hz
  rw [List.drop_eq_getElem_cons hk, he, atT]
/-- What partAt answers: the part, lying where it lay; or none. -/
def PAtX (t : Tr) (zs : List Int) (w : World) (e : Ending) (w' : World) : Prop :=
  Below w.heap.size w w' ∧ ((atT t zs = none ∧ e = .returned (.tuple #[.agg #[.int .i64 0, .int .i64 0, .string ⟨#[]⟩, .slice none 0 0, .slice none 0 0], .bool false])) ∨ ∃ (x : Tr) (A0 A1 : Option Addr) (c0 c1 : Nat), atT t zs = some x ∧ SmT x ∧ PrL w A0 x.ps ∧ TrL w 0 A1 x.ks ∧ e = .returned (.tuple #[.agg #[.int .i64 x.tag, .int .i64 x.key, .string x.text, .slice A0 x.ps.length c0, .slice A1 x.ks.length c1], .bool true]))
set_option maxRecDepth 100000 in
set_option maxHeartbeats 2000000 in
theorem partAt_any (t : Tr) (hsm : SmT t) (zs : List Int) (hzl : zs.length ≤ maxLen) : ∀ (A A0 A1 : Option Addr) (c c0 c1 : Nat) (w : World), PrL w A0 t.ps → TrL w 0 A1 t.ks → IntL w A zs →
    Calls Tryd.prog 53 #[.agg #[.int .i64 t.tag, .int .i64 t.key, .string t.text, .slice A0 t.ps.length c0, .slice A1 t.ks.length c1], .slice A zs.length c] w (PAtX t zs w) := by
  intro A A0 A1 c c0 c1 w hp hk hz
  unfold maxLen at hzl
  have HP := Lib.hid hp
  have HK := Lib.hid hk
  have HZ := Lib.hid hz
  have HS := Lib.hid hsm
  obtain ⟨n, hn⟩ : ∃ n, zs.length = n := ⟨_, rfl⟩
  have HN := Lib.hid hn
  rw [hn] at hzl ⊢
  clear hp hk hz hsm hn
  have S0 := Lib.hid (fun z a b w => (inRange_any z a b w).mono (fun e w' h => And.intro h.1 h.2.symm))
  go_enter Tryd.func53, Tryd.ntmps53
  go_wp2_with fail
  go_loopw [6] (fun i wr => ∃ (k : Nat) (x : Tr) (A0 A1 : Option Addr) (c0 c1 : Nat), k ≤ n ∧ i = .int .i64 k ∧ Hid (atT x (zs.drop k) = atT t zs) ∧ Hid (SmT x) ∧ Hid (PrL w A0 x.ps) ∧ Hid (TrL w 0 A1 x.ks) ∧ wr.cell? ⟨w.heap.size, 0, none⟩ = some (.int .i64 x.tag) ∧ wr.cell? ⟨w.heap.size, 1, none⟩ = some (.int .i64 x.key) ∧ wr.cell? ⟨w.heap.size, 2, none⟩ = some (.string x.text) ∧ wr.cell? ⟨w.heap.size, 3, none⟩ = some (.slice A0 x.ps.length c0) ∧ wr.cell? ⟨w.heap.size, 4, none⟩ = some (.slice A1 x.ks.length c1) ∧ wr.cell? ⟨w.heap.size + 1, 0, none⟩ = some (.int .i64 0) ∧ wr.cell? ⟨w.heap.size + 1, 1, none⟩ = some (.int .i64 0) ∧ wr.cell? ⟨w.heap.size + 1, 2, none⟩ = some (.string ⟨#[]⟩) ∧ wr.cell? ⟨w.heap.size + 1, 3, none⟩ = some (.slice none 0 0) ∧ wr.cell? ⟨w.heap.size + 1, 4, none⟩ = some (.slice none 0 0) ∧ (∀ o, wr.frozen? ⟨w.heap.size, o, none⟩ = false) ∧ (∀ o, wr.frozen? ⟨w.heap.size + 1, o, none⟩ = false) ∧ w.heap.size + 1 < wr.heap.size ∧ Hid (Below w.heap.size w wr)) (fun i _ => n - (intOf i).toNat)
  case atStart =>
    refine ⟨0, t, A0, A1, c0, c1, by omega, rfl, Lib.hid rfl, HS, HP, HK, ?_, ?_, ?_, ?_, ?_, ?_, ?_, ?_, ?_, ?_, fun o => ?_, fun o => ?_, by simp, Lib.hid (by go_grown)⟩
    all_goals go_simp
  case round =>
    obtain ⟨k, x, A0, A1, c0, c1, hk, rfl, HE, HS, HP, HK, d0, d1, d2, d3, d4, z0, z1, z2, z3, z4, f2, f4, hsz, HB⟩ := hrel
    by_cases hlt : k < n
    · obtain ⟨z, hz⟩ := at_some (show k < zs.length by rw [HN.out]; exact hlt)
      obtain ⟨bz, oz, rfl, hbz, ez⟩ := HZ.out.at_ hz
      replace ez := (HB.out.cell (p := ⟨bz, _, none⟩) hbz).trans ez
      have hE := HE.out
      rw [atT_step hz] at hE
      obtain ⟨s0, s1, s2, s3, s4⟩ := HS.out.open_
      have hi1 : (0 : Int) ≤ (k : Int) := by omega
      have hi2 : (k : Int) < (n : Int) := by omega
      have HSK := Lib.hid s4
      unfold maxLen at s3
      clear hz HE s0 s1 s2 s4
      by_cases hr : 0 ≤ z ∧ z ≤ (x.ks.length : Int) - 1
      · obtain ⟨j, rfl⟩ : ∃ j : Nat, z = (j : Int) := ⟨z.toNat, by omega⟩
        rw [if_pos hr, show ((j : Int)).toNat = j by omega] at hE
        obtain ⟨y, hy⟩ := at_some (show j < x.ks.length by omega)
        rw [hy, Option.bind_some] at hE
        obtain ⟨b, off, E0, g0, E1, g1, rfl, hblt, _, e0, e1, e2, e3, e4, hp, _, hks⟩ := HK.out.at_ hy
        replace e0 := (HB.out.cell (p := ⟨b, _, none⟩) hblt).trans e0
        replace e1 := (HB.out.cell (p := ⟨b, _, none⟩) hblt).trans e1
        replace e2 := (HB.out.cell (p := ⟨b, _, none⟩) hblt).trans e2
        replace e3 := (HB.out.cell (p := ⟨b, _, none⟩) hblt).trans e3
        replace e4 := (HB.out.cell (p := ⟨b, _, none⟩) hblt).trans e4
        have HSY := Lib.hid (HSK.out y (List.mem_of_getElem? hy))
        have HPY := Lib.hid hp
        have HKY := Lib.hid hks
        have HEY := Lib.hid hE
        have hj1 : (0 : Int) ≤ (j : Int) := by omega
        have hj2 : (j : Int) < (x.ks.length : Int) := by omega
        have hw1 : IntKind.i64.wrap ((x.ks.length : Int) - 1) = (x.ks.length : Int) - 1 := wrapI (by omega) (by omega)
        have hj3 : (j : Int) ≤ (x.ks.length : Int) - 1 := by omega
        have hne : b ≠ w.heap.size := by omega
        have hne2 : bz ≠ w.heap.size := by omega
        obtain ⟨ln, hln⟩ : ∃ ln, x.ks.length = ln := ⟨_, rfl⟩
        rw [hln] at hj2 hj3 hw1 s3 d4
        clear hp hks hE hr hy hln HSK HS HP HK
        obtain ⟨yt, yk, ys, yp, yq⟩ := y
        dsimp only [Tr.tag, Tr.key, Tr.text, Tr.ps, Tr.ks] at e0 e1 e2 e3 e4
        go_wp2_with fail
        refine wp_region_still_tail 9 (by kernel_rfl) (by kernel_rfl) ?_
        change wpStill _ _ wr.drew _ _ _
        simp only [List.take_succ_cons, List.take_zero, List.drop_succ_cons, List.drop_zero]
        repeat still_step
        still_call (S0.out _ _ _ _)
        repeat still_step
        refine wpStill_nil ?_
        change wpList _ _ _ _ _ wr.drew
        go_wp2_with fail
        refine wp_region_still_tail 8 (by kernel_rfl) (by kernel_rfl) ?_
        change wpStill _ _ wr.drew.drew _ _ _
        simp only [List.take_succ_cons, List.take_zero, List.drop_succ_cons, List.drop_zero]
        repeat still_step
        refine wpStill_nil ?_
        change wpList _ _ _ _ _ wr.drew.drew
        go_wp2_with fail
        go_roundw
        case rel =>
          refine ⟨k + 1, .mk yt yk ys yp yq, E0, E1, g0, g1, by omega, by go_num, HEY, HSY, HPY, HKY, ?_, ?_, ?_, ?_, ?_, ?_, ?_, ?_, ?_, ?_, fun o => ?_, fun o => ?_, by (simp [World.setCell]; omega), Lib.hid ((((((HB.out.setCell (p := ⟨w.heap.size, 0, none⟩) (by simp) _).setCell (p := ⟨w.heap.size, 1, none⟩) (by simp) _).setCell (p := ⟨w.heap.size, 2, none⟩) (by simp) _).setCell (p := ⟨w.heap.size, 3, none⟩) (by simp) _).setCell (p := ⟨w.heap.size, 4, none⟩) (by simp) _).drew.drew)⟩
          all_goals ((try dsimp only [Tr.tag, Tr.key, Tr.text, Tr.ps, Tr.ks]); go_simp)
        case measure => simp [intOf]; omega
      · rw [if_neg hr] at hE
        have HEN := Lib.hid hE
        have hw1 : IntKind.i64.wrap ((x.ks.length : Int) - 1) = (x.ks.length : Int) - 1 := wrapI (by omega) (by omega)
        clear hE HSK
        have S1 := Lib.hid (fun w => (show Calls Tryd.prog 66 #[.int .i64 z, .int .i64 0, .int .i64 ((x.ks.length : Int) - 1)] w fun e w' => e = .returned (.bool false) ∧ w' = w by have := S0.out z 0 ((x.ks.length : Int) - 1) w; rwa [decide_eq_false hr] at this))
        clear hr
        all_goals
          go_wp2_with fail
          refine wp_region_still_tail 9 (by kernel_rfl) (by kernel_rfl) ?_
          change wpStill _ _ wr.drew _ _ _
          simp only [List.take_succ_cons, List.take_zero, List.drop_succ_cons, List.drop_zero]
          repeat still_step
          still_call (S1.out _)
          repeat still_step
          refine wpStill_nil ?_
          change wpList _ _ _ _ _ wr.drew
          go_wp2_with fail
          refine bodyPost_ret (v := .tuple #[.agg #[.int .i64 0, .int .i64 0, .string ⟨#[]⟩, .slice none 0 0, .slice none 0 0], .bool false]) (by simp [results, Tryd.results53, go_sem, *]) rfl ⟨?_, .inl ⟨HEN.out.symm, rfl⟩⟩
          exact ((((((HB.out.setCell (p := ⟨w.heap.size + 1, 0, none⟩) (by simp) _).setCell (p := ⟨w.heap.size + 1, 1, none⟩) (by simp) _).setCell (p := ⟨w.heap.size + 1, 2, none⟩) (by simp) _).setCell (p := ⟨w.heap.size + 1, 3, none⟩) (by simp) _).setCell (p := ⟨w.heap.size + 1, 4, none⟩) (by simp) _).drew)
    · obtain rfl : k = n := by omega
      have hE := HE.out
      rw [← HN.out, List.drop_length, atT] at hE
      have HEN := Lib.hid hE.symm
      clear hE HE
      go_wp2_with fail
      refine bodyPost_ret (v := .tuple #[.agg #[.int .i64 x.tag, .int .i64 x.key, .string x.text, .slice A0 x.ps.length c0, .slice A1 x.ks.length c1], .bool true]) (by simp [results, Tryd.results53, go_sem, *]) rfl ⟨?_, .inr ⟨x, A0, A1, c0, c1, HEN.out, HS.out, HP.out, HK.out, rfl⟩⟩
      exact (((((HB.out.setCell (p := ⟨w.heap.size + 1, 0, none⟩) (by simp) _).setCell (p := ⟨w.heap.size + 1, 1, none⟩) (by simp) _).setCell (p := ⟨w.heap.size + 1, 2, none⟩) (by simp) _).setCell (p := ⟨w.heap.size + 1, 3, none⟩) (by simp) _).setCell (p := ⟨w.heap.size + 1, 4, none⟩) (by simp) _)
end Go.Proofs.YtpkhpaioddommaaDoor

namespace Go.Proofs.YtpkhpaioddommaaDoor
open Go.Joins Go.ChangeShapes Go.WideShapes Go.ChangeAt Go.RowKit Go.Deep
set_option linter.unusedVariables false
set_option linter.unusedSimpArgs false

theorem numT_lt {t : Tr} {zs : List Int} (h : atT t zs ≠ none) : numT t zs < sizeT t := by
  have e := idx_T zs t []
  cases ha : atT t zs with
  | none => exact absurd ha h
  | some u =>
    rw [ha, Option.map_some] at e
    have := List.findIdx?_eq_some_iff_getElem.1 e
    obtain ⟨hl, _⟩ := this
    rw [partsT_length] at hl
    exact hl
theorem sizeL_take {ks : List Tr} {j : Nat} {y : Tr} (h : ks[j]? = some y) : sizeL (ks.take (j + 1)) = sizeL (ks.take j) + sizeT y := by
  induction ks generalizing j with
  | nil => simp at h
  | cons x xs ih =>
    cases j with
    | zero => simp at h; subst h; simp only [List.take_succ_cons, List.take_zero, sizeL]; omega
    | succ j =>
      rw [List.getElem?_cons_succ] at h
      rw [List.take_succ_cons, List.take_succ_cons]
      simp only [sizeL]
      rw [ih h]; omega
theorem sizeL_takeLe : ∀ (ks : List Tr) (j : Nat), sizeL (ks.take j) ≤ sizeL ks
  | [], j => by simp only [List.take_nil]; exact Nat.le_refl _
  | x :: xs, 0 => by simp only [List.take_zero, sizeL]; exact Nat.zero_le _
  | x :: xs, j + 1 => by
    have := sizeL_takeLe xs j
    simp only [List.take_succ_cons, sizeL]; omega
theorem valid_size {y : Tr} (h : treeOkB y = true) : tsT 1 y = sizeT y := (treeB_yes (show treeB shownB y = true from h)).2.1
theorem atT_some {x : Tr} {zs : List Int} {k : Nat} {z : Int} (hz : zs[k]? = some z) (h : atT x (zs.drop k) ≠ none) : ∃ (j : Nat) (y : Tr), z = j ∧ x.ks[j]? = some y ∧ atT y (zs.drop (k + 1)) ≠ none ∧ numT x (zs.drop k) = 1 + sizeL (x.ks.take j) + numT y (zs.drop (k + 1)) := by
  rw [atT_step hz] at h
  split at h
  case isFalse => exact absurd rfl h
  case isTrue hc =>
    obtain ⟨y, hy⟩ := at_some (show z.toNat < x.ks.length by omega)
    rw [hy, Option.bind_some] at h
    refine ⟨z.toNat, y, by omega, hy, h, ?_⟩
    obtain ⟨hk, he⟩ := List.getElem?_eq_some_iff.1 hz
    rw [List.drop_eq_getElem_cons hk, he, numT, hy, Option.elim_some]
set_option maxRecDepth 100000 in
set_option maxHeartbeats 2000000 in
theorem numberOf_any (t : Tr) (hsm : SmT t) (hok : treeOkB t = true) (zs : List Int) (hzl : zs.length ≤ maxLen) (hat : atT t zs ≠ none) : ∀ (A A0 A1 : Option Addr) (c c0 c1 : Nat) (w : World), PrL w A0 t.ps → TrL w 0 A1 t.ks → IntL w A zs →
    Calls Tryd.prog 63 #[.agg #[.int .i64 t.tag, .int .i64 t.key, .string t.text, .slice A0 t.ps.length c0, .slice A1 t.ks.length c1], .slice A zs.length c] w fun e w' => e = .returned (.int .i64 (numT t zs)) ∧ Below w.heap.size w w' := by
  intro A A0 A1 c c0 c1 w hp hk hz
  unfold maxLen at hzl
  have htot := numT_lt hat
  have hs200 : sizeT t ≤ 200 := by have := (treeB_yes (show treeB shownB t = true from hok)); omega
  obtain ⟨tot, htt⟩ : ∃ m, numT t zs = m := ⟨_, rfl⟩
  have HT := Lib.hid htt
  rw [htt] at htot ⊢
  have htl : tot ≤ 200 := by omega
  have HP := Lib.hid hp
  have HK := Lib.hid hk
  have HZ := Lib.hid hz
  have HS := Lib.hid hsm
  have HOK := Lib.hid hok
  have HAT := Lib.hid hat
  obtain ⟨n, hn⟩ : ∃ n, zs.length = n := ⟨_, rfl⟩
  have HN := Lib.hid hn
  rw [hn] at hzl ⊢
  clear hp hk hz hsm hn hok hat htt htot hs200
  go_enter Tryd.func63, Tryd.ntmps63
  go_wp2_with fail
  go_loopw [5, 6] (fun m i wr => ∃ (k q : Nat) (x : Tr) (A0 A1 : Option Addr) (c0 c1 : Nat), k ≤ n ∧ i = .int .i64 k ∧ m = .int .i64 q ∧ q ≤ tot ∧ Hid (q + numT x (zs.drop k) = tot) ∧ Hid (atT x (zs.drop k) ≠ none) ∧ Hid (treeOkB x = true) ∧ Hid (SmT x) ∧ Hid (PrL w A0 x.ps) ∧ Hid (TrL w 0 A1 x.ks) ∧ wr.cell? ⟨w.heap.size, 0, none⟩ = some (.int .i64 x.tag) ∧ wr.cell? ⟨w.heap.size, 1, none⟩ = some (.int .i64 x.key) ∧ wr.cell? ⟨w.heap.size, 2, none⟩ = some (.string x.text) ∧ wr.cell? ⟨w.heap.size, 3, none⟩ = some (.slice A0 x.ps.length c0) ∧ wr.cell? ⟨w.heap.size, 4, none⟩ = some (.slice A1 x.ks.length c1) ∧ (∀ o, wr.frozen? ⟨w.heap.size, o, none⟩ = false) ∧ w.heap.size < wr.heap.size ∧ Hid (Below w.heap.size w wr)) (fun _ i _ => n - (intOf i).toNat)
  case atStart =>
    refine ⟨0, 0, t, A0, A1, c0, c1, by omega, rfl, rfl, by omega, Lib.hid (by rw [List.drop_zero, HT.out]; omega), Lib.hid (by rw [List.drop_zero]; exact HAT.out), HOK, HS, HP, HK, ?_, ?_, ?_, ?_, ?_, fun o => ?_, by simp, Lib.hid (by go_grown)⟩
    all_goals go_simp
  case round =>
    obtain ⟨k, q, x, A0, A1, c0, c1, hk, rfl, rfl, hq, HQ, HE, HOK, HS, HP, HK, d0, d1, d2, d3, d4, f2, hsz, HB⟩ := hrel
    by_cases hlt : k < n
    · obtain ⟨z, hz⟩ := at_some (show k < zs.length by rw [HN.out]; exact hlt)
      obtain ⟨bz, oz, rfl, hbz, ez⟩ := HZ.out.at_ hz
      replace ez := (HB.out.cell (p := ⟨bz, _, none⟩) hbz).trans ez
      obtain ⟨j, y, rfl, hy, hay, hnum⟩ := atT_some hz HE.out
      have hQ := HQ.out
      rw [hnum] at hQ
      obtain ⟨s0, s1, s2, s3, s4⟩ := HS.out.open_
      have hi1 : (0 : Int) ≤ (k : Int) := by omega
      have hi2 : (k : Int) < (n : Int) := by omega
      have hjl : j < x.ks.length := (List.getElem?_eq_some_iff.1 hy).1
      have HSK := Lib.hid s4
      have HY := Lib.hid hy
      have HAY := Lib.hid hay
      unfold maxLen at s3
      obtain ⟨ln, hln⟩ : ∃ ln, x.ks.length = ln := ⟨_, rfl⟩
      have HLN := Lib.hid hln
      rw [hln] at s3 hjl d4
      have hq1 : q + 1 + sizeL (x.ks.take j) ≤ 200 := by omega
      have HQ1 := Lib.hid hq1
      have hq4 : q + 1 ≤ 200 := by omega
      have HQ2 := Lib.hid hQ
      have hbne : bz ≠ w.heap.size := by omega
      have hq2 : (q : Int) + 1 ≤ 201 := by omega
      have hq3 : (0 : Int) ≤ (q : Int) + 1 := by omega
      clear hz HE HQ s0 s1 s2 s4 hQ hq1 hnum hy hay hln
      go_wp2_with fail
      go_loopw [5, 7] (fun m i wi => ∃ (g s : Nat), g ≤ j ∧ i = .int .i64 g ∧ m = .int .i64 s ∧ s ≤ 200 ∧ Hid (s = q + 1 + sizeL (x.ks.take g)) ∧ wi.cell? ⟨w.heap.size, 0, none⟩ = some (.int .i64 x.tag) ∧ wi.cell? ⟨w.heap.size, 1, none⟩ = some (.int .i64 x.key) ∧ wi.cell? ⟨w.heap.size, 2, none⟩ = some (.string x.text) ∧ wi.cell? ⟨w.heap.size, 3, none⟩ = some (.slice A0 x.ps.length c0) ∧ wi.cell? ⟨w.heap.size, 4, none⟩ = some (.slice A1 x.ks.length c1) ∧ wi.cell? ⟨bz, oz + k, none⟩ = some (.int .i64 j) ∧ (∀ o, wi.frozen? ⟨w.heap.size, o, none⟩ = false) ∧ w.heap.size < wi.heap.size ∧ Hid (Below w.heap.size w wi)) (fun _ i _ => j - (intOf i).toNat)
      case atStart => exact ⟨0, q + 1, by omega, rfl, by go_num, by omega, Lib.hid (by simp only [List.take_zero, sizeL]), d0, d1, d2, d3, by rw [HLN.out]; exact d4, ez, f2, hsz, HB⟩
      case round =>
        clear d0 d1 d2 d3 d4 f2 hsz HB ez
        obtain ⟨g, s, hg, rfl, rfl, hs2, HSS, d0, d1, d2, d3, d4, ez, f2, hsz, HB⟩ := hrel
        rw [HLN.out] at d4
        by_cases hgj : g < j
        · obtain ⟨v, hv⟩ := at_some (show g < x.ks.length by rw [HLN.out]; omega)
          obtain ⟨b, off, E0, g0, E1, g1, rfl, hblt, _, e0, e1, e2, e3, e4, hp, _, hks⟩ := HK.out.at_ hv
          have KV := streeSize_any v (HSK.out v (List.mem_of_getElem? hv)) 1 E0 E1 g0 g1 wr (hks.below HB.out) (by omega)
          rw [valid_size (kid_valid HOK.out (List.mem_of_getElem? hv))] at KV
          have hsum := sizeL_take hv
          have hmono : sizeL (x.ks.take (g + 1)) ≤ sizeL (x.ks.take j) := by
            have e : x.ks.take (g + 1) = (x.ks.take j).take (g + 1) := by rw [List.take_take]; congr 1; omega
            rw [e]; exact sizeL_takeLe _ _
          replace e0 := (HB.out.cell (p := ⟨b, _, none⟩) hblt).trans e0
          replace e1 := (HB.out.cell (p := ⟨b, _, none⟩) hblt).trans e1
          replace e2 := (HB.out.cell (p := ⟨b, _, none⟩) hblt).trans e2
          replace e3 := (HB.out.cell (p := ⟨b, _, none⟩) hblt).trans e3
          replace e4 := (HB.out.cell (p := ⟨b, _, none⟩) hblt).trans e4
          have hS1 := HSS.out
          have hQ1 := HQ1.out
          have hs3 : s + sizeT v = q + 1 + sizeL (x.ks.take (g + 1)) := by omega
          have hs4 : s + sizeT v ≤ 200 := by omega
          have HS3 := Lib.hid hs3
          obtain ⟨sv, hsv⟩ : ∃ sv, sizeT v = sv := ⟨_, rfl⟩
          rw [hsv] at hs4 HS3 KV
          have KV' : Calls Tryd.prog 49 #[.agg #[.int .i64 v.tag, .int .i64 v.key, .string v.text, .slice E0 v.ps.length g0, .slice E1 v.ks.length g1], .int .i64 1] wr fun e w' => e = .returned (.int .i64 sv) ∧ Below wr.heap.size wr w' := KV
          have HKV := Lib.hid KV'
          have hg1 : (0 : Int) ≤ (g : Int) := by omega
          have hg2 : (g : Int) < (ln : Int) := by omega
          have hg3 : (g : Int) < (j : Int) := by omega
          have hsa : (s : Int) + (sv : Int) ≤ 200 := by omega
          have hsb : (0 : Int) ≤ (s : Int) + (sv : Int) := by omega
          clear hv hp hks KV KV' hsum hmono hS1 hQ1 hs3 hsv HSS
          obtain ⟨vt, vk, vs, vp, vq⟩ := v
          dsimp only [Tr.tag, Tr.key, Tr.text, Tr.ps, Tr.ks] at e0 e1 e2 e3 e4 HKV
          go_wp2_with fail
          refine HKV.out.mono ?_
          rintro e wj ⟨rfl, hb⟩
          replace d0 := (hb.cell (p := ⟨w.heap.size, 0, none⟩) hsz).trans d0
          replace d1 := (hb.cell (p := ⟨w.heap.size, 1, none⟩) hsz).trans d1
          replace d2 := (hb.cell (p := ⟨w.heap.size, 2, none⟩) hsz).trans d2
          replace d3 := (hb.cell (p := ⟨w.heap.size, 3, none⟩) hsz).trans d3
          replace d4 := (hb.cell (p := ⟨w.heap.size, 4, none⟩) hsz).trans d4
          replace ez := (hb.cell (p := ⟨bz, oz + k, none⟩) (by show bz < wr.heap.size; omega)).trans ez
          replace f2 := fun o => (hb.frozen (p := ⟨w.heap.size, o, none⟩) hsz).trans (f2 o)
          replace hsz := Nat.lt_of_lt_of_le hsz hb.size
          have HBJ := Lib.hid (HB.out.trans (hb.mono HB.out.size))
          clear hb HKV HB
          go_wp2_with fail
          go_roundw
          case rel => exact ⟨g + 1, s + sv, by omega, by go_num, by go_num, by omega, HS3, d0, d1, d2, d3, by rw [HLN.out]; exact d4, ez, f2, hsz, HBJ⟩
          case measure => simp [intOf]; omega
        · obtain rfl : g = j := by omega
          obtain ⟨b, off, E0, g0, E1, g1, rfl, hblt, _, e0, e1, e2, e3, e4, hp, _, hks⟩ := HK.out.at_ HY.out
          replace e0 := (HB.out.cell (p := ⟨b, _, none⟩) hblt).trans e0
          replace e1 := (HB.out.cell (p := ⟨b, _, none⟩) hblt).trans e1
          replace e2 := (HB.out.cell (p := ⟨b, _, none⟩) hblt).trans e2
          replace e3 := (HB.out.cell (p := ⟨b, _, none⟩) hblt).trans e3
          replace e4 := (HB.out.cell (p := ⟨b, _, none⟩) hblt).trans e4
          have HSY := Lib.hid (HSK.out y (List.mem_of_getElem? HY.out))
          have HOY := Lib.hid (kid_valid HOK.out (List.mem_of_getElem? HY.out))
          have HPY := Lib.hid hp
          have HKY := Lib.hid hks
          have hj1 : (0 : Int) ≤ (g : Int) := by omega
          have hj2 : (g : Int) < (ln : Int) := by omega
          have hne : b ≠ w.heap.size := by omega
          have hs3 := HSS.out
          have hQ2 := HQ2.out
          have hst : s ≤ tot := by omega
          have HQN := Lib.hid (show s + numT y (zs.drop (k + 1)) = tot by omega)
          clear hp hks HSK HS HP HK HSS HQ2 hs3 hQ2 HOK HY
          obtain ⟨yt, yk, ys, yp, yq⟩ := y
          dsimp only [Tr.tag, Tr.key, Tr.text, Tr.ps, Tr.ks] at e0 e1 e2 e3 e4
          go_wp2_with fail
          refine wp_region_still_tail 8 (by kernel_rfl) (by kernel_rfl) ?_
          change wpStill _ _ wr.drew _ _ _
          simp only [List.take_succ_cons, List.take_zero, List.drop_succ_cons, List.drop_zero]
          repeat still_step
          refine wpStill_nil ?_
          change wpList _ _ _ _ _ wr.drew
          go_wp2_with fail
          go_roundw
          case rel =>
            refine ⟨k + 1, s, .mk yt yk ys yp yq, E0, E1, g0, g1, by omega, by go_num, rfl, hst, HQN, HAY, HOY, HSY, HPY, HKY, ?_, ?_, ?_, ?_, ?_, fun o => ?_, by (simp [World.setCell]; omega), Lib.hid ((((((HB.out.setCell (p := ⟨w.heap.size, 0, none⟩) (by simp) _).setCell (p := ⟨w.heap.size, 1, none⟩) (by simp) _).setCell (p := ⟨w.heap.size, 2, none⟩) (by simp) _).setCell (p := ⟨w.heap.size, 3, none⟩) (by simp) _).setCell (p := ⟨w.heap.size, 4, none⟩) (by simp) _).drew)⟩
            all_goals ((try dsimp only [Tr.tag, Tr.key, Tr.text, Tr.ps, Tr.ks]); go_simp)
          case measure => simp [intOf]; omega
    · obtain rfl : k = n := by omega
      have hQ := HQ.out
      rw [← HN.out, List.drop_length, numT] at hQ
      obtain rfl : q = tot := by omega
      clear hQ HQ HE
      go_wp2_with fail
      go_ret
      exact ⟨rfl, HB.out⟩
end Go.Proofs.YtpkhpaioddommaaDoor
