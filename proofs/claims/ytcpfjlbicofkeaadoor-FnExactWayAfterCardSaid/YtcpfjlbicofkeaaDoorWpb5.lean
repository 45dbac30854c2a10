/- The program's partnersOf. -/
import Derived.Test.YtcpfjlbicofkeaaDoorWpb4
import Derived.Deep.RegionHeld3
namespace Go.Proofs.YtcpfjlbicofkeaaDoor
open Go.Maps
open Go.Joins Go.ChangeShapes Go.WideShapes Go.ChangeAt Go.RowKit Go.Deep
set_option linter.unusedVariables false
set_option linter.unusedSimpArgs false

set_option maxRecDepth 100000 in
set_option maxHeartbeats 8000000 in
theorem ipartners_any (a b : List Tr) (n m : Nat) (hn : a.length = n) (hm : b.length = m) (hl : n ≤ 1000) (hl2 : m ≤ 1000) (hwa : ∀ x ∈ a, kW (kin x)) (hwb : ∀ x ∈ b, kW (kin x)) (A B : Option Addr) (c d : Nat) (w : World) (ha : TrL w 0 A a) (hb : TrL w 0 B b) :
    Calls Tryd.prog 47 #[.slice A n c, .slice B m d] w (PrtX (prtT a b) w) := by
  have HN := Lib.hid hn
  have HM := Lib.hid hm
  have HA := Lib.hid ha
  have HB := Lib.hid hb
  have HWA := Lib.hid hwa
  have HWB := Lib.hid hwb
  have hzl := prtT_len a b
  obtain ⟨Z, hZ⟩ : ∃ q, prtT a b = q := ⟨_, rfl⟩
  rw [hZ] at hzl ⊢
  have HZ := Lib.hid (show [] ++ prtV (a.map kin) [] ((b.map kin).drop 0) = Z from hZ)
  have HZL := Lib.hid (hzl.trans hm)
  obtain ⟨X, hX⟩ : ∃ X, PrtX Z w = X := ⟨_, rfl⟩
  have HX := Lib.hid hX
  rw [hX]
  have hmm := @run_makeMap Tryd.prog
  have HQ0 := Lib.hid (QsI.made w)
  have HB0 := Lib.hid (Below.alloc (Below.refl w.heap.size w) (Nat.le_refl _) (.map #[] 0))
  clear hn hm ha hb hwa hwb hzl hZ hX
  go_enter Tryd.func47, Tryd.ntmps47
  go_wp2_with fail
  clear hmm
  go_loopw [16] (fun i wr => ∃ (k : Nat) (D : DataW Value) (V : Int × Int → Value), k ≤ n ∧ i = .int .i64 k ∧ Hid (QsI wr w.heap.size w.heap.size k D V ((a.map kin).take k)) ∧ Hid (Below w.heap.size w wr)) (fun i _ => n - (intOf i).toNat)
  case atStart => exact ⟨0, .map [], fun _ => .slice none 0 0, by omega, rfl, HQ0, HB0⟩
  case round =>
    obtain ⟨k, D, V, hk, rfl, HQ, HBW⟩ := hrel
    by_cases hlt : k < n
    · skip
      obtain ⟨x, hx⟩ := at_some (show k < a.length by rw [HN.out]; exact hlt)
      have hka : (a.map kin)[k]? = some (kin x) := by rw [List.getElem?_map, hx]; rfl
      obtain ⟨ba, offa, E0, g0, E1, g1, rfl, hblt, _, e0, e1, e2, e3, e4, _, _, _⟩ := (HA.out.below HBW.out).at_ hx
      have hkw := HWA.out x (List.mem_of_getElem? hx)
      obtain ⟨xt, xk, xs', xp, xq⟩ := x
      dsimp only [Tr.tag, Tr.key, Tr.text, Tr.ps, Tr.ks] at e0 e1 e2 e3 e4
      replace hkw : kW (xt, xk) := hkw
      replace hka : (a.map kin)[k]? = some (xt, xk) := hka
      generalize xp.length = np at e3
      generalize xq.length = nq at e4
      have hi1 : (0 : Int) ≤ (k : Int) := by omega
      have hi2 : (k : Int) < (n : Int) := by omega
      have HKA := Lib.hid hka
      have HKW := Lib.hid hkw
      clear hx hka hkw
      go_wp2_with fail
      refine (ikin_any xt xk xs' E0 E1 np g0 nq g1 _).mono ?_
      rintro e w2 ⟨rfl, hb2⟩
      have hbt := Below.alloc (Below.refl wr.heap.size wr) (Nat.le_refl _) (.cells #[.int .i64 xt, .int .i64 xk, .string xs', .slice E0 np g0, .slice E1 nq g1] 33)
      have hb2' : Below wr.heap.size wr w2 := more hbt (Nat.le_refl _) hb2
      have hbb : Below wr.heap.size wr ((w2.alloc (.cells #[.int .i64 xt, .int .i64 xk] 53)).alloc (.cells #[.int .i64 k] 3)) := (hb2'.alloc hb2'.size _).alloc (by simp only [World.size_alloc]; have := hb2'.size; omega) _
      have hz2 := hb2'.size
      have HQ1 := HQ.out.below hbb
      have hmz := HQ.out.own.lt
      obtain ⟨v0, st, w3, hrun, hat, hg1, hsz, hst⟩ := own_entry HQ1.own (by unfold maxLen; omega) (fun u => Tryd.zeroValue26 u) (key_kd HKW.out)
      obtain ⟨R, c1, hVf⟩ := HQ1.form (xt, xk)
      obtain rfl : v0 = V (xt, xk) := by
        have h := hat.symm.trans (HQ1.at_ (xt, xk) HKW.out)
        injection h
      have hrow3 := row_kept (HQ1.row (xt, xk)) hg1 (fun g e => by rw [← e]; exact row_not_map HQ1.own (HQ1.row (xt, xk)))
      have hc1 : (((w2.alloc (.cells #[.int .i64 xt, .int .i64 xk] 53)).alloc (.cells #[.int .i64 k] 3))).cell? ⟨w2.heap.size + 1, 0, none⟩ = some (.int .i64 k) := by
        have h : (((w2.alloc (.cells #[.int .i64 xt, .int .i64 xk] 53)).alloc (.cells #[.int .i64 k] 3))).cell? ⟨(w2.alloc (.cells #[.int .i64 xt, .int .i64 xk] 53)).heap.size, 0, none⟩ = some (.int .i64 k) := (by rw [World.cell?_alloc_new]; rfl)
        rwa [World.size_alloc] at h
      have hc3 : w3.cell? ⟨w2.heap.size + 1, 0, none⟩ = some (.int .i64 k) := (World.cell?_of_block (a := ⟨w2.heap.size + 1, 0, none⟩) (hg1.block _ (by simp) (by intro e; injection e with e; dsimp only at e; omega))).trans hc1
      have k0 : w2.cell? ⟨w2.heap.size, 0, none⟩ = w2.cell? ⟨w2.heap.size, 0, none⟩ := rfl
      have hkl : ((a.map kin).take k).length = k := by rw [List.length_take, List.length_map, HN.out]; omega
      have hpl := posF_len (xt, xk) ((a.map kin).take k) 0
      rw [hkl] at hpl
      have HW1 := Lib.hid HQ1
      have HST := Lib.hid hst
      have HG1 := Lib.hid hg1
      have HSZ := Lib.hid hsz
      have hrow4 := hrow3
      rw [hVf] at hrow4
      replace hrun : (Instr.mapEntry 96 (.map (some w.heap.size)) (.agg #[.int .i64 xt, .int .i64 xk])).run Tryd.prog ((w2.alloc (.cells #[.int .i64 xt, .int .i64 xk] 53)).alloc (.cells #[.int .i64 k] 3)) = .ok (.tuple #[.slice R (posF 0 ((a.map kin).take k) (xt, xk)).length c1, goInt st]) w3 := by rw [← hVf]; exact hrun
      have HVF := Lib.hid hVf
      obtain ⟨L, hL⟩ : ∃ q, (posF 0 ((a.map kin).take k) (xt, xk)).length = q := ⟨_, rfl⟩
      have HL := Lib.hid hL
      rw [hL] at hrun hpl hrow4
      have HROW := Lib.hid hrow4
      have HB3 := Lib.hid (show Below w.heap.size w w3 from (HBW.out.trans (hbb.mono HBW.out.size)).grown hg1 (HBW.out.trans (hbb.mono HBW.out.size)).size (fun g e => by cases e; exact Nat.le_refl _))
      have HKL := Lib.hid hkl
      clear hat hst hg1 hrow3 hrow4 hVf hL hc1 k0 hkl HQ1 hbt hbb hb2' hb2 HQ
      go_wp2_with (at_builtin; refine wp_add_num rfl (.tmp 25) (.tmp 27) rfl w.heap.size L R c1 (natI (posF 0 ((a.map kin).take k) (xt, xk))) rfl (by rw [natI_len, HL.out]) HROW.out ⟨w2.heap.size + 1, 0, none⟩ 1 (k : Int) rfl hc3 (by omega) HB3.out.size ?_)
      intro g2 c2 w4 ho4 hg4 hat4
      have hmz3 : w.heap.size < w3.heap.size := by have := HSZ.out; simp only [World.size_alloc] at this; omega
      have hne4 : (Value.slice R L c1).ownBlock ≠ some w.heap.size := by have h := row_not_map HW1.out.own (HW1.out.row (xt, xk)); rwa [HVF.out, HL.out] at h
      obtain ⟨w5, hrun5, hown5, hg5, hsz5⟩ := HST.out w4 (.slice (some ⟨g2, 0, none⟩) (L + 1) c2) (hg4.block w.heap.size hmz3 (fun e => hne4 e.symm))
      replace hrun5 : (Instr.entryStore 96 (.map (some w.heap.size)) (.int .i64 (st : Int)) (.slice (some ⟨g2, 0, none⟩) (L + 1) c2)).run Tryd.prog w4 = .ok () w5 := hrun5
      have HQ5 := Lib.hid (HW1.out.add HKW.out HG1.out HSZ.out (v' := .slice (some ⟨g2, 0, none⟩) (L + 1) c2) (by rw [natI_snoc, HKL.out, List.length_append, HL.out]; exact ho4) (by rw [HVF.out, HL.out]; exact hg4) (by rw [HVF.out, HL.out]; exact hat4.imp (fun e => by rw [← e]; rfl) (fun e => by rw [e]; have := HSZ.out; simp only [World.size_alloc] at this; first | rfl | (show some _ = some _; rw [this]))) hown5 hg5)
      have HB5 := Lib.hid ((HB3.out.grown hg4 HB3.out.size (fun g e => (HROW.out.lt g e).1)).grown hg5 (HB3.out.grown hg4 HB3.out.size (fun g e => (HROW.out.lt g e).1)).size (fun g e => by cases e; exact Nat.le_refl _))
      clear ho4 hg4 hat4 hown5 hg5 hsz5 HST HG1 HSZ HROW HB3 HW1 hc3 hne4
      go_wp2_with fail
      go_roundw
      case rel => exact ⟨k + 1, _, _, by omega, by go_num, Lib.hid (by
        have h := HQ5.out
        have e : (a.map kin).take (k + 1) = (a.map kin).take k ++ [(xt, xk)] := by
          obtain ⟨hk2, e2⟩ := List.getElem?_eq_some_iff.1 HKA.out
          rw [List.take_succ_eq_append_getElem hk2, e2]
        rw [e]
        exact h), HB5⟩
      case measure => simp [intOf]; omega
    · obtain rfl : n = k := by omega
      have htk : (a.map kin).take n = a.map kin := List.take_of_length_le (by rw [List.length_map, HN.out]; exact Nat.le_refl _)
      have hJ := HQ.out
      rw [htk] at hJ
      obtain ⟨i0, hi0, hz0, hz1, hz2⟩ := info_parts infoInt
      obtain ⟨w2, hrun, hrow, hg⟩ := run_make_full (P := Tryd.prog) wr w.heap.size 26 3 i0 _ 1 Tryd.underlying26 hi0 hz0 hz1 .i64 .i64 m (by rw [hz2]; omega) (by unfold maxLen; omega) HBW.out.size
      rw [zeroV_made] at hrow
      have HJ0 := Lib.hid (hJ.done.keep hg.size (fun g h => hg.block g h (by simp)))
      have HB0 := Lib.hid (HBW.out.grown hg HBW.out.size (fun k e => by cases e))
      have hobs : w.heap.size < wr.heap.size := HQ.out.own.lt
      obtain ⟨ob, hob⟩ : ∃ q, wr.heap.size = q := ⟨_, rfl⟩
      rw [hob] at hrun hrow HJ0 hobs
      have HO0 := Lib.hid (show w2.ownsRow w.heap.size 3 1 (.slice (some ⟨ob, 0, none⟩) m m) m (zV ([] ++ List.replicate (m - 0) 0)) from hrow)
      clear htk hJ hi0 hz0 hz1 hz2 hrow hg HQ HBW hob
      go_wp2_with fail
      go_loopw [37] (fun i wr => ∃ (k : Nat) (tk : List Nat) (zs : List Int) (D : DataW Value) (V : Int × Int → Value), k ≤ m ∧ i = .int .i64 k ∧ Hid (QsJ wr w.heap.size ob (n + k) D V (a.map kin) tk) ∧ Hid (wr.ownsRow w.heap.size 3 1 (.slice (some ⟨ob, 0, none⟩) m m) m (zV (zs ++ List.replicate (m - k) 0))) ∧ Hid (zs ++ prtV (a.map kin) tk ((b.map kin).drop k) = Z) ∧ Hid (zs.length = k) ∧ Hid (Below w.heap.size w wr)) (fun i _ => m - (intOf i).toNat)
      case atStart => exact ⟨0, [], [], _, _, by omega, rfl, HJ0, HO0, HZ, Lib.hid rfl, HB0⟩
      case round =>
        obtain ⟨k, tk, zs, D, V, hk, rfl, HJ, HO, HE, HZK, HBW⟩ := hrel
        by_cases hlt : k < m
        · obtain ⟨y, hy⟩ := at_some (show k < b.length by rw [HM.out]; exact hlt)
          have hE := HE.out
          rw [show (b.map kin).drop k = kin y :: (b.map kin).drop (k + 1) from (by
            have h : (b.map kin)[k]? = some (kin y) := (by rw [List.getElem?_map, hy]; rfl)
            obtain ⟨hk2, e⟩ := List.getElem?_eq_some_iff.1 h
            rw [List.drop_eq_getElem_cons hk2, e])] at hE
          obtain ⟨bb, offb, E0, g0, E1, g1, rfl, hblt, _, e0, e1, e2, e3, e4, _, _, _⟩ := (HB.out.below HBW.out).at_ hy
          have hkw := HWB.out y (List.mem_of_getElem? hy)
          obtain ⟨yt, yk, ys', yp, yq⟩ := y
          dsimp only [Tr.tag, Tr.key, Tr.text, Tr.ps, Tr.ks] at e0 e1 e2 e3 e4
          replace hkw : kW (yt, yk) := hkw
          replace hE : zs ++ prtV (a.map kin) tk ((yt, yk) :: (b.map kin).drop (k + 1)) = Z := hE
          generalize yp.length = np at e3
          generalize yq.length = nq at e4
          have hi1 : (0 : Int) ≤ (k : Int) := by omega
          have hi2 : (k : Int) < (m : Int) := by omega
          have HE2 := Lib.hid hE
          have HKW := Lib.hid hkw
          clear hy hE hkw HE
          go_wp2_with fail
          refine (ikin_any yt yk ys' E0 E1 np g0 nq g1 _).mono ?_
          rintro e w2 ⟨rfl, hb2⟩
          have hbt := Below.alloc (Below.refl wr.heap.size wr) (Nat.le_refl _) (.cells #[.int .i64 yt, .int .i64 yk, .string ys', .slice E0 np g0, .slice E1 nq g1] 33)
          have hb2' : Below wr.heap.size wr w2 := more hbt (Nat.le_refl _) hb2
          have hbb : Below wr.heap.size wr (w2.alloc (.cells #[.int .i64 yt, .int .i64 yk] 53)) := hb2'.alloc hb2'.size _
          have hobw := (HO.out.lt ob rfl).2
          have HJ1 := Lib.hid (HJ.out.keep hbb.size (fun g h => hbb.block g (by omega)))
          have HO1 := Lib.hid (ownsRow_below HO.out hbb)
          have HB1 := Lib.hid (HBW.out.trans (hbb.mono HBW.out.size))
          obtain ⟨v0, ps, hrun, hv⟩ := HJ1.out.own.lookup lawK Tryd.underlying96 (Tryd.zeroValue26 (w2.alloc (.cells #[.int .i64 yt, .int .i64 yk] 53))) (R := RVk) rfl (key_kd HKW.out)
          obtain ⟨R, c1, hV1, hV2, hV3, hV4⟩ := HJ1.out.lie (yt, yk)
          obtain rfl : v0 = V (yt, yk) := by
            rw [HJ1.out.at_ (yt, yk) HKW.out] at hv
            have h : (some ((DataW.held v0 : DataW Value), ([] : List MemPlace))) = some (.held (V (yt, yk)), ps) := hv
            injection h with h
            injection h with h _
            injection h
          have HV1 := Lib.hid hV1
          rw [hV1] at hrun
          replace hrun : (Instr.lookup 96 (.map (some w.heap.size)) (.agg #[.int .i64 yt, .int .i64 yk]) false).run Tryd.prog (w2.alloc (.cells #[.int .i64 yt, .int .i64 yk] 53)) = .ok (.slice R (freeQ (a.map kin) tk (yt, yk)).length c1) (w2.alloc (.cells #[.int .i64 yt, .int .i64 yk] 53)) := hrun
          have hobl : ob < (w2.alloc (.cells #[.int .i64 yt, .int .i64 yk] 53)).heap.size := (HO1.out.lt ob rfl).2
          have hz2 := hb2'.size
          have hpl : (freeQ (a.map kin) tk (yt, yk)).length ≤ n := Nat.le_trans (List.length_filter_le _ _) (Nat.le_trans (posF_len _ _ _) (by rw [List.length_map, HN.out]; exact Nat.le_refl _))
          clear hv hb2' hbb hbt hb2 HJ HO HBW hV1
          obtain ⟨Q, hQ⟩ : ∃ q, freeQ (a.map kin) tk (yt, yk) = q := ⟨_, rfl⟩
          rw [hQ] at hrun hpl hV2 hV3
          have HQ := Lib.hid hQ
          have HV3 := Lib.hid hV3
          have HV4 := Lib.hid hV4
          clear hQ hV3 hV4
          cases Q with
          | nil =>
            obtain ⟨u0, d0⟩ : ∃ u, (w2.alloc (.cells #[.int .i64 yt, .int .i64 yk] 53)).cell? ⟨ob, k, none⟩ = some u := ⟨_, (HO1.out.cellAt k (by omega)).trans (List.getElem?_eq_getElem (show k < _ by rw [zV_len, List.length_append, HZK.out, List.length_replicate]; omega))⟩
            have f0 := HO1.out.frozenAt k
            obtain ⟨s1, g1⟩ := HO1.out.stored k (.int .i64 (-1))
            rw [rep_set (-1) HZK.out hlt] at s1
            have hE := HE2.out
            rw [prtV_no HQ.out] at hE
            have HJ2 := Lib.hid ((HJ1.out.keep g1.size (fun g h => g1.block g (by omega) (by intro e; injection e with e; omega))).more (show n + k ≤ n + (k + 1) by omega))
            have HO2 := Lib.hid s1
            have HE3 := Lib.hid (show (zs ++ [-1]) ++ prtV (a.map kin) tk ((b.map kin).drop (k + 1)) = Z by rw [List.append_assoc]; exact hE)
            have HB2 := Lib.hid (HB1.out.grown g1 HB1.out.size (fun g e => by cases e; omega))
            clear s1 g1 hE HJ1 HO1 HB1 HE2
            go_wp2_with fail
            go_roundw
            case rel => exact ⟨k + 1, tk, zs ++ [-1], D, V, by omega, by go_num, HJ2, HO2, HE3, Lib.hid (by rw [List.length_append, HZK.out]; rfl), HB2⟩
            case measure => simp [intOf]; omega
          | cons q qs =>
            have hle1 : (1 : Int) ≤ (qs.length : Int) + 1 := by omega
            have hlow := HJ1.out.low
            have hd0 : decide (((q :: qs).length : Int) = 0) = false := by simp only [List.length_cons]; exact decide_eq_false (by omega)
            simp only [List.length_cons] at hrun hpl hV2 hd0
            obtain ⟨qb, qo, rfl, hqlt, hqc⟩ := HV3.out (by rw [natI_len]; simp)
            have hq0 := hqc 0 (q : Int) (by simp [natI])
            rw [Nat.add_zero] at hq0
            obtain ⟨hqb, hqm⟩ := HV4.out qb qo rfl
            have c0 : (w2.alloc (.cells #[.int .i64 yt, .int .i64 yk] 53)).cell? ⟨w2.heap.size, 0, none⟩ = some (.int .i64 yt) := by rw [World.cell?_alloc_new]; rfl
            have c1' : (w2.alloc (.cells #[.int .i64 yt, .int .i64 yk] 53)).cell? ⟨w2.heap.size, 1, none⟩ = some (.int .i64 yk) := by rw [World.cell?_alloc_new]; rfl
            have hobz : ob < w2.heap.size := by omega
            go_wp2_with fail
            have hbd : Below (w2.alloc (.cells #[.int .i64 yt, .int .i64 yk] 53)).heap.size (w2.alloc (.cells #[.int .i64 yt, .int .i64 yk] 53)) (w2.alloc (.cells #[.int .i64 yt, .int .i64 yk] 53)).drew := Below.drew (Below.refl _ _)
            have hHeld0 : (fun w' : World => w'.cell? ⟨w2.heap.size, 0, none⟩ = some (.int .i64 yt) ∧ w'.cell? ⟨w2.heap.size, 1, none⟩ = some (.int .i64 yk) ∧ w'.cell? ⟨qb, qo, none⟩ = some (.int .i64 (q : Int))) (w2.alloc (.cells #[.int .i64 yt, .int .i64 yk] 53)).drew := ⟨c0, c1', hq0⟩
            refine wp_region_held_drew (S := (fun w' : World => w'.cell? ⟨w2.heap.size, 0, none⟩ = some (.int .i64 yt) ∧ w'.cell? ⟨w2.heap.size, 1, none⟩ = some (.int .i64 yk) ∧ w'.cell? ⟨qb, qo, none⟩ = some (.int .i64 (q : Int)))) (by kernel_rfl) hHeld0 (fun hHeld => ?_)
            clear hHeld0
            replace hrun : (Instr.lookup 96 (.map (some w.heap.size)) (.agg #[.int .i64 yt, .int .i64 yk]) false).run Tryd.prog (w2.alloc (.cells #[.int .i64 yt, .int .i64 yk] 53)).drew = .ok (.slice (some ⟨qb, qo, none⟩) (qs.length + 1) c1) (w2.alloc (.cells #[.int .i64 yt, .int .i64 yk] 53)).drew := by
              obtain ⟨v0, ps, hr2, hv2⟩ := (World.ownsMap.drew HJ1.out.own).lookup lawK Tryd.underlying96 (Tryd.zeroValue26 (w2.alloc (.cells #[.int .i64 yt, .int .i64 yk] 53)).drew) (R := RVk) rfl (key_kd HKW.out)
              rw [HJ1.out.at_ (yt, yk) HKW.out, HV1.out, HQ.out] at hv2
              have h : (some ((DataW.held v0 : DataW Value), ([] : List MemPlace))) = some (.held (.slice (some ⟨qb, qo, none⟩) (qs.length + 1) c1), ps) := hv2
              injection h with h
              injection h with h _
              injection h with h
              rw [h] at hr2
              exact hr2
            have HJd := Lib.hid (HJ1.out.keep hbd.size (fun g h => hbd.block g (by omega)))
            have HOd := Lib.hid (ownsRow_below HO1.out hbd)
            have HBd := Lib.hid (HB1.out.trans (hbd.mono HB1.out.size))
            have hszd : (w2.alloc (.cells #[.int .i64 yt, .int .i64 yk] 53)).drew.heap.size = w2.heap.size + 1 := by show (w2.alloc (.cells #[.int .i64 yt, .int .i64 yk] 53)).heap.size = _; simp
            obtain ⟨wd, hwd⟩ : ∃ v, (w2.alloc (.cells #[.int .i64 yt, .int .i64 yk] 53)).drew = v := ⟨_, rfl⟩
            rw [hwd] at hrun HJd HOd HBd hHeld hszd ⊢
            clear hwd hbd c0 c1' hq0 HJ1 HO1 HB1
            obtain ⟨u0, d0⟩ : ∃ u, wd.cell? ⟨ob, k, none⟩ = some u := ⟨_, (HOd.out.cellAt k (by omega)).trans (List.getElem?_eq_getElem (show k < _ by rw [zV_len, List.length_append, HZK.out, List.length_replicate]; omega))⟩
            have f0 := HOd.out.frozenAt k
            obtain ⟨s1, g1⟩ := HOd.out.stored k (.int .i64 (q : Int))
            rw [rep_set (q : Int) HZK.out hlt] at s1
            have hJ5 := HJd.out.keep g1.size (fun g h => g1.block g (by omega) (by intro e; injection e with e; omega))
            have hB5 := HBd.out.grown g1 HBd.out.size (fun g e => by cases e; omega)
            have q0 := (World.cell?_of_block (a := ⟨w2.heap.size, 0, none⟩) (g1.block _ (by show w2.heap.size < _; omega) (by intro e; injection e with e; dsimp only at e; omega))).trans hHeld.1
            have q1 := (World.cell?_of_block (a := ⟨w2.heap.size, 1, none⟩) (g1.block _ (by show w2.heap.size < _; omega) (by intro e; injection e with e; dsimp only at e; omega))).trans hHeld.2.1
            have q2 := (World.cell?_of_block (a := ⟨qb, qo, none⟩) (g1.block _ (by show qb < _; omega) (by intro e; injection e with e; dsimp only at e; omega))).trans hHeld.2.2
            have hs5 := g1.size
            have hw5 : wd.setCell ⟨ob, k, none⟩ (.int .i64 (q : Int)) = wd.setCell ⟨ob, k, none⟩ (.int .i64 (q : Int)) := rfl
            obtain ⟨v0, st, w6, hrunE, hat, hg6, hsz6, hst⟩ := own_entry hJ5.own (by unfold maxLen; omega) (fun u => Tryd.zeroValue26 u) (key_kd HKW.out)
            replace hrunE : (Instr.mapEntry 96 (.map (some w.heap.size)) (.agg #[.int .i64 yt, .int .i64 yk])).run Tryd.prog (wd.setCell ⟨ob, k, none⟩ (.int .i64 (q : Int))) = .ok (.tuple #[v0, .int .i64 (st : Int)]) w6 := hrunE
            have p0 := (World.cell?_of_block (a := ⟨w2.heap.size, 0, none⟩) (hg6.block _ (by show w2.heap.size < _; omega) (by intro e; injection e with e; dsimp only at e; omega))).trans q0
            have p1 := (World.cell?_of_block (a := ⟨w2.heap.size, 1, none⟩) (hg6.block _ (by show w2.heap.size < _; omega) (by intro e; injection e with e; dsimp only at e; omega))).trans q1
            have p2 := (World.cell?_of_block (a := ⟨qb, qo, none⟩) (hg6.block _ (by show qb < _; omega) (by intro e; injection e with e; dsimp only at e; omega))).trans q2
            obtain ⟨w7, hrun7, hown7, hg7, hsz7⟩ := hst w6 (.slice (if c1 = 1 then some (⟨qb, qo, none⟩ : Addr) else some (⟨qb, qo + 1, none⟩ : Addr)) qs.length (c1 - 1)) rfl
            replace hrun7 : (Instr.entryStore 96 (.map (some w.heap.size)) (.int .i64 (st : Int)) (.slice (if c1 = 1 then some (⟨qb, qo, none⟩ : Addr) else some (⟨qb, qo + 1, none⟩ : Addr)) qs.length (c1 - 1))).run Tryd.prog w6 = .ok () w7 := hrun7
            have t0 := (World.cell?_of_block (a := ⟨w2.heap.size, 0, none⟩) (hg7.block _ (by show w2.heap.size < _; omega) (by intro e; injection e with e; dsimp only at e; omega))).trans p0
            have t1 := (World.cell?_of_block (a := ⟨w2.heap.size, 1, none⟩) (hg7.block _ (by show w2.heap.size < _; omega) (by intro e; injection e with e; dsimp only at e; omega))).trans p1
            have t2 := (World.cell?_of_block (a := ⟨qb, qo, none⟩) (hg7.block _ (by show qb < _; omega) (by intro e; injection e with e; dsimp only at e; omega))).trans p2
            have hRP : (if c1 = 1 then some (⟨qb, qo, none⟩ : Addr) else some (⟨qb, qo + 1, none⟩ : Addr)) = some ⟨qb, qo + 1, none⟩ ∨ qs = [] ∧ (if c1 = 1 then some (⟨qb, qo, none⟩ : Addr) else some (⟨qb, qo + 1, none⟩ : Addr)) = some ⟨qb, qo, none⟩ := by
              by_cases hc : c1 = 1
              · exact .inr ⟨List.eq_nil_of_length_eq_zero (by omega), if_pos hc⟩
              · exact .inl (if_neg hc)
            have HJ7 := Lib.hid ((hJ5.take HKW.out HQ.out (by rw [HV1.out, HQ.out, List.length_cons]) (Nat.le_trans hg6.size hg7.size) (fun g h1 h2 => (hg7.block g (by omega) (by intro e; injection e with e; exact h2 e)).trans (hg6.block g (by omega) (by intro e; injection e with e; exact h2 e))) hRP hown7).more (show n + k + 1 ≤ n + (k + 1) by omega))
            have HO7 := Lib.hid (row_kept (row_kept s1 hg6 (fun g e => by cases e; intro e2; injection e2 with e2; have e3 : ob = w.heap.size := e2; omega)) hg7 (fun g e => by cases e; intro e2; injection e2 with e2; have e3 : ob = w.heap.size := e2; omega))
            have hE := HE2.out
            rw [prtV_yes HQ.out] at hE
            have HE7 := Lib.hid (show (zs ++ [(q : Int)]) ++ prtV (a.map kin) (q :: tk) ((b.map kin).drop (k + 1)) = Z by rw [List.append_assoc]; exact hE)
            have HB7 := Lib.hid ((hB5.grown hg6 hB5.size (fun g e => by cases e; exact Nat.le_refl _)).grown hg7 (hB5.grown hg6 hB5.size (fun g e => by cases e; exact Nat.le_refl _)).size (fun g e => by cases e; exact Nat.le_refl _))
            clear hRP s1 g1 hJ5 hB5 hat hg6 hsz6 hst hown7 hg7 hsz7 hE HE2 HJd HOd HBd hqc hs5 hw5
            refine wpAnyH_take (i := 0) (oi := _) (v := ?_) rfl (by kernel_rfl) (by kernel_rfl) (by kernel_rfl) (fun _ _ _ h => h) (Or.inl ⟨by kernel_rfl, ?_⟩) (by assumption) ?_
            rotate_left
            · (intro w hSw; (try dsimp only at hSw); go_simp)
              try with_reducible rfl
            (try simp only [Act.put, List.getElem_toArray, List.getElem_cons_zero, List.getElem_cons_succ, List.setIfInBounds_toArray, List.set_cons_zero, List.set_cons_succ])
            refine wpAnyH_take (i := 1) (oi := _) (v := ?_) rfl (by kernel_rfl) (by kernel_rfl) (by kernel_rfl) (fun _ _ _ h => h) (Or.inl ⟨by kernel_rfl, ?_⟩) (by assumption) ?_
            rotate_left
            · (intro w hSw; (try dsimp only at hSw); go_simp)
              try with_reducible rfl
            (try simp only [Act.put, List.getElem_toArray, List.getElem_cons_zero, List.getElem_cons_succ, List.setIfInBounds_toArray, List.set_cons_zero, List.set_cons_succ])
            refine wpAnyH_take (i := 2) (oi := _) (v := ?_) rfl (by kernel_rfl) (by kernel_rfl) (by kernel_rfl) (fun _ _ _ h => h) (Or.inl ⟨by kernel_rfl, ?_⟩) (by assumption) ?_
            rotate_left
            · (intro w hSw; (try dsimp only at hSw); go_simp)
              try with_reducible rfl
            (try simp only [Act.put, List.getElem_toArray, List.getElem_cons_zero, List.getElem_cons_succ, List.setIfInBounds_toArray, List.set_cons_zero, List.set_cons_succ])
            refine wpAnyH_take (i := 3) (oi := _) (v := ?_) rfl (by kernel_rfl) (by kernel_rfl) (by kernel_rfl) (fun _ _ _ h => h) (Or.inl ⟨by kernel_rfl, ?_⟩) (by assumption) ?_
            rotate_left
            · (intro w hSw; (try dsimp only at hSw); go_simp)
              try with_reducible rfl
            (try simp only [Act.put, List.getElem_toArray, List.getElem_cons_zero, List.getElem_cons_succ, List.setIfInBounds_toArray, List.set_cons_zero, List.set_cons_succ])
            refine wpAnyH_take (i := 4) (oi := _) (v := ?_) rfl (by kernel_rfl) (by kernel_rfl) (by kernel_rfl) (fun _ _ _ h => h) (Or.inl ⟨by kernel_rfl, ?_⟩) (by assumption) ?_
            rotate_left
            · (intro w hSw; (try dsimp only at hSw); go_simp)
              try with_reducible rfl
            (try simp only [Act.put, List.getElem_toArray, List.getElem_cons_zero, List.getElem_cons_succ, List.setIfInBounds_toArray, List.set_cons_zero, List.set_cons_succ])
            refine wpAnyH_take (i := 5) (oi := _) (v := ?_) rfl (by kernel_rfl) (by kernel_rfl) (by kernel_rfl) (fun _ _ _ h => h) (Or.inl ⟨by kernel_rfl, ?_⟩) (by assumption) ?_
            rotate_left
            · (intro w hSw; (try dsimp only at hSw); go_simp)
              try with_reducible rfl
            (try simp only [Act.put, List.getElem_toArray, List.getElem_cons_zero, List.getElem_cons_succ, List.setIfInBounds_toArray, List.set_cons_zero, List.set_cons_succ])
            refine wpAnyH_take (i := 9) (oi := _) (v := ?_) rfl (by kernel_rfl) (by kernel_rfl) (by kernel_rfl) (fun _ _ _ h => h) (Or.inl ⟨by kernel_rfl, ?_⟩) (by assumption) ?_
            rotate_left
            · (intro w hSw; (try dsimp only at hSw); go_simp)
              try with_reducible rfl
            (try simp only [Act.put, List.getElem_toArray, List.getElem_cons_zero, List.getElem_cons_succ, List.setIfInBounds_toArray, List.set_cons_zero, List.set_cons_succ])
            refine wpAnyH_take (i := 10) (oi := _) (v := ?_) rfl (by kernel_rfl) (by kernel_rfl) (by kernel_rfl) (fun _ _ _ h => h) (Or.inl ⟨by kernel_rfl, ?_⟩) (by assumption) ?_
            rotate_left
            · (intro w hSw; (try dsimp only at hSw); go_simp)
              try with_reducible rfl
            (try simp only [Act.put, List.getElem_toArray, List.getElem_cons_zero, List.getElem_cons_succ, List.setIfInBounds_toArray, List.set_cons_zero, List.set_cons_succ])
            refine wpAnyH_ready (rs := [6, 11]) (by kernel_rfl) (by simp) ?_
            refine AllReadyH.cons (o := _) rfl (fun K hK => ?_) ?_
            · skip
              go_simp
              refine hK.out _ _ hHeld (fun hHeld2 => ?_)
              clear hK K hHeld2
              (try simp only [Act.put, List.getElem_toArray, List.getElem_cons_zero, List.getElem_cons_succ, List.setIfInBounds_toArray, List.set_cons_zero, List.set_cons_succ])
              refine wpAnyH_take (i := 7) (oi := _) (v := ?_) rfl (by kernel_rfl) (by kernel_rfl) (by kernel_rfl) (fun _ _ _ h => h) (Or.inl ⟨by kernel_rfl, ?_⟩) (by assumption) ?_
              rotate_left
              · (intro w hSw; (try dsimp only at hSw); go_simp)
                try with_reducible rfl
              (try simp only [Act.put, List.getElem_toArray, List.getElem_cons_zero, List.getElem_cons_succ, List.setIfInBounds_toArray, List.set_cons_zero, List.set_cons_succ])
              refine wpAnyH_take (i := 8) (oi := _) (v := ?_) rfl (by kernel_rfl) (by kernel_rfl) (by kernel_rfl) (fun _ _ _ h => h) (Or.inl ⟨by kernel_rfl, ?_⟩) (by assumption) ?_
              rotate_left
              · (intro w hSw; (try dsimp only at hSw); go_simp)
                try with_reducible rfl
              (try simp only [Act.put, List.getElem_toArray, List.getElem_cons_zero, List.getElem_cons_succ, List.setIfInBounds_toArray, List.set_cons_zero, List.set_cons_succ])
              refine wpAnyH_ready (rs := [11]) (by kernel_rfl) (by simp) ?_
              refine AllReadyH.cons (o := _) rfl (fun K hK => ?_) AllReadyH.nil
              go_simp
              refine hK.out _ _ hHeld (fun hHeld2 => ?_)
              clear hK K hHeld2
              (try simp only [Act.put, List.getElem_toArray, List.getElem_cons_zero, List.getElem_cons_succ, List.setIfInBounds_toArray, List.set_cons_zero, List.set_cons_succ])
              refine wpAnyH_take (i := 12) (oi := _) (v := ?_) rfl (by kernel_rfl) (by kernel_rfl) (by kernel_rfl) (fun _ _ _ h => h) (Or.inl ⟨by kernel_rfl, ?_⟩) (by assumption) ?_
              rotate_left
              · (intro w hSw; (try dsimp only at hSw); go_simp)
                try with_reducible rfl
              (try simp only [Act.put, List.getElem_toArray, List.getElem_cons_zero, List.getElem_cons_succ, List.setIfInBounds_toArray, List.set_cons_zero, List.set_cons_succ])
              refine wpAnyH_take (i := 13) (oi := _) (v := ?_) rfl (by kernel_rfl) (by kernel_rfl) (by kernel_rfl) (fun _ _ _ h => h) (Or.inl ⟨by kernel_rfl, ?_⟩) (by assumption) ?_
              rotate_left
              · (intro w hSw; (try dsimp only at hSw); go_simp)
                try with_reducible rfl
              (try simp only [Act.put, List.getElem_toArray, List.getElem_cons_zero, List.getElem_cons_succ, List.setIfInBounds_toArray, List.set_cons_zero, List.set_cons_succ])
              refine wpAnyH_ready (rs := [14]) (by kernel_rfl) (by simp) ?_
              refine AllReadyH.cons (o := _) rfl (fun K hK => ?_) AllReadyH.nil
              go_simp
              refine hK.out _ _ ⟨q0, q1, q2⟩ (fun hHeld2 => ?_)
              clear hK K hHeld hHeld2
              have hHeld : (fun w' : World => w'.cell? ⟨w2.heap.size, 0, none⟩ = some (.int .i64 yt) ∧ w'.cell? ⟨w2.heap.size, 1, none⟩ = some (.int .i64 yk) ∧ w'.cell? ⟨qb, qo, none⟩ = some (.int .i64 (q : Int))) (wd.setCell ⟨ob, k, none⟩ (.int .i64 (q : Int))) := ⟨q0, q1, q2⟩
              (try simp only [Act.put, List.getElem_toArray, List.getElem_cons_zero, List.getElem_cons_succ, List.setIfInBounds_toArray, List.set_cons_zero, List.set_cons_succ])
              try rw [hw5]
              refine wpAnyH_ready (rs := [15]) (by kernel_rfl) (by simp) ?_
              refine AllReadyH.cons (o := _) rfl (fun K hK => ?_) AllReadyH.nil
              go_simp
              refine hK.out _ _ ⟨p0, p1, p2⟩ (fun hHeld2 => ?_)
              clear hK K hHeld hHeld2
              have hHeld : (fun w' : World => w'.cell? ⟨w2.heap.size, 0, none⟩ = some (.int .i64 yt) ∧ w'.cell? ⟨w2.heap.size, 1, none⟩ = some (.int .i64 yk) ∧ w'.cell? ⟨qb, qo, none⟩ = some (.int .i64 (q : Int))) w6 := ⟨p0, p1, p2⟩
              (try simp only [Act.put, List.getElem_toArray, List.getElem_cons_zero, List.getElem_cons_succ, List.setIfInBounds_toArray, List.set_cons_zero, List.set_cons_succ])
              refine wpAnyH_take (i := 16) (oi := _) (v := ?_) rfl (by kernel_rfl) (by kernel_rfl) (by kernel_rfl) (fun _ _ _ h => h) (Or.inl ⟨by kernel_rfl, ?_⟩) (by assumption) ?_
              rotate_left
              · (intro w hSw; (try dsimp only at hSw); go_simp)
                try with_reducible rfl
              (try simp only [Act.put, List.getElem_toArray, List.getElem_cons_zero, List.getElem_cons_succ, List.setIfInBounds_toArray, List.set_cons_zero, List.set_cons_succ])
              refine wpAnyH_ready (rs := [17]) (by kernel_rfl) (by simp) ?_
              refine AllReadyH.cons (o := _) rfl (fun K hK => ?_) AllReadyH.nil
              go_simp
              refine hK.out _ _ ⟨t0, t1, t2⟩ (fun hHeld2 => ?_)
              clear hK K hHeld hHeld2
              (try simp only [Act.put, List.getElem_toArray, List.getElem_cons_zero, List.getElem_cons_succ, List.setIfInBounds_toArray, List.set_cons_zero, List.set_cons_succ])
              refine wpAnyH_done (by kernel_rfl) ?_ _
              go_wp2_with fail
              go_roundw
              case rel => exact ⟨k + 1, q :: tk, zs ++ [(q : Int)], _, _, by omega, by go_num, HJ7, HO7, HE7, Lib.hid (by rw [List.length_append, HZK.out]; rfl), HB7⟩
              case measure => simp [intOf]; omega
            refine AllReadyH.cons (o := _) rfl (fun K hK => ?_) AllReadyH.nil
            go_simp
            refine hK.out _ _ hHeld (fun hHeld2 => ?_)
            clear hK K hHeld2
            (try simp only [Act.put, List.getElem_toArray, List.getElem_cons_zero, List.getElem_cons_succ, List.setIfInBounds_toArray, List.set_cons_zero, List.set_cons_succ])
            refine wpAnyH_take (i := 12) (oi := _) (v := ?_) rfl (by kernel_rfl) (by kernel_rfl) (by kernel_rfl) (fun _ _ _ h => h) (Or.inl ⟨by kernel_rfl, ?_⟩) (by assumption) ?_
            rotate_left
            · (intro w hSw; (try dsimp only at hSw); go_simp)
              try with_reducible rfl
            (try simp only [Act.put, List.getElem_toArray, List.getElem_cons_zero, List.getElem_cons_succ, List.setIfInBounds_toArray, List.set_cons_zero, List.set_cons_succ])
            refine wpAnyH_ready (rs := [6]) (by kernel_rfl) (by simp) ?_
            refine AllReadyH.cons (o := _) rfl (fun K hK => ?_) AllReadyH.nil
            go_simp
            refine hK.out _ _ hHeld (fun hHeld2 => ?_)
            clear hK K hHeld2
            (try simp only [Act.put, List.getElem_toArray, List.getElem_cons_zero, List.getElem_cons_succ, List.setIfInBounds_toArray, List.set_cons_zero, List.set_cons_succ])
            refine wpAnyH_take (i := 7) (oi := _) (v := ?_) rfl (by kernel_rfl) (by kernel_rfl) (by kernel_rfl) (fun _ _ _ h => h) (Or.inl ⟨by kernel_rfl, ?_⟩) (by assumption) ?_
            rotate_left
            · (intro w hSw; (try dsimp only at hSw); go_simp)
              try with_reducible rfl
            (try simp only [Act.put, List.getElem_toArray, List.getElem_cons_zero, List.getElem_cons_succ, List.setIfInBounds_toArray, List.set_cons_zero, List.set_cons_succ])
            refine wpAnyH_take (i := 8) (oi := _) (v := ?_) rfl (by kernel_rfl) (by kernel_rfl) (by kernel_rfl) (fun _ _ _ h => h) (Or.inl ⟨by kernel_rfl, ?_⟩) (by assumption) ?_
            rotate_left
            · (intro w hSw; (try dsimp only at hSw); go_simp)
              try with_reducible rfl
            (try simp only [Act.put, List.getElem_toArray, List.getElem_cons_zero, List.getElem_cons_succ, List.setIfInBounds_toArray, List.set_cons_zero, List.set_cons_succ])
            refine wpAnyH_take (i := 13) (oi := _) (v := ?_) rfl (by kernel_rfl) (by kernel_rfl) (by kernel_rfl) (fun _ _ _ h => h) (Or.inl ⟨by kernel_rfl, ?_⟩) (by assumption) ?_
            rotate_left
            · (intro w hSw; (try dsimp only at hSw); go_simp)
              try with_reducible rfl
            (try simp only [Act.put, List.getElem_toArray, List.getElem_cons_zero, List.getElem_cons_succ, List.setIfInBounds_toArray, List.set_cons_zero, List.set_cons_succ])
            refine wpAnyH_ready (rs := [14]) (by kernel_rfl) (by simp) ?_
            refine AllReadyH.cons (o := _) rfl (fun K hK => ?_) AllReadyH.nil
            go_simp
            refine hK.out _ _ ⟨q0, q1, q2⟩ (fun hHeld2 => ?_)
            clear hK K hHeld hHeld2
            have hHeld : (fun w' : World => w'.cell? ⟨w2.heap.size, 0, none⟩ = some (.int .i64 yt) ∧ w'.cell? ⟨w2.heap.size, 1, none⟩ = some (.int .i64 yk) ∧ w'.cell? ⟨qb, qo, none⟩ = some (.int .i64 (q : Int))) (wd.setCell ⟨ob, k, none⟩ (.int .i64 (q : Int))) := ⟨q0, q1, q2⟩
            (try simp only [Act.put, List.getElem_toArray, List.getElem_cons_zero, List.getElem_cons_succ, List.setIfInBounds_toArray, List.set_cons_zero, List.set_cons_succ])
            try rw [hw5]
            refine wpAnyH_ready (rs := [15]) (by kernel_rfl) (by simp) ?_
            refine AllReadyH.cons (o := _) rfl (fun K hK => ?_) AllReadyH.nil
            go_simp
            refine hK.out _ _ ⟨p0, p1, p2⟩ (fun hHeld2 => ?_)
            clear hK K hHeld hHeld2
            have hHeld : (fun w' : World => w'.cell? ⟨w2.heap.size, 0, none⟩ = some (.int .i64 yt) ∧ w'.cell? ⟨w2.heap.size, 1, none⟩ = some (.int .i64 yk) ∧ w'.cell? ⟨qb, qo, none⟩ = some (.int .i64 (q : Int))) w6 := ⟨p0, p1, p2⟩
            (try simp only [Act.put, List.getElem_toArray, List.getElem_cons_zero, List.getElem_cons_succ, List.setIfInBounds_toArray, List.set_cons_zero, List.set_cons_succ])
            refine wpAnyH_take (i := 16) (oi := _) (v := ?_) rfl (by kernel_rfl) (by kernel_rfl) (by kernel_rfl) (fun _ _ _ h => h) (Or.inl ⟨by kernel_rfl, ?_⟩) (by assumption) ?_
            rotate_left
            · (intro w hSw; (try dsimp only at hSw); go_simp)
              try with_reducible rfl
            (try simp only [Act.put, List.getElem_toArray, List.getElem_cons_zero, List.getElem_cons_succ, List.setIfInBounds_toArray, List.set_cons_zero, List.set_cons_succ])
            refine wpAnyH_ready (rs := [17]) (by kernel_rfl) (by simp) ?_
            refine AllReadyH.cons (o := _) rfl (fun K hK => ?_) AllReadyH.nil
            go_simp
            refine hK.out _ _ ⟨t0, t1, t2⟩ (fun hHeld2 => ?_)
            clear hK K hHeld hHeld2
            (try simp only [Act.put, List.getElem_toArray, List.getElem_cons_zero, List.getElem_cons_succ, List.setIfInBounds_toArray, List.set_cons_zero, List.set_cons_succ])
            refine wpAnyH_done (by kernel_rfl) ?_ _
            go_wp2_with fail
            go_roundw
            case rel => exact ⟨k + 1, q :: tk, zs ++ [(q : Int)], _, _, by omega, by go_num, HJ7, HO7, HE7, Lib.hid (by rw [List.length_append, HZK.out]; rfl), HB7⟩
            case measure => simp [intOf]; omega

        · obtain rfl : m = k := by omega
          have hE := HE.out
          rw [List.drop_of_length_le (by rw [List.length_map, HM.out]; exact Nat.le_refl _)] at hE
          simp only [prtV, List.append_nil] at hE
          have HO2 := HO.out
          rw [Nat.sub_self, List.replicate_zero, List.append_nil] at HO2
          subst hE
          have HO3 := Lib.hid HO2
          clear HE HO HO2
          go_wp2_with fail
          rw [← HX.out]
          exact ⟨some ⟨ob, 0, none⟩, m, by rw [HZK.out]; rfl, by rw [HZK.out]; exact HO3.out, HBW.out⟩
end Go.Proofs.YtcpfjlbicofkeaaDoor
