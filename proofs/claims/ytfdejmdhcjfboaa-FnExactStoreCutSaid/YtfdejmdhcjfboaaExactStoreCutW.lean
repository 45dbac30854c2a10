/- The law FnExactStoreCut answers true at every store and place, and leaves them as they were. No conditions. -/
import Derived.Test.YtfdejmdhcjfboaaMrkM
import Derived.Test.YtfdejmdhcjfboaaKeyM
import Derived.Test.YtfdejmdhcjfboaaSpc2
namespace Go.Proofs.Ytfdejmdhcjfboaa.fnExactStoreCut
open Go.Joins Go.ChangeShapes Go.WideShapes Go.ChangeAt Go.RowKit Go.Deep
set_option linter.unusedVariables false
set_option linter.unusedSimpArgs false

set_option maxHeartbeats 400000 in
theorem markCells_zero (A : Option Addr) (c : Nat) (k : Int) (w : World) : Calls Try.prog 37 #[.slice A 0 c, .int .i64 k] w fun e w' => e = .returned (.int .i64 k) ∧ w = w' := by
  go_enter Try.func37, Try.ntmps37
  go_wp2_with fail
  refine wp_loop_rounds 1 ?_
  rw [rounds_succ]
  go_wp2_with fail
  go_ret
  exact ⟨rfl, rfl⟩
set_option maxHeartbeats 400000 in
theorem heldCells_zero (A : Option Addr) (c : Nat) (k : Int) (w : World) : Calls Try.prog 45 #[.slice A 0 c, .int .i64 k] w fun e w' => e = .returned (.int .i64 k) ∧ w = w' := by
  go_enter Try.func45, Try.ntmps45
  go_wp2_with fail
  refine wp_loop_rounds 1 ?_
  rw [rounds_succ]
  go_wp2_with fail
  go_ret
  exact ⟨rfl, rfl⟩
theorem eqSlots_n (A A' : Option Addr) (c c' n m : Nat) (xs ys : List Sl) (w : World) (hx : SlL w A xs) (hy : SlL w A' ys) (hn : xs.length = n) (hm : ys.length = m) (hl : n ≤ maxLen) (hl' : m ≤ maxLen) :
    Calls Try.prog 21 #[.slice A n c, .slice A' m c'] w fun e w' => e = .returned (.bool (eqSl xs ys)) ∧ Below w.heap.size w w' := by
  subst hn hm; exact eqSlots_any A A' c c' xs ys w hx hy hl hl'
theorem store_len {xs : List Ce} (h : storeB xs = true) : xs.length ≤ 200 := by
  unfold storeB at h
  rw [Bool.and_eq_true] at h
  exact of_decide_eq_true h.1
theorem cutV_len {xs : List Ce} {p : List Sl} {ys : List Ce} (h : cutV xs p = some ys) : ys.length ≤ 200 := by
  unfold cutV at h
  split at h
  · next hc =>
    injection h with h
    subst h
    rw [Bool.and_eq_true] at hc
    exact Nat.le_trans (List.length_filter_le _ _) (store_len hc.1)
  · cases h
set_option maxHeartbeats 16000000 in
theorem walk (A : Option Addr) (c : Nat) (xs : List Ce) (A' : Option Addr) (c' : Nat) (ps : List Sl) (w : World) (hs : xs.length ≤ maxLen) (hx : CeL w A xs) (hst : ∀ x ∈ xs, ∀ v ∈ x.st, v.s.size ≤ maxLen) (hs' : ps.length ≤ maxLen) (hy : SlL w A' ps) :
    Calls Try.prog 12 #[.slice A xs.length c, .slice A' ps.length c'] w fun e w' => e = .returned (.bool true) ∧ Below w.heap.size w w' := by
  have hz := szCells_any A c xs.length xs 1048576 w hx rfl hs hst (by omega) (by omega)
  have hm : xs.length ≤ maxLen := hs
  have hm' : ps.length ≤ maxLen := hs'
  unfold maxLen at hm hm'
  have hp := szCs_pos xs
  have HS := Lib.hid hs
  have HS' := Lib.hid hs'
  by_cases hl : (1048576 : Int) < xs.length + szCs xs
  · rw [leftV_neg hl] at hz
    have HZ := Lib.hid hz
    clear hz hp
    go_enter Try.func12, Try.ntmps12
    go_wp2_with (go_at_call 29; ((with_reducible refine HZ.out.mono ?_); rintro e w1 ⟨rfl, hb⟩); have hz1 := hb.size; have HB1 := Lib.hid hb; clear hb)
    go_ret
    exact ⟨rfl, HB1.out⟩
  rw [leftV_pos (by omega)] at hz
  have HZ := Lib.hid hz
  obtain ⟨z, hzz⟩ : ∃ z, (1048576 : Int) - (xs.length + szCs xs) = z := ⟨_, rfl⟩
  have hz0 : 0 ≤ z := by omega
  have hzb : z ≤ 1048576 := by omega
  have hzs := szSlots_any A' ps.length c' z
  rw [hzz] at HZ
  by_cases hl' : z < ps.length
  · simp only [if_pos hl'] at hzs
    have HZS := Lib.hid hzs
    clear hz hp hzz hzs
    go_enter Try.func12, Try.ntmps12
    go_wp2_with (first
      | (go_at_call 29; ((with_reducible refine HZ.out.mono ?_); rintro e w1 ⟨rfl, hb⟩); have hz1 := hb.size; have HB1 := Lib.hid hb; clear hb)
      | (go_at_call 17; ((with_reducible refine (HZS.out _ hzb hz0 HS'.out).mono ?_); rintro e w' ⟨rfl, rfl⟩)))
    go_ret
    exact ⟨rfl, HB1.out⟩
  simp only [if_neg hl'] at hzs
  have HZS := Lib.hid hzs
  have HX := Lib.hid hx
  have HY := Lib.hid hy
  have HS2 := Lib.hid (show ∀ x ∈ xs, x.pl.length ≤ 1048576 ∧ x.st.length ≤ 1048576 from fun x h => by have := szCs_mem h (show xs.length + szCs xs ≤ (1048576 : Int) by omega); omega)
  have HL2 := Lib.hid (show xs.length ≤ 1048576 by omega)
  have HM2 := Lib.hid (show ps.length ≤ 1048576 by omega)
  have ht := totC_le xs
  have htb : 1 + totC xs ≤ 50000000 := by omega
  obtain ⟨t, htt⟩ : ∃ t, 1 + totC xs = t := ⟨_, rfl⟩
  obtain ⟨t2, htt2⟩ : ∃ t2, t + 2 * ps.length = t2 := ⟨_, rfl⟩
  have htb2 : t ≤ 10000000 := by omega
  have HTB := Lib.hid htb
  have HTT := Lib.hid htt
  have HT2 := Lib.hid htt2
  have HTB2 := Lib.hid htb2
  obtain ⟨n, hn⟩ : ∃ n, xs.length = n := ⟨_, rfl⟩
  obtain ⟨m, hmm⟩ : ∃ m, ps.length = m := ⟨_, rfl⟩
  have HN := Lib.hid hn
  have HM := Lib.hid hmm
  have hzm : (m : Int) ≤ z := by omega
  rw [hn] at HL2 HZ HS ⊢
  rw [hmm] at HM2 HZS HS' HT2 ⊢
  have HL := HS
  have HL' := HS'
  have k2 := fun A A' c c' w hx hp => scut_any A A' c c' n m xs ps w hx hp HN.out HM.out HL.out HL'.out
  have k3 := fun A A' c c' w hx hp => icut_any A A' c c' n m xs ps w hx hp HN.out HM.out HL.out HL'.out
  have k4 := fun A A' c c' w hx hp => icutA_any A A' c c' n m xs ps w hx hp HN.out HM.out HL.out HL'.out
  clear hz hx hs hst hs' hy hl hl' hn hmm hm hm' hp hzz hzs ht htb htt htt2 htb2
  cases hv : cutV xs ps
  · rw [hv] at k2 k3
    have K2 := Lib.hid k2
    have K3 := Lib.hid k3
    clear k2 k3 hv k4
    all_goals
      go_enter Try.func12, Try.ntmps12
      go_wp2_with (first
        | (go_at_call 29; ((with_reducible refine HZ.out.mono ?_); rintro e w1 ⟨rfl, hb⟩); have hz1 := hb.size; have HB1 := Lib.hid hb; clear hb)
        | (go_at_call 17; ((with_reducible refine (HZS.out _ hzb hz0 HS'.out).mono ?_); rintro e w' ⟨rfl, rfl⟩)))
      refine (toCells_any A c n xs _ (HX.out.below HB1.out) HN.out HL2.out HS2.out).mono ?_
      rintro e w2 ⟨G2, L2, rfl, hr, hce, hb⟩
      have hz2 := hb.size
      have C1 := Lib.hid (CeN.of_own hr hce HN.out HS2.out)
      have HB2 := Lib.hid (more HB1.out (Nat.le_refl _) hb)
      clear hb hr hce
      go_wp2_with fail
      refine (toSlots_n A' c' m ps _ (HY.out.below HB2.out) HM.out HM2.out).mono ?_
      rintro e w3 ⟨rfl, ho, hb⟩
      replace C1 := Lib.hid (C1.out.below hb)
      have hz3 := hb.size
      have S1 := Lib.hid (Lie.of_own (c := Sl.cells) (fun _ => rfl) ho)
      have HB3 := Lib.hid (more HB2.out (Nat.le_refl _) hb)
      clear hb ho
      go_wp2_with fail
      refine (K2.out _ _ _ _ _ C1.out S1.out).mono ?_
      rintro e w4 ⟨hb, rfl⟩
      replace C1 := Lib.hid (C1.out.below hb)
      replace S1 := Lib.hid (S1.out.below hb)
      have hz4 := hb.size
      have HB4 := Lib.hid (more HB3.out (Nat.le_refl _) hb)
      clear hb
      go_wp2_with fail
      refine (toCells_any A c n xs _ (HX.out.below HB4.out) HN.out HL2.out HS2.out).mono ?_
      rintro e w5 ⟨G5, L5, rfl, hr, hce, hb⟩
      have hz5 := hb.size
      have X0 := Lib.hid (hr)
      have X0C := Lib.hid (hce)
      have HB5 := Lib.hid (more HB4.out (Nat.le_refl _) hb)
      have X0B := Lib.hid (fun (j : Nat) (hj : j < 2 * n) => (hce.lt (by rw [HN.out]; exact Nat.le_refl _) hj).2)
      clear hb hr hce
      go_wp2_with fail
      refine (toSlots_n A' c' m ps _ (HY.out.below HB5.out) HM.out HM2.out).mono ?_
      rintro e w6 ⟨rfl, ho, hb⟩
      replace X0 := Lib.hid (ownsRow_below X0.out hb)
      replace X0C := Lib.hid (X0C.out.below hb)
      have hz6 := hb.size
      have X1 := Lib.hid (ho)
      have HB6 := Lib.hid (more HB5.out (Nat.le_refl _) hb)
      have X1l : w5.heap.size < w6.heap.size := (World.ownsRow.lt ho _ rfl).2
      clear hb ho
      go_wp2_with fail
      refine (K3.out _ _ _ _ _ (CeN.of_own X0.out X0C.out HN.out HS2.out) (Lie.of_own (c := Sl.cells) (fun _ => rfl) X1.out)).mono ?_
      rintro e w7 ⟨hb, rfl⟩
      replace X0 := Lib.hid (ownsRow_below X0.out hb)
      replace X0C := Lib.hid (X0C.out.below hb)
      replace X1 := Lib.hid (ownsRow_below X1.out hb)
      have hz7 := hb.size
      have HB7 := Lib.hid (more HB6.out (Nat.le_refl _) hb)
      clear hb
      go_wp2_with fail
      refine (eqCells_any none none _ _ 0 0 [] [] _ (fun h => absurd h (by simp)) (fun h => absurd h (by simp)) rfl rfl (by decide) (by decide)).mono ?_
      rw [eqCs_refl]
      rintro e w8 ⟨rfl, hb⟩
      replace X0 := Lib.hid (ownsRow_below X0.out hb)
      replace X0C := Lib.hid (X0C.out.below hb)
      replace X1 := Lib.hid (ownsRow_below X1.out hb)
      have hz8 := hb.size
      have HB8 := Lib.hid (more HB7.out (Nat.le_refl _) hb)
      clear hb
      go_wp2_with fail
      refine (toCells_any A c n xs _ (HX.out.below HB8.out) HN.out HL2.out HS2.out).mono ?_
      rintro e w9 ⟨G9, L9, rfl, hr, hce, hb⟩
      replace X0 := Lib.hid (ownsRow_below X0.out hb)
      replace X0C := Lib.hid (X0C.out.below hb)
      replace X1 := Lib.hid (ownsRow_below X1.out hb)
      have hz9 := hb.size
      have C2 := Lib.hid (CeN.of_own hr hce HN.out HS2.out)
      have HB9 := Lib.hid (more HB8.out (Nat.le_refl _) hb)
      clear hb hr hce
      go_wp2_with fail
      refine (eqCells_any _ _ _ _ n n xs xs _ (CeL.of_own X0.out X0C.out HN.out HS2.out) C2.out.cel HN.out HN.out HL.out HL.out).mono ?_
      rw [eqCs_refl]
      rintro e w10 ⟨rfl, hb⟩
      replace X0 := Lib.hid (ownsRow_below X0.out hb)
      replace X0C := Lib.hid (X0C.out.below hb)
      replace X1 := Lib.hid (ownsRow_below X1.out hb)
      replace C2 := Lib.hid (C2.out.below hb)
      have hz10 := hb.size
      have HB10 := Lib.hid (more HB9.out (Nat.le_refl _) hb)
      clear hb
      go_wp2_with fail
      refine (toSlots_n A' c' m ps _ (HY.out.below HB10.out) HM.out HM2.out).mono ?_
      rintro e w11 ⟨rfl, ho, hb⟩
      replace X0 := Lib.hid (ownsRow_below X0.out hb)
      replace X0C := Lib.hid (X0C.out.below hb)
      replace X1 := Lib.hid (ownsRow_below X1.out hb)
      have hz11 := hb.size
      have S2 := Lib.hid (Lie.of_own (c := Sl.cells) (fun _ => rfl) ho)
      have HB11 := Lib.hid (more HB10.out (Nat.le_refl _) hb)
      clear hb ho
      go_wp2_with fail
      refine (eqSlots_n _ _ _ _ m m ps ps _ (Lie.of_own (c := Sl.cells) (fun _ => rfl) X1.out) S2.out HM.out HM.out HL'.out HL'.out).mono ?_
      rw [eqSl_refl]
      rintro e w12 ⟨rfl, hb⟩
      replace X0 := Lib.hid (ownsRow_below X0.out hb)
      replace X0C := Lib.hid (X0C.out.below hb)
      replace X1 := Lib.hid (ownsRow_below X1.out hb)
      replace S2 := Lib.hid (S2.out.below hb)
      have hz12 := hb.size
      have HB12 := Lib.hid (more HB11.out (Nat.le_refl _) hb)
      clear hb
      go_wp2_with fail
      refine (markCells_r w4.heap.size n w4.heap.size 1 n (w4.heap.size + 1) w5.heap.size t G5 L5 xs _ X0.out X0C.out HN.out HL2.out (Nat.lt_succ_self _) X0B.out HS2.out HTB.out (by omega) HTT.out).mono ?_
      rintro e w13 ⟨rfl, ho, hc, ht⟩
      replace X1 := Lib.hid (Turn.own ht X1.out (.inr (by omega)))
      have hz13 := ht.size
      have HB13 := Lib.hid (HB12.out.trans (ht.below (by omega) (by omega)))
      clear ho hc ht
      go_wp2_with fail
      refine (markSlots_r w5.heap.size m w5.heap.size t m t2 ps _ X1.out HM.out HM2.out (by have := HTB2.out; omega) HT2.out).mono ?_
      rintro e w14 ⟨rfl, ho, hgr⟩
      have hz14 := hgr.size
      have HB14 := Lib.hid (HB13.out.grown hgr (by omega) (fun k hk => by injection hk with hk; omega))
      clear ho hgr
      go_wp2_with fail
      refine (eqCells_any none none _ _ 0 0 [] [] _ (fun h => absurd h (by simp)) (fun h => absurd h (by simp)) rfl rfl (by decide) (by decide)).mono ?_
      rw [eqCs_refl]
      rintro e w15 ⟨rfl, hb⟩
      have hz15 := hb.size
      have HB15 := Lib.hid (more HB14.out (Nat.le_refl _) hb)
      clear hb
      go_wp2_with fail
      refine (markCells_zero _ _ _ _).mono ?_
      rintro e wq ⟨rfl, rfl⟩
      go_wp2_with fail
      refine (heldCells_zero _ _ _ _).mono ?_
      rintro e wq ⟨rfl, rfl⟩
      go_wp2_with fail
      refine (toCells_any A c n xs _ (HX.out.below HB15.out) HN.out HL2.out HS2.out).mono ?_
      rintro e w16 ⟨G16, L16, rfl, hr, hce, hb⟩
      have hz16 := hb.size
      have C3 := Lib.hid (CeN.of_own hr hce HN.out HS2.out)
      have HB16 := Lib.hid (more HB15.out (Nat.le_refl _) hb)
      clear hb hr hce
      go_wp2_with fail
      refine (toSlots_n A' c' m ps _ (HY.out.below HB16.out) HM.out HM2.out).mono ?_
      rintro e w17 ⟨rfl, ho, hb⟩
      replace C3 := Lib.hid (C3.out.below hb)
      have hz17 := hb.size
      have S3 := Lib.hid (Lie.of_own (c := Sl.cells) (fun _ => rfl) ho)
      have HB17 := Lib.hid (more HB16.out (Nat.le_refl _) hb)
      clear hb ho
      go_wp2_with fail
      refine (K3.out _ _ _ _ _ C3.out S3.out).mono ?_
      rintro e w18 ⟨hb, rfl⟩
      replace C3 := Lib.hid (C3.out.below hb)
      replace S3 := Lib.hid (S3.out.below hb)
      have hz18 := hb.size
      have HB18 := Lib.hid (more HB17.out (Nat.le_refl _) hb)
      clear hb
      go_wp2_with fail
      refine (eqCells_any none none _ _ 0 0 [] [] _ (fun h => absurd h (by simp)) (fun h => absurd h (by simp)) rfl rfl (by decide) (by decide)).mono ?_
      rw [eqCs_refl]
      rintro e w19 ⟨rfl, hb⟩
      have hz19 := hb.size
      have HB19 := Lib.hid (more HB18.out (Nat.le_refl _) hb)
      clear hb
      go_wp2_with fail
      refine (heldCells_zero _ _ _ _).mono ?_
      rintro e wq ⟨rfl, rfl⟩
      go_wp2_with fail
      go_ret
      exact ⟨rfl, HB19.out⟩
  · rename_i ys
    have HSM := Lib.hid (cutV_small hv)
    have hy2 : ys.length ≤ 200 := cutV_len hv
    have HY2 := Lib.hid hy2
    have HYM := Lib.hid (show ys.length ≤ maxLen by unfold maxLen; omega)
    have htc := totC_small HSM.out
    obtain ⟨r, hr⟩ : ∃ r, 1 + totC ys = r := ⟨_, rfl⟩
    have HRR := Lib.hid hr
    have hrb : r ≤ 2000000 := by omega
    have HRB := Lib.hid (show 1 + totC ys ≤ 50000000 by omega)
    rw [hv] at k2 k3 k4
    have K2 := Lib.hid k2
    by_cases hyn : ys = []
    · subst hyn
      have K3 := Lib.hid k3
      clear k2 k3 k4 hv htc hr hy2
      all_goals
        go_enter Try.func12, Try.ntmps12
        go_wp2_with (first
          | (go_at_call 29; ((with_reducible refine HZ.out.mono ?_); rintro e w1 ⟨rfl, hb⟩); have hz1 := hb.size; have HB1 := Lib.hid hb; clear hb)
          | (go_at_call 17; ((with_reducible refine (HZS.out _ hzb hz0 HS'.out).mono ?_); rintro e w' ⟨rfl, rfl⟩)))
        refine (toCells_any A c n xs _ (HX.out.below HB1.out) HN.out HL2.out HS2.out).mono ?_
        rintro e w2 ⟨G2, L2, rfl, hr, hce, hb⟩
        have hz2 := hb.size
        have C1 := Lib.hid (CeN.of_own hr hce HN.out HS2.out)
        have HB2 := Lib.hid (more HB1.out (Nat.le_refl _) hb)
        clear hb hr hce
        go_wp2_with fail
        refine (toSlots_n A' c' m ps _ (HY.out.below HB2.out) HM.out HM2.out).mono ?_
        rintro e w3 ⟨rfl, ho, hb⟩
        replace C1 := Lib.hid (C1.out.below hb)
        have hz3 := hb.size
        have S1 := Lib.hid (Lie.of_own (c := Sl.cells) (fun _ => rfl) ho)
        have HB3 := Lib.hid (more HB2.out (Nat.le_refl _) hb)
        clear hb ho
        go_wp2_with fail
        refine (K2.out _ _ _ _ _ C1.out S1.out).mono ?_
        rintro e w4 ⟨hb, b0, d0, L0, rfl, ho, hs⟩
        replace C1 := Lib.hid (C1.out.below hb)
        replace S1 := Lib.hid (S1.out.below hb)
        have hz4 := hb.size
        have BW := Lib.hid (Below.refl w4.heap.size w4)
        have HB4 := Lib.hid (more HB3.out (Nat.le_refl _) hb)
        have W0 := Lib.hid ((CeN.of_sto ho hs rfl HSM.out).cel)
        clear hb ho hs
        go_wp2_with fail
        refine (toCells_any A c n xs _ (HX.out.below HB4.out) HN.out HL2.out HS2.out).mono ?_
        rintro e w5 ⟨G5, L5, rfl, hr, hce, hb⟩
        replace BW := Lib.hid (more BW.out (Nat.le_refl _) hb)
        have hz5 := hb.size
        have X0 := Lib.hid (hr)
        have X0C := Lib.hid (hce)
        have HB5 := Lib.hid (more HB4.out (Nat.le_refl _) hb)
        have X0B := Lib.hid (fun (j : Nat) (hj : j < 2 * n) => (hce.lt (by rw [HN.out]; exact Nat.le_refl _) hj).2)
        clear hb hr hce
        go_wp2_with fail
        refine (toSlots_n A' c' m ps _ (HY.out.below HB5.out) HM.out HM2.out).mono ?_
        rintro e w6 ⟨rfl, ho, hb⟩
        replace BW := Lib.hid (more BW.out (Nat.le_refl _) hb)
        replace X0 := Lib.hid (ownsRow_below X0.out hb)
        replace X0C := Lib.hid (X0C.out.below hb)
        have hz6 := hb.size
        have X1 := Lib.hid (ho)
        have HB6 := Lib.hid (more HB5.out (Nat.le_refl _) hb)
        have X1l : w5.heap.size < w6.heap.size := (World.ownsRow.lt ho _ rfl).2
        clear hb ho
        go_wp2_with fail
        refine (K3.out _ _ _ _ _ (CeN.of_own X0.out X0C.out HN.out HS2.out) (Lie.of_own (c := Sl.cells) (fun _ => rfl) X1.out)).mono ?_
        rintro e w7 ⟨hb, A1, d1, rfl, hg, _⟩
        replace BW := Lib.hid (more BW.out (Nat.le_refl _) hb)
        replace X0 := Lib.hid (ownsRow_below X0.out hb)
        replace X0C := Lib.hid (X0C.out.below hb)
        replace X1 := Lib.hid (ownsRow_below X1.out hb)
        have hz7 := hb.size
        have G0 := Lib.hid (hg.cel)
        have HB7 := Lib.hid (more HB6.out (Nat.le_refl _) hb)
        clear hb hg
        go_wp2_with fail
        refine (eqCells_any _ _ _ _ 0 0 [] [] _ G0.out (W0.out.below BW.out) rfl rfl (by decide) (by decide)).mono ?_
        rw [eqCs_refl]
        rintro e w8 ⟨rfl, hb⟩
        replace BW := Lib.hid (more BW.out (Nat.le_refl _) hb)
        replace X0 := Lib.hid (ownsRow_below X0.out hb)
        replace X0C := Lib.hid (X0C.out.below hb)
        replace X1 := Lib.hid (ownsRow_below X1.out hb)
        replace G0 := Lib.hid (G0.out.below hb)
        have hz8 := hb.size
        have HB8 := Lib.hid (more HB7.out (Nat.le_refl _) hb)
        clear hb
        go_wp2_with fail
        refine (toCells_any A c n xs _ (HX.out.below HB8.out) HN.out HL2.out HS2.out).mono ?_
        rintro e w9 ⟨G9, L9, rfl, hr, hce, hb⟩
        replace BW := Lib.hid (more BW.out (Nat.le_refl _) hb)
        replace X0 := Lib.hid (ownsRow_below X0.out hb)
        replace X0C := Lib.hid (X0C.out.below hb)
        replace X1 := Lib.hid (ownsRow_below X1.out hb)
        replace G0 := Lib.hid (G0.out.below hb)
        have hz9 := hb.size
        have C2 := Lib.hid (CeN.of_own hr hce HN.out HS2.out)
        have HB9 := Lib.hid (more HB8.out (Nat.le_refl _) hb)
        clear hb hr hce
        go_wp2_with fail
        refine (eqCells_any _ _ _ _ n n xs xs _ (CeL.of_own X0.out X0C.out HN.out HS2.out) C2.out.cel HN.out HN.out HL.out HL.out).mono ?_
        rw [eqCs_refl]
        rintro e w10 ⟨rfl, hb⟩
        replace BW := Lib.hid (more BW.out (Nat.le_refl _) hb)
        replace X0 := Lib.hid (ownsRow_below X0.out hb)
        replace X0C := Lib.hid (X0C.out.below hb)
        replace X1 := Lib.hid (ownsRow_below X1.out hb)
        replace G0 := Lib.hid (G0.out.below hb)
        replace C2 := Lib.hid (C2.out.below hb)
        have hz10 := hb.size
        have HB10 := Lib.hid (more HB9.out (Nat.le_refl _) hb)
        clear hb
        go_wp2_with fail
        refine (toSlots_n A' c' m ps _ (HY.out.below HB10.out) HM.out HM2.out).mono ?_
        rintro e w11 ⟨rfl, ho, hb⟩
        replace BW := Lib.hid (more BW.out (Nat.le_refl _) hb)
        replace X0 := Lib.hid (ownsRow_below X0.out hb)
        replace X0C := Lib.hid (X0C.out.below hb)
        replace X1 := Lib.hid (ownsRow_below X1.out hb)
        replace G0 := Lib.hid (G0.out.below hb)
        have hz11 := hb.size
        have S2 := Lib.hid (Lie.of_own (c := Sl.cells) (fun _ => rfl) ho)
        have HB11 := Lib.hid (more HB10.out (Nat.le_refl _) hb)
        clear hb ho
        go_wp2_with fail
        refine (eqSlots_n _ _ _ _ m m ps ps _ (Lie.of_own (c := Sl.cells) (fun _ => rfl) X1.out) S2.out HM.out HM.out HL'.out HL'.out).mono ?_
        rw [eqSl_refl]
        rintro e w12 ⟨rfl, hb⟩
        replace BW := Lib.hid (more BW.out (Nat.le_refl _) hb)
        replace X0 := Lib.hid (ownsRow_below X0.out hb)
        replace X0C := Lib.hid (X0C.out.below hb)
        replace X1 := Lib.hid (ownsRow_below X1.out hb)
        replace G0 := Lib.hid (G0.out.below hb)
        replace S2 := Lib.hid (S2.out.below hb)
        have hz12 := hb.size
        have HB12 := Lib.hid (more HB11.out (Nat.le_refl _) hb)
        clear hb
        go_wp2_with fail
        refine (markCells_r w4.heap.size n w4.heap.size 1 n (w4.heap.size + 1) w5.heap.size t G5 L5 xs _ X0.out X0C.out HN.out HL2.out (Nat.lt_succ_self _) X0B.out HS2.out HTB.out (by omega) HTT.out).mono ?_
        rintro e w13 ⟨rfl, ho, hc, ht⟩
        replace BW := Lib.hid (BW.out.trans (ht.below (by omega) (by omega)))
        replace X1 := Lib.hid (Turn.own ht X1.out (.inr (by omega)))
        replace G0 := Lib.hid ((show CeL w13 A1 [] from fun h => absurd h (by simp)))
        have hz13 := ht.size
        have HB13 := Lib.hid (HB12.out.trans (ht.below (by omega) (by omega)))
        clear ho hc ht
        go_wp2_with fail
        refine (markSlots_r w5.heap.size m w5.heap.size t m t2 ps _ X1.out HM.out HM2.out (by have := HTB2.out; omega) HT2.out).mono ?_
        rintro e w14 ⟨rfl, ho, hgr⟩
        replace BW := Lib.hid (BW.out.grown hgr (by omega) (fun k hk => by injection hk with hk; omega))
        replace G0 := Lib.hid ((show CeL w14 A1 [] from fun h => absurd h (by simp)))
        have hz14 := hgr.size
        have HB14 := Lib.hid (HB13.out.grown hgr (by omega) (fun k hk => by injection hk with hk; omega))
        clear ho hgr
        go_wp2_with fail
        refine (eqCells_any _ _ _ _ 0 0 [] [] _ G0.out (W0.out.below BW.out) rfl rfl (by decide) (by decide)).mono ?_
        rw [eqCs_refl]
        rintro e w15 ⟨rfl, hb⟩
        replace BW := Lib.hid (more BW.out (Nat.le_refl _) hb)
        replace G0 := Lib.hid (G0.out.below hb)
        have hz15 := hb.size
        have HB15 := Lib.hid (more HB14.out (Nat.le_refl _) hb)
        clear hb
        go_wp2_with fail
        refine (markCells_zero _ _ _ _).mono ?_
        rintro e wq ⟨rfl, rfl⟩
        go_wp2_with fail
        refine (heldCells_zero _ _ _ _).mono ?_
        rintro e wq ⟨rfl, rfl⟩
        go_wp2_with fail
        refine (toCells_any A c n xs _ (HX.out.below HB15.out) HN.out HL2.out HS2.out).mono ?_
        rintro e w16 ⟨G16, L16, rfl, hr, hce, hb⟩
        replace BW := Lib.hid (more BW.out (Nat.le_refl _) hb)
        replace G0 := Lib.hid (G0.out.below hb)
        have hz16 := hb.size
        have C3 := Lib.hid (CeN.of_own hr hce HN.out HS2.out)
        have HB16 := Lib.hid (more HB15.out (Nat.le_refl _) hb)
        clear hb hr hce
        go_wp2_with fail
        refine (toSlots_n A' c' m ps _ (HY.out.below HB16.out) HM.out HM2.out).mono ?_
        rintro e w17 ⟨rfl, ho, hb⟩
        replace BW := Lib.hid (more BW.out (Nat.le_refl _) hb)
        replace G0 := Lib.hid (G0.out.below hb)
        replace C3 := Lib.hid (C3.out.below hb)
        have hz17 := hb.size
        have S3 := Lib.hid (Lie.of_own (c := Sl.cells) (fun _ => rfl) ho)
        have HB17 := Lib.hid (more HB16.out (Nat.le_refl _) hb)
        clear hb ho
        go_wp2_with fail
        refine (K3.out _ _ _ _ _ C3.out S3.out).mono ?_
        rintro e w18 ⟨hb, A2, d2, rfl, hg, _⟩
        replace BW := Lib.hid (more BW.out (Nat.le_refl _) hb)
        replace G0 := Lib.hid (G0.out.below hb)
        replace C3 := Lib.hid (C3.out.below hb)
        replace S3 := Lib.hid (S3.out.below hb)
        have hz18 := hb.size
        have H0 := Lib.hid (hg.cel)
        have HB18 := Lib.hid (more HB17.out (Nat.le_refl _) hb)
        clear hb hg
        go_wp2_with fail
        refine (eqCells_any _ _ _ _ 0 0 [] [] _ H0.out (W0.out.below BW.out) rfl rfl (by decide) (by decide)).mono ?_
        rw [eqCs_refl]
        rintro e w19 ⟨rfl, hb⟩
        replace BW := Lib.hid (more BW.out (Nat.le_refl _) hb)
        replace G0 := Lib.hid (G0.out.below hb)
        replace H0 := Lib.hid (H0.out.below hb)
        have hz19 := hb.size
        have HB19 := Lib.hid (more HB18.out (Nat.le_refl _) hb)
        clear hb
        go_wp2_with fail
        refine (heldCells_zero _ _ _ _).mono ?_
        rintro e wq ⟨rfl, rfl⟩
        go_wp2_with fail
        go_ret
        exact ⟨rfl, HB19.out⟩
    · have k5 := fun (A A' : Option Addr) (c c' : Nat) (w : World) hx hp => (k4 A A' c c' w hx hp).mono fun e w' h => show Below w.heap.size w w' ∧ ∃ b c L, e = .returned (.slice (some ⟨b, 0, none⟩) ys.length c) ∧ OwnC w' w.heap.size b c ys.length L ∧ StoA w' w.heap.size L ys from ⟨h.1, Or.resolve_left h.2 (fun h => hyn h.1)⟩
      have K3 := Lib.hid k5
      have K4 := Lib.hid k3
      clear k2 k3 k4 k5 hv htc hr hy2 hyn
      all_goals
        go_enter Try.func12, Try.ntmps12
        go_wp2_with (first
          | (go_at_call 29; ((with_reducible refine HZ.out.mono ?_); rintro e w1 ⟨rfl, hb⟩); have hz1 := hb.size; have HB1 := Lib.hid hb; clear hb)
          | (go_at_call 17; ((with_reducible refine (HZS.out _ hzb hz0 HS'.out).mono ?_); rintro e w' ⟨rfl, rfl⟩)))
        refine (toCells_any A c n xs _ (HX.out.below HB1.out) HN.out HL2.out HS2.out).mono ?_
        rintro e w2 ⟨G2, L2, rfl, hr, hce, hb⟩
        have hz2 := hb.size
        have C1 := Lib.hid (CeN.of_own hr hce HN.out HS2.out)
        have HB2 := Lib.hid (more HB1.out (Nat.le_refl _) hb)
        clear hb hr hce
        go_wp2_with fail
        refine (toSlots_n A' c' m ps _ (HY.out.below HB2.out) HM.out HM2.out).mono ?_
        rintro e w3 ⟨rfl, ho, hb⟩
        replace C1 := Lib.hid (C1.out.below hb)
        have hz3 := hb.size
        have S1 := Lib.hid (Lie.of_own (c := Sl.cells) (fun _ => rfl) ho)
        have HB3 := Lib.hid (more HB2.out (Nat.le_refl _) hb)
        clear hb ho
        go_wp2_with fail
        refine (K2.out _ _ _ _ _ C1.out S1.out).mono ?_
        rintro e w4 ⟨hb, b0, d0, L0, rfl, ho, hs⟩
        replace C1 := Lib.hid (C1.out.below hb)
        replace S1 := Lib.hid (S1.out.below hb)
        have hz4 := hb.size
        have BW := Lib.hid (Below.refl w4.heap.size w4)
        have HB4 := Lib.hid (more HB3.out (Nat.le_refl _) hb)
        have W0 := Lib.hid ((CeN.of_sto ho hs rfl HSM.out).cel)
        clear hb ho hs
        go_wp2_with fail
        refine (toCells_any A c n xs _ (HX.out.below HB4.out) HN.out HL2.out HS2.out).mono ?_
        rintro e w5 ⟨G5, L5, rfl, hr, hce, hb⟩
        replace BW := Lib.hid (more BW.out (Nat.le_refl _) hb)
        have hz5 := hb.size
        have X0 := Lib.hid (hr)
        have X0C := Lib.hid (hce)
        have HB5 := Lib.hid (more HB4.out (Nat.le_refl _) hb)
        have X0B := Lib.hid (fun (j : Nat) (hj : j < 2 * n) => (hce.lt (by rw [HN.out]; exact Nat.le_refl _) hj).2)
        clear hb hr hce
        go_wp2_with fail
        refine (toSlots_n A' c' m ps _ (HY.out.below HB5.out) HM.out HM2.out).mono ?_
        rintro e w6 ⟨rfl, ho, hb⟩
        replace BW := Lib.hid (more BW.out (Nat.le_refl _) hb)
        replace X0 := Lib.hid (ownsRow_below X0.out hb)
        replace X0C := Lib.hid (X0C.out.below hb)
        have hz6 := hb.size
        have X1 := Lib.hid (ho)
        have HB6 := Lib.hid (more HB5.out (Nat.le_refl _) hb)
        have X1l : w5.heap.size < w6.heap.size := (World.ownsRow.lt ho _ rfl).2
        clear hb ho
        go_wp2_with fail
        refine (K3.out _ _ _ _ _ (CeN.of_own X0.out X0C.out HN.out HS2.out) (Lie.of_own (c := Sl.cells) (fun _ => rfl) X1.out)).mono ?_
        rintro e w7 ⟨hb, b1, d1, L1, rfl, ho, hs⟩
        replace BW := Lib.hid (more BW.out (Nat.le_refl _) hb)
        replace X0 := Lib.hid (ownsRow_below X0.out hb)
        replace X0C := Lib.hid (X0C.out.below hb)
        replace X1 := Lib.hid (ownsRow_below X1.out hb)
        have hz7 := hb.size
        have G0 := Lib.hid ((show World.ownsRow _ _ _ _ _ _ _ from ho))
        have G0S := Lib.hid (hs)
        have HB7 := Lib.hid (more HB6.out (Nat.le_refl _) hb)
        have b1l : w6.heap.size ≤ b1 := (World.ownsRow.lt ho _ rfl).1
        clear hb ho hs
        go_wp2_with fail
        refine (eqCells_any _ _ _ _ ys.length ys.length ys ys _ (CeN.of_sto G0.out G0S.out.toW rfl HSM.out).cel (W0.out.below BW.out) rfl rfl HYM.out HYM.out).mono ?_
        rw [eqCs_refl]
        rintro e w8 ⟨rfl, hb⟩
        replace BW := Lib.hid (more BW.out (Nat.le_refl _) hb)
        replace X0 := Lib.hid (ownsRow_below X0.out hb)
        replace X0C := Lib.hid (X0C.out.below hb)
        replace X1 := Lib.hid (ownsRow_below X1.out hb)
        replace G0 := Lib.hid (ownsRow_below G0.out hb)
        replace G0S := Lib.hid (G0S.out.below hb)
        have hz8 := hb.size
        have HB8 := Lib.hid (more HB7.out (Nat.le_refl _) hb)
        clear hb
        go_wp2_with fail
        refine (toCells_any A c n xs _ (HX.out.below HB8.out) HN.out HL2.out HS2.out).mono ?_
        rintro e w9 ⟨G9, L9, rfl, hr, hce, hb⟩
        replace BW := Lib.hid (more BW.out (Nat.le_refl _) hb)
        replace X0 := Lib.hid (ownsRow_below X0.out hb)
        replace X0C := Lib.hid (X0C.out.below hb)
        replace X1 := Lib.hid (ownsRow_below X1.out hb)
        replace G0 := Lib.hid (ownsRow_below G0.out hb)
        replace G0S := Lib.hid (G0S.out.below hb)
        have hz9 := hb.size
        have C2 := Lib.hid (CeN.of_own hr hce HN.out HS2.out)
        have HB9 := Lib.hid (more HB8.out (Nat.le_refl _) hb)
        clear hb hr hce
        go_wp2_with fail
        refine (eqCells_any _ _ _ _ n n xs xs _ (CeL.of_own X0.out X0C.out HN.out HS2.out) C2.out.cel HN.out HN.out HL.out HL.out).mono ?_
        rw [eqCs_refl]
        rintro e w10 ⟨rfl, hb⟩
        replace BW := Lib.hid (more BW.out (Nat.le_refl _) hb)
        replace X0 := Lib.hid (ownsRow_below X0.out hb)
        replace X0C := Lib.hid (X0C.out.below hb)
        replace X1 := Lib.hid (ownsRow_below X1.out hb)
        replace G0 := Lib.hid (ownsRow_below G0.out hb)
        replace G0S := Lib.hid (G0S.out.below hb)
        replace C2 := Lib.hid (C2.out.below hb)
        have hz10 := hb.size
        have HB10 := Lib.hid (more HB9.out (Nat.le_refl _) hb)
        clear hb
        go_wp2_with fail
        refine (toSlots_n A' c' m ps _ (HY.out.below HB10.out) HM.out HM2.out).mono ?_
        rintro e w11 ⟨rfl, ho, hb⟩
        replace BW := Lib.hid (more BW.out (Nat.le_refl _) hb)
        replace X0 := Lib.hid (ownsRow_below X0.out hb)
        replace X0C := Lib.hid (X0C.out.below hb)
        replace X1 := Lib.hid (ownsRow_below X1.out hb)
        replace G0 := Lib.hid (ownsRow_below G0.out hb)
        replace G0S := Lib.hid (G0S.out.below hb)
        have hz11 := hb.size
        have S2 := Lib.hid (Lie.of_own (c := Sl.cells) (fun _ => rfl) ho)
        have HB11 := Lib.hid (more HB10.out (Nat.le_refl _) hb)
        clear hb ho
        go_wp2_with fail
        refine (eqSlots_n _ _ _ _ m m ps ps _ (Lie.of_own (c := Sl.cells) (fun _ => rfl) X1.out) S2.out HM.out HM.out HL'.out HL'.out).mono ?_
        rw [eqSl_refl]
        rintro e w12 ⟨rfl, hb⟩
        replace BW := Lib.hid (more BW.out (Nat.le_refl _) hb)
        replace X0 := Lib.hid (ownsRow_below X0.out hb)
        replace X0C := Lib.hid (X0C.out.below hb)
        replace X1 := Lib.hid (ownsRow_below X1.out hb)
        replace G0 := Lib.hid (ownsRow_below G0.out hb)
        replace G0S := Lib.hid (G0S.out.below hb)
        replace S2 := Lib.hid (S2.out.below hb)
        have hz12 := hb.size
        have HB12 := Lib.hid (more HB11.out (Nat.le_refl _) hb)
        clear hb
        go_wp2_with fail
        refine (markCells_r w4.heap.size n w4.heap.size 1 n (w4.heap.size + 1) w5.heap.size t G5 L5 xs _ X0.out X0C.out HN.out HL2.out (Nat.lt_succ_self _) X0B.out HS2.out HTB.out (by omega) HTT.out).mono ?_
        rintro e w13 ⟨rfl, ho, hc, ht⟩
        replace BW := Lib.hid (BW.out.trans (ht.below (by omega) (by omega)))
        replace X1 := Lib.hid (Turn.own ht X1.out (.inr (by omega)))
        replace G0 := Lib.hid (Turn.own ht G0.out (.inr (by omega)))
        replace G0S := Lib.hid (G0S.out.turn ht (by omega))
        have hz13 := ht.size
        have HB13 := Lib.hid (HB12.out.trans (ht.below (by omega) (by omega)))
        clear ho hc ht
        go_wp2_with fail
        refine (markSlots_r w5.heap.size m w5.heap.size t m t2 ps _ X1.out HM.out HM2.out (by have := HTB2.out; omega) HT2.out).mono ?_
        rintro e w14 ⟨rfl, ho, hgr⟩
        replace BW := Lib.hid (BW.out.grown hgr (by omega) (fun k hk => by injection hk with hk; omega))
        replace G0 := Lib.hid (World.ownsRow.kept G0.out hgr (.inr (by simp [Value.ownBlock]; omega)))
        replace G0S := Lib.hid (G0S.out.keptLow hgr (by omega))
        have hz14 := hgr.size
        have HB14 := Lib.hid (HB13.out.grown hgr (by omega) (fun k hk => by injection hk with hk; omega))
        clear ho hgr
        go_wp2_with fail
        refine (eqCells_any _ _ _ _ ys.length ys.length ys ys _ (CeN.of_sto G0.out G0S.out.toW rfl HSM.out).cel (W0.out.below BW.out) rfl rfl HYM.out HYM.out).mono ?_
        rw [eqCs_refl]
        rintro e w15 ⟨rfl, hb⟩
        replace BW := Lib.hid (more BW.out (Nat.le_refl _) hb)
        replace G0 := Lib.hid (ownsRow_below G0.out hb)
        replace G0S := Lib.hid (G0S.out.below hb)
        have hz15 := hb.size
        have HB15 := Lib.hid (more HB14.out (Nat.le_refl _) hb)
        clear hb
        go_wp2_with fail
        obtain ⟨G, K, hcap, hGlt, hGne⟩ := G0S.out.cap G0.out rfl
        have HCAP := Lib.hid hcap
        have HGL := Lib.hid hGlt
        have HGN := Lib.hid hGne
        clear hcap hGlt hGne
        refine (markCellsA_r b1 d1 w6.heap.size 1 ys.length w6.heap.size w15.heap.size r G K L1 ys _ G0.out HCAP.out rfl (by have := HY2.out; omega) HGN.out HGL.out (fun x hx => by have := HSM.out x hx; omega) HRB.out (by omega) HRR.out).mono ?_
        rintro e w16 ⟨rfl, ho, hc, ht⟩
        replace BW := Lib.hid (BW.out.trans (ht.below (by omega) (by omega)))
        have hz16 := ht.size
        have GM := Lib.hid ((CeN.of_sto ho (hc.sto (markCs_len _ _)) (markCs_len _ _) HSM.out.mark).cel)
        have HB16 := Lib.hid (HB15.out.trans (ht.below (by omega) (by omega)))
        clear ho hc ht HCAP HGL HGN
        go_wp2_with fail
        refine (heldCells_any (some ⟨b1, 0, none⟩) d1 1 ys.length r ys _ GM.out rfl (by have := HY2.out; omega) (fun x hx => by have := HSM.out x hx; omega) HRB.out (by omega) HRR.out).mono ?_
        rintro e w17 ⟨rfl, hb⟩
        replace BW := Lib.hid (more BW.out (Nat.le_refl _) hb)
        replace GM := Lib.hid (GM.out.below hb)
        have hz17 := hb.size
        have HB17 := Lib.hid (more HB16.out (Nat.le_refl _) hb)
        clear hb
        go_wp2_with fail
        refine (toCells_any A c n xs _ (HX.out.below HB17.out) HN.out HL2.out HS2.out).mono ?_
        rintro e w18 ⟨G18, L18, rfl, hr, hce, hb⟩
        replace BW := Lib.hid (more BW.out (Nat.le_refl _) hb)
        replace GM := Lib.hid (GM.out.below hb)
        have hz18 := hb.size
        have C3 := Lib.hid (CeN.of_own hr hce HN.out HS2.out)
        have HB18 := Lib.hid (more HB17.out (Nat.le_refl _) hb)
        clear hb hr hce
        go_wp2_with fail
        refine (toSlots_n A' c' m ps _ (HY.out.below HB18.out) HM.out HM2.out).mono ?_
        rintro e w19 ⟨rfl, ho, hb⟩
        replace BW := Lib.hid (more BW.out (Nat.le_refl _) hb)
        replace GM := Lib.hid (GM.out.below hb)
        replace C3 := Lib.hid (C3.out.below hb)
        have hz19 := hb.size
        have S3 := Lib.hid (Lie.of_own (c := Sl.cells) (fun _ => rfl) ho)
        have HB19 := Lib.hid (more HB18.out (Nat.le_refl _) hb)
        clear hb ho
        go_wp2_with fail
        refine (K4.out _ _ _ _ _ C3.out S3.out).mono ?_
        rintro e w20 ⟨hb, A2, d2, rfl, hg, _⟩
        replace BW := Lib.hid (more BW.out (Nat.le_refl _) hb)
        replace GM := Lib.hid (GM.out.below hb)
        replace C3 := Lib.hid (C3.out.below hb)
        replace S3 := Lib.hid (S3.out.below hb)
        have hz20 := hb.size
        have H0 := Lib.hid (hg.cel)
        have HB20 := Lib.hid (more HB19.out (Nat.le_refl _) hb)
        clear hb hg
        go_wp2_with fail
        refine (eqCells_any _ _ _ _ ys.length ys.length ys ys _ H0.out (W0.out.below BW.out) rfl rfl HYM.out HYM.out).mono ?_
        rw [eqCs_refl]
        rintro e w21 ⟨rfl, hb⟩
        replace BW := Lib.hid (more BW.out (Nat.le_refl _) hb)
        replace GM := Lib.hid (GM.out.below hb)
        replace H0 := Lib.hid (H0.out.below hb)
        have hz21 := hb.size
        have HB21 := Lib.hid (more HB20.out (Nat.le_refl _) hb)
        clear hb
        go_wp2_with fail
        refine (heldCells_any (some ⟨b1, 0, none⟩) d1 1 ys.length r ys _ GM.out rfl (by have := HY2.out; omega) (fun x hx => by have := HSM.out x hx; omega) HRB.out (by omega) HRR.out).mono ?_
        rintro e w22 ⟨rfl, hb⟩
        replace BW := Lib.hid (more BW.out (Nat.le_refl _) hb)
        replace GM := Lib.hid (GM.out.below hb)
        replace H0 := Lib.hid (H0.out.below hb)
        have hz22 := hb.size
        have HB22 := Lib.hid (more HB21.out (Nat.le_refl _) hb)
        clear hb
        go_wp2_with fail
        go_ret
        exact ⟨rfl, HB22.out⟩
end Go.Proofs.Ytfdejmdhcjfboaa.fnExactStoreCut
