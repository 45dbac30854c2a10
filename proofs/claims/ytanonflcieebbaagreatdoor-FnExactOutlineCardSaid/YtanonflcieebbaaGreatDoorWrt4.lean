/- Trees as a text, by the document's own text. -/
import Derived.Test.YtanonflcieebbaaGreatDoorWrt3
import Derived.Deep.RegionHeld3
namespace Go.Proofs.YtanonflcieebbaaGreatDoor
open Go.Joins Go.ChangeShapes Go.WideShapes Go.ChangeAt Go.RowKit Go.Deep
set_option linter.unusedVariables false
set_option linter.unusedSimpArgs false

theorem decB (n : Int) (w : World) (h0 : -9223372036854775807 ≤ n) (h1 : n ≤ 9223372036854775807) :
    Calls Tryz.prog 106 #[.int .i64 n] w fun e w' => e = .returned (.string (itoaB n)) ∧ w = w' := dec_any n w h0 h1
set_option maxHeartbeats 1000000 in
set_option maxRecDepth 100000 in
theorem quotedS_any (k n : Int) (s : ByteArray) (w : World) (hv : validB k n s = true) :
    Calls Tryz.prog 108 #[.agg #[.int .i64 k, .int .i64 n, .string s]] w fun e w' => e = .returned (.string (valW k n s)) ∧ Below w.heap.size w w' := by
  have HBX := Lib.hid (Below.alloc (Below.refl w.heap.size w) (Nat.le_refl _) (.cells #[.int .i64 k, .int .i64 n, .string s] 86))
  rcases valid_ways hv with ⟨rfl, rfl, he⟩ | ⟨rfl, g1, g2, he⟩ | ⟨rfl, rfl, he⟩
  · go_enter Tryz.func108, Tryz.ntmps108
    go_wp2_with fail
    go_ret
    exact ⟨rfl, HBX.out⟩
  · have K := Lib.hid (fun w => decB n w (by omega) (by omega))
    go_enter Tryz.func108, Tryz.ntmps108
    go_wp2_with fail
    refine (K.out _).mono ?_
    rintro e w' ⟨rfl, rfl⟩
    go_wp2_with fail
    go_ret
    exact ⟨rfl, HBX.out⟩
  · have hs : s.size ≤ 12 := by
      unfold wordB at he
      rw [Bool.and_eq_true] at he
      exact of_decide_eq_true he.1
    have n1 : ¬ 9223372036854775807 < 1 + s.size := by omega
    have n2 : ¬ 9223372036854775807 < 1 + s.size + 1 := by omega
    go_enter Tryz.func108, Tryz.ntmps108
    go_wp2_with fail
    go_ret
    exact ⟨rfl, HBX.out⟩
def TwC (t : Tr) : Prop := ∀ (A0 A1 : Option Addr) (c0 c1 : Nat) (w : World), PrL w A0 t.ps → TrL w 0 A1 t.ks →
  Calls Tryz.prog 83 #[.agg #[.int .i64 t.tag, .int .i64 t.key, .string t.text, .slice A0 t.ps.length c0, .slice A1 t.ks.length c1]] w fun e w' => e = .returned (.string (wordsT t)) ∧ Below w.heap.size w w'
set_option maxRecDepth 100000 in
set_option maxHeartbeats 2000000 in
theorem streeWords_any (t : Tr) : SmT t → treeOkB t = true → TwC t := by
  induction t using Tr.by_kids with
  | h t ih =>
  intro hsm hok A0 A1 c0 c1 w hp hk
  obtain ⟨s0, s1, s2, s3, s4⟩ := hsm.open_
  have hn := node_ok hok
  have hmx := wordsT_max hok
  have ihk := fun x hx => ih x hx (s4 x hx) (kid_valid hok hx)
  have hwt := @wordsT_text t
  have hwe := @wordsT_elem t
  obtain ⟨tag, key, text, ps, ks⟩ := t
  dsimp only [Tr.tag, Tr.key, Tr.text, Tr.ps, Tr.ks] at *
  obtain ⟨np, hnp⟩ : ∃ q, ps.length = q := ⟨_, rfl⟩
  obtain ⟨nk, hnk⟩ : ∃ q, ks.length = q := ⟨_, rfl⟩
  rw [hnp] at s1 ⊢
  rw [hnk] at s3 ⊢
  unfold maxLen at s1 s3
  have hbx := Below.alloc (Below.refl w.heap.size w) (Nat.le_refl _) (.cells #[.int .i64 tag, .int .i64 key, .string text, .slice A0 np c0, .slice A1 nk c1] 32)
  have o0 : (w.alloc (.cells #[.int .i64 tag, .int .i64 key, .string text, .slice A0 np c0, .slice A1 nk c1] 32)).cell? ⟨w.heap.size, 0, none⟩ = some (.int .i64 tag) := by go_simp
  have o1 : (w.alloc (.cells #[.int .i64 tag, .int .i64 key, .string text, .slice A0 np c0, .slice A1 nk c1] 32)).cell? ⟨w.heap.size, 1, none⟩ = some (.int .i64 key) := by go_simp
  have o2 : (w.alloc (.cells #[.int .i64 tag, .int .i64 key, .string text, .slice A0 np c0, .slice A1 nk c1] 32)).cell? ⟨w.heap.size, 2, none⟩ = some (.string text) := by go_simp
  have o3 : (w.alloc (.cells #[.int .i64 tag, .int .i64 key, .string text, .slice A0 np c0, .slice A1 nk c1] 32)).cell? ⟨w.heap.size, 3, none⟩ = some (.slice A0 np c0) := by go_simp
  have o4 : (w.alloc (.cells #[.int .i64 tag, .int .i64 key, .string text, .slice A0 np c0, .slice A1 nk c1] 32)).cell? ⟨w.heap.size, 4, none⟩ = some (.slice A1 nk c1) := by go_simp
  have HB0 := Lib.hid hbx
  have HP := Lib.hid hp
  have HK := Lib.hid hk
  have HI := Lib.hid ihk
  have HNP := Lib.hid hnp
  have HNK := Lib.hid hnk
  clear hbx hp hk ih ihk hnp hnk hok hsm s0 s2 s4
  generalize wordsT (.mk tag key text ps ks) = wd at hwt hwe hmx ⊢
  rcases hn with ⟨rfl, h1⟩ | ⟨h0, a0, a1, a2, a3, a4⟩
  · have hw := hwt rfl
    clear hwt hwe
    subst hw
    have n1 : ¬ 9223372036854775807 < 1 + text.size := by omega
    have n2 : ¬ 9223372036854775807 < 1 + text.size + 1 := by omega
    go_enter Tryz.func83, Tryz.ntmps83
    go_wp2_with fail
    go_ret
    exact ⟨rfl, HB0.out⟩
  have hw := hwe h0
  clear hwt hwe
  have ht : ((tag : Int) == -1) = false := by simpa using h0
  have HPO := Lib.hid (runP_ok _ _ a4)
  clear a4
  have hz := congrArg ByteArray.size hw
  rw [ByteArray.size_append] at hz
  have hz1 : (⟨#[41]⟩ : ByteArray).size = 1 := rfl
  have hzh : (headW tag key ++ prsW ps).size ≤ wd.size := by rw [ByteArray.size_append] at hz; omega
  have hzk : (headW tag key ++ prsW ps ++ kidsW ks).size + 1 = wd.size := by omega
  have hzh0 : (headW tag key).size ≤ wd.size := by rw [ByteArray.size_append] at hzh; omega
  clear hz hz1
  have KT := Lib.hid (fun w => decB tag w (by omega) (by omega))
  by_cases hkey : key = -1
  · subst hkey
    have hd0 : headW tag (-1) = (⟨#[40, 116]⟩ : ByteArray) ++ itoaB tag := by unfold headW; rw [if_pos rfl]
    rw [hd0] at hw hzh hzk hzh0
    obtain ⟨u, hu⟩ : ∃ u, itoaB tag = u := ⟨_, rfl⟩
    rw [hu] at hw hzh hzk hzh0 KT
    have n1 : ¬ 9223372036854775807 < 2 + u.size := by rw [ByteArray.size_append] at hzh0; have e : (⟨#[40, 116]⟩ : ByteArray).size = 2 := rfl; omega
    have HW := Lib.hid hw
    clear hw hd0 hu
    go_enter Tryz.func83, Tryz.ntmps83
    go_wp2_with fail
    refine (KT.out _).mono ?_
    rintro e w' ⟨rfl, rfl⟩
    obtain ⟨hd, hhd⟩ : ∃ q, (⟨#[40, 116]⟩ : ByteArray) ++ u = q := ⟨_, rfl⟩
    rw [hhd] at HW hzh hzk hzh0
    clear KT
    go_wp2_with fail
    (try rw [hhd])
    clear hhd n1
    have hB1 := HB0.out
    go_loopw [3, 4] (fun m i wr => ∃ (k : Nat) (q : ByteArray), k ≤ np ∧ i = .int .i64 k ∧ m = .string q ∧ Hid (q ++ prsW (ps.drop k) = hd ++ prsW ps) ∧ wr.cell? ⟨w.heap.size, 3, none⟩ = some (.slice A0 np c0) ∧ wr.cell? ⟨w.heap.size, 4, none⟩ = some (.slice A1 nk c1) ∧ w.heap.size < wr.heap.size ∧ Below w.heap.size w wr) (fun _ i _ => np - (intOf i).toNat)
    case atStart => exact ⟨0, hd, by omega, rfl, rfl, Lib.hid (by rw [List.drop_zero]), o3, o4, by simp, hB1⟩
    case round =>
      clear o0 o1 o2 o3 o4 hB1
      obtain ⟨k, q, hk, rfl, rfl, HQ, o3, o4, hxl, hB⟩ := hrel
      by_cases hlt : k < np
      · obtain ⟨b2, off, rfl, hblt2, hcell⟩ := PrL.at_ (HP.out.below hB) (by have := HNP.out; omega)
        obtain ⟨x, hx⟩ := at_some (show k < ps.length by rw [HNP.out]; exact hlt)
        obtain ⟨e0, e1, e2, e3⟩ := hcell k x hx
        have hb2 : b2 < wr.heap.size := hblt2
        have hpo := HPO.out x (List.mem_of_getElem? hx)
        have hQ := HQ.out
        rw [prsW_drop hx, ← ByteArray.append_assoc] at hQ
        have hsum : (q ++ prW x).size ≤ wd.size := by
          have e := congrArg ByteArray.size hQ
          rw [ByteArray.size_append] at e
          omega
        rw [ByteArray.size_append] at hsum
        have hpz : (prW x).size = 2 + (itoaB x.nm).size + 1 + (valW x.v.k x.v.n x.v.s).size := by
          unfold prW
          rw [ByteArray.size_append, ByteArray.size_append, ByteArray.size_append]
          rfl
        have hpw : q ++ prW x = ((((q ++ (⟨#[32, 112]⟩ : ByteArray)) ++ itoaB x.nm) ++ ⟨#[61]⟩) ++ valW x.v.k x.v.n x.v.s) := by unfold prW; simp only [ByteArray.append_assoc]
        rw [hpw] at hQ
        have KD := Lib.hid (fun w => decB x.nm w (by have := hpo.1; omega) (by have := hpo.2.1; omega))
        have KQ := Lib.hid (fun w => quotedS_any x.v.k x.v.n x.v.s w hpo.2.2)
        have HQ2 := Lib.hid hQ
        clear hQ hpw hpo hcell hx HQ
        obtain ⟨nm, ⟨vk, vn, vs⟩⟩ := x
        dsimp only at *
        obtain ⟨u1, hu1⟩ : ∃ u, itoaB nm = u := ⟨_, rfl⟩
        obtain ⟨u2, hu2⟩ : ∃ u, valW vk vn vs = u := ⟨_, rfl⟩
        rw [hu1] at KD HQ2 hpz
        rw [hu2] at KQ HQ2 hpz
        have n1 : ¬ 9223372036854775807 < q.size + 2 := by omega
        have n2 : ¬ 9223372036854775807 < q.size + 2 + u1.size := by omega
        have n3 : ¬ 9223372036854775807 < q.size + 2 + u1.size + 1 := by omega
        have n4 : ¬ 9223372036854775807 < q.size + 2 + u1.size + 1 + u2.size := by omega
        clear hu1 hu2
        have hi1 : (0 : Int) ≤ (k : Int) := by omega
        have hi2 : (k : Int) < (np : Int) := by omega
        go_wp2_with fail
        go_region_held3 (fun w' => w'.cell? ⟨w.heap.size, 3, none⟩ = some (.slice (some ⟨b2, off, none⟩) np c0) ∧ w'.cell? ⟨b2, off + k * 4, none⟩ = some (.int .i64 nm) ∧ w'.cell? ⟨b2, off + k * 4 + 1, none⟩ = some (.int .i64 vk) ∧ w'.cell? ⟨b2, off + k * 4 + 2, none⟩ = some (.int .i64 vn) ∧ w'.cell? ⟨b2, off + k * 4 + 3, none⟩ = some (.string vs)) (go_keep) (first | (go_at_call 106; ((with_reducible refine (KD.out _).mono ?_); rintro e w' ⟨rfl, rfl⟩)) | (go_at_call 108; ((with_reducible refine (KQ.out _).mono ?_); rintro e w' ⟨rfl, hb⟩; replace o3 := (hb.cell (p := ⟨w.heap.size, 3, none⟩) hxl).trans o3; replace o4 := (hb.cell (p := ⟨w.heap.size, 4, none⟩) hxl).trans o4; replace e0 := (hb.cell (p := ⟨b2, off + k * 4, none⟩) hb2).trans e0; replace e1 := (hb.cell (p := ⟨b2, off + k * 4 + 1, none⟩) hb2).trans e1; replace e2 := (hb.cell (p := ⟨b2, off + k * 4 + 2, none⟩) hb2).trans e2; replace e3 := (hb.cell (p := ⟨b2, off + k * 4 + 3, none⟩) hb2).trans e3; replace hB := more (W1 := _) (B := w.heap.size) (W0 := w) (by go_grown) (Nat.le_refl _) hb; replace hxl := Nat.lt_of_lt_of_le hxl hb.size; clear hb)))
        go_wp2_with fail
        go_roundw
        case rel => exact ⟨k + 1, _, by omega, by go_num, rfl, HQ2, o3, o4, hxl, hB⟩
        case measure => simp [intOf]; omega
      · obtain rfl : k = np := by omega
        have hQ := HQ.out
        rw [← HNP.out, List.drop_length] at hQ
        have h0 : prsW [] = ⟨#[]⟩ := rfl
        rw [h0, ba_nilR] at hQ
        subst hQ
        clear HQ
        go_wp2_with fail
        have HBS := Lib.hid hB
        have hxs := hxl
        have o4s := o4
        clear hB hxl o3 o4 HP HPO
        go_loopw [3, 5] (fun m i wr => ∃ (k : Nat) (q : ByteArray), k ≤ nk ∧ i = .int .i64 k ∧ m = .string q ∧ Hid (q ++ kidsW (ks.drop k) = (hd ++ prsW ps) ++ kidsW ks) ∧ wr.cell? ⟨w.heap.size, 4, none⟩ = some (.slice A1 nk c1) ∧ w.heap.size < wr.heap.size ∧ Hid (Below w.heap.size w wr)) (fun _ i _ => nk - (intOf i).toNat)
        case atStart => exact ⟨0, hd ++ prsW ps, by omega, rfl, rfl, Lib.hid (by rw [List.drop_zero]), o4s, hxs, HBS⟩
        case round =>
          clear o4s hxs HBS
          obtain ⟨k, q, hk, rfl, rfl, HQ, o4, hxl, HB⟩ := hrel
          by_cases hlt : k < nk
          · obtain ⟨x, hx⟩ := at_some (show k < ks.length by rw [HNK.out]; exact hlt)
            obtain ⟨b2, off, E0, d0, E1, d1, rfl, hblt2, _, e0, e1, e2, e3, e4, hp, _, hks⟩ := (HK.out.below HB.out).at_ hx
            have hI := HI.out x (List.mem_of_getElem? hx) E0 E1 d0 d1 wr hp hks
            have hQ := HQ.out
            rw [kidsW_drop hx, ← ByteArray.append_assoc, ← ByteArray.append_assoc] at hQ
            have hsum : ((q ++ ⟨#[32]⟩) ++ wordsT x).size + 1 ≤ wd.size := by
              have e := congrArg ByteArray.size hQ
              rw [ByteArray.size_append] at e
              omega
            rw [ByteArray.size_append, ByteArray.size_append] at hsum
            have h32 : (⟨#[32]⟩ : ByteArray).size = 1 := rfl
            rw [h32] at hsum
            have hi1 : (0 : Int) ≤ (k : Int) := by omega
            have hi2 : (k : Int) < (nk : Int) := by omega
            have HQ2 := Lib.hid hQ
            have KX := Lib.hid hI
            clear hQ hI hx hp hks HQ
            obtain ⟨xt, xk, xs, xp, xq⟩ := x
            dsimp only [Tr.tag, Tr.key, Tr.text, Tr.ps, Tr.ks] at e0 e1 e2 e3 e4 KX
            obtain ⟨xw, hxw⟩ : ∃ u, wordsT (.mk xt xk xs xp xq) = u := ⟨_, rfl⟩
            rw [hxw] at KX HQ2 hsum
            have n1 : ¬ 9223372036854775807 < q.size + 1 := by omega
            have n2 : ¬ 9223372036854775807 < q.size + 1 + xw.size := by omega
            clear hxw
            go_wp2_with fail
            refine KX.out.mono ?_
            rintro e w2 ⟨rfl, hb⟩
            replace o4 := (hb.cell (p := ⟨w.heap.size, 4, none⟩) hxl).trans o4
            have HB2 := Lib.hid (more HB.out (Nat.le_refl _) hb)
            replace hxl := Nat.lt_of_lt_of_le hxl hb.size
            clear hb
            go_wp2_with fail
            go_roundw
            case rel => exact ⟨k + 1, _, by omega, by go_num, rfl, HQ2, o4, hxl, HB2⟩
            case measure => simp [intOf]; omega
          · obtain rfl : k = nk := by omega
            have hQ := HQ.out
            rw [← HNK.out, List.drop_length] at hQ
            have h0 : kidsW [] = ⟨#[]⟩ := by simp only [kidsW]
            rw [h0, ba_nilR] at hQ
            have n1 : ¬ 9223372036854775807 < q.size + 1 := by
              have e := congrArg ByteArray.size hQ
              omega
            have hfin : wd = q ++ ⟨#[41]⟩ := by rw [HW.out, hQ]
            have HFN := Lib.hid hfin
            clear HQ hQ hfin
            go_wp2_with fail
            go_ret
            exact ⟨ret_str HFN.out.symm, HB.out⟩
  · have hkd : ((key : Int) != -1) = true := by simp; omega
    have hd0 : headW tag key = (((⟨#[40, 116]⟩ : ByteArray) ++ itoaB tag) ++ ⟨#[32, 107]⟩) ++ itoaB key := by unfold headW; rw [if_neg hkey, ByteArray.append_assoc, ByteArray.append_assoc, ByteArray.append_assoc]
    rw [hd0] at hw hzh hzk hzh0
    have KK := Lib.hid (fun w => decB key w (by omega) (by omega))
    obtain ⟨u, hu⟩ : ∃ u, itoaB tag = u := ⟨_, rfl⟩
    obtain ⟨u', hu'⟩ : ∃ u, itoaB key = u := ⟨_, rfl⟩
    rw [hu] at hw hzh hzk hzh0 KT
    rw [hu'] at hw hzh hzk hzh0 KK
    have hzz : 2 + u.size + 2 + u'.size ≤ wd.size := by rw [ByteArray.size_append, ByteArray.size_append, ByteArray.size_append] at hzh0; exact hzh0
    have n1 : ¬ 9223372036854775807 < 2 + u.size := by omega
    have n2 : ¬ 9223372036854775807 < 2 + u.size + 2 := by omega
    have n3 : ¬ 9223372036854775807 < 2 + u.size + 2 + u'.size := by omega
    have HW := Lib.hid hw
    clear hw hd0 hu hu'
    go_enter Tryz.func83, Tryz.ntmps83
    go_wp2_with fail
    refine (KT.out _).mono ?_
    rintro e w' ⟨rfl, rfl⟩
    go_wp2_with fail
    refine (KK.out _).mono ?_
    rintro e w' ⟨rfl, rfl⟩
    obtain ⟨hd, hhd⟩ : ∃ q, (((⟨#[40, 116]⟩ : ByteArray) ++ u) ++ ⟨#[32, 107]⟩) ++ u' = q := ⟨_, rfl⟩
    rw [hhd] at HW hzh hzk hzh0
    clear KT KK
    go_wp2_with fail
    (try rw [hhd])
    clear hhd n1 n2 n3
    have hB1 := HB0.out
    go_loopw [3, 4] (fun m i wr => ∃ (k : Nat) (q : ByteArray), k ≤ np ∧ i = .int .i64 k ∧ m = .string q ∧ Hid (q ++ prsW (ps.drop k) = hd ++ prsW ps) ∧ wr.cell? ⟨w.heap.size, 3, none⟩ = some (.slice A0 np c0) ∧ wr.cell? ⟨w.heap.size, 4, none⟩ = some (.slice A1 nk c1) ∧ w.heap.size < wr.heap.size ∧ Below w.heap.size w wr) (fun _ i _ => np - (intOf i).toNat)
    case atStart => exact ⟨0, hd, by omega, rfl, rfl, Lib.hid (by rw [List.drop_zero]), o3, o4, by simp, hB1⟩
    case round =>
      clear o0 o1 o2 o3 o4 hB1
      obtain ⟨k, q, hk, rfl, rfl, HQ, o3, o4, hxl, hB⟩ := hrel
      by_cases hlt : k < np
      · obtain ⟨b2, off, rfl, hblt2, hcell⟩ := PrL.at_ (HP.out.below hB) (by have := HNP.out; omega)
        obtain ⟨x, hx⟩ := at_some (show k < ps.length by rw [HNP.out]; exact hlt)
        obtain ⟨e0, e1, e2, e3⟩ := hcell k x hx
        have hb2 : b2 < wr.heap.size := hblt2
        have hpo := HPO.out x (List.mem_of_getElem? hx)
        have hQ := HQ.out
        rw [prsW_drop hx, ← ByteArray.append_assoc] at hQ
        have hsum : (q ++ prW x).size ≤ wd.size := by
          have e := congrArg ByteArray.size hQ
          rw [ByteArray.size_append] at e
          omega
        rw [ByteArray.size_append] at hsum
        have hpz : (prW x).size = 2 + (itoaB x.nm).size + 1 + (valW x.v.k x.v.n x.v.s).size := by
          unfold prW
          rw [ByteArray.size_append, ByteArray.size_append, ByteArray.size_append]
          rfl
        have hpw : q ++ prW x = ((((q ++ (⟨#[32, 112]⟩ : ByteArray)) ++ itoaB x.nm) ++ ⟨#[61]⟩) ++ valW x.v.k x.v.n x.v.s) := by unfold prW; simp only [ByteArray.append_assoc]
        rw [hpw] at hQ
        have KD := Lib.hid (fun w => decB x.nm w (by have := hpo.1; omega) (by have := hpo.2.1; omega))
        have KQ := Lib.hid (fun w => quotedS_any x.v.k x.v.n x.v.s w hpo.2.2)
        have HQ2 := Lib.hid hQ
        clear hQ hpw hpo hcell hx HQ
        obtain ⟨nm, ⟨vk, vn, vs⟩⟩ := x
        dsimp only at *
        obtain ⟨u1, hu1⟩ : ∃ u, itoaB nm = u := ⟨_, rfl⟩
        obtain ⟨u2, hu2⟩ : ∃ u, valW vk vn vs = u := ⟨_, rfl⟩
        rw [hu1] at KD HQ2 hpz
        rw [hu2] at KQ HQ2 hpz
        have n1 : ¬ 9223372036854775807 < q.size + 2 := by omega
        have n2 : ¬ 9223372036854775807 < q.size + 2 + u1.size := by omega
        have n3 : ¬ 9223372036854775807 < q.size + 2 + u1.size + 1 := by omega
        have n4 : ¬ 9223372036854775807 < q.size + 2 + u1.size + 1 + u2.size := by omega
        clear hu1 hu2
        have hi1 : (0 : Int) ≤ (k : Int) := by omega
        have hi2 : (k : Int) < (np : Int) := by omega
        go_wp2_with fail
        go_region_held3 (fun w' => w'.cell? ⟨w.heap.size, 3, none⟩ = some (.slice (some ⟨b2, off, none⟩) np c0) ∧ w'.cell? ⟨b2, off + k * 4, none⟩ = some (.int .i64 nm) ∧ w'.cell? ⟨b2, off + k * 4 + 1, none⟩ = some (.int .i64 vk) ∧ w'.cell? ⟨b2, off + k * 4 + 2, none⟩ = some (.int .i64 vn) ∧ w'.cell? ⟨b2, off + k * 4 + 3, none⟩ = some (.string vs)) (go_keep) (first | (go_at_call 106; ((with_reducible refine (KD.out _).mono ?_); rintro e w' ⟨rfl, rfl⟩)) | (go_at_call 108; ((with_reducible refine (KQ.out _).mono ?_); rintro e w' ⟨rfl, hb⟩; replace o3 := (hb.cell (p := ⟨w.heap.size, 3, none⟩) hxl).trans o3; replace o4 := (hb.cell (p := ⟨w.heap.size, 4, none⟩) hxl).trans o4; replace e0 := (hb.cell (p := ⟨b2, off + k * 4, none⟩) hb2).trans e0; replace e1 := (hb.cell (p := ⟨b2, off + k * 4 + 1, none⟩) hb2).trans e1; replace e2 := (hb.cell (p := ⟨b2, off + k * 4 + 2, none⟩) hb2).trans e2; replace e3 := (hb.cell (p := ⟨b2, off + k * 4 + 3, none⟩) hb2).trans e3; replace hB := more (W1 := _) (B := w.heap.size) (W0 := w) (by go_grown) (Nat.le_refl _) hb; replace hxl := Nat.lt_of_lt_of_le hxl hb.size; clear hb)))
        go_wp2_with fail
        go_roundw
        case rel => exact ⟨k + 1, _, by omega, by go_num, rfl, HQ2, o3, o4, hxl, hB⟩
        case measure => simp [intOf]; omega
      · obtain rfl : k = np := by omega
        have hQ := HQ.out
        rw [← HNP.out, List.drop_length] at hQ
        have h0 : prsW [] = ⟨#[]⟩ := rfl
        rw [h0, ba_nilR] at hQ
        subst hQ
        clear HQ
        go_wp2_with fail
        have HBS := Lib.hid hB
        have hxs := hxl
        have o4s := o4
        clear hB hxl o3 o4 HP HPO
        go_loopw [3, 5] (fun m i wr => ∃ (k : Nat) (q : ByteArray), k ≤ nk ∧ i = .int .i64 k ∧ m = .string q ∧ Hid (q ++ kidsW (ks.drop k) = (hd ++ prsW ps) ++ kidsW ks) ∧ wr.cell? ⟨w.heap.size, 4, none⟩ = some (.slice A1 nk c1) ∧ w.heap.size < wr.heap.size ∧ Hid (Below w.heap.size w wr)) (fun _ i _ => nk - (intOf i).toNat)
        case atStart => exact ⟨0, hd ++ prsW ps, by omega, rfl, rfl, Lib.hid (by rw [List.drop_zero]), o4s, hxs, HBS⟩
        case round =>
          clear o4s hxs HBS
          obtain ⟨k, q, hk, rfl, rfl, HQ, o4, hxl, HB⟩ := hrel
          by_cases hlt : k < nk
          · obtain ⟨x, hx⟩ := at_some (show k < ks.length by rw [HNK.out]; exact hlt)
            obtain ⟨b2, off, E0, d0, E1, d1, rfl, hblt2, _, e0, e1, e2, e3, e4, hp, _, hks⟩ := (HK.out.below HB.out).at_ hx
            have hI := HI.out x (List.mem_of_getElem? hx) E0 E1 d0 d1 wr hp hks
            have hQ := HQ.out
            rw [kidsW_drop hx, ← ByteArray.append_assoc, ← ByteArray.append_assoc] at hQ
            have hsum : ((q ++ ⟨#[32]⟩) ++ wordsT x).size + 1 ≤ wd.size := by
              have e := congrArg ByteArray.size hQ
              rw [ByteArray.size_append] at e
              omega
            rw [ByteArray.size_append, ByteArray.size_append] at hsum
            have h32 : (⟨#[32]⟩ : ByteArray).size = 1 := rfl
            rw [h32] at hsum
            have hi1 : (0 : Int) ≤ (k : Int) := by omega
            have hi2 : (k : Int) < (nk : Int) := by omega
            have HQ2 := Lib.hid hQ
            have KX := Lib.hid hI
            clear hQ hI hx hp hks HQ
            obtain ⟨xt, xk, xs, xp, xq⟩ := x
            dsimp only [Tr.tag, Tr.key, Tr.text, Tr.ps, Tr.ks] at e0 e1 e2 e3 e4 KX
            obtain ⟨xw, hxw⟩ : ∃ u, wordsT (.mk xt xk xs xp xq) = u := ⟨_, rfl⟩
            rw [hxw] at KX HQ2 hsum
            have n1 : ¬ 9223372036854775807 < q.size + 1 := by omega
            have n2 : ¬ 9223372036854775807 < q.size + 1 + xw.size := by omega
            clear hxw
            go_wp2_with fail
            refine KX.out.mono ?_
            rintro e w2 ⟨rfl, hb⟩
            replace o4 := (hb.cell (p := ⟨w.heap.size, 4, none⟩) hxl).trans o4
            have HB2 := Lib.hid (more HB.out (Nat.le_refl _) hb)
            replace hxl := Nat.lt_of_lt_of_le hxl hb.size
            clear hb
            go_wp2_with fail
            go_roundw
            case rel => exact ⟨k + 1, _, by omega, by go_num, rfl, HQ2, o4, hxl, HB2⟩
            case measure => simp [intOf]; omega
          · obtain rfl : k = nk := by omega
            have hQ := HQ.out
            rw [← HNK.out, List.drop_length] at hQ
            have h0 : kidsW [] = ⟨#[]⟩ := by simp only [kidsW]
            rw [h0, ba_nilR] at hQ
            have n1 : ¬ 9223372036854775807 < q.size + 1 := by
              have e := congrArg ByteArray.size hQ
              omega
            have hfin : wd = q ++ ⟨#[41]⟩ := by rw [HW.out, hQ]
            have HFN := Lib.hid hfin
            clear HQ hQ hfin
            go_wp2_with fail
            go_ret
            exact ⟨ret_str HFN.out.symm, HB.out⟩
end Go.Proofs.YtanonflcieebbaaGreatDoor
