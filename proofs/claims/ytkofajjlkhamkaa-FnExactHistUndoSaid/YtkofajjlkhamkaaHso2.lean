/- The laws' own marks, written into stores that lie in blocks of their own, and found again. -/
import Derived.Test.YtkofajjlkhamkaaHso1
import Derived.Deep.RegionHeld3
namespace Go.Proofs.Ytkofajjlkhamkaa
open Go.Joins Go.ChangeShapes Go.WideShapes Go.ChangeAt Go.RowKit Go.Deep
set_option linter.unusedVariables false
set_option linter.unusedSimpArgs false

theorem set_takeG {α : Type} {ys zs : List α} {j : Nat} {y : α} (h1 : ys.take j = zs.take j) (h2 : zs[j]? = some y) (h3 : j < ys.length) : (ys.set j y).take (j + 1) = zs.take (j + 1) := by
  apply List.ext_getElem?
  intro i
  rw [List.getElem?_take, List.getElem?_take]
  by_cases hi : i < j + 1
  · rw [if_pos hi, if_pos hi]
    by_cases hij : i = j
    · subst hij
      rw [List.getElem?_set_self h3, h2]
    · rw [List.getElem?_set_ne (fun e => hij e.symm)]
      have e := congrArg (fun l => l[i]?) h1
      simp only [List.getElem?_take, if_pos (show i < j by omega)] at e
      exact e
  · rw [if_neg hi, if_neg hi]
theorem set_dropG {α : Type} {ys : List α} {j : Nat} (y : α) : (ys.set j y).drop (j + 1) = ys.drop (j + 1) := by
  apply List.ext_getElem?
  intro i
  rw [List.getElem?_drop, List.getElem?_drop, List.getElem?_set_ne (by omega)]
theorem markCs_at {xs : List Ce} {k j : Nat} {x : Ce} (hx : xs[j]? = some x) : (markCs xs k)[j]? = some (markCe x (k + totC (xs.take j))) := by
  induction xs generalizing k j with
  | nil => simp at hx
  | cons y ys ih =>
    cases j with
    | zero => simp at hx; subst hx; simp [markCs, totC]
    | succ j =>
      simp only [List.getElem?_cons_succ] at hx
      simp only [markCs, List.getElem?_cons_succ, List.take_succ_cons, totC]
      rw [ih hx, Nat.add_assoc]
theorem totC_take {xs : List Ce} {j : Nat} {x : Ce} (hx : xs[j]? = some x) : totC (xs.take (j + 1)) = totC (xs.take j) + wC x ∧ totC (xs.take j) + wC x ≤ totC xs := by
  induction xs generalizing j with
  | nil => simp at hx
  | cons y ys ih =>
    cases j with
    | zero => simp at hx; subst hx; simp [totC]
    | succ j =>
      simp only [List.getElem?_cons_succ] at hx
      have := ih hx
      simp only [List.take_succ_cons, totC]
      omega
set_option maxHeartbeats 2000000 in
theorem heldCells_any (A : Option Addr) (c k n r : Nat) (xs : List Ce) (w : World) (hx : CeL w A (markCs xs k)) (hn : xs.length = n) (hl : n ≤ 1048576) (hs : ∀ x ∈ xs, x.pl.length ≤ 1048576 ∧ x.st.length ≤ 1048576) (hk : k + totC xs ≤ 50000000) (hk0 : 0 < k) (hr : k + totC xs = r) :
    Calls Try.prog 28 #[.slice A n c, .int .i64 k] w fun e w' => e = .returned (.int .i64 r) ∧ Below w.heap.size w w' := by
  have HN := Lib.hid hn
  have HX := Lib.hid hx
  have HS := Lib.hid hs
  have HK := Lib.hid hk
  have HRR := Lib.hid hr
  clear hn hx hs hk hr
  go_enter Try.func28, Try.ntmps28
  go_wp2_with fail
  go_loopw [1, 5] (fun m i wr => ∃ (j q : Nat), j ≤ n ∧ i = .int .i64 j ∧ m = .int .i64 q ∧ Hid (q = k + totC (xs.take j)) ∧ 0 < q ∧ q ≤ 50000000 ∧ Hid (Below w.heap.size w wr)) (fun _ i _ => n - (intOf i).toNat)
  case atStart => exact ⟨0, k, by omega, rfl, rfl, Lib.hid rfl, hk0, by have := HK.out; omega, Lib.hid (Below.refl _ _)⟩
  case round =>
    obtain ⟨j, q, hj, rfl, rfl, HQ, hq0, hqb, HB⟩ := hrel
    by_cases hlt : j < n
    · obtain ⟨x, hx⟩ := at_some (show j < xs.length by rw [HN.out]; exact hlt)
      obtain ⟨b, off, rfl, hblt, hcell⟩ := (HX.out.below HB.out) (by rw [markCs_len, HN.out]; omega)
      obtain ⟨A0, c0, A1, c1, hce⟩ := hcell j _ (markCs_at hx)
      rw [← HQ.out] at hce
      obtain ⟨e0, e1, h0, h1⟩ := hce
      have HT := Lib.hid (totC_take hx)
      have hxb := HS.out x (List.mem_of_getElem? hx)
      rw [show (markCe x q).pl.length = x.pl.length from markSl_len _ _] at e0
      rw [show (markCe x q).st.length = x.st.length from markVa_len _ _] at e1
      have hqq : q + 2 * x.pl.length + 3 * x.st.length ≤ 50000000 := by have := HT.out.2; have := HQ.out; have := HK.out; unfold wC at *; omega
      obtain ⟨u, hu⟩ : ∃ u, x.pl.length = u := ⟨_, rfl⟩
      obtain ⟨v, hv⟩ : ∃ v, x.st.length = v := ⟨_, rfl⟩
      have HU := Lib.hid hu
      have HV := Lib.hid hv
      have K0 := Lib.hid (fun w (h : SlL w A0 (markSl x.pl q)) => heldSlots_r A0 c0 q u (q + 2 * u) x.pl w h HU.out (by rw [← HU.out]; exact hxb.1) (by omega) rfl)
      have K1 := Lib.hid (fun w (h : VaL w A1 (markVa x.st (q + 2 * u))) => heldVals_r A1 c1 (q + 2 * u) v (q + 2 * u + 3 * v) x.st w h HV.out (by rw [← HV.out]; exact hxb.2) (by omega) (by omega) rfl)
      rw [hu, hv] at hqq
      rw [hu] at e0
      rw [hv] at e1
      have H0 := Lib.hid h0
      have H1 := Lib.hid h1
      clear hx hu hv h0 h1
      go_wp2_with fail
      refine (K0.out _ H0.out).mono ?_
      rintro e w2 ⟨rfl, rfl⟩
      go_wp2_with fail
      refine (K1.out _ (by have h := H1.out; unfold markCe at h; rw [HU.out] at h; exact h)).mono ?_
      rintro e w3 ⟨rfl, hb⟩
      have HB2 := Lib.hid (more HB.out (Nat.le_refl _) hb)
      clear hb
      go_wp2_with fail
      go_roundw
      case rel => exact ⟨j + 1, q + 2 * u + 3 * v, by omega, by go_num, by go_num, Lib.hid (by have h1 := HT.out; have h2 := HQ.out; have h3 := HU.out; have h4 := HV.out; unfold wC at h1; omega), by omega, by omega, HB2⟩
      case measure => simp [intOf]; omega
    · obtain rfl : j = n := by omega
      have hrr := HRR.out
      have hqr : q = r := by have h := HQ.out; rw [List.take_of_length_le (by rw [HN.out]; exact Nat.le_refl _)] at h; omega
      go_wp2_with fail
      go_ret
      exact ⟨by rw [hqr]; rfl, HB.out⟩
set_option maxHeartbeats 400000 in
theorem markSl_nil (A : Option Addr) (c : Nat) (k : Int) (w : World) : Calls Try.prog 42 #[.slice A 0 c, .int .i64 k] w fun e w' => e = .returned (.int .i64 k) ∧ w = w' := by
  go_enter Try.func42, Try.ntmps42
  go_wp2_with fail
  refine wp_loop_rounds 1 ?_
  rw [rounds_succ]
  go_wp2_with fail
  go_ret
  exact ⟨rfl, rfl⟩
set_option maxHeartbeats 400000 in
theorem markVa_nil (A : Option Addr) (c : Nat) (k : Int) (w : World) : Calls Try.prog 43 #[.slice A 0 c, .int .i64 k] w fun e w' => e = .returned (.int .i64 k) ∧ w = w' := by
  go_enter Try.func43, Try.ntmps43
  go_wp2_with fail
  refine wp_loop_rounds 1 ?_
  rw [rounds_succ]
  go_wp2_with fail
  go_ret
  exact ⟨rfl, rfl⟩
set_option maxHeartbeats 400000 in
theorem markCe_nil (A : Option Addr) (c : Nat) (k : Int) (w : World) : Calls Try.prog 26 #[.slice A 0 c, .int .i64 k] w fun e w' => e = .returned (.int .i64 k) ∧ w = w' := by
  go_enter Try.func26, Try.ntmps26
  go_wp2_with fail
  refine wp_loop_rounds 1 ?_
  rw [rounds_succ]
  go_wp2_with fail
  go_ret
  exact ⟨rfl, rfl⟩
theorem markSl_own (lo hi k n c r : Nat) (A : Option Addr) (xs : List Sl) (w : World) (hp : FlR Sl.cells 2 80 w lo hi A c xs) (hn : xs.length = n) (hl : n ≤ 1048576) (hk : k ≤ 50000000) (hr : k + 2 * n = r) :
    Calls Try.prog 42 #[.slice A n c, .int .i64 k] w fun e w' => e = .returned (.int .i64 r) ∧ FlR Sl.cells 2 80 w' lo hi A c (markSl xs k) ∧ Turn lo hi w w' := by
  subst hr
  rcases Nat.eq_zero_or_pos n with rfl | h0
  · refine (markSl_nil A c k w).mono ?_
    rintro e w' ⟨rfl, rfl⟩
    refine ⟨by simp, fun h => ?_, Turn.refl _ _ _⟩
    rw [markSl_len, hn] at h
    exact absurd h (by omega)
  · obtain ⟨g, rfl, a, b, ho⟩ := hp (by omega)
    rw [hn] at ho
    refine (markSlots_any g c 0 k n xs w ho hn hl hk).mono ?_
    rintro e w' ⟨rfl, ho, hg⟩
    exact ⟨rfl, fun _ => ⟨g, rfl, a, b, by rw [markSl_len, hn]; exact ho⟩, Turn.of_grown hg a b⟩
theorem markVa_own (lo hi k n c r : Nat) (A : Option Addr) (xs : List Va) (w : World) (hp : FlR Va.cells 3 82 w lo hi A c xs) (hn : xs.length = n) (hl : n ≤ 1048576) (hk : k ≤ 50000000) (hk0 : 0 < k) (hr : k + 3 * n = r) :
    Calls Try.prog 43 #[.slice A n c, .int .i64 k] w fun e w' => e = .returned (.int .i64 r) ∧ FlR Va.cells 3 82 w' lo hi A c (markVa xs k) ∧ Turn lo hi w w' := by
  subst hr
  rcases Nat.eq_zero_or_pos n with rfl | h0
  · refine (markVa_nil A c k w).mono ?_
    rintro e w' ⟨rfl, rfl⟩
    refine ⟨by simp, fun h => ?_, Turn.refl _ _ _⟩
    rw [markVa_len, hn] at h
    exact absurd h (by omega)
  · obtain ⟨g, rfl, a, b, ho⟩ := hp (by omega)
    rw [hn] at ho
    refine (markVals_any g c 0 k n xs w ho hn hl hk hk0).mono ?_
    rintro e w' ⟨rfl, ho, hg⟩
    exact ⟨rfl, fun _ => ⟨g, rfl, a, b, by rw [markVa_len, hn]; exact ho⟩, Turn.of_grown hg a b⟩
set_option maxRecDepth 100000 in
set_option maxHeartbeats 2000000 in
theorem markSt_own (lo hi c k n r : Nat) (A : Option Addr) (xs : List Ce) (w : World) (hp : StO w lo hi A c xs) (hn : xs.length = n) (hl : n ≤ 1048576) (hs : ∀ x ∈ xs, x.pl.length ≤ 1048576 ∧ x.st.length ≤ 1048576) (hkb : k + totC xs ≤ 50000000) (hk0 : 0 < k) (hr : k + totC xs = r) :
    Calls Try.prog 26 #[.slice A n c, .int .i64 k] w fun e w' => e = .returned (.int .i64 r) ∧ StO w' lo hi A c (markCs xs k) ∧ Turn lo hi w w' := by
  subst hr
  have HN := Lib.hid hn
  have HS := Lib.hid hs
  have HK := Lib.hid hkb
  have HH := Lib.hid hp
  clear hn hs hkb hp
  go_enter Try.func26, Try.ntmps26
  go_wp2_with fail
  go_loopw [1, 5] (fun mm i wr => ∃ (j q : Nat) (ys : List Ce), j ≤ n ∧ i = .int .i64 j ∧ mm = .int .i64 q ∧ 0 < q ∧ Hid (q + totC (xs.drop j) = k + totC xs) ∧ Hid ((markCs xs k).drop j = markCs (xs.drop j) q) ∧ Hid (ys.length = n ∧ ys.take j = (markCs xs k).take j ∧ ys.drop j = xs.drop j) ∧
    Hid (StO wr lo hi A c ys) ∧ Hid (Turn lo hi w wr)) (fun _ i _ => n - (intOf i).toNat)
  case atStart => exact ⟨0, k, xs, by omega, rfl, rfl, hk0, Lib.hid rfl, Lib.hid rfl, Lib.hid ⟨HN.out, rfl, rfl⟩, HH, Lib.hid (Turn.refl _ _ _)⟩
  case round =>
    obtain ⟨j, q, ys, hj, rfl, rfl, hq0, HQ, HM, HY, HO, HT⟩ := hrel
    by_cases hlt : j < n
    · obtain ⟨x, hx⟩ := at_some (show j < xs.length by rw [HN.out]; exact hlt)
      have hdc := drop_cons hx
      have hyl : ys.length = n := HY.out.1
      have hyx : ys[j]? = some x := by
        have e : (ys.drop j)[0]? = some x := by rw [HY.out.2.2, hdc]; rfl
        rw [List.getElem?_drop] at e
        exact e
      have HQ2 := Lib.hid (show q + wC x + totC (xs.drop (j + 1)) = k + totC xs by have := HQ.out; rw [hdc] at this; simp only [totC] at this; omega)
      have HM2 := Lib.hid (show (markCs xs k).drop j = markCe x q :: markCs (xs.drop (j + 1)) (q + wC x) by rw [HM.out, hdc]; rfl)
      obtain ⟨g, L, P, Q, rfl, r1, r2, hown, hd⟩ := HO.out (by omega)
      obtain ⟨cs, _, hcs, A0, c0, A1, c1, mm, rfl, m1, m2, hp0, hp1⟩ := hd.row j x hyx
      obtain ⟨i1, i2, i3, i4⟩ := hd.inn j (by omega)
      rw [hyl] at hown
      have hLl : L.length = n * 2 := hown.1
      have e0 := (hown.cellAt (j * 2) (by omega)).trans (hcs 0 _ rfl)
      have e1 := (hown.cellAt (j * 2 + 1) (by omega)).trans (hcs 1 _ rfl)
      have hxl := HS.out x (List.mem_of_getElem? hx)
      have hqb : q + 2 * x.pl.length + 3 * x.st.length ≤ 50000000 := by have := HQ2.out; have := HK.out; unfold wC at *; omega
      have hgl := hown.lt g rfl
      have HD := Lib.hid hd
      have HOW := Lib.hid hown
      have HYX := Lib.hid hyx
      have HCS := Lib.hid hcs
      have HX := Lib.hid hx
      obtain ⟨u, hu⟩ : ∃ u, x.pl.length = u := ⟨_, rfl⟩
      obtain ⟨v, hv⟩ : ∃ v, x.st.length = v := ⟨_, rfl⟩
      have HU := Lib.hid hu
      have HV := Lib.hid hv
      rw [hu] at e0 hxl hqb
      rw [hv] at e1 hxl hqb
      have KM := Lib.hid (markSl_own (P j) mm q u c0 (q + 2 * u) A0 x.pl wr hp0 hu hxl.1 (by omega) rfl)
      have KV := Lib.hid (fun w h => markVa_own mm (Q j) (q + 2 * u) v c1 (q + 2 * u + 3 * v) A1 x.st w h hv hxl.2 (by omega) (by omega) rfl)
      have HP1 := Lib.hid hp1
      clear hx hyx hdc hown hd hcs hp0 hp1 HH hu hv
      go_wp2_with fail
      refine KM.out.mono ?_
      rintro e w2 ⟨rfl, hz2, ht2⟩
      have HZ2 := Lib.hid hz2
      have f1 := (ht2.cell (o := j * 2 + 1) hgl.2 (by omega)).trans e1
      have HOW2 := Lib.hid (ht2.own HOW.out (by omega))
      have HP12 := Lib.hid (HP1.out.turn ht2 (.inr (Nat.le_refl _)))
      have HT2 := Lib.hid ht2
      have hs2 := ht2.size
      clear hz2 ht2 e0 e1
      go_wp2_with fail
      refine (KV.out _ HP12.out).mono ?_
      rintro e w3 ⟨rfl, hz3, ht3⟩
      have HZ23 := Lib.hid (HZ2.out.turn ht3 (.inl (Nat.le_refl _)))
      have HZ3 := Lib.hid hz3
      have HOW3 := Lib.hid (ht3.own HOW2.out (by omega))
      have HT3 := Lib.hid ((HT2.out.mono (Nat.le_refl _) m2).trans (ht3.mono m1 (Nat.le_refl _)))
      clear hz3 ht3 f1
      go_wp2_with fail
      go_roundw
      case rel =>
        refine ⟨j + 1, q + 2 * u + 3 * v, ys.set j (markCe x q), by omega, by go_num, by go_num, by omega, Lib.hid (by have h1 := HQ2.out; have h3 := HU.out; have h4 := HV.out; unfold wC at h1; omega), Lib.hid ?_, Lib.hid ⟨by rw [List.length_set]; exact HY.out.1, set_takeG HY.out.2.1 ?_ (by omega), by rw [set_dropG]; have := HY.out.2.2; rw [drop_cons HX.out, drop_cons HYX.out] at this; injection this⟩, Lib.hid (fun _ => ⟨g, L, P, Q, rfl, r1, r2, by rw [List.length_set, hyl]; exact HOW3.out, ApD.step CeO.turn HD.out HYX.out rfl HCS.out ⟨A0, c0, A1, c1, mm, ?_, m1, m2, ?_, ?_⟩ HT3.out⟩), Lib.hid (HT.out.trans (HT3.out.mono i1 i3))⟩
        · have e := congrArg (List.drop 1) HM2.out
          rw [List.drop_drop] at e
          have h3 := HU.out
          have h4 := HV.out
          rw [show q + 2 * u + 3 * v = q + wC x by unfold wC; omega]
          simpa [Nat.add_comm] using e
        · have e := congrArg (fun l => l[0]?) HM2.out
          simp only [List.getElem?_drop, List.getElem?_cons_zero, Nat.add_zero] at e
          exact e
        · show _ = [Value.slice A0 (markSl x.pl q).length c0, Value.slice A1 (markVa x.st (q + 2 * x.pl.length)).length c1]
          rw [markSl_len, markVa_len]
        · exact HZ23.out
        · show FlR Va.cells 3 82 w3 mm (Q j) A1 c1 (markVa x.st (q + 2 * x.pl.length))
          rw [HU.out]
          exact HZ3.out
      case measure => simp [intOf]; omega
    · obtain rfl : j = n := by omega
      have e : ys = markCs xs k := by
        have h := HY.out.2.1
        rw [List.take_of_length_le (by rw [HY.out.1]; exact Nat.le_refl _), List.take_of_length_le (by rw [markCs_len, HN.out]; exact Nat.le_refl _)] at h
        exact h
      have hq := HQ.out
      rw [List.drop_eq_nil_of_le (by rw [HN.out]; exact Nat.le_refl _)] at hq
      simp only [totC, Nat.add_zero] at hq
      subst hq
      subst e
      go_wp2_with fail
      go_ret
      exact ⟨rfl, HO.out, HT.out⟩
def totSs : List (List Ce) → Nat
  | [] => 0
  | z :: zs => totC z + totSs zs
def markSs : List (List Ce) → Nat → List (List Ce)
  | [], _ => []
  | z :: zs, k => markCs z k :: markSs zs (k + totC z)
theorem markSs_len : ∀ (xs : List (List Ce)) (k : Nat), (markSs xs k).length = xs.length
  | [], _ => rfl
  | x :: xs, k => by simp [markSs, markSs_len xs]
set_option maxRecDepth 100000 in
set_option maxHeartbeats 2000000 in
theorem markSs_own (lo hi c k n : Nat) (A : Option Addr) (xss : List (List Ce)) (w : World) (hp : SsO w lo hi A c xss) (hn : xss.length = n) (hl : n ≤ 1048576) (hs : ∀ xs ∈ xss, Sm2 xs) (hkb : k + totSs xss ≤ 50000000) (hk0 : 0 < k) :
    Calls Try.prog 27 #[.slice A n c, .int .i64 k] w fun e w' => e = .returned (.int .i64 (k + totSs xss : Nat)) ∧ SsO w' lo hi A c (markSs xss k) ∧ Turn lo hi w w' := by
  have HN := Lib.hid hn
  have HS := Lib.hid hs
  have HK := Lib.hid hkb
  have HH := Lib.hid hp
  clear hn hs hkb hp
  go_enter Try.func27, Try.ntmps27
  go_wp2_with fail
  go_loopw [1, 5] (fun mm i wr => ∃ (j q : Nat) (yss : List (List Ce)), j ≤ n ∧ i = .int .i64 j ∧ mm = .int .i64 q ∧ 0 < q ∧ Hid (q + totSs (xss.drop j) = k + totSs xss) ∧ Hid ((markSs xss k).drop j = markSs (xss.drop j) q) ∧ Hid (yss.length = n ∧ yss.take j = (markSs xss k).take j ∧ yss.drop j = xss.drop j) ∧
    Hid (SsO wr lo hi A c yss) ∧ Hid (Turn lo hi w wr)) (fun _ i _ => n - (intOf i).toNat)
  case atStart => exact ⟨0, k, xss, by omega, rfl, rfl, hk0, Lib.hid rfl, Lib.hid rfl, Lib.hid ⟨HN.out, rfl, rfl⟩, HH, Lib.hid (Turn.refl _ _ _)⟩
  case round =>
    obtain ⟨j, q, yss, hj, rfl, rfl, hq0, HQ, HM, HY, HO, HT⟩ := hrel
    by_cases hlt : j < n
    · obtain ⟨x, hx⟩ := at_some (show j < xss.length by rw [HN.out]; exact hlt)
      have hdc := drop_cons hx
      have hyl : yss.length = n := HY.out.1
      have hyx : yss[j]? = some x := by
        have e : (yss.drop j)[0]? = some x := by rw [HY.out.2.2, hdc]; rfl
        rw [List.getElem?_drop] at e
        exact e
      have HQ2 := Lib.hid (show q + totC x + totSs (xss.drop (j + 1)) = k + totSs xss by have := HQ.out; rw [hdc] at this; simp only [totSs] at this; omega)
      have HM2 := Lib.hid (show (markSs xss k).drop j = markCs x q :: markSs (xss.drop (j + 1)) (q + totC x) by rw [HM.out, hdc]; simp only [markSs])
      obtain ⟨g, L, P, Q, rfl, r1, r2, hown, hd⟩ := HO.out (by omega)
      obtain ⟨cs, _, hcs, B, c2, rfl, hxc, hzs⟩ := hd.row j x hyx
      have hLj : L[j]? = some (.slice B x.length c2) := by rw [← Nat.mul_one j]; exact hcs 0 _ rfl
      obtain ⟨i1, i2, i3, i4⟩ := hd.inn j (by omega)
      rw [hyl] at hown
      have e0 := (hown.cellAt j (by omega)).trans hLj
      have hxl := HS.out x (List.mem_of_getElem? hx)
      have hqb : q + totC x ≤ 50000000 := by have := HQ2.out; have := HK.out; omega
      have hi1 : (0 : Int) ≤ (j : Int) := by omega
      have hi2 : (j : Int) < (n : Int) := by omega
      have KM := Lib.hid (markSt_own (P j) (Q j) c2 q x.length (q + totC x) B x wr hzs rfl hxl.1 hxl.2 (by omega) hq0 rfl)
      have HCS := Lib.hid hcs
      have HXC := Lib.hid hxc
      have HD := Lib.hid hd
      have HOW := Lib.hid hown
      have HYX := Lib.hid hyx
      have HX := Lib.hid hx
      clear hx hyx hdc hown hd hLj hzs HH hcs hxc hxl
      go_wp2_with fail
      refine KM.out.mono ?_
      rintro e w2 ⟨rfl, hz2, ht2⟩
      have HZ2 := Lib.hid hz2
      have HT2 := Lib.hid ht2
      have hgl := HOW.out.lt g rfl
      have hrow2 := ht2.own HOW.out i4
      have HR2 := Lib.hid hrow2
      clear hz2 ht2 hrow2 e0
      go_wp2_with fail
      go_roundw
      case rel =>
        refine ⟨j + 1, q + totC x, yss.set j (markCs x q), by omega, by go_num, by go_num, by omega, Lib.hid HQ2.out, Lib.hid ?_, Lib.hid ⟨by rw [List.length_set]; exact HY.out.1, set_takeG HY.out.2.1 ?_ (by omega), by rw [set_dropG]; have := HY.out.2.2; rw [drop_cons HX.out, drop_cons HYX.out] at this; injection this⟩, Lib.hid (fun _ => ⟨g, L, P, Q, rfl, r1, r2, by rw [List.length_set, hyl]; exact HR2.out, ApD.step StV.turn HD.out HYX.out rfl HCS.out ⟨B, c2, by rw [markCs_len], by rw [markCs_len]; exact HXC.out, HZ2.out⟩ HT2.out⟩), Lib.hid (HT.out.trans (HT2.out.mono i1 i3))⟩
        · have e := congrArg (List.drop 1) HM2.out
          rw [List.drop_drop] at e
          simpa [Nat.add_comm] using e
        · have e := congrArg (fun l => l[0]?) HM2.out
          simp only [List.getElem?_drop, List.getElem?_cons_zero, Nat.add_zero] at e
          exact e
      case measure => simp [intOf]; omega
    · obtain rfl : j = n := by omega
      have e : yss = markSs xss k := by
        have h := HY.out.2.1
        rw [List.take_of_length_le (by rw [HY.out.1]; exact Nat.le_refl _), List.take_of_length_le (by rw [markSs_len, HN.out]; exact Nat.le_refl _)] at h
        exact h
      have hq := HQ.out
      rw [List.drop_eq_nil_of_le (by rw [HN.out]; exact Nat.le_refl _)] at hq
      simp only [totSs, Nat.add_zero] at hq
      subst hq
      subst e
      go_wp2_with fail
      go_ret
      exact ⟨rfl, HO.out, HT.out⟩
set_option maxRecDepth 100000 in
set_option maxHeartbeats 2000000 in
theorem heldSs_any (A : Option Addr) (c k n r : Nat) (xss : List (List Ce)) (w : World) (hx : StL w A (markSs xss k)) (hn : xss.length = n) (hl : n ≤ 1048576) (hs : ∀ xs ∈ xss, Sm2 xs) (hkb : k + totSs xss ≤ 50000000) (hk0 : 0 < k) (hr : k + totSs xss = r) :
    Calls Try.prog 29 #[.slice A n c, .int .i64 k] w fun e w' => e = .returned (.int .i64 r) ∧ Below w.heap.size w w' := by
  subst hr
  have HN := Lib.hid hn
  have HS := Lib.hid hs
  have HK := Lib.hid hkb
  have HX := Lib.hid hx
  clear hn hs hkb hx
  go_enter Try.func29, Try.ntmps29
  go_wp2_with fail
  go_loopw [1, 5] (fun mm i wr => ∃ (j q : Nat), j ≤ n ∧ i = .int .i64 j ∧ mm = .int .i64 q ∧ 0 < q ∧ Hid (Below w.heap.size w wr) ∧ Hid (q + totSs (xss.drop j) = k + totSs xss) ∧ Hid ((markSs xss k).drop j = markSs (xss.drop j) q)) (fun _ i _ => n - (intOf i).toNat)
  case atStart => exact ⟨0, k, by omega, rfl, rfl, hk0, Lib.hid (Below.refl _ _), Lib.hid rfl, Lib.hid rfl⟩
  case round =>
    obtain ⟨j, q, hj, rfl, rfl, hq0, HB, HQ, HM⟩ := hrel
    by_cases hlt : j < n
    · obtain ⟨x, hx⟩ := at_some (show j < xss.length by rw [HN.out]; exact hlt)
      have hdc := drop_cons hx
      have HQ2 := Lib.hid (show q + totC x + totSs (xss.drop (j + 1)) = k + totSs xss by have := HQ.out; rw [hdc] at this; simp only [totSs] at this; omega)
      have HM2 := Lib.hid (show (markSs xss k).drop j = markCs x q :: markSs (xss.drop (j + 1)) (q + totC x) by rw [HM.out, hdc]; simp only [markSs])
      have hmx : (markSs xss k)[j]? = some (markCs x q) := by
        have e := congrArg (fun l => l[0]?) HM2.out
        simp only [List.getElem?_drop, List.getElem?_cons_zero, Nat.add_zero] at e
        exact e
      obtain ⟨b, off, rfl, hblt, hat⟩ := (HX.out.below HB.out) (by rw [markSs_len, HN.out]; omega)
      obtain ⟨B0, d0, e0, hi0, _, _⟩ := hat j _ hmx
      rw [markCs_len] at e0
      have hxl := HS.out x (List.mem_of_getElem? hx)
      have hqb : q + totC x ≤ 50000000 := by have := HQ2.out; have := HK.out; omega
      have hi1 : (0 : Int) ≤ (j : Int) := by omega
      have hi2 : (j : Int) < (n : Int) := by omega
      have KH := Lib.hid (heldCells_any B0 d0 q x.length (q + totC x) x wr hi0 rfl hxl.1 hxl.2 (by omega) hq0 rfl)
      clear hx hdc hmx hi0 hat hxl
      go_wp2_with fail
      refine KH.out.mono ?_
      rintro e w' ⟨rfl, hb⟩
      have HB2 := Lib.hid (more HB.out (Nat.le_refl _) hb)
      clear hb
      obtain ⟨q2, hq2⟩ : ∃ u, q + totC x = u := ⟨_, rfl⟩
      have hneg : decide ((q2 : Int) < 0) = false := by simp
      have HQ3 := Lib.hid hq2
      rw [hq2]
      clear hq2
      go_wp2_with fail
      go_roundw
      case rel => exact ⟨j + 1, q2, by omega, by go_num, rfl, by have := HQ3.out; omega, HB2, Lib.hid (by rw [← HQ3.out]; exact HQ2.out), Lib.hid (by
        have e := congrArg (List.drop 1) HM2.out
        rw [List.drop_drop] at e
        rw [← HQ3.out]
        simpa [Nat.add_comm] using e)⟩
      case measure => simp [intOf]; omega
    · obtain rfl : j = n := by omega
      have hq := HQ.out
      rw [List.drop_eq_nil_of_le (by rw [HN.out]; exact Nat.le_refl _)] at hq
      simp only [totSs, Nat.add_zero] at hq
      subst hq
      go_wp2_with fail
      go_ret
      exact ⟨rfl, HB.out⟩
end Go.Proofs.Ytkofajjlkhamkaa
