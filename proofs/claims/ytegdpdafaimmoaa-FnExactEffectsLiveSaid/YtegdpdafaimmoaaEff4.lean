/- Places and effects marked; places found again, and compared with equal ones. -/
import Derived.Test.YtegdpdafaimmoaaEff3
namespace Go.Proofs.Ytegdpdafaimmoaa
open Go.Joins Go.ChangeShapes Go.WideShapes Go.ChangeAt Go.RowKit Go.Deep
set_option linter.unusedVariables false
set_option linter.unusedSimpArgs false

variable {α : Type} {own : World → Nat → Nat → List Value → α → Prop}
theorem ApD.step2 (ho : TurnOk own) {m lo hi g j : Nat} {w w1 w5 : World} {L L' cs : List Value} {P Q : Nat → Nat} {xs : List α} {x y : α} (h : ApD own m w lo hi g L P Q xs) (hj : xs[j]? = some x) (hcs : cs.length = m) (hL : ∀ i u, cs[i]? = some u → L'[j * m + i]? = some u) (hL2 : ∀ i, (i < j * m ∨ j * m + m ≤ i) → L'[i]? = L[i]?) (hy : own w5 (P j) (Q j) cs y) (ht1 : Turn g (g + 1) w w1) (ht : Turn (P j) (Q j) w1 w5) : ApD own m w5 lo hi g L' P Q (xs.set j y) := by
  have hjl := (List.getElem?_eq_some_iff.1 hj).1
  refine ⟨fun i z hz => ?_, fun i hi => h.inn i (by simpa using hi), fun i k hi hk2 => h.apart i k (by simpa using hi) (by simpa using hk2)⟩
  by_cases hij : i = j
  · subst hij
    rw [List.getElem?_set_self hjl] at hz
    injection hz with hz
    subst hz
    exact ⟨cs, hcs, hL, hy⟩
  · rw [List.getElem?_set_ne (fun e => hij e.symm)] at hz
    obtain ⟨c2, a, b, c⟩ := h.row i z hz
    have hil := (List.getElem?_eq_some_iff.1 hz).1
    obtain ⟨_, _, _, q4⟩ := h.inn i hil
    refine ⟨c2, a, fun v u hu => ?_, ho _ _ _ _ _ _ _ _ (ho _ _ _ _ _ _ _ _ c ht1 (by omega)) ht (h.apart i j hil hjl hij)⟩
    have hv : v < m := by rw [← a]; exact (List.getElem?_eq_some_iff.1 hu).1
    rw [hL2 _ ?_]
    · exact b v u hu
    · rcases Nat.lt_or_gt_of_ne hij with h1 | h1
      · have := Nat.mul_le_mul_right m (show i + 1 ≤ j by omega)
        rw [Nat.add_mul] at this
        omega
      · have := Nat.mul_le_mul_right m (show j + 1 ≤ i by omega)
        rw [Nat.add_mul] at this
        omega
def totPs : List (List Sl) → Nat
  | [] => 0
  | z :: zs => 2 * z.length + totPs zs
def markPs : List (List Sl) → Nat → List (List Sl)
  | [], _ => []
  | z :: zs, k => markSl z k :: markPs zs (k + 2 * z.length)
theorem markPs_len : ∀ (xs : List (List Sl)) (k : Nat), (markPs xs k).length = xs.length
  | [], _ => rfl
  | x :: xs, k => by simp [markPs, markPs_len xs]
set_option maxRecDepth 100000 in
set_option maxHeartbeats 2000000 in
theorem markPs_own (lo hi c k n : Nat) (A : Option Addr) (xss : List (List Sl)) (w : World) (hp : PssO w lo hi A c xss) (hn : xss.length = n) (hl : n ≤ 1048576) (hs : ∀ xs ∈ xss, xs.length ≤ 1048576) (hkb : k + totPs xss ≤ 50000000) (hk0 : 0 < k) :
    Calls Try.prog 15 #[.slice A n c, .int .i64 k] w fun e w' => e = .returned (.int .i64 (k + totPs xss : Nat)) ∧ PssO w' lo hi A c (markPs xss k) ∧ Turn lo hi w w' := by
  have HN := Lib.hid hn
  have HS := Lib.hid hs
  have HK := Lib.hid hkb
  have HH := Lib.hid hp
  clear hn hs hkb hp
  go_enter Try.func15, Try.ntmps15
  go_wp2_with fail
  go_loopw [1, 5] (fun mm i wr => ∃ (j q : Nat) (yss : List (List Sl)), j ≤ n ∧ i = .int .i64 j ∧ mm = .int .i64 q ∧ 0 < q ∧ Hid (q + totPs (xss.drop j) = k + totPs xss) ∧ Hid ((markPs xss k).drop j = markPs (xss.drop j) q) ∧ Hid (yss.length = n ∧ yss.take j = (markPs xss k).take j ∧ yss.drop j = xss.drop j) ∧
    Hid (PssO wr lo hi A c yss) ∧ Hid (Turn lo hi w wr)) (fun _ i _ => n - (intOf i).toNat)
  case atStart => exact ⟨0, k, xss, by omega, rfl, rfl, hk0, Lib.hid rfl, Lib.hid rfl, Lib.hid ⟨HN.out, rfl, rfl⟩, HH, Lib.hid (Turn.refl _ _ _)⟩
  case round =>
    obtain ⟨j, q, yss, hj, rfl, rfl, hq0, HQ, HM, HY, HO, HT⟩ := hrel
    by_cases hlt : j < n
    · obtain ⟨x, hx⟩ := at_some (show j < xss.length by rw [HN.out]; exact hlt)
      have hdc := drop_cons hx
      have hyl : yss.length = n := HY.out.1
      have hyx : yss[j]? = some x := by
        have e : (yss.drop j)[0]? = some x := by rw [HY.out.2.2, hdc]; rfl
        rw [List.getElem?_drop] at e
        exact e
      have HQ2 := Lib.hid (show q + 2 * x.length + totPs (xss.drop (j + 1)) = k + totPs xss by have := HQ.out; rw [hdc] at this; simp only [totPs] at this; omega)
      have HM2 := Lib.hid (show (markPs xss k).drop j = markSl x q :: markPs (xss.drop (j + 1)) (q + 2 * x.length) by rw [HM.out, hdc]; simp only [markPs])
      obtain ⟨g, L, P, Q, rfl, r1, r2, hown, hd⟩ := HO.out (by omega)
      obtain ⟨cs, _, hcs, B, c2, rfl, hzs⟩ := hd.row j x hyx
      have hLj : L[j]? = some (.slice B x.length c2) := by rw [← Nat.mul_one j]; exact hcs 0 _ rfl
      obtain ⟨i1, i2, i3, i4⟩ := hd.inn j (by omega)
      rw [hyl] at hown
      have e0 := (hown.cellAt j (by omega)).trans hLj
      have hxl := HS.out x (List.mem_of_getElem? hx)
      have hqb : q + 2 * x.length ≤ 50000000 := by have := HQ2.out; have := HK.out; omega
      have hi1 : (0 : Int) ≤ (j : Int) := by omega
      have hi2 : (j : Int) < (n : Int) := by omega
      have KM := Lib.hid (markSl_own (P j) (Q j) q x.length c2 (q + 2 * x.length) B x wr hzs rfl hxl (by omega) rfl)
      have HCS := Lib.hid hcs
      have HD := Lib.hid hd
      have HOW := Lib.hid hown
      have HYX := Lib.hid hyx
      have HX := Lib.hid hx
      clear hx hyx hdc hown hd hLj hzs HH hcs hxl
      go_wp2_with fail
      refine KM.out.mono ?_
      rintro e w2 ⟨rfl, hz2, ht2⟩
      have HZ2 := Lib.hid hz2
      have HT2 := Lib.hid ht2
      have hgl := HOW.out.lt g rfl
      have hrow2 := ht2.own HOW.out i4
      have HR2 := Lib.hid hrow2
      clear hz2 ht2 hrow2 e0
      go_wp2_with fail
      go_roundw
      case rel =>
        refine ⟨j + 1, q + 2 * x.length, yss.set j (markSl x q), by omega, by go_num, by go_num, by omega, Lib.hid HQ2.out, Lib.hid ?_, Lib.hid ⟨by rw [List.length_set]; exact HY.out.1, set_takeG HY.out.2.1 ?_ (by omega), by rw [set_dropG]; have := HY.out.2.2; rw [drop_cons HX.out, drop_cons HYX.out] at this; injection this⟩, Lib.hid (fun _ => ⟨g, L, P, Q, rfl, r1, r2, by rw [List.length_set, hyl]; exact HR2.out, ApD.step PlV.turn HD.out HYX.out rfl HCS.out ⟨B, c2, by rw [markSl_len], HZ2.out⟩ HT2.out⟩), Lib.hid (HT.out.trans (HT2.out.mono i1 i3))⟩
        · have e := congrArg (List.drop 1) HM2.out
          rw [List.drop_drop] at e
          simpa [Nat.add_comm] using e
        · have e := congrArg (fun l => l[0]?) HM2.out
          simp only [List.getElem?_drop, List.getElem?_cons_zero, Nat.add_zero] at e
          exact e
      case measure => simp [intOf]; omega
    · obtain rfl : j = n := by omega
      have e : yss = markPs xss k := by
        have h := HY.out.2.1
        rw [List.take_of_length_le (by rw [HY.out.1]; exact Nat.le_refl _), List.take_of_length_le (by rw [markPs_len, HN.out]; exact Nat.le_refl _)] at h
        exact h
      have hq := HQ.out
      rw [List.drop_eq_nil_of_le (by rw [HN.out]; exact Nat.le_refl _)] at hq
      simp only [totPs, Nat.add_zero] at hq
      subst hq
      subst e
      go_wp2_with fail
      go_ret
      exact ⟨rfl, HO.out, HT.out⟩
set_option maxRecDepth 100000 in
set_option maxHeartbeats 2000000 in
theorem heldPs_any (A : Option Addr) (c k n r : Nat) (xss : List (List Sl)) (w : World) (hx : PsL w A (markPs xss k)) (hn : xss.length = n) (hl : n ≤ 1048576) (hs : ∀ xs ∈ xss, xs.length ≤ 1048576) (hkb : k + totPs xss ≤ 50000000) (hk0 : 0 < k) (hr : k + totPs xss = r) :
    Calls Try.prog 16 #[.slice A n c, .int .i64 k] w fun e w' => e = .returned (.int .i64 r) ∧ Below w.heap.size w w' := by
  subst hr
  have HN := Lib.hid hn
  have HS := Lib.hid hs
  have HK := Lib.hid hkb
  have HX := Lib.hid hx
  clear hn hs hkb hx
  go_enter Try.func16, Try.ntmps16
  go_wp2_with fail
  go_loopw [1, 5] (fun mm i wr => ∃ (j q : Nat), j ≤ n ∧ i = .int .i64 j ∧ mm = .int .i64 q ∧ 0 < q ∧ Hid (Below w.heap.size w wr) ∧ Hid (q + totPs (xss.drop j) = k + totPs xss) ∧ Hid ((markPs xss k).drop j = markPs (xss.drop j) q)) (fun _ i _ => n - (intOf i).toNat)
  case atStart => exact ⟨0, k, by omega, rfl, rfl, hk0, Lib.hid (Below.refl _ _), Lib.hid rfl, Lib.hid rfl⟩
  case round =>
    obtain ⟨j, q, hj, rfl, rfl, hq0, HB, HQ, HM⟩ := hrel
    by_cases hlt : j < n
    · obtain ⟨x, hx⟩ := at_some (show j < xss.length by rw [HN.out]; exact hlt)
      have hdc := drop_cons hx
      have HQ2 := Lib.hid (show q + 2 * x.length + totPs (xss.drop (j + 1)) = k + totPs xss by have := HQ.out; rw [hdc] at this; simp only [totPs] at this; omega)
      have HM2 := Lib.hid (show (markPs xss k).drop j = markSl x q :: markPs (xss.drop (j + 1)) (q + 2 * x.length) by rw [HM.out, hdc]; simp only [markPs])
      have hmx : (markPs xss k)[j]? = some (markSl x q) := by
        have e := congrArg (fun l => l[0]?) HM2.out
        simp only [List.getElem?_drop, List.getElem?_cons_zero, Nat.add_zero] at e
        exact e
      obtain ⟨b, off, rfl, hblt, hat⟩ := (HX.out.below HB.out) (by rw [markPs_len, HN.out]; omega)
      obtain ⟨B0, d0, e0, hi0⟩ := hat j _ hmx
      rw [markSl_len] at e0
      have hxl := HS.out x (List.mem_of_getElem? hx)
      have hqb : q + 2 * x.length ≤ 50000000 := by have := HQ2.out; have := HK.out; omega
      have hi1 : (0 : Int) ≤ (j : Int) := by omega
      have hi2 : (j : Int) < (n : Int) := by omega
      have KH := Lib.hid (heldSlots_any B0 d0 q x.length x wr hi0 rfl hxl (by omega))
      clear hx hdc hmx hi0 hat hxl
      go_wp2_with fail
      refine KH.out.mono ?_
      rintro e w' ⟨rfl, rfl⟩
      have HB2 := HB
      obtain ⟨q2, hq2⟩ : ∃ u, q + 2 * x.length = u := ⟨_, rfl⟩
      have hneg : decide ((q2 : Int) < 0) = false := by simp
      have HQ3 := Lib.hid hq2
      rw [hq2]
      clear hq2
      go_wp2_with fail
      go_roundw
      case rel => exact ⟨j + 1, q2, by omega, by go_num, rfl, by have := HQ3.out; omega, HB2, Lib.hid (by rw [← HQ3.out]; exact HQ2.out), Lib.hid (by
        have e := congrArg (List.drop 1) HM2.out
        rw [List.drop_drop] at e
        rw [← HQ3.out]
        simpa [Nat.add_comm] using e)⟩
      case measure => simp [intOf]; omega
    · obtain rfl : j = n := by omega
      have hq := HQ.out
      rw [List.drop_eq_nil_of_le (by rw [HN.out]; exact Nat.le_refl _)] at hq
      simp only [totPs, Nat.add_zero] at hq
      subst hq
      go_wp2_with fail
      go_ret
      exact ⟨rfl, HB.out⟩
def wE (x : Ef) : Nat := 1 + 2 * x.pl.length
def markE (x : Ef) (k : Nat) : Ef := ⟨k, markSl x.pl (k + 1)⟩
def totEs : List Ef → Nat
  | [] => 0
  | z :: zs => wE z + totEs zs
def markEs : List Ef → Nat → List Ef
  | [], _ => []
  | z :: zs, k => markE z k :: markEs zs (k + wE z)
theorem markEs_len : ∀ (xs : List Ef) (k : Nat), (markEs xs k).length = xs.length
  | [], _ => rfl
  | x :: xs, k => by simp [markEs, markEs_len xs]
set_option maxRecDepth 100000 in
set_option maxHeartbeats 2000000 in
theorem markEs_own (lo hi c k n : Nat) (A : Option Addr) (xss : List Ef) (w : World) (hp : EfsO w lo hi A c xss) (hn : xss.length = n) (hl : n ≤ 1048576) (hs : ∀ x ∈ xss, x.pl.length ≤ 1048576) (hkb : k + totEs xss ≤ 50000000) (hk0 : 0 < k) :
    Calls Try.prog 14 #[.slice A n c, .int .i64 k] w fun e w' => e = .returned (.int .i64 (k + totEs xss : Nat)) ∧ EfsO w' lo hi A c (markEs xss k) ∧ Turn lo hi w w' := by
  have HN := Lib.hid hn
  have HS := Lib.hid hs
  have HK := Lib.hid hkb
  have HH := Lib.hid hp
  clear hn hs hkb hp
  go_enter Try.func14, Try.ntmps14
  go_wp2_with fail
  go_loopw [1, 5] (fun mm i wr => ∃ (j q : Nat) (yss : List Ef), j ≤ n ∧ i = .int .i64 j ∧ mm = .int .i64 q ∧ 0 < q ∧ Hid (q + totEs (xss.drop j) = k + totEs xss) ∧ Hid ((markEs xss k).drop j = markEs (xss.drop j) q) ∧ Hid (yss.length = n ∧ yss.take j = (markEs xss k).take j ∧ yss.drop j = xss.drop j) ∧
    Hid (EfsO wr lo hi A c yss) ∧ Hid (Turn lo hi w wr)) (fun _ i _ => n - (intOf i).toNat)
  case atStart => exact ⟨0, k, xss, by omega, rfl, rfl, hk0, Lib.hid rfl, Lib.hid rfl, Lib.hid ⟨HN.out, rfl, rfl⟩, HH, Lib.hid (Turn.refl _ _ _)⟩
  case round =>
    obtain ⟨j, q, yss, hj, rfl, rfl, hq0, HQ, HM, HY, HO, HT⟩ := hrel
    by_cases hlt : j < n
    · obtain ⟨x, hx⟩ := at_some (show j < xss.length by rw [HN.out]; exact hlt)
      have hdc := drop_cons hx
      have hyl : yss.length = n := HY.out.1
      have hyx : yss[j]? = some x := by
        have e : (yss.drop j)[0]? = some x := by rw [HY.out.2.2, hdc]; rfl
        rw [List.getElem?_drop] at e
        exact e
      have HQ2 := Lib.hid (show q + wE x + totEs (xss.drop (j + 1)) = k + totEs xss by have := HQ.out; rw [hdc] at this; simp only [totEs] at this; omega)
      have HM2 := Lib.hid (show (markEs xss k).drop j = markE x q :: markEs (xss.drop (j + 1)) (q + wE x) by rw [HM.out, hdc]; simp only [markEs])
      obtain ⟨g, L, P, Q, rfl, r1, r2, hown, hd⟩ := HO.out (by omega)
      obtain ⟨cs, _, hcs, B, c2, rfl, hzs⟩ := hd.row j x hyx
      obtain ⟨i1, i2, i3, i4⟩ := hd.inn j (by omega)
      rw [hyl] at hown
      have hLl : L.length = n * 2 := hown.1
      have e0 := (hown.cellAt (j * 2) (by omega)).trans (hcs 0 _ rfl)
      have e1 := (hown.cellAt (j * 2 + 1) (by omega)).trans (hcs 1 _ rfl)
      have f0 := hown.frozenAt (j * 2)
      have hgl := hown.lt g rfl
      obtain ⟨s1, q1⟩ := hown.stored (j * 2) (.int .i64 q)
      have ht0 : Turn g (g + 1) wr (wr.setCell ⟨g, j * 2, none⟩ (.int .i64 q)) := turn_set wr ⟨g, j * 2, none⟩ _
      have HT0 := Lib.hid ht0
      have HS1 := Lib.hid s1
      have HLL := Lib.hid hLl
      have hxl := HS.out x (List.mem_of_getElem? hx)
      have hqb : q + wE x ≤ 50000000 := by have := HQ2.out; have := HK.out; omega
      have hi1 : (0 : Int) ≤ (j : Int) := by omega
      have hi2 : (j : Int) < (n : Int) := by omega
      obtain ⟨u, hu⟩ : ∃ u, x.pl.length = u := ⟨_, rfl⟩
      have HU := Lib.hid hu
      obtain ⟨xk, hxk⟩ : ∃ xk, x.k = xk := ⟨_, rfl⟩
      rw [hu] at e1 hxl
      rw [hxk] at e0
      have hqw : q + 1 + 2 * u = q + wE x := by unfold wE; omega
      have KM := Lib.hid (markSl_own (P j) (Q j) (q + 1) u c2 (q + 1 + 2 * u) (some B) x.pl (wr.setCell ⟨g, j * 2, none⟩ (.int .i64 q)) (hzs.turn ht0 (by omega)) hu hxl (by unfold wE at hqb; omega) rfl)
      have HQW := Lib.hid hqw
      have HCS := Lib.hid hcs
      have HD := Lib.hid hd
      have HOW := Lib.hid hown
      have HYX := Lib.hid hyx
      have HX := Lib.hid hx
      clear hx hyx hdc hown hd hzs HH hcs hxl hu hxk hqw s1 q1 ht0 hLl hgl
      go_wp2_with fail
      refine KM.out.mono ?_
      rintro e w2 ⟨rfl, hz2, ht2⟩
      have HZ2 := Lib.hid hz2
      have HT2 := Lib.hid ht2
      have hgl := HS1.out.lt g rfl
      have hrow2 := ht2.own HS1.out i4
      have HR2 := Lib.hid hrow2
      clear hz2 ht2 hrow2 e0 e1
      go_wp2_with fail
      go_roundw
      case rel =>
        refine ⟨j + 1, q + wE x, yss.set j (markE x q), by omega, by go_num, by rw [← HQW.out]; go_num, by omega, Lib.hid HQ2.out, Lib.hid ?_, Lib.hid ⟨by rw [List.length_set]; exact HY.out.1, set_takeG HY.out.2.1 ?_ (by omega), by rw [set_dropG]; have := HY.out.2.2; rw [drop_cons HX.out, drop_cons HYX.out] at this; injection this⟩, Lib.hid (fun _ => ⟨g, L.set (j * 2) (.int .i64 q), P, Q, rfl, r1, r2, by rw [List.length_set, hyl]; exact HR2.out, ApD.step2 (cs := [.int .i64 q, .slice (some B) x.pl.length c2]) EfV.turn HD.out HYX.out rfl (fun i u hu => ?_) (fun i hi => List.getElem?_set_ne (by omega)) ⟨B, c2, by show _ = [Value.int .i64 (q : Int), Value.slice (some B) (markSl x.pl (q + 1)).length c2]; rw [markSl_len], HZ2.out⟩ HT0.out HT2.out⟩), Lib.hid (HT.out.trans ((HT0.out.mono r1 r2).trans (HT2.out.mono i1 i3)))⟩
        · have e := congrArg (List.drop 1) HM2.out
          rw [List.drop_drop] at e
          simpa [Nat.add_comm] using e
        · have e := congrArg (fun l => l[0]?) HM2.out
          simp only [List.getElem?_drop, List.getElem?_cons_zero, Nat.add_zero] at e
          exact e
        · match i, hu with
          | 0, hu =>
            simp at hu
            subst hu
            show (List.set L (j * 2) _)[j * 2]? = _
            rw [List.getElem?_set_self (by have := HLL.out; omega)]
          | 1, hu =>
            rw [List.getElem?_set_ne (by omega)]
            exact HCS.out 1 u hu
          | i + 2, hu => simp at hu
      case measure => simp [intOf]; omega
    · obtain rfl : j = n := by omega
      have e : yss = markEs xss k := by
        have h := HY.out.2.1
        rw [List.take_of_length_le (by rw [HY.out.1]; exact Nat.le_refl _), List.take_of_length_le (by rw [markEs_len, HN.out]; exact Nat.le_refl _)] at h
        exact h
      have hq := HQ.out
      rw [List.drop_eq_nil_of_le (by rw [HN.out]; exact Nat.le_refl _)] at hq
      simp only [totEs, Nat.add_zero] at hq
      subst hq
      subst e
      go_wp2_with fail
      go_ret
      exact ⟨rfl, HO.out, HT.out⟩
set_option maxHeartbeats 1000000 in
theorem eqPlaces_same (A A' : Option Addr) (c c' n : Nat) (xs : List (List Sl)) (w : World) (hx : PsL w A xs) (hy : PsL w A' xs) (hn : xs.length = n) (hl : n ≤ maxLen) (hs : ∀ x ∈ xs, x.length ≤ maxLen) :
    Calls Try.prog 12 #[.slice A n c, .slice A' n c'] w fun e w' => e = .returned (.bool true) ∧ Below w.heap.size w w' := by
  unfold maxLen at hl
  have HS := Lib.hid hs
  have HN := Lib.hid hn
  have HX := Lib.hid hx
  have HY := Lib.hid hy
  clear hx hy hn hs
  go_enter Try.func12, Try.ntmps12
  go_wp2_with fail
  go_loopw [5] (fun i w2 => ∃ k : Nat, k ≤ n ∧ i = .int .i64 k ∧ Below w.heap.size w w2) (fun i _ => n - (intOf i).toNat)
  case atStart => exact ⟨0, by omega, rfl, by go_grown⟩
  case round =>
    obtain ⟨k, hk, rfl, hB⟩ := hrel
    by_cases hlt : k < n
    · obtain ⟨b, off, rfl, hblt, hcell⟩ := (HX.out.below hB) (by have := HN.out; omega)
      obtain ⟨b', off', rfl, hblt', hcell'⟩ := (HY.out.below hB) (by have := HN.out; omega)
      obtain ⟨x, hx⟩ := at_some (show k < xs.length by rw [HN.out]; exact hlt)
      obtain ⟨A0, c0, e0, hat⟩ := hcell k x hx
      obtain ⟨B0, d0, f0, hat'⟩ := hcell' k x hx
      have hm0 := HS.out x (List.mem_of_getElem? hx)
      have HA := Lib.hid hat
      have HA' := Lib.hid hat'
      have hs := fun w h1 h2 => eqSlots_any A0 B0 c0 d0 x x w h1 h2 hm0 hm0
      rw [eqSl_refl] at hs
      have HS1 := Lib.hid hs
      clear hcell hx hcell' hat hat' hs
      have hi1 : (0 : Int) ≤ (k : Int) := by omega
      have hi2 : (k : Int) < (n : Int) := by omega
      go_wp2_with fail
      go_region_held3 (fun w' => w'.cell? ⟨b, off + k, none⟩ = some (.slice A0 x.length c0) ∧ w'.cell? ⟨b', off' + k, none⟩ = some (.slice B0 x.length d0)) (go_keep) (first | (go_at_call 21; ((with_reducible refine (HS1.out _ (HA.out.below (by go_grown)) (HA'.out.below (by go_grown))).mono ?_); rintro e w' ⟨rfl, hb⟩); replace e0 := (hb.cell (p := ⟨b, off + k, none⟩) (by first | omega | (simp; done) | (simp; omega))).trans e0; replace f0 := (hb.cell (p := ⟨b', off' + k, none⟩) (by first | omega | (simp; done) | (simp; omega))).trans f0; replace hB := more (W1 := _) (B := w.heap.size) (W0 := w) (by go_grown) (Nat.le_refl _) hb; clear hb))
      go_wp2_with fail
      go_roundw
      case rel => exact ⟨k + 1, by omega, by go_num, hB⟩
      case measure => simp [intOf]; omega
    · go_wp2_with fail
      go_ret
      exact ⟨rfl, hB⟩
end Go.Proofs.Ytegdpdafaimmoaa
