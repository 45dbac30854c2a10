/- Rows of rows of whole numbers: compared by the laws, of the call's own, marked, found again. -/
import Derived.Test.YtmfibedcloknlaaGreatDoorMkt1
import Derived.Test.YtmfibedcloknlaaGreatDoorMktM
namespace Go.Proofs.YtmfibedcloknlaaGreatDoor
open Go.Joins Go.ChangeShapes Go.WideShapes Go.ChangeAt Go.RowKit Go.Deep
set_option linter.unusedVariables false
set_option linter.unusedSimpArgs false

/-- Whole numbers in a row of the call's own, from block lo up to hi. -/
def ZsO (w : World) (lo hi : Nat) (A : Option Addr) (c : Nat) (zs : List Int) : Prop := 0 < zs.length → ∃ g, A = some ⟨g, 0, none⟩ ∧ lo ≤ g ∧ g < hi ∧ w.ownsRow 0 3 1 (.slice (some ⟨g, 0, none⟩) zs.length c) zs.length (zV zs)
theorem ZsO.lies {w : World} {lo hi c : Nat} {A : Option Addr} {zs : List Int} (h : ZsO w lo hi A c zs) : IntL w A zs := fun h0 => by
  obtain ⟨g, rfl, _, _, ho⟩ := h h0
  exact IntL.of_own ho h0
theorem ZsO.below {w w' : World} {lo hi c : Nat} {A : Option Addr} {zs : List Int} (h : ZsO w lo hi A c zs) (hb : Below w.heap.size w w') : ZsO w' lo hi A c zs := fun h0 => by
  obtain ⟨g, rfl, a, b, ho⟩ := h h0
  exact ⟨g, rfl, a, b, own_moved ho (hb.block g (ho.lt g rfl).2)⟩
theorem ZsO.turn {w w' : World} {lo hi l2 h2 c : Nat} {A : Option Addr} {zs : List Int} (h : ZsO w lo hi A c zs) (ht : Turn l2 h2 w w') (hr : hi ≤ l2 ∨ h2 ≤ lo) : ZsO w' lo hi A c zs := fun h0 => by
  obtain ⟨g, rfl, a, b, ho⟩ := h h0
  exact ⟨g, rfl, a, b, own_moved ho (ht.block g (ho.lt g rfl).2 (by omega))⟩
/-- Numbers marked, in a row of their own. -/
theorem markZs_own (lo hi k n c : Nat) (A : Option Addr) (zs : List Int) (w : World) (hp : ZsO w lo hi A c zs) (hn : zs.length = n) (hl : n ≤ 1048576) (hk : k ≤ 50000000) :
    Calls Tryz.prog 60 #[.slice A n c, .int .i64 k] w fun e w' => e = .returned (.int .i64 (k + n : Nat)) ∧ ZsO w' lo hi A c (markI n k) ∧ Turn lo hi w w' := by
  rcases Nat.eq_zero_or_pos n with rfl | h0
  · refine (markInts_nil A c k w).mono ?_
    rintro e w' ⟨rfl, rfl⟩
    exact ⟨by simp, fun h => absurd h (by simp [markI]), Turn.refl _ _ _⟩
  · obtain ⟨g, rfl, a, b, ho⟩ := hp (by omega)
    rw [hn] at ho
    refine (markInts_any g c 0 k n _ w ho hl hk).mono ?_
    rintro e w' ⟨rfl, ho, hg⟩
    exact ⟨rfl, fun _ => ⟨g, rfl, a, b, by rw [markI_len]; exact ho⟩, Turn.of_grown hg a b⟩
/-- Rows of numbers in memory, in a row. -/
def RwL (w : World) (A : Option Addr) (xss : List (List Int)) : Prop := 0 < xss.length → ∃ b off, A = some ⟨b, off, none⟩ ∧ b < w.heap.size ∧ ∀ k zs, xss[k]? = some zs → ∃ B c, w.cell? ⟨b, off + k, none⟩ = some (.slice B zs.length c) ∧ IntL w B zs
theorem RwL.below {w w' : World} {A : Option Addr} {xss : List (List Int)} (h : RwL w A xss) (hb : Below w.heap.size w w') : RwL w' A xss := fun h0 => by
  obtain ⟨b, off, e, hlt, hc⟩ := h h0
  refine ⟨b, off, e, Nat.lt_of_lt_of_le hlt hb.size, fun k zs hz => ?_⟩
  obtain ⟨B, c, h1, h2⟩ := hc k zs hz
  exact ⟨B, c, (hb.cell (p := ⟨b, _, none⟩) hlt).trans h1, h2.below hb⟩
theorem RwL.at_ {w : World} {A : Option Addr} {xss : List (List Int)} (h : RwL w A xss) {k : Nat} {zs : List Int} (hz : xss[k]? = some zs) : ∃ b off B c, A = some ⟨b, off, none⟩ ∧ b < w.heap.size ∧ w.cell? ⟨b, off + k, none⟩ = some (.slice B zs.length c) ∧ IntL w B zs := by
  obtain ⟨b, off, e, hlt, hc⟩ := h (by have := (List.getElem?_eq_some_iff.1 hz).1; omega)
  obtain ⟨B, c, h1, h2⟩ := hc k zs hz
  exact ⟨b, off, B, c, e, hlt, h1, h2⟩
set_option maxHeartbeats 1000000 in
theorem eqRows_any (A B : Option Addr) (c d n : Nat) (xss : List (List Int)) (w : World) (hx : RwL w A xss) (hy : RwL w B xss) (hn : xss.length = n) (hl : n ≤ maxLen) (hs : ∀ zs ∈ xss, zs.length ≤ maxLen) :
    Calls Tryz.prog 23 #[.slice A n c, .slice B n d] w fun e w' => e = .returned (.bool true) ∧ Below w.heap.size w w' := by
  unfold maxLen at hl
  have HX := Lib.hid hx
  have HY := Lib.hid hy
  have HN := Lib.hid hn
  have HS := Lib.hid hs
  clear hx hy hn hs
  go_enter Tryz.func23, Tryz.ntmps23
  go_wp2_with fail
  go_loopw [5] (fun i wr => ∃ k : Nat, k ≤ n ∧ i = .int .i64 k ∧ Hid (Below w.heap.size w wr)) (fun i _ => n - (intOf i).toNat)
  case atStart => exact ⟨0, by omega, rfl, Lib.hid (Below.refl _ _)⟩
  case round =>
    obtain ⟨k, hk, rfl, HB⟩ := hrel
    by_cases hlt : k < n
    · obtain ⟨x, hx⟩ := at_some (show k < xss.length by rw [HN.out]; exact hlt)
      obtain ⟨b, off, B0, d0, rfl, hblt, e0, hi0⟩ := (HX.out.below HB.out).at_ hx
      obtain ⟨b', off', B1, d1, rfl, hblt', e1, hi1'⟩ := (HY.out.below HB.out).at_ hx
      have hi1 : (0 : Int) ≤ (k : Int) := by omega
      have hi2 : (k : Int) < (n : Int) := by omega
      have hk6 := fun w h1 h2 => eqL_any B0 B1 d0 d1 x x w h1 h2 (HS.out x (List.mem_of_getElem? hx)) (HS.out x (List.mem_of_getElem? hx))
      rw [decide_eq_true rfl] at hk6
      have K6 := Lib.hid hk6
      have HI0 := Lib.hid hi0
      have HI1 := Lib.hid hi1'
      have hB := HB.out
      clear hx hi0 hi1' hk6 HB
      go_wp2_with fail
      go_region_held3 (fun w' => w'.cell? ⟨b, off + k, none⟩ = some (.slice B0 x.length d0) ∧ w'.cell? ⟨b', off' + k, none⟩ = some (.slice B1 x.length d1)) (go_keep) (first | (go_at_call 53; ((with_reducible refine (K6.out _ (HI0.out.below (by go_grown)) (HI1.out.below (by go_grown))).mono ?_); rintro e w' ⟨rfl, hb⟩); replace e0 := (hb.cell (p := ⟨b, off + k, none⟩) (by first | omega | (simp; done) | (simp; omega))).trans e0; replace e1 := (hb.cell (p := ⟨b', off' + k, none⟩) (by first | omega | (simp; done) | (simp; omega))).trans e1; replace hB := more (W1 := _) (B := w.heap.size) (W0 := w) (by go_grown) (Nat.le_refl _) hb; clear hb))
      go_wp2_with fail
      go_roundw
      case rel => exact ⟨k + 1, by omega, by go_num, Lib.hid hB⟩
      case measure => simp [intOf]; omega
    · obtain rfl : k = n := by omega
      go_wp2_with fail
      go_ret
      exact ⟨rfl, HB.out⟩
/-- Rows of numbers in a row, each in blocks of its own. -/
structure RwD (w : World) (lo hi g : Nat) (L : List Value) (P Q : Nat → Nat) (xss : List (List Int)) : Prop where
  row : ∀ i zs, xss[i]? = some zs → ∃ B c, L[i]? = some (.slice B zs.length c) ∧ ZsO w (P i) (Q i) B c zs
  inn : ∀ i, i < xss.length → lo ≤ P i ∧ P i ≤ Q i ∧ Q i ≤ hi ∧ (g < P i ∨ Q i ≤ g)
  apart : ∀ i j, i < xss.length → j < xss.length → i ≠ j → Q i ≤ P j ∨ Q j ≤ P i
def RwO (w : World) (lo hi : Nat) (A : Option Addr) (c : Nat) (xss : List (List Int)) : Prop := 0 < xss.length → ∃ g L P Q, A = some ⟨g, 0, none⟩ ∧ lo ≤ g ∧ g < hi ∧ w.ownsRow 0 36 1 (.slice (some ⟨g, 0, none⟩) xss.length c) xss.length L ∧ RwD w lo hi g L P Q xss
theorem RwO.lies {w : World} {lo hi c : Nat} {A : Option Addr} {xss : List (List Int)} (h : RwO w lo hi A c xss) : RwL w A xss := fun h0 => by
  obtain ⟨g, L, P, Q, rfl, _, _, ho, hd⟩ := h h0
  refine ⟨g, 0, rfl, (ho.lt g rfl).2, fun k zs hz => ?_⟩
  obtain ⟨B, c2, h1, h2⟩ := hd.row k zs hz
  refine ⟨B, c2, ?_, h2.lies⟩
  rw [Nat.zero_add, ho.cellAt k (by have := (List.getElem?_eq_some_iff.1 hz).1; omega)]
  exact h1
theorem RwO.below {w w' : World} {lo hi c : Nat} {A : Option Addr} {xss : List (List Int)} (h : RwO w lo hi A c xss) (hb : Below w.heap.size w w') : RwO w' lo hi A c xss := fun h0 => by
  obtain ⟨g, L, P, Q, rfl, a, b, ho, hd⟩ := h h0
  exact ⟨g, L, P, Q, rfl, a, b, own_moved ho (hb.block g (ho.lt g rfl).2), ⟨fun i zs hz => (by obtain ⟨B, c2, h1, h2⟩ := hd.row i zs hz; exact ⟨B, c2, h1, h2.below hb⟩), hd.inn, hd.apart⟩⟩
theorem RwO.turn {w w' : World} {lo hi l2 h2 c : Nat} {A : Option Addr} {xss : List (List Int)} (h : RwO w lo hi A c xss) (ht : Turn l2 h2 w w') (hr : hi ≤ l2 ∨ h2 ≤ lo) : RwO w' lo hi A c xss := fun h0 => by
  obtain ⟨g, L, P, Q, rfl, a, b, ho, hd⟩ := h h0
  refine ⟨g, L, P, Q, rfl, a, b, own_moved ho (ht.block g (ho.lt g rfl).2 (by omega)), ⟨fun i zs hz => ?_, hd.inn, hd.apart⟩⟩
  obtain ⟨B, c2, h1, h3⟩ := hd.row i zs hz
  obtain ⟨q1, q2, q3, _⟩ := hd.inn i (List.getElem?_eq_some_iff.1 hz).1
  exact ⟨B, c2, h1, h3.turn ht (by omega)⟩
def totR : List (List Int) → Nat
  | [] => 0
  | z :: zs => z.length + totR zs
def markRs : List (List Int) → Nat → List (List Int)
  | [], _ => []
  | z :: zs, k => markI z.length k :: markRs zs (k + z.length)
theorem markRs_len : ∀ (xs : List (List Int)) (k : Nat), (markRs xs k).length = xs.length
  | [], _ => rfl
  | x :: xs, k => by simp [markRs, markRs_len xs]
theorem set_takeG {α : Type} {ys zs : List α} {j : Nat} {y : α} (h1 : ys.take j = zs.take j) (h2 : zs[j]? = some y) (h3 : j < ys.length) : (ys.set j y).take (j + 1) = zs.take (j + 1) := by
  apply List.ext_getElem?
  intro i
  rw [List.getElem?_take, List.getElem?_take]
  by_cases hi : i < j + 1
  · rw [if_pos hi, if_pos hi]
    by_cases hij : i = j
    · subst hij
      rw [List.getElem?_set_self h3, h2]
    · rw [List.getElem?_set_ne (fun e => hij e.symm)]
      have e := congrArg (fun l => l[i]?) h1
      simp only [List.getElem?_take, if_pos (show i < j by omega)] at e
      exact e
  · rw [if_neg hi, if_neg hi]
theorem set_dropG {α : Type} {ys : List α} {j : Nat} (y : α) : (ys.set j y).drop (j + 1) = ys.drop (j + 1) := by
  apply List.ext_getElem?
  intro i
  rw [List.getElem?_drop, List.getElem?_drop, List.getElem?_set_ne (by omega)]
theorem RwD.step {w w5 : World} {lo hi g j : Nat} {L : List Value} {P Q : Nat → Nat} {yss : List (List Int)} {z y : List Int} {B : Option Addr} {c : Nat} (h : RwD w lo hi g L P Q yss) (hj : yss[j]? = some z) (hL : L[j]? = some (.slice B z.length c)) (hy : y.length = z.length) (hk : ZsO w5 (P j) (Q j) B c y) (ht : Turn (P j) (Q j) w w5) : RwD w5 lo hi g L P Q (yss.set j y) := by
  have hjl := (List.getElem?_eq_some_iff.1 hj).1
  refine ⟨fun i zs hz => ?_, fun i hi => h.inn i (by simpa using hi), fun i k hi hk2 => h.apart i k (by simpa using hi) (by simpa using hk2)⟩
  by_cases hij : i = j
  · subst hij
    rw [List.getElem?_set_self hjl] at hz
    injection hz with hz
    subst hz
    exact ⟨B, c, by rw [hy]; exact hL, hk⟩
  · rw [List.getElem?_set_ne (fun e => hij e.symm)] at hz
    obtain ⟨B2, c2, h1, h2⟩ := h.row i zs hz
    exact ⟨B2, c2, h1, h2.turn ht (h.apart i j (List.getElem?_eq_some_iff.1 hz).1 hjl hij)⟩
set_option maxRecDepth 100000 in
set_option maxHeartbeats 2000000 in
theorem markRows_any (lo hi c k n : Nat) (A : Option Addr) (xss : List (List Int)) (w : World) (hp : RwO w lo hi A c xss) (hn : xss.length = n) (hl : n ≤ 1048576) (hs : ∀ zs ∈ xss, zs.length ≤ 1048576) (hkb : k + totR xss ≤ 50000000) :
    Calls Tryz.prog 28 #[.slice A n c, .int .i64 k] w fun e w' => e = .returned (.int .i64 (k + totR xss : Nat)) ∧ RwO w' lo hi A c (markRs xss k) ∧ Turn lo hi w w' := by
  have HN := Lib.hid hn
  have HS := Lib.hid hs
  have HK := Lib.hid hkb
  have HH := Lib.hid hp
  clear hn hs hkb hp
  go_enter Tryz.func28, Tryz.ntmps28
  go_wp2_with fail
  go_loopw [1, 5] (fun mm i wr => ∃ (j q : Nat) (yss : List (List Int)), j ≤ n ∧ i = .int .i64 j ∧ mm = .int .i64 q ∧ Hid (q + totR (xss.drop j) = k + totR xss) ∧ Hid ((markRs xss k).drop j = markRs (xss.drop j) q) ∧ Hid (yss.length = n ∧ yss.take j = (markRs xss k).take j ∧ yss.drop j = xss.drop j) ∧
    Hid (RwO wr lo hi A c yss) ∧ Hid (Turn lo hi w wr)) (fun _ i _ => n - (intOf i).toNat)
  case atStart => exact ⟨0, k, xss, by omega, rfl, rfl, Lib.hid rfl, Lib.hid rfl, Lib.hid ⟨HN.out, rfl, rfl⟩, HH, Lib.hid (Turn.refl _ _ _)⟩
  case round =>
    obtain ⟨j, q, yss, hj, rfl, rfl, HQ, HM, HY, HO, HT⟩ := hrel
    by_cases hlt : j < n
    · obtain ⟨x, hx⟩ := at_some (show j < xss.length by rw [HN.out]; exact hlt)
      have hdc := drop_cons hx
      have hyl : yss.length = n := HY.out.1
      have hyx : yss[j]? = some x := by
        have e : (yss.drop j)[0]? = some x := by rw [HY.out.2.2, hdc]; rfl
        rw [List.getElem?_drop] at e
        exact e
      have HQ2 := Lib.hid (show q + x.length + totR (xss.drop (j + 1)) = k + totR xss by have := HQ.out; rw [hdc] at this; simp only [totR] at this; omega)
      have HM2 := Lib.hid (show (markRs xss k).drop j = markI x.length q :: markRs (xss.drop (j + 1)) (q + x.length) by rw [HM.out, hdc]; simp only [markRs])
      obtain ⟨g, L, P, Q, rfl, r1, r2, hown, hd⟩ := HO.out (by omega)
      obtain ⟨B, c2, hLj, hzs⟩ := hd.row j x hyx
      obtain ⟨i1, i2, i3, i4⟩ := hd.inn j (by omega)
      rw [hyl] at hown
      have e0 := (hown.cellAt j (by omega)).trans hLj
      have hxl := HS.out x (List.mem_of_getElem? hx)
      have hqb : q + x.length ≤ 50000000 := by have := HQ2.out; have := HK.out; omega
      have hi1 : (0 : Int) ≤ (j : Int) := by omega
      have hi2 : (j : Int) < (n : Int) := by omega
      have KM := Lib.hid (markZs_own (P j) (Q j) q x.length c2 B x wr hzs rfl hxl (by omega))
      have HD := Lib.hid hd
      have HOW := Lib.hid hown
      have HYX := Lib.hid hyx
      have HLJ := Lib.hid hLj
      have HX := Lib.hid hx
      clear hx hyx hdc hown hd hLj hzs HH
      go_wp2_with fail
      refine KM.out.mono ?_
      rintro e w2 ⟨rfl, hz2, ht2⟩
      have HZ2 := Lib.hid hz2
      have HT2 := Lib.hid ht2
      have hgl := HOW.out.lt g rfl
      have hrow2 := own_moved HOW.out (ht2.block g hgl.2 i4)
      have HR2 := Lib.hid hrow2
      clear hz2 ht2 hrow2 e0
      go_wp2_with fail
      go_roundw
      case rel =>
        refine ⟨j + 1, q + x.length, yss.set j (markI x.length q), by omega, by go_num, by go_num, Lib.hid HQ2.out, Lib.hid ?_, Lib.hid ⟨by rw [List.length_set]; exact HY.out.1, set_takeG HY.out.2.1 ?_ (by omega), by rw [set_dropG]; have := HY.out.2.2; rw [drop_cons HX.out, drop_cons HYX.out] at this; injection this⟩, Lib.hid (fun _ => ⟨g, L, P, Q, rfl, r1, r2, by rw [List.length_set, hyl]; exact HR2.out, RwD.step HD.out HYX.out HLJ.out (markI_len _ _) HZ2.out HT2.out⟩), Lib.hid (HT.out.trans (HT2.out.mono i1 i3))⟩
        · have e := congrArg (List.drop 1) HM2.out
          rw [List.drop_drop] at e
          simpa [Nat.add_comm] using e
        · have e := congrArg (fun l => l[0]?) HM2.out
          simp only [List.getElem?_drop, List.getElem?_cons_zero, Nat.add_zero] at e
          exact e
      case measure => simp [intOf]; omega
    · obtain rfl : j = n := by omega
      have e : yss = markRs xss k := by
        have h := HY.out.2.1
        rw [List.take_of_length_le (by rw [HY.out.1]; exact Nat.le_refl _), List.take_of_length_le (by rw [markRs_len, HN.out]; exact Nat.le_refl _)] at h
        exact h
      have hq := HQ.out
      rw [List.drop_eq_nil_of_le (by rw [HN.out]; exact Nat.le_refl _)] at hq
      simp only [totR, Nat.add_zero] at hq
      subst hq
      subst e
      go_wp2_with fail
      go_ret
      exact ⟨rfl, HO.out, HT.out⟩
set_option maxRecDepth 100000 in
set_option maxHeartbeats 2000000 in
theorem heldRows_any (A : Option Addr) (c k n : Nat) (xss : List (List Int)) (w : World) (hx : RwL w A (markRs xss k)) (hn : xss.length = n) (hl : n ≤ 1048576) (hs : ∀ zs ∈ xss, zs.length ≤ 1048576) (hkb : k + totR xss ≤ 50000000) :
    Calls Tryz.prog 29 #[.slice A n c, .int .i64 k] w fun e w' => e = .returned (.int .i64 (k + totR xss : Nat)) ∧ w = w' := by
  have HN := Lib.hid hn
  have HS := Lib.hid hs
  have HK := Lib.hid hkb
  have HX := Lib.hid hx
  clear hn hs hkb hx
  go_enter Tryz.func29, Tryz.ntmps29
  go_wp2_with fail
  go_loop [1, 5] (fun mm i => ∃ (j q : Nat), j ≤ n ∧ i = .int .i64 j ∧ mm = .int .i64 q ∧ Hid (q + totR (xss.drop j) = k + totR xss) ∧ Hid ((markRs xss k).drop j = markRs (xss.drop j) q)) (fun _ i => n - (intOf i).toNat)
  case atStart => exact ⟨0, k, by omega, rfl, rfl, Lib.hid rfl, Lib.hid rfl⟩
  case round =>
    obtain ⟨j, q, hj, rfl, rfl, HQ, HM⟩ := hrel
    by_cases hlt : j < n
    · obtain ⟨x, hx⟩ := at_some (show j < xss.length by rw [HN.out]; exact hlt)
      have hdc := drop_cons hx
      have HQ2 := Lib.hid (show q + x.length + totR (xss.drop (j + 1)) = k + totR xss by have := HQ.out; rw [hdc] at this; simp only [totR] at this; omega)
      have HM2 := Lib.hid (show (markRs xss k).drop j = markI x.length q :: markRs (xss.drop (j + 1)) (q + x.length) by rw [HM.out, hdc]; simp only [markRs])
      have hmx : (markRs xss k)[j]? = some (markI x.length q) := by
        have e := congrArg (fun l => l[0]?) HM2.out
        simp only [List.getElem?_drop, List.getElem?_cons_zero, Nat.add_zero] at e
        exact e
      obtain ⟨b, off, B0, d0, rfl, hblt, e0, hi0⟩ := HX.out.at_ hmx
      rw [markI_len] at e0
      have hxl := HS.out x (List.mem_of_getElem? hx)
      have hqb : q + x.length ≤ 50000000 := by have := HQ2.out; have := HK.out; omega
      have hi1 : (0 : Int) ≤ (j : Int) := by omega
      have hi2 : (j : Int) < (n : Int) := by omega
      have KH := Lib.hid (heldInts_any B0 d0 q x.length w hi0 hxl (by omega))
      clear hx hdc hmx hi0
      go_wp2_with fail
      refine KH.out.mono ?_
      rintro e w' ⟨rfl, rfl⟩
      obtain ⟨q2, hq2⟩ : ∃ u, q + x.length = u := ⟨_, rfl⟩
      have hneg : decide ((q2 : Int) < 0) = false := by simp
      have HQ3 := Lib.hid hq2
      rw [hq2]
      clear hq2
      go_wp2_with fail
      go_round
      case rel => exact ⟨j + 1, q2, by omega, by go_num, rfl, Lib.hid (by rw [← HQ3.out]; exact HQ2.out), Lib.hid (by
        have e := congrArg (List.drop 1) HM2.out
        rw [List.drop_drop] at e
        rw [← HQ3.out]
        simpa [Nat.add_comm] using e)⟩
      case measure => simp [intOf]; omega
    · obtain rfl : j = n := by omega
      have hq := HQ.out
      rw [List.drop_eq_nil_of_le (by rw [HN.out]; exact Nat.le_refl _)] at hq
      simp only [totR, Nat.add_zero] at hq
      subst hq
      go_wp2_with fail
      go_ret
      exact ⟨rfl, rfl⟩
end Go.Proofs.YtmfibedcloknlaaGreatDoor
