/- Out1, Str1 in one text. -/
import Derived.Test.YtagaaeolgecdmaaGreatDoorWrtM
import Derived.Test.YtagaaeolgecdmaaGreatDoorPrtM
import Derived.Test.YtagaaeolgecdmaaGreatDoorMktM
import Derived.Deep.RegionHeld3
namespace Go.Proofs.YtagaaeolgecdmaaGreatDoor
open Go.Joins Go.ChangeShapes Go.WideShapes Go.ChangeAt Go.RowKit Go.Deep
set_option linter.unusedVariables false
set_option linter.unusedSimpArgs false

/-- A part without its Kids. -/
def nok (x : Tr) : Tr := .mk x.tag x.key x.text x.ps []
theorem nok_ok {t : Tr} (h : treeOkB t = true) : treeOkB (nok t) = true := by
  unfold treeOkB at h ⊢
  rw [Bool.and_eq_true, vpT_eq, Bool.and_eq_true] at h
  rw [Bool.and_eq_true, vpT_eq, Bool.and_eq_true]
  have hd : deepT (nok t) = 1 := by rw [deepT_eq]; simp [nok, Tr.ks, deepL]
  have hs : sizeT (nok t) = 1 := by rw [sizeT_eq]; simp [nok, Tr.ks, sizeL]
  refine ⟨?_, ?_, ?_⟩
  · have := (tsT_is (nok t) 1).1 ⟨by omega, by omega⟩
    rw [this, hs]
    rfl
  · have h1 := h.2.1
    by_cases ht : t.tag = -1
    · rw [partB_text ht] at h1
      rw [partB_text (t := nok t) ht]
      simp only [Bool.and_eq_true] at h1 ⊢
      exact ⟨h1.1, h1.2.1, h1.2.2.1, rfl⟩
    · rw [partB_elem ht] at h1
      rw [partB_elem (t := nok t) ht]
      simp only [Bool.and_eq_true] at h1 ⊢
      exact ⟨h1.1, h1.2.1, h1.2.2.1, h1.2.2.2.1, rfl⟩
  · simp [nok, Tr.ks, vpL]
/-- As many hyphens. -/
def dash (n : Nat) : ByteArray := ⟨(Lib.repeatL [45] n).toArray⟩
theorem dash_zero : dash 0 = ⟨#[]⟩ := rfl
theorem rep_succ (n : Nat) : Lib.repeatL ([45] : List UInt8) (n + 1) = Lib.repeatL [45] n ++ [45] := by
  rw [Lib.repeatL_add, Lib.repeatL_one]
theorem dash_succ (n : Nat) : dash (n + 1) = dash n ++ ⟨#[45]⟩ := by
  unfold dash
  rw [rep_succ]
  apply ByteArray.ext
  simp [ByteArray.data_append]
theorem dash_size (n : Nat) : (dash n).size = n := by
  induction n with
  | zero => rfl
  | succ n ih => rw [dash_succ, ByteArray.size_append, ih]; rfl
/-- A part's line. -/
def lineT (y : List Nat × Tr) : ByteArray := dash y.1.length ++ wordsT (nok y.2)
def outT (t : Tr) (way : List Nat) : List ByteArray := (partsT way t).map lineT
def outL (ks : List Tr) (way : List Nat) (i : Nat) : List ByteArray := (partsL way i ks).map lineT
theorem outT_eq (t : Tr) (way : List Nat) : outT t way = lineT (way, t) :: outL t.ks way 0 := by
  unfold outT outL
  rw [partsT_eq, List.map_cons]
theorem outL_cons (x : Tr) (xs : List Tr) (way : List Nat) (i : Nat) : outL (x :: xs) way i = outT x (way ++ [i]) ++ outL xs way (i + 1) := by
  unfold outT outL
  simp only [partsL, List.map_append]
theorem outL_nil (way : List Nat) (i : Nat) : outL [] way i = [] := by
  unfold outL
  simp only [partsL, List.map_nil]
/-- How deep a part stands is all that its way adds. -/
theorem line_len {x : Tr} {a b : List Nat} (h : a.length = b.length) : lineT (a, x) = lineT (b, x) := by unfold lineT; rw [h]
theorem outL_len : ∀ (ks : List Tr), (∀ x ∈ ks, ∀ a b : List Nat, a.length = b.length → outT x a = outT x b) → ∀ (a b : List Nat) (i j : Nat), a.length = b.length → outL ks a i = outL ks b j
  | [], _, a, b, i, j, _ => by rw [outL_nil, outL_nil]
  | x :: xs, h, a, b, i, j, hl => by
    rw [outL_cons, outL_cons, h x (by simp) (a ++ [i]) (b ++ [j]) (by simp [hl]), outL_len xs (fun y hy => h y (List.mem_cons_of_mem _ hy)) a b (i + 1) (j + 1) hl]
theorem outT_len : ∀ (x : Tr) (a b : List Nat), a.length = b.length → outT x a = outT x b := Tr.by_kids fun t ih a b hl => by
  rw [outT_eq, outT_eq, line_len hl, outL_len t.ks ih a b 0 0 hl]
/-- The lines of a tree that stands so deep. -/
def outD (t : Tr) (d : Nat) : List ByteArray := outT t (List.replicate d 0)
def outsD : List Tr → Nat → List ByteArray
  | [], _ => []
  | x :: xs, d => outD x d ++ outsD xs d
theorem outsD_is : ∀ (ks : List Tr) (way : List Nat) (i d : Nat), way.length + 1 = d → outL ks way i = outsD ks d
  | [], way, i, d, _ => by rw [outL_nil]; rfl
  | x :: xs, way, i, d, h => by
    rw [outL_cons, outsD_is xs way (i + 1) d h]
    show _ = outD x d ++ outsD xs d
    unfold outD
    rw [outT_len x (way ++ [i]) (List.replicate d 0) (by simp [h])]
theorem outD_eq (t : Tr) (d : Nat) : outD t d = (dash d ++ wordsT (nok t)) :: outsD t.ks (d + 1) := by
  unfold outD
  rw [outT_eq, outsD_is t.ks (List.replicate d 0) 0 (d + 1) (by simp)]
  unfold lineT
  simp
theorem outsD_drop {ks : List Tr} {k d : Nat} {x : Tr} (h : ks[k]? = some x) : outsD (ks.drop k) d = outD x d ++ outsD (ks.drop (k + 1)) d := by rw [drop_cons h]; rfl
theorem outD_len : ∀ (t : Tr) (d : Nat), (outD t d).length = sizeT t := fun t d => by unfold outD outT; rw [List.length_map, partsT_length]
/-- What Outline answers. -/
def outV (t : Tr) : List ByteArray := if treeOkB t = true then outD t 0 else []
theorem outV_len (t : Tr) : (outV t).length ≤ 200 := by
  unfold outV
  split
  · rename_i h
    rw [outD_len]
    obtain ⟨_, e1, e2⟩ := treeB_yes (show treeB shownB t = true from h)
    omega
  · exact Nat.zero_le _
end Go.Proofs.YtagaaeolgecdmaaGreatDoor

namespace Go.Proofs.YtagaaeolgecdmaaGreatDoor
open Go.Joins Go.ChangeShapes Go.WideShapes Go.ChangeAt Go.RowKit Go.Deep
set_option linter.unusedVariables false
set_option linter.unusedSimpArgs false

/-- Texts in memory, in a row. -/
def TxL (w : World) (A : Option Addr) (xs : List ByteArray) : Prop := 0 < xs.length → ∃ b off, A = some ⟨b, off, none⟩ ∧ b < w.heap.size ∧ ∀ k s, xs[k]? = some s → w.cell? ⟨b, off + k, none⟩ = some (.string s)
theorem TxL.below {w w' : World} {A : Option Addr} {xs : List ByteArray} (h : TxL w A xs) (hb : Below w.heap.size w w') : TxL w' A xs := fun h0 => by
  obtain ⟨b, off, e, hlt, hc⟩ := h h0
  exact ⟨b, off, e, Nat.lt_of_lt_of_le hlt hb.size, fun k z hz => (hb.cell (p := ⟨b, _, none⟩) hlt).trans (hc k z hz)⟩
theorem TxL.at_ {w : World} {A : Option Addr} {xs : List ByteArray} (h : TxL w A xs) {k : Nat} {z : ByteArray} (hz : xs[k]? = some z) : ∃ b off, A = some ⟨b, off, none⟩ ∧ b < w.heap.size ∧ w.cell? ⟨b, off + k, none⟩ = some (.string z) := by
  obtain ⟨b, off, e, hlt, hc⟩ := h (by have := (List.getElem?_eq_some_iff.1 hz).1; omega)
  exact ⟨b, off, e, hlt, hc k z hz⟩
def tV (xs : List ByteArray) : List Value := xs.map fun s => Value.string s
theorem tV_at {zs : List ByteArray} {k : Nat} {z : ByteArray} (h : zs[k]? = some z) : (tV zs)[k]? = some (.string z) := by unfold tV; rw [List.getElem?_map, h]; rfl
theorem tV_len (zs : List ByteArray) : (tV zs).length = zs.length := by simp [tV]
/-- Texts in a row of the call's own, from block lo up to hi. -/
def TxO (w : World) (lo hi : Nat) (A : Option Addr) (c : Nat) (xs : List ByteArray) : Prop := 0 < xs.length → ∃ g, A = some ⟨g, 0, none⟩ ∧ lo ≤ g ∧ g < hi ∧ w.ownsRow 0 9 1 (.slice (some ⟨g, 0, none⟩) xs.length c) xs.length (tV xs)
theorem TxO.lies {w : World} {lo hi c : Nat} {A : Option Addr} {zs : List ByteArray} (h : TxO w lo hi A c zs) : TxL w A zs := fun h0 => by
  obtain ⟨g, rfl, _, _, ho⟩ := h h0
  refine ⟨g, 0, rfl, (World.ownsRow.lt ho g rfl).2, fun k z hz => ?_⟩
  rw [Nat.zero_add, World.ownsRow.cellAt ho k (by have := (List.getElem?_eq_some_iff.1 hz).1; omega)]
  exact tV_at hz
theorem TxO.below {w w' : World} {lo hi c : Nat} {A : Option Addr} {zs : List ByteArray} (h : TxO w lo hi A c zs) (hb : Below w.heap.size w w') : TxO w' lo hi A c zs := fun h0 => by
  obtain ⟨g, rfl, a, b, ho⟩ := h h0
  exact ⟨g, rfl, a, b, own_moved ho (hb.block g (ho.lt g rfl).2)⟩
theorem TxO.turn {w w' : World} {lo hi l2 h2 c : Nat} {A : Option Addr} {zs : List ByteArray} (h : TxO w lo hi A c zs) (ht : Turn l2 h2 w w') (hr : hi ≤ l2 ∨ h2 ≤ lo) : TxO w' lo hi A c zs := fun h0 => by
  obtain ⟨g, rfl, a, b, ho⟩ := h h0
  exact ⟨g, rfl, a, b, own_moved ho (ht.block g (ho.lt g rfl).2 (by omega))⟩
theorem below_drewT {B : Nat} {w w' : World} (h : Below B w w') (n : Nat) : Below B w (w'.drewN n) := ⟨h.os, h.tape, h.output, h.size, h.block⟩
set_option maxHeartbeats 1000000 in
theorem eqTexts_any (A B : Option Addr) (c d n : Nat) (xs : List ByteArray) (w : World) (hx : TxL w A xs) (hy : TxL w B xs) (hn : xs.length = n) (hl : n ≤ maxLen) :
    Calls Tryz.prog 10 #[.slice A n c, .slice B n d] w fun e w' => e = .returned (.bool true) ∧ Below w.heap.size w w' := by
  unfold maxLen at hl
  have HX := Lib.hid hx
  have HY := Lib.hid hy
  have HN := Lib.hid hn
  clear hx hy hn
  go_enter Tryz.func10, Tryz.ntmps10
  go_wp2_with fail
  go_loopw [5] (fun i wr => ∃ k : Nat, k ≤ n ∧ i = .int .i64 k ∧ Hid (Below w.heap.size w wr)) (fun i _ => n - (intOf i).toNat)
  case atStart => exact ⟨0, by omega, rfl, Lib.hid (Below.refl _ _)⟩
  case round =>
    obtain ⟨k, hk, rfl, HB⟩ := hrel
    by_cases hlt : k < n
    · obtain ⟨x, hx⟩ := at_some (show k < xs.length by rw [HN.out]; exact hlt)
      obtain ⟨b, off, rfl, hblt, e0⟩ := (HX.out.below HB.out).at_ hx
      obtain ⟨b', off', rfl, hblt', e1⟩ := (HY.out.below HB.out).at_ hx
      have hi1 : (0 : Int) ≤ (k : Int) := by omega
      have hi2 : (k : Int) < (n : Int) := by omega
      have hv : (x.toList != x.toList) = false := by simp
      clear hx
      go_wp2_with fail
      go_quiet (fail)
      go_wp2_with fail
      go_roundw
      case rel => exact ⟨k + 1, by omega, by go_num, Lib.hid (by first | exact HB.out | exact HB.out.drew | exact below_drewT HB.out _)⟩
      case measure => simp [intOf]; omega
    · obtain rfl : k = n := by omega
      go_wp2_with fail
      go_ret
      exact ⟨rfl, HB.out⟩
def markTx : Nat → Nat → List ByteArray
  | 0, _ => []
  | n + 1, k => markB k :: markTx n (k + 1)
theorem markTx_len : ∀ (n k : Nat), (markTx n k).length = n
  | 0, _ => rfl
  | n + 1, k => by simp [markTx, markTx_len n (k + 1)]
theorem markTx_at : ∀ (n k j : Nat), j < n → (markTx n k)[j]? = some (markB (k + j))
  | 0, _, _, h => by omega
  | n + 1, k, 0, _ => rfl
  | n + 1, k, j + 1, h => by
    have := markTx_at n (k + 1) j (by omega)
    show (markTx n (k + 1))[j]? = _
    rw [this, show k + 1 + j = k + (j + 1) by omega]
theorem list_is2 {α : Type} {L M : List α} {n : Nat} (hl : L.length = n) (hm : M.length = n) (h : ∀ i u, i < n → M[i]? = some u → L[i]? = some u) : L = M := by
  refine List.ext_getElem? fun i => ?_
  rcases Nat.lt_or_ge i n with hi | hi
  · rw [h i M[i] hi (List.getElem?_eq_getElem (by omega)), List.getElem?_eq_getElem (by omega)]
  · rw [List.getElem?_eq_none (by omega), List.getElem?_eq_none (by omega)]
set_option maxHeartbeats 2000000 in
theorem markTexts_any (g c base k n : Nat) (L0 : List Value) (w : World) (ho : w.ownsRow base 9 1 (.slice (some ⟨g, 0, none⟩) n c) n L0) (hl : n ≤ 1048576) (hk : k ≤ 50000000) (hk0 : 0 < k) :
    Calls Tryz.prog 13 #[.slice (some ⟨g, 0, none⟩) n c, .int .i64 k] w (MarkX g base 9 1 n c (tV (markTx n k)) (k + n : Nat) w) := by
  have HO := Lib.hid ho
  clear ho
  go_enter Tryz.func13, Tryz.ntmps13
  go_wp2_with fail
  go_loopw [1, 5] (fun m i wr => ∃ (j : Nat) (L : List Value), j ≤ n ∧ i = .int .i64 j ∧ m = .int .i64 (k + j : Nat) ∧ wr.ownsRow base 9 1 (.slice (some ⟨g, 0, none⟩) n c) n L ∧ Hid (∀ i, i < j → L[i]? = some (.string (markB (k + i)))) ∧ w.grownBy wr (some g)) (fun _ i _ => n - (intOf i).toNat)
  case atStart => exact ⟨0, _, by omega, rfl, rfl, HO.out, Lib.hid (fun i h => absurd h (by omega)), World.grownBy.refl w _⟩
  case round =>
    obtain ⟨j, L, hj, rfl, rfl, hown, HL, hgr⟩ := hrel
    have HO2 := Lib.hid hown
    have HG := Lib.hid hgr
    have hLl : L.length = n * 1 := hown.1
    clear hown hgr
    by_cases hlt : j < n
    · have hi1 : (0 : Int) ≤ (j : Int) := by omega
      have hi2 : (j : Int) < (n : Int) := by omega
      have HLl := Lib.hid hLl
      obtain ⟨q, hq⟩ : ∃ q : Nat, q = k + j := ⟨_, rfl⟩
      have HQ := Lib.hid hq
      have hqb : q ≤ 60000000 := by omega
      have hq0 : 0 < q := by omega
      rw [← hq]
      clear hLl hq
      go_wp2_with fail
      refine (markText_any q _ hq0 (by omega)).mono ?_
      rintro e w2 ⟨rfl, hb⟩
      have hO3 := ownsRow_below HO2.out hb
      obtain ⟨u0, d0⟩ : ∃ u, w2.cell? ⟨g, j, none⟩ = some u := ⟨_, (hO3.cellAt j (by have := HLl.out; omega)).trans (List.getElem?_eq_getElem (show j < L.length by have := HLl.out; omega))⟩
      have f0 := hO3.frozenAt j
      have HO3 := Lib.hid hO3
      have HG3 := Lib.hid (grown_trans HG.out (grown_of_below hb _))
      clear hO3 hb
      go_wp2_with fail
      obtain ⟨s1, g1⟩ := HO3.out.stored j (.string (markB q))
      go_roundw
      case rel =>
        refine ⟨j + 1, _, by omega, by go_num, by rw [HQ.out]; go_num, s1, Lib.hid (fun i hi => ?_), grown_trans HG3.out g1⟩
        by_cases hij : i = j
        · subst hij
          rw [List.getElem?_set_self (by have := HLl.out; omega), HQ.out]
        · rw [List.getElem?_set_ne (by omega)]
          exact HL.out i (by omega)
      case measure => simp [intOf]; omega
    · obtain rfl : j = n := by omega
      go_wp2_with fail
      go_ret
      have e : L = tV (markTx j k) := list_is2 (n := j) (by omega) (by rw [tV_len, markTx_len]) (fun i u hi hu => by
        rw [tV_at (markTx_at j k i hi)] at hu
        injection hu with hu
        rw [← hu]
        exact HL.out i hi)
      rw [← e]
      exact ⟨rfl, HO2.out, HG.out⟩
set_option maxHeartbeats 400000 in
theorem markTexts_nil (A : Option Addr) (c : Nat) (k : Int) (w : World) : Calls Tryz.prog 13 #[.slice A 0 c, .int .i64 k] w fun e w' => e = .returned (.int .i64 k) ∧ w = w' := by
  go_enter Tryz.func13, Tryz.ntmps13
  go_wp2_with fail
  go_loop [1, 5] (fun m i => m = .int .i64 k ∧ i = .int .i64 0) (fun _ _ => 0)
  case atStart => exact ⟨rfl, rfl⟩
  case round =>
    obtain ⟨rfl, rfl⟩ := hrel
    go_wp2_with fail
    go_ret
    exact ⟨rfl, rfl⟩
theorem markTexts_own (lo hi k n c : Nat) (A : Option Addr) (zs : List ByteArray) (w : World) (hp : TxO w lo hi A c zs) (hn : zs.length = n) (hl : n ≤ 1048576) (hk : k ≤ 50000000) (hk0 : 0 < k) :
    Calls Tryz.prog 13 #[.slice A n c, .int .i64 k] w fun e w' => e = .returned (.int .i64 (k + n : Nat)) ∧ TxO w' lo hi A c (markTx n k) ∧ Turn lo hi w w' := by
  rcases Nat.eq_zero_or_pos n with rfl | h0
  · refine (markTexts_nil A c k w).mono ?_
    rintro e w' ⟨rfl, rfl⟩
    exact ⟨by simp, fun h => absurd h (by simp [markTx]), Turn.refl _ _ _⟩
  · obtain ⟨g, rfl, a, b, ho⟩ := hp (by omega)
    rw [hn] at ho
    refine (markTexts_any g c 0 k n _ w ho hl hk hk0).mono ?_
    rintro e w' ⟨rfl, ho, hg⟩
    exact ⟨rfl, fun _ => ⟨g, rfl, a, b, by rw [markTx_len]; exact ho⟩, Turn.of_grown hg a b⟩
set_option maxHeartbeats 2000000 in
theorem heldTexts_any (A : Option Addr) (c k n : Nat) (w : World) (hx : TxL w A (markTx n k)) (hl : n ≤ 1048576) (hk : k ≤ 50000000) (hk0 : 0 < k) :
    Calls Tryz.prog 14 #[.slice A n c, .int .i64 k] w fun e w' => e = .returned (.int .i64 (k + n : Nat)) ∧ Below w.heap.size w w' := by
  have HX := Lib.hid hx
  clear hx
  go_enter Tryz.func14, Tryz.ntmps14
  go_wp2_with fail
  go_loopw [1, 5] (fun m i wr => ∃ j : Nat, j ≤ n ∧ i = .int .i64 j ∧ m = .int .i64 (k + j : Nat) ∧ Below w.heap.size w wr) (fun _ i _ => n - (intOf i).toNat)
  case atStart => exact ⟨0, by omega, rfl, rfl, by go_grown⟩
  case round =>
    obtain ⟨j, hj, rfl, rfl, hB⟩ := hrel
    by_cases hlt : j < n
    · obtain ⟨b, off, rfl, hblt, c3⟩ := (HX.out.below hB).at_ (markTx_at n k j hlt)
      obtain ⟨q, hq⟩ : ∃ q : Nat, q = k + j := ⟨_, rfl⟩
      have HQ := Lib.hid hq
      have hqb : q ≤ 60000000 := by omega
      have hq0 : 0 < q := by omega
      rw [← hq] at c3 ⊢
      have hi1 : (0 : Int) ≤ (j : Int) := by omega
      have hi2 : (j : Int) < (n : Int) := by omega
      have K := Lib.hid (fun w => markText_any q w (by omega) (by omega))
      clear hq
      go_wp2_with fail
      go_region_held3 (fun w' => w'.cell? ⟨b, off + j, none⟩ = some (.string (markB q))) (go_keep) (first | (go_at_call 39; refine (K.out _).mono ?_; rintro e w' ⟨rfl, hb⟩; replace c3 := (hb.cell (p := ⟨b, off + j, none⟩) hblt).trans c3; replace hB := more (W1 := _) (B := w.heap.size) (W0 := w) (by go_grown) (Nat.le_refl _) hb; clear hb))
      go_wp2_with fail
      go_roundw
      case rel => exact ⟨j + 1, by omega, by go_num, by rw [HQ.out]; go_num, hB⟩
      case measure => simp [intOf]; omega
    · obtain rfl : j = n := by omega
      go_wp2_with fail
      go_ret
      exact ⟨rfl, hB⟩
end Go.Proofs.YtagaaeolgecdmaaGreatDoor
