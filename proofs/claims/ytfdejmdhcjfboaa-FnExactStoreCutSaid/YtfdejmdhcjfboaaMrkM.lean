/- Mrk6, Mrk7 in one text. -/
import Derived.Test.YtfdejmdhcjfboaaMrk5
import Derived.Test.YtfdejmdhcjfboaaKey6
namespace Go.Proofs.Ytfdejmdhcjfboaa
open Go.Joins Go.ChangeShapes Go.WideShapes Go.ChangeAt Go.RowKit Go.Deep
set_option linter.unusedVariables false
set_option linter.unusedSimpArgs false

structure CapOwn (w : World) (lo : Nat) (G K : Nat → Nat) (L : List Value) (xs : List Ce) (k : Nat) : Prop where
  asc : ∀ i j, i < j → j < 2 * k → G i < G j
  at_ : ∀ i x, i < k → xs[i]? = some x → L[i * 2]? = some (.slice (some ⟨G (2 * i), 0, none⟩) x.pl.length (K (2 * i))) ∧ L[i * 2 + 1]? = some (.slice (some ⟨G (2 * i + 1), 0, none⟩) x.st.length (K (2 * i + 1))) ∧
    CeW w lo x x.pl.length x.st.length (G (2 * i)) (K (2 * i)) (G (2 * i + 1)) (K (2 * i + 1))
theorem own_ne {w : World} {b1 b2 s1 s2 n1 n2 c1 c2 g1 g2 : Nat} {e1 e2 : TypeId} {L1 L2 : List Value} (h1 : w.ownsRow b1 e1 s1 (.slice (some ⟨g1, 0, none⟩) n1 c1) n1 L1) (h2 : w.ownsRow b2 e2 s2 (.slice (some ⟨g2, 0, none⟩) n2 c2) n2 L2) (he : e1 ≠ e2) : g1 ≠ g2 := by
  rintro rfl
  rcases h1.2 with ⟨h, _⟩ | ⟨g, cap, cur, h, _, hg, _⟩
  · simp at h
  · rcases h2.2 with ⟨h', _⟩ | ⟨g', cap', cur', h', _, hg', _⟩
    · simp at h'
    · simp only [Value.slice.injEq, Option.some.injEq, Addr.mk.injEq, and_true, true_and] at h h'
      obtain ⟨rfl, rfl⟩ := h
      obtain ⟨rfl, rfl⟩ := h'
      rw [hg] at hg'
      injection hg' with hg'
      injection hg' with _ hg'
      exact he hg'
theorem StoA.cap {w : World} {lo base b c n : Nat} {L : List Value} {xs : List Ce} (h : StoA w lo L xs) (ho : OwnC w base b c n L) (hn : xs.length = n) : ∃ G K : Nat → Nat, CapOwn w lo G K L xs n ∧ (∀ j, j < 2 * n → G j < w.heap.size) ∧ ∀ j, j < 2 * n → G j ≠ b := by
  subst hn
  obtain ⟨G, K, ha, hlt, h⟩ := h.lt
  refine ⟨G, K, ⟨ha, fun i x _ hx => h i x hx⟩, fun j hj => (hlt j hj).2, fun j hj => ?_⟩
  obtain ⟨x, hx⟩ := at_some (show j / 2 < xs.length by omega)
  obtain ⟨_, _, hc⟩ := h (j / 2) x hx
  rcases (by omega : j = 2 * (j / 2) ∨ j = 2 * (j / 2) + 1) with e | e
  · rw [e]; exact own_ne hc.pl ho (by decide)
  · rw [e]; exact own_ne hc.st ho (by decide)
theorem CapOwn.sto {w : World} {lo n : Nat} {G K : Nat → Nat} {L : List Value} {xs : List Ce} (h : CapOwn w lo G K L xs n) (hn : xs.length = n) : StoW w lo L xs := fun i x hx => by
  obtain ⟨h0, h1, h2⟩ := h.at_ i x (by rw [← hn]; exact (List.getElem?_eq_some_iff.1 hx).1) hx
  exact ⟨_, _, _, _, h0, h1, h2⟩
theorem StoA.turn {w w' : World} {lo lo' hi : Nat} {L : List Value} {xs : List Ce} (h : StoA w lo' L xs) (ht : Turn lo hi w w') (hh : hi ≤ lo') : StoA w' lo' L xs := h.map fun x g0 c0 g1 c1 hc => ⟨ht.own hc.pl (.inr (Nat.le_trans hh (World.ownsRow.lt hc.pl _ rfl).1)), ht.own hc.st (.inr (Nat.le_trans hh (World.ownsRow.lt hc.st _ rfl).1))⟩
theorem StoA.keptLow {w w' : World} {lo' g : Nat} {L : List Value} {xs : List Ce} (h : StoA w lo' L xs) (hg : w.grownBy w' (some g)) (hh : g < lo') : StoA w' lo' L xs := h.map fun x g0 c0 g1 c1 hc => by
  have h0 : lo' ≤ g0 := (World.ownsRow.lt hc.pl _ rfl).1
  have h1 : lo' ≤ g1 := (World.ownsRow.lt hc.st _ rfl).1
  exact ⟨World.ownsRow.kept hc.pl hg (.inr (by simp [Value.ownBlock]; omega)), World.ownsRow.kept hc.st hg (.inr (by simp [Value.ownBlock]; omega))⟩

theorem CapOwn.set {w w' : World} {lo : Nat} {G K : Nat → Nat} {L : List Value} {xs : List Ce} {n j : Nat} {x y : Ce} {d : Nat} (h : CapOwn w lo G K L xs n) (hl : xs.length = n) (hx : xs[j]? = some x) (hj : j < n) (hd : d < 2) (hg : w.grownBy w' (some (G (2 * j + d))))
    (hp : y.pl.length = x.pl.length) (hs : y.st.length = x.st.length)
    (hpl : w'.ownsRow lo 66 2 (.slice (some ⟨G (2 * j), 0, none⟩) x.pl.length (K (2 * j))) x.pl.length (y.pl.flatMap Sl.cells))
    (hst : w'.ownsRow lo 90 3 (.slice (some ⟨G (2 * j + 1), 0, none⟩) x.st.length (K (2 * j + 1))) x.st.length (y.st.flatMap Va.cells)) : CapOwn w' lo G K L (xs.set j y) n := by
  refine ⟨h.asc, fun i z hi hz => ?_⟩
  by_cases hij : i = j
  · subst hij
    rw [List.getElem?_set_self (by omega)] at hz
    injection hz with hz
    subst hz
    obtain ⟨a0, a1, a2⟩ := h.at_ i x hi hx
    rw [hp, hs]
    exact ⟨a0, a1, ⟨hpl, hst⟩⟩
  · rw [List.getElem?_set_ne (by omega)] at hz
    obtain ⟨a0, a1, a2⟩ := h.at_ i z hi hz
    have ne : ∀ p q, p < 2 * n → q < 2 * n → p ≠ q → G p ≠ G q := fun p q hp hq hne => by
      rcases (by omega : p < q ∨ q < p) with hlt | hlt
      · have := h.asc p q hlt hq; omega
      · have := h.asc q p hlt hp; omega
    have n0 := ne (2 * i) (2 * j + d) (by omega) (by omega) (by omega)
    have n1 := ne (2 * i + 1) (2 * j + d) (by omega) (by omega) (by omega)
    exact ⟨a0, a1, ⟨a2.pl.kept hg (.inr (by simpa [Value.ownBlock] using n0)), a2.st.kept hg (.inr (by simpa [Value.ownBlock] using n1))⟩⟩

def MarksA (h base c lo hi n k : Nat) (G K : Nat → Nat) (L : List Value) (xs : List Ce) (w : World) (x : Ending) (w' : World) : Prop :=
  x = .returned (.int .i64 (k + totC xs : Nat)) ∧ w'.ownsRow base 60 2 (.slice (some ⟨h, 0, none⟩) n c) n L ∧ CapOwn w' lo G K L (markCs xs k) n ∧ Turn lo hi w w'

set_option maxHeartbeats 2000000 in
theorem markCellsA_any (h c base k n lo hi : Nat) (G K : Nat → Nat) (L : List Value) (xs : List Ce) (w : World) (ho : w.ownsRow base 60 2 (.slice (some ⟨h, 0, none⟩) n c) n L) (hc : CapOwn w lo G K L xs n) (hn : xs.length = n) (hl : n ≤ 1048576)
    (hh : ∀ j, j < 2 * n → G j ≠ h) (hG : ∀ j, j < 2 * n → G j < hi) (hs : ∀ x ∈ xs, x.pl.length ≤ 1048576 ∧ x.st.length ≤ 1048576) (hk : k + totC xs ≤ 50000000) (hk0 : 0 < k) :
    Calls Try.prog 37 #[.slice (some ⟨h, 0, none⟩) n c, .int .i64 k] w (MarksA h base c lo hi n k G K L xs w) := by
  have HN := Lib.hid hn
  have HO := Lib.hid ho
  have HC := Lib.hid hc
  have HG := Lib.hid hG
  have HS := Lib.hid hs
  have HH := Lib.hid hh
  have HK := Lib.hid hk
  clear hn ho hc hG hs hk hh
  go_enter Try.func37, Try.ntmps37
  go_wp2_with fail
  go_loopw [1, 5] (fun m i wr => ∃ (j q : Nat) (ys : List Ce), j ≤ n ∧ i = .int .i64 j ∧ m = .int .i64 q ∧ 0 < q ∧ Hid (q + totC (xs.drop j) = k + totC xs) ∧ Hid ((markCs xs k).drop j = markCs (xs.drop j) q) ∧ Hid (ys.length = n ∧ ys.take j = (markCs xs k).take j ∧ ys.drop j = xs.drop j) ∧
    Hid (wr.ownsRow base 60 2 (.slice (some ⟨h, 0, none⟩) n c) n L) ∧ Hid (CapOwn wr lo G K L ys n) ∧ Hid (Turn lo hi w wr)) (fun _ i _ => n - (intOf i).toNat)
  case atStart => exact ⟨0, k, xs, by omega, rfl, rfl, hk0, Lib.hid rfl, Lib.hid rfl, Lib.hid ⟨HN.out, rfl, rfl⟩, HO, HC, Lib.hid (Turn.refl _ _ _)⟩
  case round =>
    obtain ⟨j, q, ys, hj, rfl, rfl, hq0, HQ, HM, HY, HO2, HC2, HT⟩ := hrel
    by_cases hlt : j < n
    · obtain ⟨x, hx⟩ := at_some (show j < xs.length by rw [HN.out]; exact hlt)
      have hdc := drop_cons hx
      have hyx : ys[j]? = some x := by
        have e : (ys.drop j)[0]? = some x := by rw [HY.out.2.2, hdc]; rfl
        rw [List.getElem?_drop] at e
        exact e
      have HQ2 := Lib.hid (show q + wC x + totC (xs.drop (j + 1)) = k + totC xs by have := HQ.out; rw [hdc] at this; simp only [totC] at this; omega)
      have HM2 := Lib.hid (show (markCs xs k).drop j = markCe x q :: markCs (xs.drop (j + 1)) (q + wC x) by rw [HM.out, hdc]; rfl)
      have hxb := HS.out x (List.mem_of_getElem? hx)
      obtain ⟨a0, a1, a2⟩ := HC2.out.at_ j x hlt hyx
      have e0 := (HO2.out.cellAt (j * 2) (by omega)).trans a0
      have e1 := (HO2.out.cellAt (j * 2 + 1) (by omega)).trans a1
      have HA := Lib.hid a2
      have HX := Lib.hid hx
      have HYX := Lib.hid hyx
      have hqb : q + 2 * x.pl.length + 3 * x.st.length ≤ 50000000 := by have := HQ2.out; have := HK.out; unfold wC at *; omega
      obtain ⟨u, hu⟩ : ∃ u, x.pl.length = u := ⟨_, rfl⟩
      obtain ⟨v, hv⟩ : ∃ v, x.st.length = v := ⟨_, rfl⟩
      have HU := Lib.hid hu
      have HV := Lib.hid hv
      rw [hu] at e0 hxb hqb
      rw [hv] at e1 hxb hqb
      obtain ⟨g0, hg0⟩ : ∃ g, G (2 * j) = g := ⟨_, rfl⟩
      obtain ⟨g1, hg1⟩ : ∃ g, G (2 * j + 1) = g := ⟨_, rfl⟩
      have HG0 := Lib.hid hg0
      have HG1 := Lib.hid hg1
      rw [hg0] at e0
      rw [hg1] at e1
      have hpl := a2.pl
      have hst := a2.st
      rw [hg0, hu] at hpl
      rw [hg1, hv] at hst
      have HPL := Lib.hid hpl
      have HST := Lib.hid hst
      have hl0 := (World.ownsRow.lt HPL.out _ rfl).1
      have hl1 := HC2.out.asc (2 * j) (2 * j + 1) (by omega) (by omega)
      have hl2 := (World.ownsRow.lt HST.out _ rfl).2
      rw [hg0, hg1] at hl1
      have hne0 := HH.out (2 * j) (by omega)
      have hne1 := HH.out (2 * j + 1) (by omega)
      rw [hg0] at hne0
      rw [hg1] at hne1
      obtain ⟨c0, hc0⟩ : ∃ g, K (2 * j) = g := ⟨_, rfl⟩
      obtain ⟨c1, hc1⟩ : ∃ g, K (2 * j + 1) = g := ⟨_, rfl⟩
      have HK0 := Lib.hid hc0
      have HK1 := Lib.hid hc1
      rw [hc0] at e0 HPL
      rw [hc1] at e1 HST
      have HHI := Lib.hid (show g1 < hi by rw [← hg1]; exact HG.out _ (by omega))
      clear hx hyx hdc a0 a1 a2 hu hv hg0 hg1 hpl hst hc0 hc1
      go_wp2_with fail
      refine (markSlots_any g0 c0 lo q u x.pl _ HPL.out HU.out hxb.1 (by omega)).mono ?_
      rintro e w2 ⟨rfl, hown, hgr⟩
      have f1 := (World.cell?_of_block (a := ⟨h, j * 2 + 1, none⟩) (hgr.block h ((HO2.out.lt h rfl).2) (by simp; omega))).trans e1
      have HO3 := Lib.hid (World.ownsRow.kept HO2.out hgr (.inr (by simp [Value.ownBlock]; omega)))
      have HST2 := Lib.hid (World.ownsRow.kept HST.out hgr (.inr (by simp [Value.ownBlock]; omega)))
      have HC3 := Lib.hid (CapOwn.set (y := ⟨markSl x.pl q, x.st⟩) (d := 0) HC2.out HY.out.1 HYX.out hlt (by omega) (by rw [Nat.add_zero, HG0.out]; exact hgr) (markSl_len _ _) rfl (by rw [HG0.out, HU.out, HK0.out]; exact hown) (by rw [HG1.out, HV.out, HK1.out]; exact HST2.out))
      have HT2 := Lib.hid (HT.out.trans (Turn.of_grown hgr hl0 (by have := HHI.out; omega)))
      have hl3 := hgr.size
      clear hown hgr e0 e1
      go_wp2_with fail
      refine (markVals_any g1 c1 lo (q + 2 * u) v x.st _ HST2.out HV.out hxb.2 (by omega) (by omega)).mono ?_
      rintro e w3 ⟨rfl, hown, hgr⟩
      have hat3 := HC3.out.at_ j ⟨markSl x.pl q, x.st⟩ hlt (by rw [List.getElem?_set_self (by rw [HY.out.1]; exact hlt)])
      have HO4 := Lib.hid (World.ownsRow.kept HO3.out hgr (.inr (by simp [Value.ownBlock]; omega)))
      have hpl3 := World.ownsRow.kept hat3.2.2.pl hgr (.inr (by simp [Value.ownBlock]; rw [HG0.out]; omega))
      have HC4 := Lib.hid (CapOwn.set (y := markCe x q) (d := 1) HC3.out (by rw [List.length_set]; exact HY.out.1) (List.getElem?_set_self (by rw [HY.out.1]; exact hlt)) hlt (by omega) (by rw [HG1.out]; exact hgr) rfl (markVa_len _ _) hpl3 (by rw [HG1.out]; show w3.ownsRow lo 90 3 (.slice (some ⟨g1, 0, none⟩) x.st.length (K (2 * j + 1))) x.st.length ((markVa x.st (q + 2 * x.pl.length)).flatMap Va.cells); rw [HV.out, HU.out, HK1.out]; exact hown))
      have HT3 := Lib.hid (HT2.out.trans (Turn.of_grown hgr (by omega) HHI.out))
      have HY2 := Lib.hid (show ((ys.set j ⟨markSl x.pl q, x.st⟩).set j (markCe x q)).length = n ∧ ((ys.set j ⟨markSl x.pl q, x.st⟩).set j (markCe x q)).take (j + 1) = (markCs xs k).take (j + 1) ∧ ((ys.set j ⟨markSl x.pl q, x.st⟩).set j (markCe x q)).drop (j + 1) = xs.drop (j + 1) by
        obtain ⟨y0, y1, y2⟩ := HY.out
        rw [List.set_set]
        refine ⟨by rw [List.length_set]; exact y0, ?_, ?_⟩
        · have hm : (markCs xs k)[j]? = some (markCe x q) := by
            have e : ((markCs xs k).drop j)[0]? = some (markCe x q) := by rw [HM2.out]; rfl
            rw [List.getElem?_drop] at e
            exact e
          apply List.ext_getElem?
          intro i
          rw [List.getElem?_take, List.getElem?_take]
          rcases (by omega : i < j ∨ i = j ∨ j < i) with h | rfl | h
          · rw [if_pos (by omega), if_pos (by omega), List.getElem?_set_ne (by omega)]
            have := congrArg (fun l => l[i]?) y1
            simpa [List.getElem?_take, h] using this
          · rw [if_pos (by omega), if_pos (by omega), List.getElem?_set_self (by omega), hm]
          · rw [if_neg (by omega), if_neg (by omega)]
        · rw [List.drop_set_of_lt (by omega)]
          have := congrArg (fun l => l.drop 1) y2
          simpa [List.drop_drop] using this)
      have HM3 := Lib.hid (show (markCs xs k).drop (j + 1) = markCs (xs.drop (j + 1)) (q + wC x) by
        have := congrArg (fun l => l.drop 1) HM2.out
        simpa [List.drop_drop] using this)
      have HW := Lib.hid (show q + 2 * u + 3 * v = q + wC x by unfold wC; rw [HU.out, HV.out]; omega)
      clear hown hgr hat3 hpl3 f1
      go_wp2_with fail
      go_roundw
      case rel => exact ⟨j + 1, q + wC x, _, by omega, by go_num, by rw [← HW.out]; go_num, by omega, HQ2, HM3, HY2, HO4, HC4, HT3⟩
      case measure => simp [intOf]; omega
    · obtain rfl : j = n := by omega
      have HR := Lib.hid (show q = k + totC xs by have := HQ.out; rw [drop_none (by rw [HN.out]; exact Nat.le_refl _)] at this; simpa [totC] using this)
      have HYY := Lib.hid (show ys = markCs xs k by
        obtain ⟨y0, y1, _⟩ := HY.out
        rw [List.take_of_length_le (by omega), List.take_of_length_le (by rw [markCs_len, HN.out]; exact Nat.le_refl _)] at y1
        exact y1)
      go_wp2_with fail
      go_ret
      exact ⟨by rw [HR.out]; rfl, HO2.out, by rw [← HYY.out]; exact HC2.out, HT.out⟩
end Go.Proofs.Ytfdejmdhcjfboaa

namespace Go.Proofs.Ytfdejmdhcjfboaa
open Go.Joins Go.ChangeShapes Go.WideShapes Go.ChangeAt Go.RowKit Go.Deep
set_option linter.unusedVariables false
set_option linter.unusedSimpArgs false

theorem markCs_at {xs : List Ce} {k j : Nat} {x : Ce} (hx : xs[j]? = some x) : (markCs xs k)[j]? = some (markCe x (k + totC (xs.take j))) := by
  induction xs generalizing k j with
  | nil => simp at hx
  | cons y ys ih =>
    cases j with
    | zero => simp at hx; subst hx; simp [markCs, totC]
    | succ j =>
      simp only [List.getElem?_cons_succ] at hx
      simp only [markCs, List.getElem?_cons_succ, List.take_succ_cons, totC]
      rw [ih hx, Nat.add_assoc]
theorem totC_take {xs : List Ce} {j : Nat} {x : Ce} (hx : xs[j]? = some x) : totC (xs.take (j + 1)) = totC (xs.take j) + wC x ∧ totC (xs.take j) + wC x ≤ totC xs := by
  induction xs generalizing j with
  | nil => simp at hx
  | cons y ys ih =>
    cases j with
    | zero => simp at hx; subst hx; simp [totC]
    | succ j =>
      simp only [List.getElem?_cons_succ] at hx
      have := ih hx
      simp only [List.take_succ_cons, totC]
      omega
set_option maxHeartbeats 2000000 in
theorem heldCells_any (A : Option Addr) (c k n r : Nat) (xs : List Ce) (w : World) (hx : CeL w A (markCs xs k)) (hn : xs.length = n) (hl : n ≤ 1048576) (hs : ∀ x ∈ xs, x.pl.length ≤ 1048576 ∧ x.st.length ≤ 1048576) (hk : k + totC xs ≤ 50000000) (hk0 : 0 < k) (hr : k + totC xs = r) :
    Calls Try.prog 45 #[.slice A n c, .int .i64 k] w fun e w' => e = .returned (.int .i64 r) ∧ Below w.heap.size w w' := by
  have HN := Lib.hid hn
  have HX := Lib.hid hx
  have HS := Lib.hid hs
  have HK := Lib.hid hk
  have HRR := Lib.hid hr
  clear hn hx hs hk hr
  go_enter Try.func45, Try.ntmps45
  go_wp2_with fail
  go_loopw [1, 5] (fun m i wr => ∃ (j q : Nat), j ≤ n ∧ i = .int .i64 j ∧ m = .int .i64 q ∧ Hid (q = k + totC (xs.take j)) ∧ 0 < q ∧ q ≤ 50000000 ∧ Hid (Below w.heap.size w wr)) (fun _ i _ => n - (intOf i).toNat)
  case atStart => exact ⟨0, k, by omega, rfl, rfl, Lib.hid rfl, hk0, by have := HK.out; omega, Lib.hid (Below.refl _ _)⟩
  case round =>
    obtain ⟨j, q, hj, rfl, rfl, HQ, hq0, hqb, HB⟩ := hrel
    by_cases hlt : j < n
    · obtain ⟨x, hx⟩ := at_some (show j < xs.length by rw [HN.out]; exact hlt)
      obtain ⟨b, off, rfl, hblt, hcell⟩ := (HX.out.below HB.out) (by rw [markCs_len, HN.out]; omega)
      obtain ⟨A0, c0, A1, c1, hce⟩ := hcell j _ (markCs_at hx)
      rw [← HQ.out] at hce
      obtain ⟨e0, e1, h0, h1⟩ := hce
      have HT := Lib.hid (totC_take hx)
      have hxb := HS.out x (List.mem_of_getElem? hx)
      rw [show (markCe x q).pl.length = x.pl.length from markSl_len _ _] at e0
      rw [show (markCe x q).st.length = x.st.length from markVa_len _ _] at e1
      have hqq : q + 2 * x.pl.length + 3 * x.st.length ≤ 50000000 := by have := HT.out.2; have := HQ.out; have := HK.out; unfold wC at *; omega
      obtain ⟨u, hu⟩ : ∃ u, x.pl.length = u := ⟨_, rfl⟩
      obtain ⟨v, hv⟩ : ∃ v, x.st.length = v := ⟨_, rfl⟩
      have HU := Lib.hid hu
      have HV := Lib.hid hv
      have K0 := Lib.hid (fun w (h : SlL w A0 (markSl x.pl q)) => heldSlots_r A0 c0 q u (q + 2 * u) x.pl w h HU.out (by rw [← HU.out]; exact hxb.1) (by omega) rfl)
      have K1 := Lib.hid (fun w (h : VaL w A1 (markVa x.st (q + 2 * u))) => heldVals_r A1 c1 (q + 2 * u) v (q + 2 * u + 3 * v) x.st w h HV.out (by rw [← HV.out]; exact hxb.2) (by omega) (by omega) rfl)
      rw [hu, hv] at hqq
      rw [hu] at e0
      rw [hv] at e1
      have H0 := Lib.hid h0
      have H1 := Lib.hid h1
      clear hx hu hv h0 h1
      go_wp2_with fail
      refine (K0.out _ H0.out).mono ?_
      rintro e w2 ⟨rfl, rfl⟩
      go_wp2_with fail
      refine (K1.out _ (by have h := H1.out; unfold markCe at h; rw [HU.out] at h; exact h)).mono ?_
      rintro e w3 ⟨rfl, hb⟩
      have HB2 := Lib.hid (more HB.out (Nat.le_refl _) hb)
      clear hb
      go_wp2_with fail
      go_roundw
      case rel => exact ⟨j + 1, q + 2 * u + 3 * v, by omega, by go_num, by go_num, Lib.hid (by have h1 := HT.out; have h2 := HQ.out; have h3 := HU.out; have h4 := HV.out; unfold wC at h1; omega), by omega, by omega, HB2⟩
      case measure => simp [intOf]; omega
    · obtain rfl : j = n := by omega
      have hrr := HRR.out
      have hqr : q = r := by have h := HQ.out; rw [List.take_of_length_le (by rw [HN.out]; exact Nat.le_refl _)] at h; omega
      go_wp2_with fail
      go_ret
      exact ⟨by rw [hqr]; rfl, HB.out⟩
set_option maxHeartbeats 400000 in
theorem markCells_nil (k : Int) (w : World) : Calls Try.prog 37 #[.slice none 0 0, .int .i64 k] w fun e w' => e = .returned (.int .i64 k) ∧ w = w' := by
  go_enter Try.func37, Try.ntmps37
  go_wp2_with fail
  refine wp_loop_rounds 1 ?_
  rw [rounds_succ]
  go_wp2_with fail
  go_ret
  exact ⟨rfl, rfl⟩
set_option maxHeartbeats 400000 in
theorem heldCells_nil (k : Int) (w : World) : Calls Try.prog 45 #[.slice none 0 0, .int .i64 k] w fun e w' => e = .returned (.int .i64 k) ∧ w = w' := by
  go_enter Try.func45, Try.ntmps45
  go_wp2_with fail
  refine wp_loop_rounds 1 ?_
  rw [rounds_succ]
  go_wp2_with fail
  go_ret
  exact ⟨rfl, rfl⟩
def MarksAR (h base c lo hi n k r : Nat) (G K : Nat → Nat) (L : List Value) (xs : List Ce) (w : World) (x : Ending) (w' : World) : Prop :=
  x = .returned (.int .i64 r) ∧ w'.ownsRow base 60 2 (.slice (some ⟨h, 0, none⟩) n c) n L ∧ CapOwn w' lo G K L (markCs xs k) n ∧ Turn lo hi w w'
theorem markCellsA_r (h c base k n lo hi r : Nat) (G K : Nat → Nat) (L : List Value) (xs : List Ce) (w : World) (ho : w.ownsRow base 60 2 (.slice (some ⟨h, 0, none⟩) n c) n L) (hc : CapOwn w lo G K L xs n) (hn : xs.length = n) (hl : n ≤ 1048576)
    (hh : ∀ j, j < 2 * n → G j ≠ h) (hG : ∀ j, j < 2 * n → G j < hi) (hs : ∀ x ∈ xs, x.pl.length ≤ 1048576 ∧ x.st.length ≤ 1048576) (hk : k + totC xs ≤ 50000000) (hk0 : 0 < k) (hr : k + totC xs = r) :
    Calls Try.prog 37 #[.slice (some ⟨h, 0, none⟩) n c, .int .i64 k] w (MarksAR h base c lo hi n k r G K L xs w) := by
  subst hr; exact markCellsA_any h c base k n lo hi G K L xs w ho hc hn hl hh hG hs hk hk0
theorem markCs_mem {xs : List Ce} {k : Nat} : ∀ x ∈ markCs xs k, ∃ y ∈ xs, x.pl.length = y.pl.length ∧ x.st.length = y.st.length := by
  induction xs generalizing k with
  | nil => intro x h; cases h
  | cons y ys ih =>
    intro x h
    rcases List.mem_cons.1 h with rfl | h
    · exact ⟨y, List.mem_cons_self, markSl_len _ _, markVa_len _ _⟩
    · obtain ⟨z, hz, e⟩ := ih x h
      exact ⟨z, List.mem_cons_of_mem _ hz, e⟩
theorem SmallC.mark {xs : List Ce} {k : Nat} (h : SmallC xs) : SmallC (markCs xs k) := fun x hx => by
  obtain ⟨y, hy, e0, e1⟩ := markCs_mem x hx
  have := h y hy
  rw [e0, e1]; exact this
theorem totC_small : ∀ {xs : List Ce}, SmallC xs → totC xs ≤ 5000 * xs.length
  | [], _ => by simp [totC]
  | x :: xs, h => by
    have h1 := totC_small (fun y hy => h y (List.mem_cons_of_mem _ hy) : SmallC xs)
    have h2 := h x List.mem_cons_self
    simp only [totC, wC, List.length_cons]
    omega
end Go.Proofs.Ytfdejmdhcjfboaa
