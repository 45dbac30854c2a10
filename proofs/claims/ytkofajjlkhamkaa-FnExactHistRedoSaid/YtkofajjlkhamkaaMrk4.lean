/- The laws' own marks, written into cells. -/
import Derived.Test.YtkofajjlkhamkaaMrk3
import Derived.Test.YtkofajjlkhamkaaSto5
namespace Go.Proofs.Ytkofajjlkhamkaa
open Go.Joins Go.ChangeShapes Go.WideShapes Go.ChangeAt Go.RowKit Go.Deep
set_option linter.unusedVariables false
set_option linter.unusedSimpArgs false

/-- Only blocks from lo on and below hi have turned, of those that were there. -/
structure Turn (lo hi : Nat) (w w' : World) : Prop where
  os : w'.os = w.os
  tape : w'.tape = w.tape
  output : w'.output = w.output
  size : w.heap.size ≤ w'.heap.size
  block : ∀ b, b < w.heap.size → (b < lo ∨ hi ≤ b) → w'.heap[b]? = w.heap[b]?
theorem Turn.refl (lo hi : Nat) (w : World) : Turn lo hi w w := ⟨rfl, rfl, rfl, Nat.le_refl _, fun _ _ _ => rfl⟩
theorem Turn.trans {lo hi : Nat} {a b c : World} (h : Turn lo hi a b) (k : Turn lo hi b c) : Turn lo hi a c :=
  ⟨k.os.trans h.os, k.tape.trans h.tape, k.output.trans h.output, Nat.le_trans h.size k.size, fun i hi' hr => (k.block i (Nat.lt_of_lt_of_le hi' h.size) hr).trans (h.block i hi' hr)⟩
theorem Turn.of_grown {lo hi g : Nat} {a b : World} (h : a.grownBy b (some g)) (h0 : lo ≤ g) (h1 : g < hi) : Turn lo hi a b :=
  ⟨h.os, h.tape, h.output, h.size, fun i hi' hr => h.block i hi' (fun e => by injection e with e; omega)⟩
theorem Turn.of_below {lo hi : Nat} {a b : World} (h : Below a.heap.size a b) : Turn lo hi a b := ⟨h.os, h.tape, h.output, h.size, fun i hi' _ => h.block i hi'⟩
theorem Turn.below {lo hi : Nat} {a b : World} (h : Turn lo hi a b) {B : Nat} (hB : B ≤ lo) (hs : B ≤ a.heap.size) : Below B a b := ⟨h.os, h.tape, h.output, h.size, fun i hi' => h.block i (by omega) (.inl (by omega))⟩
theorem Turn.mono {lo hi lo' hi' : Nat} {a b : World} (h : Turn lo hi a b) (h0 : lo' ≤ lo) (h1 : hi ≤ hi') : Turn lo' hi' a b := ⟨h.os, h.tape, h.output, h.size, fun i hi hr => h.block i hi (by omega)⟩
theorem Turn.cell {lo hi : Nat} {a b : World} (h : Turn lo hi a b) {k o : Nat} (hk : k < a.heap.size) (hr : k < lo ∨ hi ≤ k) : b.cell? ⟨k, o, none⟩ = a.cell? ⟨k, o, none⟩ := World.cell?_of_block (a := ⟨k, o, none⟩) (h.block k hk hr)
/-- Rows outside stay the call's own. -/
theorem Turn.own {lo hi : Nat} {a b : World} (h : Turn lo hi a b) {base n m cap g : Nat} {e : TypeId} {xs : List Value} (ho : a.ownsRow base e n (.slice (some ⟨g, 0, none⟩) m cap) m xs) (hr : g < lo ∨ hi ≤ g) : b.ownsRow base e n (.slice (some ⟨g, 0, none⟩) m cap) m xs := by
  have hlt := (ho.lt g rfl).2
  have hbl := h.block g hlt hr
  rcases ho.2 with ⟨h', _⟩ | ⟨g', cap', cur, h', hb, hg, rest⟩
  · simp at h'
  · simp only [Value.slice.injEq, Option.some.injEq, Addr.mk.injEq, and_true, true_and] at h'
    obtain ⟨rfl, rfl⟩ := h'
    exact ⟨ho.1, .inr ⟨g, cap, cur, rfl, hb, hbl.trans hg, rest⟩⟩
theorem Turn.lie {α : Type} {c : α → List Value} {n lo hi : Nat} {w w' : World} {A : Option Addr} {xs : List α} (h : Turn lo hi w w') (hx : Lie c n w A xs) (hr : ∀ b o, A = some ⟨b, o, none⟩ → b < lo ∨ hi ≤ b) : Lie c n w' A xs := fun h0 => by
  obtain ⟨b, off, rfl, hlt, hc⟩ := hx h0
  exact ⟨b, off, rfl, Nat.lt_of_lt_of_le hlt h.size, fun i x hx j u hu => (h.cell hlt (hr b off rfl)).trans (hc i x hx j u hu)⟩

def wC (x : Ce) : Nat := 2 * x.pl.length + 3 * x.st.length
def totC : List Ce → Nat
  | [] => 0
  | x :: xs => wC x + totC xs
def markCe (x : Ce) (k : Nat) : Ce := ⟨markSl x.pl k, markVa x.st (k + 2 * x.pl.length)⟩
def markCs : List Ce → Nat → List Ce
  | [], _ => []
  | x :: xs, k => markCe x k :: markCs xs (k + wC x)
theorem markCs_len : ∀ (xs : List Ce) (k : Nat), (markCs xs k).length = xs.length
  | [], _ => rfl
  | _ :: xs, k => by simp [markCs, markCs_len xs]

theorem CesOwn.set {w w' : World} {lo : Nat} {G : Nat → Nat} {L : List Value} {xs : List Ce} {n j : Nat} {x y : Ce} {d : Nat} (h : CesOwn w lo G L xs n) (hl : xs.length = n) (hx : xs[j]? = some x) (hj : j < n) (hd : d < 2) (hg : w.grownBy w' (some (G (2 * j + d))))
    (hp : y.pl.length = x.pl.length) (hs : y.st.length = x.st.length)
    (hpl : w'.ownsRow lo 80 2 (.slice (some ⟨G (2 * j), 0, none⟩) x.pl.length x.pl.length) x.pl.length (y.pl.flatMap Sl.cells))
    (hst : w'.ownsRow lo 82 3 (.slice (some ⟨G (2 * j + 1), 0, none⟩) x.st.length x.st.length) x.st.length (y.st.flatMap Va.cells)) : CesOwn w' lo G L (xs.set j y) n := by
  refine ⟨h.asc, fun i z hi hz => ?_⟩
  by_cases hij : i = j
  · subst hij
    rw [List.getElem?_set_self (by omega)] at hz
    injection hz with hz
    subst hz
    obtain ⟨a0, a1, a2⟩ := h.at_ i x hi hx
    rw [hp, hs]
    exact ⟨a0, a1, ⟨a2.l0, a2.l1, Nat.lt_of_lt_of_le a2.l2 hg.size, hpl, hst⟩⟩
  · rw [List.getElem?_set_ne (by omega)] at hz
    obtain ⟨a0, a1, a2⟩ := h.at_ i z hi hz
    have ne : ∀ p q, p < 2 * n → q < 2 * n → p ≠ q → G p ≠ G q := fun p q hp hq hne => by
      rcases (by omega : p < q ∨ q < p) with hlt | hlt
      · have := h.asc p q hlt hq; omega
      · have := h.asc q p hlt hp; omega
    have n0 := ne (2 * i) (2 * j + d) (by omega) (by omega) (by omega)
    have n1 := ne (2 * i + 1) (2 * j + d) (by omega) (by omega) (by omega)
    exact ⟨a0, a1, ⟨a2.l0, a2.l1, Nat.lt_of_lt_of_le a2.l2 hg.size, a2.pl.kept hg (.inr (by simpa [Value.ownBlock] using n0)), a2.st.kept hg (.inr (by simpa [Value.ownBlock] using n1))⟩⟩

def MarksX (h base c lo hi n k : Nat) (G : Nat → Nat) (L : List Value) (xs : List Ce) (w : World) (x : Ending) (w' : World) : Prop :=
  x = .returned (.int .i64 (k + totC xs : Nat)) ∧ w'.ownsRow base 60 2 (.slice (some ⟨h, 0, none⟩) n c) n L ∧ CesOwn w' lo G L (markCs xs k) n ∧ Turn lo hi w w'

set_option maxHeartbeats 2000000 in
theorem markCells_any (h c base k n lo hi : Nat) (G : Nat → Nat) (L : List Value) (xs : List Ce) (w : World) (ho : w.ownsRow base 60 2 (.slice (some ⟨h, 0, none⟩) n c) n L) (hc : CesOwn w lo G L xs n) (hn : xs.length = n) (hl : n ≤ 1048576)
    (hh : h < lo) (hG : ∀ j, j < 2 * n → G j < hi) (hs : ∀ x ∈ xs, x.pl.length ≤ 1048576 ∧ x.st.length ≤ 1048576) (hk : k + totC xs ≤ 50000000) (hk0 : 0 < k) :
    Calls Try.prog 26 #[.slice (some ⟨h, 0, none⟩) n c, .int .i64 k] w (MarksX h base c lo hi n k G L xs w) := by
  have HN := Lib.hid hn
  have HO := Lib.hid ho
  have HC := Lib.hid hc
  have HG := Lib.hid hG
  have HS := Lib.hid hs
  have HK := Lib.hid hk
  clear hn ho hc hG hs hk
  go_enter Try.func26, Try.ntmps26
  go_wp2_with fail
  go_loopw [1, 5] (fun m i wr => ∃ (j q : Nat) (ys : List Ce), j ≤ n ∧ i = .int .i64 j ∧ m = .int .i64 q ∧ 0 < q ∧ Hid (q + totC (xs.drop j) = k + totC xs) ∧ Hid ((markCs xs k).drop j = markCs (xs.drop j) q) ∧ Hid (ys.length = n ∧ ys.take j = (markCs xs k).take j ∧ ys.drop j = xs.drop j) ∧
    Hid (wr.ownsRow base 60 2 (.slice (some ⟨h, 0, none⟩) n c) n L) ∧ Hid (CesOwn wr lo G L ys n) ∧ Hid (Turn lo hi w wr)) (fun _ i _ => n - (intOf i).toNat)
  case atStart => exact ⟨0, k, xs, by omega, rfl, rfl, hk0, Lib.hid rfl, Lib.hid rfl, Lib.hid ⟨HN.out, rfl, rfl⟩, HO, HC, Lib.hid (Turn.refl _ _ _)⟩
  case round =>
    obtain ⟨j, q, ys, hj, rfl, rfl, hq0, HQ, HM, HY, HO2, HC2, HT⟩ := hrel
    by_cases hlt : j < n
    · obtain ⟨x, hx⟩ := at_some (show j < xs.length by rw [HN.out]; exact hlt)
      have hdc := drop_cons hx
      have hyx : ys[j]? = some x := by
        have e : (ys.drop j)[0]? = some x := by rw [HY.out.2.2, hdc]; rfl
        rw [List.getElem?_drop] at e
        exact e
      have HQ2 := Lib.hid (show q + wC x + totC (xs.drop (j + 1)) = k + totC xs by have := HQ.out; rw [hdc] at this; simp only [totC] at this; omega)
      have HM2 := Lib.hid (show (markCs xs k).drop j = markCe x q :: markCs (xs.drop (j + 1)) (q + wC x) by rw [HM.out, hdc]; rfl)
      have hxb := HS.out x (List.mem_of_getElem? hx)
      obtain ⟨a0, a1, a2⟩ := HC2.out.at_ j x hlt hyx
      have e0 := (HO2.out.cellAt (j * 2) (by omega)).trans a0
      have e1 := (HO2.out.cellAt (j * 2 + 1) (by omega)).trans a1
      have HA := Lib.hid a2
      have HX := Lib.hid hx
      have HYX := Lib.hid hyx
      have hqb : q + 2 * x.pl.length + 3 * x.st.length ≤ 50000000 := by have := HQ2.out; have := HK.out; unfold wC at *; omega
      obtain ⟨u, hu⟩ : ∃ u, x.pl.length = u := ⟨_, rfl⟩
      obtain ⟨v, hv⟩ : ∃ v, x.st.length = v := ⟨_, rfl⟩
      have HU := Lib.hid hu
      have HV := Lib.hid hv
      rw [hu] at e0 hxb hqb
      rw [hv] at e1 hxb hqb
      obtain ⟨g0, hg0⟩ : ∃ g, G (2 * j) = g := ⟨_, rfl⟩
      obtain ⟨g1, hg1⟩ : ∃ g, G (2 * j + 1) = g := ⟨_, rfl⟩
      have HG0 := Lib.hid hg0
      have HG1 := Lib.hid hg1
      rw [hg0] at e0
      rw [hg1] at e1
      have hpl := a2.pl
      have hst := a2.st
      rw [hg0, hu] at hpl
      rw [hg1, hv] at hst
      have HPL := Lib.hid hpl
      have HST := Lib.hid hst
      have hl0 := a2.l0
      have hl1 := a2.l1
      have hl2 := a2.l2
      rw [hg0] at hl0 hl1
      rw [hg1] at hl1 hl2
      have HHI := Lib.hid (show g1 < hi by rw [← hg1]; exact HG.out _ (by omega))
      clear hx hyx hdc a0 a1 a2 hu hv hg0 hg1 hpl hst
      go_wp2_with fail
      refine (markSlots_any g0 u lo q u x.pl _ HPL.out HU.out hxb.1 (by omega)).mono ?_
      rintro e w2 ⟨rfl, hown, hgr⟩
      have f1 := (World.cell?_of_block (a := ⟨h, j * 2 + 1, none⟩) (hgr.block h ((HO2.out.lt h rfl).2) (by simp; omega))).trans e1
      have HO3 := Lib.hid (World.ownsRow.kept HO2.out hgr (.inr (by simp [Value.ownBlock]; omega)))
      have HST2 := Lib.hid (World.ownsRow.kept HST.out hgr (.inr (by simp [Value.ownBlock]; omega)))
      have HC3 := Lib.hid (CesOwn.set (y := ⟨markSl x.pl q, x.st⟩) (d := 0) HC2.out HY.out.1 HYX.out hlt (by omega) (by rw [Nat.add_zero, HG0.out]; exact hgr) (markSl_len _ _) rfl (by rw [HG0.out, HU.out]; exact hown) (by rw [HG1.out, HV.out]; exact HST2.out))
      have HT2 := Lib.hid (HT.out.trans (Turn.of_grown hgr hl0 (by have := HHI.out; omega)))
      have hl3 := hgr.size
      clear hown hgr e0 e1
      go_wp2_with fail
      refine (markVals_any g1 v lo (q + 2 * u) v x.st _ HST2.out HV.out hxb.2 (by omega) (by omega)).mono ?_
      rintro e w3 ⟨rfl, hown, hgr⟩
      have hat3 := HC3.out.at_ j ⟨markSl x.pl q, x.st⟩ hlt (by rw [List.getElem?_set_self (by rw [HY.out.1]; exact hlt)])
      have HO4 := Lib.hid (World.ownsRow.kept HO3.out hgr (.inr (by simp [Value.ownBlock]; omega)))
      have hpl3 := World.ownsRow.kept hat3.2.2.pl hgr (.inr (by simp [Value.ownBlock]; rw [HG0.out]; omega))
      have HC4 := Lib.hid (CesOwn.set (y := markCe x q) (d := 1) HC3.out (by rw [List.length_set]; exact HY.out.1) (List.getElem?_set_self (by rw [HY.out.1]; exact hlt)) hlt (by omega) (by rw [HG1.out]; exact hgr) rfl (markVa_len _ _) hpl3 (by rw [HG1.out]; show w3.ownsRow lo 82 3 (.slice (some ⟨g1, 0, none⟩) x.st.length x.st.length) x.st.length ((markVa x.st (q + 2 * x.pl.length)).flatMap Va.cells); rw [HV.out, HU.out]; exact hown))
      have HT3 := Lib.hid (HT2.out.trans (Turn.of_grown hgr (by omega) HHI.out))
      have HY2 := Lib.hid (show ((ys.set j ⟨markSl x.pl q, x.st⟩).set j (markCe x q)).length = n ∧ ((ys.set j ⟨markSl x.pl q, x.st⟩).set j (markCe x q)).take (j + 1) = (markCs xs k).take (j + 1) ∧ ((ys.set j ⟨markSl x.pl q, x.st⟩).set j (markCe x q)).drop (j + 1) = xs.drop (j + 1) by
        obtain ⟨y0, y1, y2⟩ := HY.out
        rw [List.set_set]
        refine ⟨by rw [List.length_set]; exact y0, ?_, ?_⟩
        · have hm : (markCs xs k)[j]? = some (markCe x q) := by
            have e : ((markCs xs k).drop j)[0]? = some (markCe x q) := by rw [HM2.out]; rfl
            rw [List.getElem?_drop] at e
            exact e
          apply List.ext_getElem?
          intro i
          rw [List.getElem?_take, List.getElem?_take]
          rcases (by omega : i < j ∨ i = j ∨ j < i) with h | rfl | h
          · rw [if_pos (by omega), if_pos (by omega), List.getElem?_set_ne (by omega)]
            have := congrArg (fun l => l[i]?) y1
            simpa [List.getElem?_take, h] using this
          · rw [if_pos (by omega), if_pos (by omega), List.getElem?_set_self (by omega), hm]
          · rw [if_neg (by omega), if_neg (by omega)]
        · rw [List.drop_set_of_lt (by omega)]
          have := congrArg (fun l => l.drop 1) y2
          simpa [List.drop_drop] using this)
      have HM3 := Lib.hid (show (markCs xs k).drop (j + 1) = markCs (xs.drop (j + 1)) (q + wC x) by
        have := congrArg (fun l => l.drop 1) HM2.out
        simpa [List.drop_drop] using this)
      have HW := Lib.hid (show q + 2 * u + 3 * v = q + wC x by unfold wC; rw [HU.out, HV.out]; omega)
      clear hown hgr hat3 hpl3 f1
      go_wp2_with fail
      go_roundw
      case rel => exact ⟨j + 1, q + wC x, _, by omega, by go_num, by rw [← HW.out]; go_num, by omega, HQ2, HM3, HY2, HO4, HC4, HT3⟩
      case measure => simp [intOf]; omega
    · obtain rfl : j = n := by omega
      have HR := Lib.hid (show q = k + totC xs by have := HQ.out; rw [drop_none (by rw [HN.out]; exact Nat.le_refl _)] at this; simpa [totC] using this)
      have HYY := Lib.hid (show ys = markCs xs k by
        obtain ⟨y0, y1, _⟩ := HY.out
        rw [List.take_of_length_le (by omega), List.take_of_length_le (by rw [markCs_len, HN.out]; exact Nat.le_refl _)] at y1
        exact y1)
      go_wp2_with fail
      go_ret
      exact ⟨by rw [HR.out]; rfl, HO2.out, by rw [← HYY.out]; exact HC2.out, HT.out⟩
end Go.Proofs.Ytkofajjlkhamkaa
