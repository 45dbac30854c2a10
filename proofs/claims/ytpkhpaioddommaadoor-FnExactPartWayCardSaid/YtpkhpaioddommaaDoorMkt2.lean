/- Trees in memory of their own, each part apart: what the laws' copies are. -/
import Derived.Test.YtpkhpaioddommaaDoorTre3
namespace Go.Proofs.YtpkhpaioddommaaDoor
open Go.Joins Go.ChangeShapes Go.WideShapes Go.ChangeAt Go.RowKit Go.Deep
set_option linter.unusedVariables false
set_option linter.unusedSimpArgs false

theorem own_zero {w : World} {base sz n : Nat} {e : TypeId} {v : Value} {L : List Value} (h : w.ownsRow base e sz v n L) : w.ownsRow 0 e sz v n L :=
  ⟨h.1, h.2.imp id fun ⟨g, cap, cur, e1, _, r⟩ => ⟨g, cap, cur, e1, Nat.zero_le _, r⟩⟩
theorem own_moved {w w' : World} {base n m c g : Nat} {e : TypeId} {xs : List Value} (h : w.ownsRow base e n (.slice (some ⟨g, 0, none⟩) m c) m xs) (hb : w'.heap[g]? = w.heap[g]?) : w'.ownsRow base e n (.slice (some ⟨g, 0, none⟩) m c) m xs := by
  refine ⟨h.1, ?_⟩
  rcases h.2 with hn | ⟨g', cap, cur, e1, hbg, hgg, rest⟩
  · exact .inl hn
  · have e2 := e1
    simp only [Value.slice.injEq, Option.some.injEq, Addr.mk.injEq, and_true] at e2
    obtain ⟨rfl, _, rfl⟩ := e2
    exact .inr ⟨g, _, cur, rfl, hbg, hb.trans hgg, rest⟩
/-- Five cells read as a tree that lies in blocks from lo up to hi, no two parts in one. -/
inductive TrO (w : World) : Nat → Nat → List Value → Tr → Prop
  | mk {tag key : Int} {text : ByteArray} {ps : List Pr} {ks : List Tr} {lo m hi : Nat} (A0 : Option Addr) (c0 : Nat) (A1 : Option Addr) (c1 : Nat) (hdr : Nat → List Value) (P Q : Nat → Nat) (h1 : lo ≤ m) (h2 : m ≤ hi)
      (hp : 0 < ps.length → ∃ g, A0 = some ⟨g, 0, none⟩ ∧ lo ≤ g ∧ g < m ∧ w.ownsRow 0 95 4 (.slice (some ⟨g, 0, none⟩) ps.length c0) ps.length (ps.flatMap Pr.cells))
      (hk : 0 < ks.length → ∃ g L, A1 = some ⟨g, 0, none⟩ ∧ m ≤ g ∧ g < hi ∧ (∀ i, i < ks.length → g < P i) ∧ w.ownsRow 0 26 5 (.slice (some ⟨g, 0, none⟩) ks.length c1) ks.length L ∧ ∀ i, i < ks.length → ∀ j, j < 5 → L[i * 5 + j]? = (hdr i)[j]?)
      (hin : ∀ i, i < ks.length → m ≤ P i ∧ P i ≤ Q i ∧ Q i ≤ hi) (hap : ∀ i j, i < j → j < ks.length → Q i ≤ P j)
      (hks : ∀ i x, ks[i]? = some x → TrO w (P i) (Q i) (hdr i) x) : TrO w lo hi [.int .i64 tag, .int .i64 key, .string text, .slice A0 ps.length c0, .slice A1 ks.length c1] (.mk tag key text ps ks)
/-- Trees in a row of their own. -/
structure KdO (w : World) (m hi : Nat) (A1 : Option Addr) (c1 : Nat) (hdr : Nat → List Value) (P Q : Nat → Nat) (ks : List Tr) : Prop where
  row : 0 < ks.length → ∃ g L, A1 = some ⟨g, 0, none⟩ ∧ m ≤ g ∧ g < hi ∧ (∀ i, i < ks.length → g < P i) ∧ w.ownsRow 0 26 5 (.slice (some ⟨g, 0, none⟩) ks.length c1) ks.length L ∧ ∀ i, i < ks.length → ∀ j, j < 5 → L[i * 5 + j]? = (hdr i)[j]?
  inn : ∀ i, i < ks.length → m ≤ P i ∧ P i ≤ Q i ∧ Q i ≤ hi
  apart : ∀ i j, i < j → j < ks.length → Q i ≤ P j
  kid : ∀ i x, ks[i]? = some x → TrO w (P i) (Q i) (hdr i) x
def PrO (w : World) (lo m : Nat) (A0 : Option Addr) (c0 : Nat) (ps : List Pr) : Prop := 0 < ps.length → ∃ g, A0 = some ⟨g, 0, none⟩ ∧ lo ≤ g ∧ g < m ∧ w.ownsRow 0 95 4 (.slice (some ⟨g, 0, none⟩) ps.length c0) ps.length (ps.flatMap Pr.cells)
theorem TrO.open_ {w : World} {lo hi : Nat} {cs : List Value} {t : Tr} (h : TrO w lo hi cs t) : ∃ m A0 c0 A1 c1 hdr P Q, lo ≤ m ∧ m ≤ hi ∧ cs = [.int .i64 t.tag, .int .i64 t.key, .string t.text, .slice A0 t.ps.length c0, .slice A1 t.ks.length c1] ∧ PrO w lo m A0 c0 t.ps ∧ KdO w m hi A1 c1 hdr P Q t.ks := by
  cases h with
  | mk A0 c0 A1 c1 hdr P Q h1 h2 hp hk hin hap hks => exact ⟨_, A0, c0, A1, c1, hdr, P, Q, h1, h2, rfl, hp, ⟨hk, hin, hap, hks⟩⟩
theorem TrO.shut {w : World} {lo m hi : Nat} {t : Tr} {A0 A1 : Option Addr} {c0 c1 : Nat} {hdr : Nat → List Value} {P Q : Nat → Nat} (h1 : lo ≤ m) (h2 : m ≤ hi) (hp : PrO w lo m A0 c0 t.ps) (hk : KdO w m hi A1 c1 hdr P Q t.ks) : TrO w lo hi [.int .i64 t.tag, .int .i64 t.key, .string t.text, .slice A0 t.ps.length c0, .slice A1 t.ks.length c1] t := by
  obtain ⟨_, _, _, _, _⟩ := t
  exact .mk A0 c0 A1 c1 hdr P Q h1 h2 hp hk.row hk.inn hk.apart hk.kid
theorem TrO.len {w : World} {lo hi : Nat} {cs : List Value} {t : Tr} (h : TrO w lo hi cs t) : cs.length = 5 := by
  obtain ⟨m, A0, c0, A1, c1, hdr, P, Q, _, _, rfl, _, _⟩ := h.open_
  rfl
theorem PrO.kept {w w' : World} {lo m : Nat} {A0 : Option Addr} {c0 : Nat} {ps : List Pr} (h : PrO w lo m A0 c0 ps) (hb : ∀ b, lo ≤ b → b < m → w'.heap[b]? = w.heap[b]?) : PrO w' lo m A0 c0 ps := fun h0 => by
  obtain ⟨g, rfl, a, b, ho⟩ := h h0
  exact ⟨g, rfl, a, b, own_moved ho (hb g a b)⟩
theorem TrO.kept {w w' : World} {lo hi : Nat} {cs : List Value} {t : Tr} (h : TrO w lo hi cs t) (hb : ∀ b, lo ≤ b → b < hi → w'.heap[b]? = w.heap[b]?) : TrO w' lo hi cs t := by
  induction h with
  | @mk tag key text ps ks lo m hi A0 c0 A1 c1 hdr P Q h1 h2 hp hk hin hap hks ih =>
    refine .mk A0 c0 A1 c1 hdr P Q h1 h2 (fun h0 => ?_) (fun h0 => ?_) hin hap (fun i x hx => ih i x hx fun b hb1 hb2 => ?_)
    · obtain ⟨g, rfl, a, b, ho⟩ := hp h0
      exact ⟨g, rfl, a, b, own_moved ho (hb g a (by omega))⟩
    · obtain ⟨g, L, rfl, a, b, c, ho, r⟩ := hk h0
      exact ⟨g, L, rfl, a, b, c, own_moved ho (hb g (by omega) b), r⟩
    · obtain ⟨q1, q2, q3⟩ := hin i (List.getElem?_eq_some_iff.1 hx).1
      exact hb b (by omega) (by omega)
theorem KdO.kept {w w' : World} {m hi : Nat} {A1 : Option Addr} {c1 : Nat} {hdr : Nat → List Value} {P Q : Nat → Nat} {ks : List Tr} (h : KdO w m hi A1 c1 hdr P Q ks) (hb : ∀ b, m ≤ b → b < hi → w'.heap[b]? = w.heap[b]?) : KdO w' m hi A1 c1 hdr P Q ks := by
  refine ⟨fun h0 => ?_, h.inn, h.apart, fun i x hx => (h.kid i x hx).kept fun b hb1 hb2 => ?_⟩
  · obtain ⟨g, L, rfl, a, b, c, ho, r⟩ := h.row h0
    exact ⟨g, L, rfl, a, b, c, own_moved ho (hb g a b), r⟩
  · obtain ⟨q1, q2, q3⟩ := h.inn i (List.getElem?_eq_some_iff.1 hx).1
    exact hb b (by omega) (by omega)
/-- To the relation of the laws' own texts. -/
theorem PrO.lies {w : World} {lo m : Nat} {A0 : Option Addr} {c0 : Nat} {ps : List Pr} (h : PrO w lo m A0 c0 ps) : PrL w A0 ps := fun h0 => by
  obtain ⟨g, rfl, a, b, ho⟩ := h h0
  exact Lie.of_own (c := Pr.cells) Pr.cells_len ho h0
theorem TrO.trc {w : World} {lo hi : Nat} {cs : List Value} {t : Tr} (h : TrO w lo hi cs t) : TrC w 0 cs t := by
  induction h with
  | @mk tag key text ps ks lo m hi A0 c0 A1 c1 hdr P Q h1 h2 hp hk hin hap hks ih =>
    refine .mk A0 c0 A1 c1 hdr (PrO.lies (c0 := c0) hp) (fun _ _ _ => Nat.zero_le _) (fun h0 => ?_) ih
    obtain ⟨g, L, rfl, a, b, c, ho, r⟩ := hk h0
    refine ⟨g, 0, rfl, Nat.zero_le _, (ho.lt g rfl).2, fun i hi j u hu => ?_⟩
    obtain ⟨x, hx⟩ := at_some hi
    have hj : j < 5 := by rw [← (hks i x hx).len]; exact (List.getElem?_eq_some_iff.1 hu).1
    have e := r i hi j hj
    rw [hu] at e
    rw [show 0 + i * 5 + j = i * 5 + j by omega, ho.cellAt (i * 5 + j) (by have := (List.getElem?_eq_some_iff.1 e).1; have := ho.1; omega)]
    exact e
theorem KdO.lies {w : World} {m hi : Nat} {A1 : Option Addr} {c1 : Nat} {hdr : Nat → List Value} {P Q : Nat → Nat} {ks : List Tr} (h : KdO w m hi A1 c1 hdr P Q ks) : TrL w 0 A1 ks := by
  have ht : TrO w 0 hi [.int .i64 0, .int .i64 0, .string ⟨#[]⟩, .slice none 0 0, .slice A1 ks.length c1] (.mk 0 0 ⟨#[]⟩ [] ks) := by
    by_cases hm : m ≤ hi
    · exact .mk (ps := []) none 0 A1 c1 hdr P Q (Nat.zero_le _) hm (fun h => absurd h (by simp)) h.row h.inn h.apart h.kid
    · refine .mk (ps := []) (m := 0) none 0 A1 c1 hdr P Q (Nat.le_refl _) (Nat.zero_le _) (fun h => absurd h (by simp)) (fun h0 => ?_) (fun i hi => ?_) h.apart h.kid
      · obtain ⟨g, L, _, a, b, _⟩ := h.row h0
        omega
      · obtain ⟨a, b, c⟩ := h.inn i hi
        omega
  obtain ⟨A0, c0, A1', c1', e, _, _, hk⟩ := ht.trc.open_
  simp only [List.cons.injEq, Value.slice.injEq, and_true, true_and] at e
  obtain ⟨_, _, _, _, rfl, _⟩ := e
  exact hk
/-- A tree handed back, in memory of its own. -/
def ToO (t : Tr) (w : World) (e : Ending) (w' : World) : Prop :=
  ∃ g0 g1, e = .returned (.agg #[.int .i64 t.tag, .int .i64 t.key, .string t.text, .slice (some ⟨g0, 0, none⟩) t.ps.length t.ps.length, .slice (some ⟨g1, 0, none⟩) t.ks.length t.ks.length]) ∧
    TrO w' w.heap.size w'.heap.size [.int .i64 t.tag, .int .i64 t.key, .string t.text, .slice (some ⟨g0, 0, none⟩) t.ps.length t.ps.length, .slice (some ⟨g1, 0, none⟩) t.ks.length t.ks.length] t ∧ Below w.heap.size w w'
def ToOT (t : Tr) : Prop := ∀ (A0 A1 : Option Addr) (c0 c1 : Nat) (w : World), PrL w A0 t.ps → TrL w 0 A1 t.ks →
  Calls Tryd.prog 37 #[.agg #[.int .i64 t.tag, .int .i64 t.key, .string t.text, .slice A0 t.ps.length c0, .slice A1 t.ks.length c1]] w (ToO t w)
def TosO (n : Nat) (xs : List Tr) (w : World) (e : Ending) (w' : World) : Prop :=
  e = .returned (.slice (some ⟨w.heap.size, 0, none⟩) n n) ∧ (∃ hdr P Q, KdO w' w.heap.size w'.heap.size (some ⟨w.heap.size, 0, none⟩) n hdr P Q xs) ∧ Below w.heap.size w w'
set_option maxHeartbeats 2000000 in
theorem toTrees_own (A : Option Addr) (c n : Nat) (xs : List Tr) (IH : ∀ x ∈ xs, ToOT x) (w : World) (hx : TrL w 0 A xs) (hn : xs.length = n) (hl : n ≤ 1048576) :
    Calls Tryd.prog 71 #[.slice A n c] w (TosO n xs w) := by
  have HN := Lib.hid hn
  have HX := Lib.hid hx
  have HI := Lib.hid IH
  clear hx hn IH
  obtain ⟨i0, hi, hz0, hz1, hz2⟩ := info_parts infoTr
  have HZ2 := Lib.hid hz2
  clear hz2
  go_enter Tryd.func71, Tryd.ntmps71
  go_wp2_with (at_make; refine wpList_make_full _ rfl _ _ 24 rfl w.heap.size 26 i0 (.agg #[.int .i64 0, .int .i64 0, .string ⟨#[]⟩, .slice none 0 0, .slice none 0 0]) 5 Tryd.underlying24 hi hz0 hz1 .i64 .i64 _ _ n rfl rfl rfl rfl (by rw [HZ2.out]; omega) (by unfold maxLen; omega) (Nat.le_refl _) ?_; rintro w1 hown hgrow)
  have hB1 : Below w.heap.size w w1 := grown_below hgrow
  have hg1 : w.heap.size < w1.heap.size := (hown.lt _ rfl).2
  have HO := Lib.hid hown
  clear hown hgrow hi hz0 hz1
  go_loopw [4] (fun i wr => ∃ (k : Nat) (L : List Value) (hdr : Nat → List Value) (P Q : Nat → Nat), k ≤ n ∧ i = .int .i64 k ∧ wr.ownsRow w.heap.size 26 5 (.slice (some ⟨w.heap.size, 0, none⟩) n n) n L ∧ Hid (∀ i, i < k → ∀ j, j < 5 → L[i * 5 + j]? = (hdr i)[j]?) ∧ Hid (∀ i x, i < k → xs[i]? = some x → TrO wr (P i) (Q i) (hdr i) x) ∧ Hid (∀ i, i < k → w.heap.size + 1 ≤ P i ∧ P i ≤ Q i ∧ Q i ≤ wr.heap.size) ∧ Hid (∀ i j, i < j → j < k → Q i ≤ P j) ∧ Below w.heap.size w wr) (fun i _ => n - (intOf i).toNat)
  case atStart => exact ⟨0, _, fun _ => [], fun _ => 0, fun _ => 0, by omega, rfl, HO.out, Lib.hid (fun i h => absurd h (by omega)), Lib.hid (fun i x h => absurd h (by omega)), Lib.hid (fun i h => absurd h (by omega)), Lib.hid (fun i j _ h => absurd h (by omega)), hB1⟩
  case round =>
    obtain ⟨k, L, hdr, P, Q, hk, rfl, hown, HH, HT, HPQ, HAP, hB⟩ := hrel
    have HO2 := Lib.hid hown
    have hgl : w.heap.size < wr.heap.size := (hown.lt _ rfl).2
    clear hown
    by_cases hlt : k < n
    · obtain ⟨x, hx⟩ := at_some (show k < xs.length by rw [HN.out]; exact hlt)
      obtain ⟨b, off, A0, d0, A1, d1, rfl, hblt, _, e0, e1, e2, e3, e4, hp, _, hks⟩ := HX.out.at_ hx
      have hs := HI.out x (List.mem_of_getElem? hx) A0 A1 d0 d1 wr (hp.below hB) (hks.below hB)
      replace e0 := (hB.cell (p := ⟨b, off + k * 5, none⟩) hblt).trans e0
      replace e1 := (hB.cell (p := ⟨b, off + k * 5 + 1, none⟩) hblt).trans e1
      replace e2 := (hB.cell (p := ⟨b, off + k * 5 + 2, none⟩) hblt).trans e2
      replace e3 := (hB.cell (p := ⟨b, off + k * 5 + 3, none⟩) hblt).trans e3
      replace e4 := (hB.cell (p := ⟨b, off + k * 5 + 4, none⟩) hblt).trans e4
      have HXK := Lib.hid hx
      clear hx hp hks
      obtain ⟨tag, key, text, ps, ks⟩ := x
      have HS := Lib.hid hs
      clear hs
      dsimp only [Tr.tag, Tr.key, Tr.text, Tr.ps, Tr.ks] at e0 e1 e2 e3 e4
      have HS2 := Lib.hid (show Calls Tryd.prog 37 #[.agg #[.int .i64 tag, .int .i64 key, .string text, .slice A0 ps.length d0, .slice A1 ks.length d1]] wr (ToO (.mk tag key text ps ks) wr) from HS.out)
      obtain ⟨np, hnp⟩ : ∃ q, ps.length = q := ⟨_, rfl⟩
      obtain ⟨nk, hnk⟩ : ∃ q, ks.length = q := ⟨_, rfl⟩
      have HNP := Lib.hid hnp
      have HNK := Lib.hid hnk
      rw [hnp] at e3 HS2
      rw [hnk] at e4 HS2
      clear HS hnp hnk
      go_wp2_with fail
      refine HS2.out.mono ?_
      rintro e w2 ⟨g0, g1, rfl, hto, hb⟩
      have hO3 := ownsRow_below HO2.out hb
      have hLl : L.length = n * 5 := hO3.1
      obtain ⟨u0, d0'⟩ : ∃ u, w2.cell? ⟨w.heap.size, k * 5, none⟩ = some u := ⟨_, (hO3.cellAt (k * 5) (by omega)).trans (List.getElem?_eq_getElem (show k * 5 < L.length by omega))⟩
      have f0 := hO3.frozenAt (k * 5)
      obtain ⟨u1, d1'⟩ : ∃ u, w2.cell? ⟨w.heap.size, k * 5 + 1, none⟩ = some u := ⟨_, (hO3.cellAt (k * 5 + 1) (by omega)).trans (List.getElem?_eq_getElem (show k * 5 + 1 < L.length by omega))⟩
      have f1 := hO3.frozenAt (k * 5 + 1)
      obtain ⟨u2, d2'⟩ : ∃ u, w2.cell? ⟨w.heap.size, k * 5 + 2, none⟩ = some u := ⟨_, (hO3.cellAt (k * 5 + 2) (by omega)).trans (List.getElem?_eq_getElem (show k * 5 + 2 < L.length by omega))⟩
      have f2 := hO3.frozenAt (k * 5 + 2)
      obtain ⟨u3, d3'⟩ : ∃ u, w2.cell? ⟨w.heap.size, k * 5 + 3, none⟩ = some u := ⟨_, (hO3.cellAt (k * 5 + 3) (by omega)).trans (List.getElem?_eq_getElem (show k * 5 + 3 < L.length by omega))⟩
      have f3 := hO3.frozenAt (k * 5 + 3)
      obtain ⟨u4, d4'⟩ : ∃ u, w2.cell? ⟨w.heap.size, k * 5 + 4, none⟩ = some u := ⟨_, (hO3.cellAt (k * 5 + 4) (by omega)).trans (List.getElem?_eq_getElem (show k * 5 + 4 < L.length by omega))⟩
      have f4 := hO3.frozenAt (k * 5 + 4)
      have HO3 := Lib.hid hO3
      have HLl := Lib.hid hLl
      have HB2 := Lib.hid (more hB (Nat.le_refl _) hb)
      have HT2 := Lib.hid (fun i x hi hx => (HT.out i x hi hx).kept (w' := w2) (fun b _ hb2 => hb.block b (by have := HPQ.out i hi; omega)))
      have HTO := Lib.hid hto
      have hsz2 := hb.size
      dsimp only [Tr.tag, Tr.key, Tr.text, Tr.ps, Tr.ks]
      rw [HNP.out, HNK.out]
      clear hO3 hLl hb hto e0 e1 e2 e3 e4 HT
      go_wp2_with fail
      obtain ⟨s1, q1⟩ := HO3.out.stored (k * 5) (.int .i64 tag)
      obtain ⟨s2, q2⟩ := s1.stored (k * 5 + 1) (.int .i64 key)
      obtain ⟨s3, q3⟩ := s2.stored (k * 5 + 2) (.string text)
      obtain ⟨s4, q4⟩ := s3.stored (k * 5 + 3) (.slice (some ⟨g0, 0, none⟩) np np)
      obtain ⟨s5, q5⟩ := s4.stored (k * 5 + 4) (.slice (some ⟨g1, 0, none⟩) nk nk)
      go_roundw
      case rel =>
        have hsz : ∀ (W : World) (p : Addr) (u : Value), (W.setCell p u).heap.size = W.heap.size := fun W p u => by simp [World.setCell]
        refine ⟨k + 1, _, fun i => if i = k then [.int .i64 tag, .int .i64 key, .string text, .slice (some ⟨g0, 0, none⟩) np np, .slice (some ⟨g1, 0, none⟩) nk nk] else hdr i, fun i => if i = k then wr.heap.size else P i, fun i => if i = k then w2.heap.size else Q i, by omega, by go_num, s5, Lib.hid (fun i hi j hj => ?_), Lib.hid (fun i x hi hx => ?_), Lib.hid (fun i hi => ?_), Lib.hid (fun i j hij hj => ?_), ((((HB2.out.setCell (Nat.le_refl _) _).setCell (Nat.le_refl _) _).setCell (Nat.le_refl _) _).setCell (Nat.le_refl _) _).setCell (Nat.le_refl _) _⟩
        · have hl5 := HLl.out
          by_cases hik : i = k
          · subst hik
            simp only [↓reduceIte]
            match j, hj with
            | 0, _ => (repeat (rw [List.getElem?_set_ne (by omega)])); rw [show i * 5 + 0 = i * 5 from rfl, List.getElem?_set_self (by first | omega | (simp; omega))]; rfl
            | 1, _ => (repeat (rw [List.getElem?_set_ne (by omega)])); rw [List.getElem?_set_self (by first | omega | (simp; omega))]; rfl
            | 2, _ => (repeat (rw [List.getElem?_set_ne (by omega)])); rw [List.getElem?_set_self (by first | omega | (simp; omega))]; rfl
            | 3, _ => (repeat (rw [List.getElem?_set_ne (by omega)])); rw [List.getElem?_set_self (by first | omega | (simp; omega))]; rfl
            | 4, _ => rw [List.getElem?_set_self (by first | omega | (simp; omega))]; rfl
          · simp only [if_neg hik]
            rw [List.getElem?_set_ne (by omega), List.getElem?_set_ne (by omega), List.getElem?_set_ne (by omega), List.getElem?_set_ne (by omega), List.getElem?_set_ne (by omega)]
            exact HH.out i (by omega) j hj
        · by_cases hik : i = k
          · subst hik
            simp only [↓reduceIte]
            have e := HXK.out
            rw [hx] at e
            injection e with e
            subst e
            refine TrO.kept (w := w2) ?_ (fun b hb _ => by rw [heap_setCell_other _ _ b _ (by simp <;> omega), heap_setCell_other _ _ b _ (by simp <;> omega), heap_setCell_other _ _ b _ (by simp <;> omega), heap_setCell_other _ _ b _ (by simp <;> omega), heap_setCell_other _ _ b _ (by simp <;> omega)])
            have h := HTO.out
            dsimp only [Tr.tag, Tr.key, Tr.text, Tr.ps, Tr.ks] at h
            rw [HNP.out, HNK.out] at h
            exact h
          · simp only [if_neg hik]
            have hq := HPQ.out i (by omega)
            refine TrO.kept (w := w2) (HT2.out i x (by omega) hx) (fun b hb _ => by rw [heap_setCell_other _ _ b _ (by simp <;> omega), heap_setCell_other _ _ b _ (by simp <;> omega), heap_setCell_other _ _ b _ (by simp <;> omega), heap_setCell_other _ _ b _ (by simp <;> omega), heap_setCell_other _ _ b _ (by simp <;> omega)])
        · simp only [hsz]
          by_cases hik : i = k
          · subst hik
            simp only [↓reduceIte]
            omega
          · simp only [if_neg hik]
            have hq := HPQ.out i (by omega)
            omega
        · by_cases hjk : j = k
          · subst hjk
            have hq := HPQ.out i (by omega)
            simp only [↓reduceIte, if_neg (show i ≠ j by omega)]
            omega
          · simp only [if_neg hjk, if_neg (show i ≠ k by omega)]
            exact HAP.out i j hij (by omega)
      case measure => simp [intOf]; omega
    · obtain rfl : k = n := by omega
      go_wp2_with fail
      go_ret
      have hxl := HN.out
      refine ⟨rfl, ⟨hdr, P, Q, ⟨fun h0 => ⟨w.heap.size, L, rfl, Nat.le_refl _, hgl, fun i hi => by have := HPQ.out i (by omega); omega, by rw [hxl]; exact own_zero HO2.out, fun i hi j hj => HH.out i (by omega) j hj⟩, fun i hi => by have := HPQ.out i (by omega); omega, fun i j hij hj => HAP.out i j hij (by omega), fun i x hx => HT.out i x (by rw [← hxl]; exact (List.getElem?_eq_some_iff.1 hx).1) hx⟩⟩, hB⟩

set_option maxHeartbeats 2000000 in
theorem toTree_own (t : Tr) : BdT t → ToOT t := by
  induction t using Tr.by_kids with
  | h t ih =>
  intro hbd A0 A1 c0 c1 w hp hk
  obtain ⟨s1, s3, s4⟩ := hbd.open_
  have HIK := Lib.hid (fun w hw => toTrees_own A1 c1 t.ks.length t.ks (fun x hx => ih x hx (s4 x hx)) w hw rfl s3)
  have HIP := Lib.hid (fun w hw => toPrs_any A0 c0 t.ps.length t.ps w hw rfl s1)
  have HP := Lib.hid (fun W (hb : Below w.heap.size w W) => hp.below hb)
  have HK := Lib.hid (fun W (hb : Below w.heap.size w W) => hk.below hb)
  have hT : ∀ (g0 g1 m : Nat) (hdr : Nat → List Value) (P Q : Nat → Nat) (w' : World), w.heap.size ≤ m → m ≤ w'.heap.size → PrO w' w.heap.size m (some ⟨g0, 0, none⟩) t.ps.length t.ps → KdO w' m w'.heap.size (some ⟨g1, 0, none⟩) t.ks.length hdr P Q t.ks → Below w.heap.size w w' → ToO t w (.returned (.agg #[.int .i64 t.tag, .int .i64 t.key, .string t.text, .slice (some ⟨g0, 0, none⟩) t.ps.length t.ps.length, .slice (some ⟨g1, 0, none⟩) t.ks.length t.ks.length])) w' := fun g0 g1 m hdr P Q w' h1 h2 hp hk hb => ⟨g0, g1, rfl, TrO.shut h1 h2 hp hk, hb⟩
  obtain ⟨Q, hQ⟩ : ∃ Q, ToO t w = Q := ⟨_, rfl⟩
  rw [hQ] at hT ⊢
  have HQ := Lib.hid hT
  clear hp hk ih s1 s3 s4 hbd hT hQ
  obtain ⟨tag, key, text, ps, ks⟩ := t
  dsimp only [Tr.tag, Tr.key, Tr.text, Tr.ps, Tr.ks] at *
  obtain ⟨np, hnp⟩ : ∃ q, ps.length = q := ⟨_, rfl⟩
  obtain ⟨nk, hnk⟩ : ∃ q, ks.length = q := ⟨_, rfl⟩
  have HNP := Lib.hid hnp
  rw [hnp] at HIP HQ ⊢
  rw [hnk] at HIK HQ ⊢
  clear hnp hnk
  go_enter Tryd.func37, Tryd.ntmps37
  go_wp2_with fail
  refine (HIP.out _ (HP.out _ (by go_grown))).mono ?_
  rintro e w1 ⟨rfl, ho, hb⟩
  have HB1 := Lib.hid (front (w := w) (W0 := _) (by go_grown) (by simp <;> omega) hb)
  have HO := Lib.hid (show w1.ownsRow 0 95 4 (.slice (some ⟨w.heap.size + 1 + 1 + 1, 0, none⟩) np np) np (ps.flatMap Pr.cells) by have h := own_zero ho; simpa using h)
  have hlg := (ho.lt _ rfl).2
  simp at hlg
  obtain ⟨hc, hf⟩ := bcell hb
  simp at hc hf
  have hz := hb.size
  simp at hz
  clear ho hb
  have i0 : w1.cell? ⟨w.heap.size + 1 + 1, 0, none⟩ = some (.int .i64 tag) := by rw [hc _ _ (by omega)]; go_simp
  have z0 : w1.cell? ⟨w.heap.size + 1, 0, none⟩ = some (.int .i64 0) := by rw [hc _ _ (by omega)]; go_simp
  have i1 : w1.cell? ⟨w.heap.size + 1 + 1, 1, none⟩ = some (.int .i64 key) := by rw [hc _ _ (by omega)]; go_simp
  have z1 : w1.cell? ⟨w.heap.size + 1, 1, none⟩ = some (.int .i64 0) := by rw [hc _ _ (by omega)]; go_simp
  have i2 : w1.cell? ⟨w.heap.size + 1 + 1, 2, none⟩ = some (.string text) := by rw [hc _ _ (by omega)]; go_simp
  have z2 : w1.cell? ⟨w.heap.size + 1, 2, none⟩ = some (.string ⟨#[]⟩) := by rw [hc _ _ (by omega)]; go_simp
  have i3 : w1.cell? ⟨w.heap.size + 1 + 1, 3, none⟩ = some (.slice none 0 0) := by rw [hc _ _ (by omega)]; go_simp
  have z3 : w1.cell? ⟨w.heap.size + 1, 3, none⟩ = some (.slice none 0 0) := by rw [hc _ _ (by omega)]; go_simp
  have p4 : w1.cell? ⟨w.heap.size, 4, none⟩ = some (.slice A1 nk c1) := by rw [hc _ _ (by omega)]; go_simp
  have i4 : w1.cell? ⟨w.heap.size + 1 + 1, 4, none⟩ = some (.slice none 0 0) := by rw [hc _ _ (by omega)]; go_simp
  have z4 : w1.cell? ⟨w.heap.size + 1, 4, none⟩ = some (.slice none 0 0) := by rw [hc _ _ (by omega)]; go_simp
  have jf : ∀ o, w1.frozen? ⟨w.heap.size + 1 + 1, o, none⟩ = false := fun o => by rw [hf _ _ (by omega)]; go_simp
  have zf : ∀ o, w1.frozen? ⟨w.heap.size + 1, o, none⟩ = false := fun o => by rw [hf _ _ (by omega)]; go_simp
  clear hc hf
  go_wp2_with fail
  have a0 : (w1.setCell ⟨w.heap.size + 1 + 1, 3, none⟩ (.slice (some ⟨w.heap.size + 1 + 1 + 1, 0, none⟩) np np)).cell? ⟨w.heap.size + 1 + 1, 0, none⟩ = some (.int .i64 tag) := by go_simp
  replace z0 : (w1.setCell ⟨w.heap.size + 1 + 1, 3, none⟩ (.slice (some ⟨w.heap.size + 1 + 1 + 1, 0, none⟩) np np)).cell? ⟨w.heap.size + 1, 0, none⟩ = some (.int .i64 0) := by go_simp
  have a1 : (w1.setCell ⟨w.heap.size + 1 + 1, 3, none⟩ (.slice (some ⟨w.heap.size + 1 + 1 + 1, 0, none⟩) np np)).cell? ⟨w.heap.size + 1 + 1, 1, none⟩ = some (.int .i64 key) := by go_simp
  replace z1 : (w1.setCell ⟨w.heap.size + 1 + 1, 3, none⟩ (.slice (some ⟨w.heap.size + 1 + 1 + 1, 0, none⟩) np np)).cell? ⟨w.heap.size + 1, 1, none⟩ = some (.int .i64 0) := by go_simp
  have a2 : (w1.setCell ⟨w.heap.size + 1 + 1, 3, none⟩ (.slice (some ⟨w.heap.size + 1 + 1 + 1, 0, none⟩) np np)).cell? ⟨w.heap.size + 1 + 1, 2, none⟩ = some (.string text) := by go_simp
  replace z2 : (w1.setCell ⟨w.heap.size + 1 + 1, 3, none⟩ (.slice (some ⟨w.heap.size + 1 + 1 + 1, 0, none⟩) np np)).cell? ⟨w.heap.size + 1, 2, none⟩ = some (.string ⟨#[]⟩) := by go_simp
  have a3 : (w1.setCell ⟨w.heap.size + 1 + 1, 3, none⟩ (.slice (some ⟨w.heap.size + 1 + 1 + 1, 0, none⟩) np np)).cell? ⟨w.heap.size + 1 + 1, 3, none⟩ = some (.slice (some ⟨w.heap.size + 1 + 1 + 1, 0, none⟩) np np) := by go_simp
  replace z3 : (w1.setCell ⟨w.heap.size + 1 + 1, 3, none⟩ (.slice (some ⟨w.heap.size + 1 + 1 + 1, 0, none⟩) np np)).cell? ⟨w.heap.size + 1, 3, none⟩ = some (.slice none 0 0) := by go_simp
  have a4 : (w1.setCell ⟨w.heap.size + 1 + 1, 3, none⟩ (.slice (some ⟨w.heap.size + 1 + 1 + 1, 0, none⟩) np np)).cell? ⟨w.heap.size + 1 + 1, 4, none⟩ = some (.slice none 0 0) := by go_simp
  replace z4 : (w1.setCell ⟨w.heap.size + 1 + 1, 3, none⟩ (.slice (some ⟨w.heap.size + 1 + 1 + 1, 0, none⟩) np np)).cell? ⟨w.heap.size + 1, 4, none⟩ = some (.slice none 0 0) := by go_simp
  have af : ∀ o, (w1.setCell ⟨w.heap.size + 1 + 1, 3, none⟩ (.slice (some ⟨w.heap.size + 1 + 1 + 1, 0, none⟩) np np)).frozen? ⟨w.heap.size + 1 + 1, o, none⟩ = false := fun o => by simp only [World.frozen?_setCell]; exact jf o
  replace zf : ∀ o, (w1.setCell ⟨w.heap.size + 1 + 1, 3, none⟩ (.slice (some ⟨w.heap.size + 1 + 1 + 1, 0, none⟩) np np)).frozen? ⟨w.heap.size + 1, o, none⟩ = false := fun o => by simp only [World.frozen?_setCell]; exact zf o
  clear i0 i1 i2 i3 i4 jf p4
  have HB2 := Lib.hid (HB1.out.setCell (p := ⟨w.heap.size + 1 + 1, 3, none⟩) (by simp <;> omega) (.slice (some ⟨w.heap.size + 1 + 1 + 1, 0, none⟩) np np))
  have HO2 := Lib.hid (own_moved (w' := (w1.setCell ⟨w.heap.size + 1 + 1, 3, none⟩ (.slice (some ⟨w.heap.size + 1 + 1 + 1, 0, none⟩) np np))) HO.out (heap_setCell_other _ _ _ _ (by simp <;> omega)))
  clear HO
  obtain ⟨ws, hws⟩ : ∃ ws, (w1.setCell ⟨w.heap.size + 1 + 1, 3, none⟩ (.slice (some ⟨w.heap.size + 1 + 1 + 1, 0, none⟩) np np)) = ws := ⟨_, rfl⟩
  have hz2 : w.heap.size + 1 + 1 + 1 < ws.heap.size := by rw [← hws]; simp [World.setCell]; omega
  rw [hws] at a0 a1 a2 a3 a4 z0 z1 z2 z3 z4 af zf HB2 HO2 ⊢
  clear hws hlg hz HB1
  refine (HIK.out _ (HK.out _ HB2.out)).mono ?_
  rintro e w2 ⟨rfl, ⟨hdr, P, Q, hkk⟩, hb⟩
  replace a0 := (hb.cell (p := ⟨w.heap.size + 1 + 1, 0, none⟩) (by simp; omega)).trans a0
  replace z0 := (hb.cell (p := ⟨w.heap.size + 1, 0, none⟩) (by simp; omega)).trans z0
  replace a1 := (hb.cell (p := ⟨w.heap.size + 1 + 1, 1, none⟩) (by simp; omega)).trans a1
  replace z1 := (hb.cell (p := ⟨w.heap.size + 1, 1, none⟩) (by simp; omega)).trans z1
  replace a2 := (hb.cell (p := ⟨w.heap.size + 1 + 1, 2, none⟩) (by simp; omega)).trans a2
  replace z2 := (hb.cell (p := ⟨w.heap.size + 1, 2, none⟩) (by simp; omega)).trans z2
  replace a3 := (hb.cell (p := ⟨w.heap.size + 1 + 1, 3, none⟩) (by simp; omega)).trans a3
  replace z3 := (hb.cell (p := ⟨w.heap.size + 1, 3, none⟩) (by simp; omega)).trans z3
  replace a4 := (hb.cell (p := ⟨w.heap.size + 1 + 1, 4, none⟩) (by simp; omega)).trans a4
  replace z4 := (hb.cell (p := ⟨w.heap.size + 1, 4, none⟩) (by simp; omega)).trans z4
  replace af := fun o => (hb.frozen (p := ⟨w.heap.size + 1 + 1, o, none⟩) (by simp; omega)).trans (af o)
  replace zf := fun o => (hb.frozen (p := ⟨w.heap.size + 1, o, none⟩) (by simp; omega)).trans (zf o)
  have HB3 := Lib.hid (more HB2.out (Nat.le_refl _) hb)
  have HO3 := Lib.hid (own_moved HO2.out (hb.block _ (by omega)))
  have HK3 := Lib.hid hkk
  have hz3 := hb.size
  have hz4 : w.heap.size + 1 + 1 + 1 < w2.heap.size := by omega
  clear hkk hb HB2 HO2
  go_wp2_with fail
  refine bodyPost_ret (v := .agg #[.int .i64 tag, .int .i64 key, .string text, .slice (some ⟨w.heap.size + 1 + 1 + 1, 0, none⟩) np np, .slice (some ⟨ws.heap.size, 0, none⟩) nk nk]) (by simp [results, Tryd.results37, go_sem, a0, a1, a2, a3, a4, z0, z1, z2, z3, z4, af, zf]) rfl ?_
  refine HQ.out (w.heap.size + 1 + 1 + 1) ws.heap.size ws.heap.size hdr P Q _ (by omega) (by simp only [World.size_setCell]; omega) (fun h0 => ⟨_, rfl, by omega, by omega, ?_⟩) ?_ ?_
  · rw [HNP.out]
    refine own_moved (w := w2) HO3.out ?_
    generalize hbq : w.heap.size + 1 + 1 + 1 = b
    rw [heap_setCell_other _ _ b _ (by simp <;> omega), heap_setCell_other _ _ b _ (by simp <;> omega), heap_setCell_other _ _ b _ (by simp <;> omega), heap_setCell_other _ _ b _ (by simp <;> omega), heap_setCell_other _ _ b _ (by simp <;> omega), heap_setCell_other _ _ b _ (by simp <;> omega)]
  · simp only [World.size_setCell]
    refine KdO.kept (w := w2) HK3.out (fun b hb _ => ?_)
    rw [heap_setCell_other _ _ b _ (by simp <;> omega), heap_setCell_other _ _ b _ (by simp <;> omega), heap_setCell_other _ _ b _ (by simp <;> omega), heap_setCell_other _ _ b _ (by simp <;> omega), heap_setCell_other _ _ b _ (by simp <;> omega), heap_setCell_other _ _ b _ (by simp <;> omega)]
  · exact ((((((HB3.out.setCell (by first | omega | (simp <;> omega)) _).setCell (by first | omega | (simp <;> omega)) _).setCell (by first | omega | (simp <;> omega)) _).setCell (by first | omega | (simp <;> omega)) _).setCell (by first | omega | (simp <;> omega)) _).setCell (by first | omega | (simp <;> omega)) _)
end Go.Proofs.YtpkhpaioddommaaDoor
