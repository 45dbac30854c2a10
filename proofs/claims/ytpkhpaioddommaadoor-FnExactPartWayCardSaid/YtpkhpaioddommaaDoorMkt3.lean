/- The laws' own marks in trees: written. -/
import Derived.Test.YtpkhpaioddommaaDoorMkt1
import Derived.Test.YtpkhpaioddommaaDoorMkt2
namespace Go.Proofs.YtpkhpaioddommaaDoor
open Go.Joins Go.ChangeShapes Go.WideShapes Go.ChangeAt Go.RowKit Go.Deep
set_option linter.unusedVariables false
set_option linter.unusedSimpArgs false

/-- Only blocks from lo on and below hi have turned, of those that were there. -/
structure Turn (lo hi : Nat) (w w' : World) : Prop where
  os : w'.os = w.os
  tape : w'.tape = w.tape
  output : w'.output = w.output
  size : w.heap.size ≤ w'.heap.size
  block : ∀ b, b < w.heap.size → (b < lo ∨ hi ≤ b) → w'.heap[b]? = w.heap[b]?
theorem Turn.refl (lo hi : Nat) (w : World) : Turn lo hi w w := ⟨rfl, rfl, rfl, Nat.le_refl _, fun _ _ _ => rfl⟩
theorem Turn.trans {lo hi : Nat} {a b c : World} (h : Turn lo hi a b) (k : Turn lo hi b c) : Turn lo hi a c :=
  ⟨k.os.trans h.os, k.tape.trans h.tape, k.output.trans h.output, Nat.le_trans h.size k.size, fun i hi' hr => (k.block i (Nat.lt_of_lt_of_le hi' h.size) hr).trans (h.block i hi' hr)⟩
theorem Turn.of_grown {lo hi g : Nat} {a b : World} (h : a.grownBy b (some g)) (h0 : lo ≤ g) (h1 : g < hi) : Turn lo hi a b :=
  ⟨h.os, h.tape, h.output, h.size, fun i hi' hr => h.block i hi' (fun e => by injection e with e; omega)⟩
theorem Turn.of_below {lo hi : Nat} {a b : World} (h : Below a.heap.size a b) : Turn lo hi a b := ⟨h.os, h.tape, h.output, h.size, fun i hi' _ => h.block i hi'⟩
theorem Turn.below {lo hi : Nat} {a b : World} (h : Turn lo hi a b) {B : Nat} (hB : B ≤ lo) (hs : B ≤ a.heap.size) : Below B a b := ⟨h.os, h.tape, h.output, h.size, fun i hi' => h.block i (by omega) (.inl (by omega))⟩
theorem Turn.mono {lo hi lo' hi' : Nat} {a b : World} (h : Turn lo hi a b) (h0 : lo' ≤ lo) (h1 : hi ≤ hi') : Turn lo' hi' a b := ⟨h.os, h.tape, h.output, h.size, fun i hi hr => h.block i hi (by omega)⟩
theorem Turn.cell {lo hi : Nat} {a b : World} (h : Turn lo hi a b) {k o : Nat} (hk : k < a.heap.size) (hr : k < lo ∨ hi ≤ k) : b.cell? ⟨k, o, none⟩ = a.cell? ⟨k, o, none⟩ := World.cell?_of_block (a := ⟨k, o, none⟩) (h.block k hk hr)
/-- Rows outside stay the call's own. -/
theorem Turn.own {lo hi : Nat} {a b : World} (h : Turn lo hi a b) {base n m cap g : Nat} {e : TypeId} {xs : List Value} (ho : a.ownsRow base e n (.slice (some ⟨g, 0, none⟩) m cap) m xs) (hr : g < lo ∨ hi ≤ g) : b.ownsRow base e n (.slice (some ⟨g, 0, none⟩) m cap) m xs := by
  have hlt := (ho.lt g rfl).2
  have hbl := h.block g hlt hr
  rcases ho.2 with ⟨h', _⟩ | ⟨g', cap', cur, h', hb, hg, rest⟩
  · simp at h'
  · simp only [Value.slice.injEq, Option.some.injEq, Addr.mk.injEq, and_true, true_and] at h'
    obtain ⟨rfl, rfl⟩ := h'
    exact ⟨ho.1, .inr ⟨g, cap, cur, rfl, hb, hbl.trans hg, rest⟩⟩
theorem Turn.lie {α : Type} {c : α → List Value} {n lo hi : Nat} {w w' : World} {A : Option Addr} {xs : List α} (h : Turn lo hi w w') (hx : Lie c n w A xs) (hr : ∀ b o, A = some ⟨b, o, none⟩ → b < lo ∨ hi ≤ b) : Lie c n w' A xs := fun h0 => by
  obtain ⟨b, off, rfl, hlt, hc⟩ := hx h0
  exact ⟨b, off, rfl, Nat.lt_of_lt_of_le hlt h.size, fun i x hx j u hu => (h.cell hlt (hr b off rfl)).trans (hc i x hx j u hu)⟩

mutual
  /-- How many marks. -/
  def wT : Tr → Nat
    | .mk _ _ _ ps ks => 3 + 4 * ps.length + wL ks
  def wL : List Tr → Nat
    | [] => 0
    | x :: xs => wT x + wL xs
end
mutual
  def markT : Tr → Nat → Tr
    | .mk _ _ _ ps ks, k => .mk (k : Nat) (k + 1 : Nat) (markB (k + 2)) (markPr ps.length (k + 3)) (markL ks (k + 3 + 4 * ps.length))
  def markL : List Tr → Nat → List Tr
    | [], _ => []
    | x :: xs, k => markT x k :: markL xs (k + wT x)
end
theorem wT_eq (t : Tr) : wT t = 3 + 4 * t.ps.length + wL t.ks := by obtain ⟨_, _, _, _, _⟩ := t; simp only [wT, Tr.ps, Tr.ks]
theorem markT_eq (t : Tr) (k : Nat) : markT t k = .mk (k : Nat) (k + 1 : Nat) (markB (k + 2)) (markPr t.ps.length (k + 3)) (markL t.ks (k + 3 + 4 * t.ps.length)) := by obtain ⟨_, _, _, _, _⟩ := t; simp only [markT, Tr.ps, Tr.ks]
theorem markT_ps (t : Tr) (k : Nat) : (markT t k).ps = markPr t.ps.length (k + 3) := by rw [markT_eq]; rfl
theorem markT_ks (t : Tr) (k : Nat) : (markT t k).ks = markL t.ks (k + 3 + 4 * t.ps.length) := by rw [markT_eq]; rfl
theorem markT_tag (t : Tr) (k : Nat) : (markT t k).tag = ((k : Nat) : Int) := by rw [markT_eq]; rfl
theorem markT_key (t : Tr) (k : Nat) : (markT t k).key = ((k + 1 : Nat) : Int) := by rw [markT_eq]; rfl
theorem markT_text (t : Tr) (k : Nat) : (markT t k).text = markB (k + 2) := by rw [markT_eq]; rfl
theorem markL_len : ∀ (xs : List Tr) (k : Nat), (markL xs k).length = xs.length
  | [], _ => by simp [markL]
  | x :: xs, k => by simp only [markL, List.length_cons, markL_len xs]
theorem wT_le : ∀ t, (wT t : Int) ≤ 3 + 4 * szT t := Tr.by_kids fun t ih => by
  have hl : ∀ ks : List Tr, (∀ x ∈ ks, (wT x : Int) ≤ 3 + 4 * szT x) → (wL ks : Int) ≤ 3 * ks.length + 4 * szL ks := by
    intro ks
    induction ks with
    | nil => intro _; simp [wL, szL]
    | cons x xs ihx =>
      intro h
      have h1 := h x (by simp)
      have h2 := ihx (fun y hy => h y (List.mem_cons_of_mem _ hy))
      simp only [wL, szL, List.length_cons]
      omega
  have h1 := hl t.ks ih
  have h2 := szPrs_pos t.ps
  rw [wT_eq, szT_eq]
  omega
theorem wL_drop {xs : List Tr} {j : Nat} {x : Tr} (h : xs[j]? = some x) : wL (xs.drop j) = wT x + wL (xs.drop (j + 1)) := by rw [drop_cons h]; simp only [wL]
theorem set_take {ys zs : List Tr} {j : Nat} {y : Tr} (h1 : ys.take j = zs.take j) (h2 : zs[j]? = some y) (h3 : j < ys.length) : (ys.set j y).take (j + 1) = zs.take (j + 1) := by
  apply List.ext_getElem?
  intro i
  rw [List.getElem?_take, List.getElem?_take]
  by_cases hi : i < j + 1
  · rw [if_pos hi, if_pos hi]
    by_cases hij : i = j
    · subst hij
      rw [List.getElem?_set_self h3, h2]
    · rw [List.getElem?_set_ne (fun e => hij e.symm)]
      have e := congrArg (fun l => l[i]?) h1
      simp only [List.getElem?_take, if_pos (show i < j by omega)] at e
      exact e
  · rw [if_neg hi, if_neg hi]
theorem set_drop {ys : List Tr} {j : Nat} (y : Tr) : (ys.set j y).drop (j + 1) = ys.drop (j + 1) := by
  apply List.ext_getElem?
  intro i
  rw [List.getElem?_drop, List.getElem?_drop, List.getElem?_set_ne (by omega)]
theorem KdO.step {w w5 : World} {m hi j g c1 : Nat} {hdr : Nat → List Value} {P Q : Nat → Nat} {ys : List Tr} {y : Tr} {cs L5 : List Value} (h : KdO w m hi (some ⟨g, 0, none⟩) c1 hdr P Q ys) (hj : j < ys.length)
    (hrow : w5.ownsRow 0 26 5 (.slice (some ⟨g, 0, none⟩) ys.length c1) ys.length L5) (hL5 : ∀ i, i < ys.length → i ≠ j → ∀ q, q < 5 → L5[i * 5 + q]? = (hdr i)[q]?) (hLj : ∀ q, q < 5 → L5[j * 5 + q]? = cs[q]?)
    (hk : TrO w5 (P j) (Q j) cs y) (hb : ∀ b, m ≤ b → b < hi → b ≠ g → (b < P j ∨ Q j ≤ b) → w5.heap[b]? = w.heap[b]?) : KdO w5 m hi (some ⟨g, 0, none⟩) c1 (fun i => if i = j then cs else hdr i) P Q (ys.set j y) := by
  obtain ⟨g', L, e, r1, r2, r3, _, _⟩ := h.row (by omega)
  simp only [Option.some.injEq, Addr.mk.injEq, and_true] at e
  subst e
  refine ⟨fun _ => ⟨g, L5, rfl, r1, r2, fun i hi => r3 i (by simpa using hi), by rw [List.length_set]; exact hrow, fun i hi q hq => ?_⟩, fun i hi => h.inn i (by simpa using hi), fun i k hik hk => h.apart i k hik (by simpa using hk), fun i x hx => ?_⟩
  · by_cases hij : i = j
    · subst hij
      rw [if_pos rfl]
      exact hLj q hq
    · rw [if_neg hij]
      exact hL5 i (by simpa using hi) hij q hq
  · by_cases hij : i = j
    · subst hij
      rw [if_pos rfl]
      rw [List.getElem?_set_self hj] at hx
      injection hx with hx
      subst hx
      exact hk
    · rw [if_neg hij]
      rw [List.getElem?_set_ne (fun e => hij e.symm)] at hx
      have hi := (List.getElem?_eq_some_iff.1 hx).1
      obtain ⟨q1, q2, q3⟩ := h.inn i hi
      have r4 := r3 i hi
      refine (h.kid i x hx).kept fun b hb1 hb2 => hb b (by omega) (by omega) (by omega) ?_
      rcases (by omega : i < j ∨ j < i) with h1 | h1
      · have := h.apart i j h1 hj
        omega
      · have := h.apart j i h1 hi
        omega
/-- Props marked, in a row of their own. -/
theorem markProps_own (lo m k n c : Nat) (A : Option Addr) (ps : List Pr) (w : World) (hp : PrO w lo m A c ps) (hn : ps.length = n) (hl : n ≤ 1048576) (hk : k ≤ 50000000) (hk0 : 0 < k) :
    Calls Tryd.prog 74 #[.slice A n c, .int .i64 k] w fun e w' => e = .returned (.int .i64 (k + 4 * n : Nat)) ∧ PrO w' lo m A c (markPr n k) ∧ Turn lo m w w' := by
  rcases Nat.eq_zero_or_pos n with rfl | h0
  · refine (markProps_nil A c k w).mono ?_
    rintro e w' ⟨rfl, rfl⟩
    exact ⟨by simp, fun h => absurd h (by simp [markPr]), Turn.refl _ _ _⟩
  · obtain ⟨g, rfl, a, b, ho⟩ := hp (by omega)
    rw [hn] at ho
    refine (markProps_any g c 0 k n _ w ho hl hk hk0).mono ?_
    rintro e w' ⟨rfl, ho, hg⟩
    exact ⟨rfl, fun _ => ⟨g, rfl, a, b, by rw [markPr_len]; exact ho⟩, Turn.of_grown hg a b⟩
def MksX (m hi : Nat) (A : Option Addr) (c : Nat) (P Q : Nat → Nat) (ks : List Tr) (k : Nat) (w : World) (e : Ending) (w' : World) : Prop :=
  e = .returned (.int .i64 (k + wL ks : Nat)) ∧ (∃ hdr, KdO w' m hi A c hdr P Q (markL ks k)) ∧ Turn m hi w w'
def MkS (ks : List Tr) : Prop := ∀ (m hi c k n : Nat) (A : Option Addr) (hdr : Nat → List Value) (P Q : Nat → Nat) (w : World), KdO w m hi A c hdr P Q ks → ks.length = n → hi ≤ w.heap.size → 0 < k → k + wL ks ≤ 50000000 →
  Calls Tryd.prog 75 #[.slice A n c, .int .i64 k] w (MksX m hi A c P Q ks k w)
set_option maxRecDepth 100000 in
set_option maxHeartbeats 4000000 in
theorem markTrees_of (xs : List Tr) (IH : ∀ x ∈ xs, MkS x.ks) (hbd : ∀ x ∈ xs, BdT x) (hl : xs.length ≤ 1048576) : MkS xs := by
  intro m hi c k n A hdr P Q w hkd hn hhi hk0 hkb
  have HN := Lib.hid hn
  have HI := Lib.hid IH
  have HD := Lib.hid hbd
  have HK := Lib.hid hkb
  have HH := Lib.hid hkd
  rw [hn] at hl
  clear hn IH hbd hkb hkd
  go_enter Tryd.func75, Tryd.ntmps75
  go_wp2_with fail
  go_loopw [1, 5] (fun mm i wr => ∃ (j q : Nat) (ys : List Tr) (hdr : Nat → List Value), j ≤ n ∧ i = .int .i64 j ∧ mm = .int .i64 q ∧ 0 < q ∧ Hid (q + wL (xs.drop j) = k + wL xs) ∧ Hid ((markL xs k).drop j = markL (xs.drop j) q) ∧ Hid (ys.length = n ∧ ys.take j = (markL xs k).take j ∧ ys.drop j = xs.drop j) ∧
    Hid (KdO wr m hi A c hdr P Q ys) ∧ Hid (Turn m hi w wr)) (fun _ i _ => n - (intOf i).toNat)
  case atStart => exact ⟨0, k, xs, hdr, by omega, rfl, rfl, hk0, Lib.hid rfl, Lib.hid rfl, Lib.hid ⟨HN.out, rfl, rfl⟩, HH, Lib.hid (Turn.refl _ _ _)⟩
  case round =>
    obtain ⟨j, q, ys, hdr, hj, rfl, rfl, hq0, HQ, HM, HY, HKD, HT⟩ := hrel
    by_cases hlt : j < n
    · obtain ⟨x, hx⟩ := at_some (show j < xs.length by rw [HN.out]; exact hlt)
      have hdc := drop_cons hx
      have hyl : ys.length = n := HY.out.1
      have hyx : ys[j]? = some x := by
        have e : (ys.drop j)[0]? = some x := by rw [HY.out.2.2, hdc]; rfl
        rw [List.getElem?_drop] at e
        exact e
      have HQ2 := Lib.hid (show q + wT x + wL (xs.drop (j + 1)) = k + wL xs by have := HQ.out; rw [hdc] at this; simp only [wL] at this; omega)
      have HM2 := Lib.hid (show (markL xs k).drop j = markT x q :: markL (xs.drop (j + 1)) (q + wT x) by rw [HM.out, hdc]; simp only [markL])
      obtain ⟨hp1, hp3, _⟩ := (HD.out x (List.mem_of_getElem? hx)).open_
      have hih := HI.out x (List.mem_of_getElem? hx)
      have hqb : q + 3 + 4 * x.ps.length + wL x.ks ≤ 50000000 := by have := HQ2.out; have := HK.out; rw [wT_eq] at *; omega
      obtain ⟨g, L, rfl, r1, r2, r3, hown, hLh⟩ := HKD.out.row (by omega)
      have hgP := r3 j (by omega)
      obtain ⟨i1, i2, i3⟩ := HKD.out.inn j (by omega)
      obtain ⟨m2, A0, c0, A1, c1, hdr2, P2, Q2, hm1, hm2, hcs, hpr, hkd2⟩ := (HKD.out.kid j x hyx).open_
      rw [hyl] at hown
      have hLl : L.length = n * 5 := hown.1
      have hh := hLh j (by omega)
      rw [hcs] at hh
      have e3 := (hown.cellAt (j * 5 + 3) (by omega)).trans (hh 3 (by omega))
      have e4 := (hown.cellAt (j * 5 + 4) (by omega)).trans (hh 4 (by omega))
      simp only [List.getElem?_cons_succ, List.getElem?_cons_zero] at e3 e4
      have HO2 := Lib.hid hown
      have hgw : g < wr.heap.size := (hown.lt g rfl).2
      have hhr : hi ≤ wr.heap.size := Nat.le_trans hhi HT.out.size
      obtain ⟨u0, d0⟩ : ∃ u, wr.cell? ⟨g, j * 5, none⟩ = some u := ⟨_, (HO2.out.cellAt (j * 5) (by omega)).trans (List.getElem?_eq_getElem (show j * 5 < L.length by omega))⟩
      have f0 := HO2.out.frozenAt (j * 5)
      obtain ⟨u1, d1⟩ : ∃ u, wr.cell? ⟨g, j * 5 + 1, none⟩ = some u := ⟨_, (HO2.out.cellAt (j * 5 + 1) (by omega)).trans (List.getElem?_eq_getElem (show j * 5 + 1 < L.length by omega))⟩
      have f1 := HO2.out.frozenAt (j * 5 + 1)
      have HLH := Lib.hid (fun i hi => hLh i (by omega : i < ys.length))
      have HCS := Lib.hid hcs
      have HPR := Lib.hid hpr
      have HKD2 := Lib.hid hkd2
      have HX := Lib.hid hx
      have HYX := Lib.hid hyx
      have HIH := Lib.hid hih
      have HLl := Lib.hid hLl
      obtain ⟨np, hnp⟩ : ∃ u, x.ps.length = u := ⟨_, rfl⟩
      obtain ⟨nk, hnk⟩ : ∃ u, x.ks.length = u := ⟨_, rfl⟩
      rw [hnp] at e3 hp1 hqb
      rw [hnk] at e4 hp3
      have HNP := Lib.hid hnp
      have HNK := Lib.hid hnk
      obtain ⟨wk, hwk⟩ : ∃ u, wL x.ks = u := ⟨_, rfl⟩
      rw [hwk] at hqb
      have HWK := Lib.hid hwk
      clear hx hyx hdc hown hcs hh hpr hkd2 hih hnp hnk hwk hLh hLl r3 HH
      go_wp2_with fail
      obtain ⟨s1, g1⟩ := HO2.out.stored (j * 5) (.int .i64 q)
      obtain ⟨s2, g2⟩ := s1.stored (j * 5 + 1) (.int .i64 (q + 1 : Nat))
      have HS2 := Lib.hid s2
      have HG2 := Lib.hid (grown_trans g1 g2)
      clear s1 s2 g1 g2
      refine (markText_any (q + 2) _ (by omega) (by omega)).mono ?_
      rintro e w2 ⟨rfl, hb⟩
      have hO3 := ownsRow_below HS2.out hb
      obtain ⟨u2, d2⟩ : ∃ u, w2.cell? ⟨g, j * 5 + 2, none⟩ = some u := ⟨_, (hO3.cellAt (j * 5 + 2) (by omega)).trans (List.getElem?_eq_getElem (show j * 5 + 2 < _ by have := HLl.out; simp only [List.length_set]; omega))⟩
      have f2 := hO3.frozenAt (j * 5 + 2)
      obtain ⟨s3, g3⟩ := hO3.stored (j * 5 + 2) (.string (markB (q + 2)))
      have hG3 := grown_trans (grown_trans HG2.out (grown_of_below hb _)) g3
      have a3 : (w2.setCell ⟨g, j * 5 + 2, none⟩ (.string (markB (q + 2)))).cell? ⟨g, j * 5 + 3, none⟩ = some (.slice A0 np c0) := (s3.cellAt (j * 5 + 3) (by omega)).trans (by rw [List.getElem?_set_ne (by omega), List.getElem?_set_ne (by omega), List.getElem?_set_ne (by omega), ← HO2.out.cellAt (j * 5 + 3) (by omega)]; exact e3)
      have a4 : (w2.setCell ⟨g, j * 5 + 2, none⟩ (.string (markB (q + 2)))).cell? ⟨g, j * 5 + 4, none⟩ = some (.slice A1 nk c1) := (s3.cellAt (j * 5 + 4) (by omega)).trans (by rw [List.getElem?_set_ne (by omega), List.getElem?_set_ne (by omega), List.getElem?_set_ne (by omega), ← HO2.out.cellAt (j * 5 + 4) (by omega)]; exact e4)
      clear hO3 hb d0 d1 f0 f1 e3 e4
      have HS3 := Lib.hid s3
      have HG3 := Lib.hid hG3
      clear s3 g3 hG3
      go_wp2_with fail
      obtain ⟨w3, hw3⟩ : ∃ v, w2.setCell ⟨g, j * 5 + 2, none⟩ (.string (markB (q + 2))) = v := ⟨_, rfl⟩
      rw [hw3] at a3 a4 HS3 HG3 ⊢
      clear hw3 d2 f2
      have hs3 := HG3.out.size
      have hfar : ∀ b, b < wr.heap.size → b ≠ g → w3.heap[b]? = wr.heap[b]? := fun b h1 h2 => HG3.out.block b h1 (fun e => h2 (Option.some.inj e))
      have HPR3 := Lib.hid (HPR.out.kept (w' := w3) (fun b h1 h2 => hfar b (by omega) (by omega)))
      have HKD3 := Lib.hid (HKD2.out.kept (w' := w3) (fun b h1 h2 => hfar b (by omega) (by omega)))
      have HFAR := Lib.hid hfar
      clear hfar HPR HKD2
      refine (markProps_own (P j) m2 (q + 3) np c0 A0 x.ps _ HPR3.out HNP.out hp1 (by omega) (by omega)).mono ?_
      rintro e w4 ⟨rfl, hpr4, ht4⟩
      have hgw3 : g < w3.heap.size := by omega
      replace a4 := (World.cell?_of_block (a := ⟨g, j * 5 + 4, none⟩) (ht4.block g hgw3 (by omega))).trans a4
      have HS4 := Lib.hid (ht4.own HS3.out (by omega))
      have HKD4 := Lib.hid (HKD3.out.kept (w' := w4) (fun b h1 h2 => ht4.block b (by omega) (by omega)))
      have HPR4 := Lib.hid hpr4
      have HT4 := Lib.hid ht4
      have hs4 := ht4.size
      clear hpr4 ht4 a3 HPR3 HS3 HKD3
      go_wp2_with fail
      refine (HIH.out m2 (Q j) c1 (q + 3 + 4 * np) nk A1 hdr2 P2 Q2 _ HKD4.out HNK.out (by omega) (by omega) (by rw [HWK.out]; omega)).mono ?_
      rintro e w5 ⟨rfl, ⟨hdr3, hkd5⟩, ht5⟩
      have hr5 := ht5.own HS4.out (by omega)
      have HPR5 := Lib.hid (HPR4.out.kept (w' := w5) (fun b h1 h2 => ht5.block b (by omega) (by omega)))
      have HKD5 := Lib.hid hkd5
      have HT5 := Lib.hid ht5
      have HR5 := Lib.hid hr5
      rw [HWK.out]
      clear hkd5 ht5 hr5 a4 HPR4 HS4 HKD4
      go_wp2_with fail
      go_roundw
      case rel =>
        have hwt : q + 3 + 4 * np + wk = q + wT x := by rw [wT_eq, HNP.out, HWK.out]; omega
        have hto : TrO w5 (P j) (Q j) [.int .i64 (q : Nat), .int .i64 (q + 1 : Nat), .string (markB (q + 2)), .slice A0 np c0, .slice A1 nk c1] (markT x q) := by
          have h := TrO.shut (t := markT x q) (w := w5) (lo := P j) (m := m2) (hi := Q j) (A0 := A0) (c0 := c0) (A1 := A1) (c1 := c1) (hdr := hdr3) (P := P2) (Q := Q2) hm1 hm2 (by rw [markT_ps, HNP.out]; exact HPR5.out) (by rw [markT_ks, HNP.out]; exact HKD5.out)
          rw [markT_tag, markT_key, markT_text, markT_ps, markT_ks, markPr_len, markL_len, HNP.out, HNK.out] at h
          exact h
        refine ⟨j + 1, q + 3 + 4 * np + wk, ys.set j (markT x q), fun i => if i = j then [.int .i64 (q : Nat), .int .i64 (q + 1 : Nat), .string (markB (q + 2)), .slice A0 np c0, .slice A1 nk c1] else hdr i, by omega, by go_num, by go_num, by omega, Lib.hid (by rw [hwt]; exact HQ2.out), Lib.hid ?_, Lib.hid ⟨by rw [List.length_set]; exact HY.out.1, set_take HY.out.2.1 ?_ (by omega), by rw [set_drop]; have := HY.out.2.2; rw [drop_cons HX.out, drop_cons HYX.out] at this; injection this⟩, Lib.hid ?_, Lib.hid ?_⟩
        · have e := HM2.out
          rw [hwt]
          have e2 := congrArg (List.drop 1) e
          rw [List.drop_drop] at e2
          simpa [Nat.add_comm] using e2
        · have e := congrArg (fun l => l[0]?) HM2.out
          simp only [List.getElem?_drop, List.getElem?_cons_zero, Nat.add_zero] at e
          exact e
        · refine KdO.step (L5 := ((L.set (j * 5) (.int .i64 q)).set (j * 5 + 1) (.int .i64 (q + 1 : Nat))).set (j * 5 + 2) (.string (markB (q + 2)))) HKD.out (by omega) (by rw [hyl]; exact HR5.out) (fun i hi hij qq hqq => ?_) (fun qq hqq => ?_) hto (fun b h1 h2 h3 h4 => ?_)
          · rw [List.getElem?_set_ne (by omega), List.getElem?_set_ne (by omega), List.getElem?_set_ne (by omega)]
            exact HLH.out i (by omega) qq hqq
          · have hl5 := HLl.out
            have hh := HLH.out j (by omega)
            rw [HCS.out, HNP.out, HNK.out] at hh
            match qq, hqq with
            | 0, _ => (repeat (rw [List.getElem?_set_ne (by omega)])); rw [show j * 5 + 0 = j * 5 from rfl, List.getElem?_set_self (by first | omega | (simp; omega))]; rfl
            | 1, _ => (repeat (rw [List.getElem?_set_ne (by omega)])); rw [List.getElem?_set_self (by first | omega | (simp; omega))]; rfl
            | 2, _ => rw [List.getElem?_set_self (by first | omega | (simp; omega))]; rfl
            | 3, _ => rw [List.getElem?_set_ne (by omega), List.getElem?_set_ne (by omega), List.getElem?_set_ne (by omega)]; exact hh 3 (by omega)
            | 4, _ => rw [List.getElem?_set_ne (by omega), List.getElem?_set_ne (by omega), List.getElem?_set_ne (by omega)]; exact hh 4 (by omega)
          · exact (HT5.out.block b (by omega) (by omega)).trans ((HT4.out.block b (by omega) (by omega)).trans (HFAR.out b (by omega) h3))
        · exact HT.out.trans ((Turn.of_grown HG3.out r1 r2).trans ((HT4.out.mono i1 (by omega)).trans (HT5.out.mono (by omega) i3)))
      case measure => simp [intOf]; omega
    · obtain rfl : j = n := by omega
      have e : ys = markL xs k := by
        have h := HY.out.2.1
        rw [List.take_of_length_le (by rw [HY.out.1]; exact Nat.le_refl _), List.take_of_length_le (by rw [markL_len, HN.out]; exact Nat.le_refl _)] at h
        exact h
      have hq := HQ.out
      rw [List.drop_eq_nil_of_le (by rw [HN.out]; exact Nat.le_refl _)] at hq
      simp only [wL, Nat.add_zero] at hq
      subst hq
      subst e
      go_wp2_with fail
      go_ret
      exact ⟨rfl, ⟨hdr, HKD.out⟩, HT.out⟩
theorem markTrees_any (t : Tr) : BdT t → MkS t.ks := by
  induction t using Tr.by_kids with
  | h t ih =>
  intro hbd
  obtain ⟨_, h2, h3⟩ := hbd.open_
  exact markTrees_of t.ks (fun x hx => ih x hx (h3 x hx)) h3 h2
/-- A tree marked. -/
def MktX (lo hi : Nat) (A0 A1 : Option Addr) (c0 c1 : Nat) (t : Tr) (k : Nat) (w : World) (e : Ending) (w' : World) : Prop :=
  e = .returned (.int .i64 (k + 4 * t.ps.length + wL t.ks : Nat)) ∧ (∃ (m : Nat) (hdr : Nat → List Value) (P Q : Nat → Nat), lo ≤ m ∧ m ≤ hi ∧ PrO w' lo m A0 c0 (markPr t.ps.length k) ∧ KdO w' m hi A1 c1 hdr P Q (markL t.ks (k + 4 * t.ps.length))) ∧ Turn lo hi w w'
set_option maxRecDepth 100000 in
set_option maxHeartbeats 2000000 in
theorem markTree_any (t : Tr) (hbd : BdT t) (lo hi k c0 c1 : Nat) (A0 A1 : Option Addr) (w : World) (h : TrO w lo hi [.int .i64 t.tag, .int .i64 t.key, .string t.text, .slice A0 t.ps.length c0, .slice A1 t.ks.length c1] t) (hhi : hi ≤ w.heap.size) (hk0 : 0 < k) (hk : k + 4 * t.ps.length + wL t.ks ≤ 50000000) :
    Calls Tryd.prog 41 #[.agg #[.int .i64 t.tag, .int .i64 t.key, .string t.text, .slice A0 t.ps.length c0, .slice A1 t.ks.length c1], .int .i64 k] w (MktX lo hi A0 A1 c0 c1 t k w) := by
  obtain ⟨m, A0', c0', A1', c1', hdr, P, Q, h1, h2, e, hp, hkd⟩ := h.open_
  simp only [List.cons.injEq, Value.slice.injEq, and_true, true_and] at e
  obtain ⟨⟨rfl, rfl⟩, rfl, rfl⟩ := e
  obtain ⟨b1, b2, b3⟩ := hbd.open_
  have hm := markTrees_any t hbd
  have HT := Lib.hid (show ∀ e w', e = .returned (.int .i64 (k + 4 * t.ps.length + wL t.ks : Nat)) → (∃ (m : Nat) (hdr : Nat → List Value) (P Q : Nat → Nat), lo ≤ m ∧ m ≤ hi ∧ PrO w' lo m A0 c0 (markPr t.ps.length k) ∧ KdO w' m hi A1 c1 hdr P Q (markL t.ks (k + 4 * t.ps.length))) → Turn lo hi w w' → MktX lo hi A0 A1 c0 c1 t k w e w' from fun e w' a b c => ⟨a, b, c⟩)
  obtain ⟨X, hX⟩ : ∃ X, MktX lo hi A0 A1 c0 c1 t k w = X := ⟨_, rfl⟩
  rw [hX] at HT ⊢
  have HP := Lib.hid hp
  have HK := Lib.hid hkd
  have HM := Lib.hid hm
  clear hX h hp hkd hm hbd b3
  obtain ⟨tag, key, text, ps, ks⟩ := t
  dsimp only [Tr.tag, Tr.key, Tr.text, Tr.ps, Tr.ks] at *
  obtain ⟨np, hnp⟩ : ∃ u, ps.length = u := ⟨_, rfl⟩
  obtain ⟨nk, hnk⟩ : ∃ u, ks.length = u := ⟨_, rfl⟩
  obtain ⟨wk, hwk⟩ : ∃ u, wL ks = u := ⟨_, rfl⟩
  rw [hnp] at b1 hk HT ⊢
  rw [hnk] at b2 ⊢
  rw [hwk] at hk HT
  have HNP := Lib.hid hnp
  have HNK := Lib.hid hnk
  have HWK := Lib.hid hwk
  clear hnp hnk hwk
  have hb0 := Below.alloc (Below.refl w.heap.size w) (Nat.le_refl _) (.cells #[.int .i64 tag, .int .i64 key, .string text, .slice A0 np c0, .slice A1 nk c1] 26)
  have o3 : (w.alloc (.cells #[.int .i64 tag, .int .i64 key, .string text, .slice A0 np c0, .slice A1 nk c1] 26)).cell? ⟨w.heap.size, 3, none⟩ = some (.slice A0 np c0) := by go_simp
  have o4 : (w.alloc (.cells #[.int .i64 tag, .int .i64 key, .string text, .slice A0 np c0, .slice A1 nk c1] 26)).cell? ⟨w.heap.size, 4, none⟩ = some (.slice A1 nk c1) := by go_simp
  have hsz : w.heap.size < (w.alloc (.cells #[.int .i64 tag, .int .i64 key, .string text, .slice A0 np c0, .slice A1 nk c1] 26)).heap.size := by simp
  have HB0 := Lib.hid hb0
  obtain ⟨wb, hwb⟩ : ∃ v, w.alloc (.cells #[.int .i64 tag, .int .i64 key, .string text, .slice A0 np c0, .slice A1 nk c1] 26) = v := ⟨_, rfl⟩
  rw [hwb] at o3 o4 hsz HB0
  have HWB := Lib.hid hwb
  clear hb0 hwb
  have HP0 := Lib.hid (HP.out.kept (w' := wb) (fun b h3 h4 => HB0.out.block b (by omega)))
  have HK0 := Lib.hid (HK.out.kept (w' := wb) (fun b h3 h4 => HB0.out.block b (by omega)))
  go_enter Tryd.func41, Tryd.ntmps41
  go_wp2_with fail
  rw [HWB.out]
  refine (markProps_own lo m k np c0 A0 ps _ HP0.out HNP.out b1 (by omega) hk0).mono ?_
  rintro e w1 ⟨rfl, hp1, ht1⟩
  replace o4 := (World.cell?_of_block (a := ⟨w.heap.size, 4, none⟩) (ht1.block w.heap.size hsz (by omega))).trans o4
  have hs1 := ht1.size
  have HK1 := Lib.hid (HK0.out.kept (w' := w1) (fun b h3 h4 => ht1.block b (by omega) (by omega)))
  have HP1 := Lib.hid hp1
  have HT1 := Lib.hid ht1
  clear hp1 ht1 HWB o3
  go_wp2_with fail
  refine (HM.out m hi c1 (k + 4 * np) nk A1 hdr P Q _ HK1.out HNK.out (by omega) (by omega) (by rw [HWK.out]; omega)).mono ?_
  rintro e w2 ⟨rfl, ⟨hdr2, hk2⟩, ht2⟩
  have HK2 := Lib.hid hk2
  have HP2 := Lib.hid (HP1.out.kept (w' := w2) (fun b h3 h4 => ht2.block b (by omega) (by omega)))
  have HT2 := Lib.hid ht2
  rw [HWK.out]
  clear hk2 ht2 o4
  go_wp2_with fail
  exact HT.out _ _ (by simp) ⟨m, hdr2, P, Q, h1, h2, HP2.out, HK2.out⟩ ((Turn.of_below HB0.out).trans ((HT1.out.mono (Nat.le_refl _) h2).trans (HT2.out.mono h1 (Nat.le_refl _))))
end Go.Proofs.YtpkhpaioddommaaDoor
