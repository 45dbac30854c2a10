/- Histories: the document's copies of rows of stores. -/
import Derived.Test.YtkofajjlkhamkaaHso9
namespace Go.Proofs.Ytkofajjlkhamkaa
open Go.Joins Go.ChangeShapes Go.WideShapes Go.ChangeAt Go.RowKit Go.Deep
set_option linter.unusedVariables false
set_option linter.unusedSimpArgs false

/-- A row of stores of the call's own, by the headers. -/
def OwnSt (w : World) (base b c n : Nat) (L : List Value) : Prop := w.ownsRow base 27 1 (.slice (some ⟨b, 0, none⟩) n c) n L
/-- A store of the call's own. -/
def StI (w : World) (lo b c : Nat) (xs : List Ce) : Prop := ∃ L, OwnC w lo b c xs.length L ∧ StoW w lo L xs
def RowSt (w : World) (lo : Nat) (L : List Value) (i : Nat) (xs : List Ce) : Prop := ∃ b c, L[i]? = some (.slice (some ⟨b, 0, none⟩) xs.length c) ∧ StI w lo b c xs
def StsW (w : World) (lo : Nat) (L : List Value) (xss : List (List Ce)) : Prop := ∀ i xs, xss[i]? = some xs → RowSt w lo L i xs
def SsI (w : World) (lo b c : Nat) (xss : List (List Ce)) : Prop := ∃ L, OwnSt w lo b c xss.length L ∧ StsW w lo L xss
theorem StI.below {w w' : World} {lo b c : Nat} {xs : List Ce} (h : StI w lo b c xs) (hb : Below w.heap.size w w') : StI w' lo b c xs := by
  obtain ⟨L, h1, h2⟩ := h
  exact ⟨L, ownsRow_below h1 hb, h2.below hb⟩
theorem StI.mono {w : World} {lo lo' b c : Nat} {xs : List Ce} (h : StI w lo b c xs) (hl : lo' ≤ lo) : StI w lo' b c xs := by
  obtain ⟨L, h1, h2⟩ := h
  exact ⟨L, World.ownsRow.mono h1 hl, h2.mono hl⟩
theorem StI.grownS {w w' : World} {lo b c base b3 c3 n3 : Nat} {M : List Value} {xs : List Ce} (h : StI w lo b c xs) (hg : w.grownBy w' (some b3)) (ho : OwnSt w base b3 c3 n3 M) : StI w' lo b c xs := by
  obtain ⟨L, h1, h2⟩ := h
  refine ⟨L, World.ownsRow.kept h1 hg (.inr (by simpa [Value.ownBlock] using row_ne h1 ho (by decide))), fun i x hx => ?_⟩
  obtain ⟨g0, c0, g1, c1, a, b, hc⟩ := h2 i x hx
  exact ⟨g0, c0, g1, c1, a, b, ⟨hc.pl.kept hg (.inr (by simpa [Value.ownBlock] using row_ne hc.pl ho (by decide))), hc.st.kept hg (.inr (by simpa [Value.ownBlock] using row_ne hc.st ho (by decide)))⟩⟩
theorem StI.turn {w w' : World} {lo b c l2 h2 : Nat} {xs : List Ce} (h : StI w lo b c xs) (ht : Turn l2 h2 w w') (hr : h2 ≤ lo) : StI w' lo b c xs := by
  obtain ⟨L, h1, h3⟩ := h
  refine ⟨L, ht.own h1 (.inr (by have := (World.ownsRow.lt h1 b rfl).1; omega)), fun i x hx => ?_⟩
  obtain ⟨g0, c0, g1, c1, a, b, hc⟩ := h3 i x hx
  exact ⟨g0, c0, g1, c1, a, b, ⟨ht.own hc.pl (.inr (by have := (World.ownsRow.lt hc.pl g0 rfl).1; omega)), ht.own hc.st (.inr (by have := (World.ownsRow.lt hc.st g1 rfl).1; omega))⟩⟩
theorem StI.cel {w : World} {lo b c : Nat} {xs : List Ce} (h : StI w lo b c xs) (hs : SmallC xs) : CeL w (some ⟨b, 0, none⟩) xs ∧ xs.length ≤ c := by
  obtain ⟨L, h1, h2⟩ := h
  exact ⟨(CeN.of_sto h1 h2 rfl hs).cel, row_cap h1⟩
theorem StsW.below {w w' : World} {lo : Nat} {L : List Value} {xss : List (List Ce)} (h : StsW w lo L xss) (hb : Below w.heap.size w w') : StsW w' lo L xss := fun i xs hx => by
  obtain ⟨b, c, e, h⟩ := h i xs hx
  exact ⟨b, c, e, h.below hb⟩
theorem SsI.below {w w' : World} {lo b c : Nat} {xss : List (List Ce)} (h : SsI w lo b c xss) (hb : Below w.heap.size w w') : SsI w' lo b c xss := by
  obtain ⟨L, h1, h2⟩ := h
  exact ⟨L, ownsRow_below h1 hb, h2.below hb⟩
theorem SsI.grownS {w w' : World} {lo b c base b3 c3 n3 : Nat} {M : List Value} {xss : List (List Ce)} (h : SsI w lo b c xss) (hg : w.grownBy w' (some b3)) (ho : OwnSt w base b3 c3 n3 M) (hne : b ≠ b3) : SsI w' lo b c xss := by
  obtain ⟨L, h1, h2⟩ := h
  refine ⟨L, World.ownsRow.kept h1 hg (.inr (by simpa [Value.ownBlock] using hne)), fun i xs hx => ?_⟩
  obtain ⟨b, c, e, h⟩ := h2 i xs hx
  exact ⟨b, c, e, h.grownS hg ho⟩
theorem SsI.turn {w w' : World} {lo b c l2 h2 : Nat} {xss : List (List Ce)} (h : SsI w lo b c xss) (ht : Turn l2 h2 w w') (hr : h2 ≤ lo) : SsI w' lo b c xss := by
  obtain ⟨L, h1, h3⟩ := h
  refine ⟨L, ht.own h1 (.inr (by have := (World.ownsRow.lt h1 b rfl).1; omega)), fun i xs hx => ?_⟩
  obtain ⟨b, c, e, h⟩ := h3 i xs hx
  exact ⟨b, c, e, h.turn ht hr⟩
theorem SsI.lt {w : World} {lo b c : Nat} {xss : List (List Ce)} (h : SsI w lo b c xss) : lo ≤ b ∧ b < w.heap.size := by
  obtain ⟨L, h1, _⟩ := h
  exact World.ownsRow.lt h1 b rfl
theorem SsI.stl {w : World} {lo b c : Nat} {xss : List (List Ce)} (h : SsI w lo b c xss) (hs : ∀ xs ∈ xss, SmC xs) : StL w (some ⟨b, 0, none⟩) xss ∧ xss.length ≤ c := by
  obtain ⟨L, h1, h2⟩ := h
  refine ⟨fun h0 => ⟨b, 0, rfl, (World.ownsRow.lt h1 b rfl).2, fun i xs hx => ?_⟩, row_cap h1⟩
  obtain ⟨b2, c2, e, h3⟩ := h2 i xs hx
  have hsm := hs xs (List.mem_of_getElem? hx)
  obtain ⟨h4, h5⟩ := h3.cel hsm.2
  refine ⟨_, c2, ?_, h4, by have := hsm.1; unfold maxLen; omega, h5⟩
  rw [Nat.zero_add, World.ownsRow.cellAt h1 i (by have := (List.getElem?_eq_some_iff.1 hx).1; omega)]
  exact e
/-- One more store behind a row. -/
theorem SsI.snoc {w w2 : World} {base b c b2 c2 lo5 b5 c5 : Nat} {xss : List (List Ce)} {z : List Ce} {L : List Value} (h1 : OwnSt w base b c xss.length L) (h2 : StsW w base L xss) (hz : StI w lo5 b5 c5 z) (hlo : base ≤ lo5) (hg : w.grownBy w2 (some b)) (ho : w2.ownsRow base 27 1 (.slice (some ⟨b2, 0, none⟩) (xss.length + 1) c2) (xss.length + 1) (L ++ [.slice (some ⟨b5, 0, none⟩) z.length c5])) : SsI w2 base b2 c2 (xss ++ [z]) := by
  refine ⟨L ++ [.slice (some ⟨b5, 0, none⟩) z.length c5], by unfold OwnSt; rw [List.length_append, List.length_singleton]; exact ho, fun i xs hx => ?_⟩
  have hl : L.length = xss.length * 1 := h1.1
  rw [List.getElem?_append] at hx
  split at hx
  · rename_i hi
    obtain ⟨b', c', e, h3⟩ := h2 i xs hx
    exact ⟨b', c', by rw [List.getElem?_append_left (by omega)]; exact e, h3.grownS hg h1⟩
  · rename_i hi
    have hi2 : i - xss.length = 0 := by
      have := (List.getElem?_eq_some_iff.1 hx).1
      simp at this
      omega
    rw [hi2] at hx
    simp at hx
    subst hx
    exact ⟨b5, c5, by rw [List.getElem?_append_right (by omega), show i - L.length = 0 by omega]; rfl, (hz.grownS hg h1).mono hlo⟩
theorem wp_add_st {w : World} {ops : Array Oper} {rest : List Oper} {o : Oper} {a : Act} {Q : Exit → Act → World → Prop} (hgd : o.guard = none) (s x : Operand)
    (ho : o.op = .call { callee := .builtin .append, args := #[s, x], argTypes := #[28, 28] }) (base b c n : Nat) (xss : List (List Ce)) (hs : a.eval s = .slice (some ⟨b, 0, none⟩) n c) (hn : xss.length = n) (hown : SsI w base b c xss)
    (ad : Addr) (c3 lo5 b5 c5 m : Nat) (z : List Ce) (hm : z.length = m) (hz : StI w lo5 b5 c5 z) (hlo : base ≤ lo5) (hx : a.eval x = .slice (some ad) 1 c3) (hc : w.cell? ad = some (.slice (some ⟨b5, 0, none⟩) m c5)) (hnl : n ≤ 10000) (hbase : base ≤ w.heap.size)
    (h : ∀ b' c' w', SsI w' base b' c' (xss ++ [z]) → w.grownBy w' (some b) → (∃ M, OwnSt w base b c n M) → (b' = b ∨ b' = w.heap.size) → wpList Try.prog ops Q rest (a.put o.dst (.slice (some ⟨b', 0, none⟩) (n + 1) c')) w') :
    wpList Try.prog ops Q (o :: rest) a w := by
  subst hn hm
  obtain ⟨L, h1, h2⟩ := hown
  obtain ⟨i0, hi0, hz0, hz1, hz2⟩ := info_parts infoSt
  have hcc : ∀ j u, [Value.slice (some ⟨b5, 0, none⟩) z.length c5][j]? = some u → w.cell? (ad.add j) = some u := fun j u hu => by
    match j with
    | 0 => simp at hu; subst hu; simpa [Addr.add] using hc
    | j + 1 => simp at hu
  have hoc : ∀ u ∈ [Value.slice (some ⟨b5, 0, none⟩) z.length c5], u.oneCell' = true := fun u hu => by simp at hu; subst hu; rfl
  refine wpList_append_own_at w hgd s x _ ho base 27 i0 _ 1 24 Try.underlying28 hi0 hz0 hz1 hz2 rfl (by omega) _ xss.length L hs h1 ad 1 c3 _ hx rfl hcc hoc (by simp only [maxLen]; omega) (by omega) hbase ?_
  intro v' w' hown' hg hnil hat
  have hform : ∃ b' c', v' = .slice (some ⟨b', 0, none⟩) (xss.length + 1) c' := by
    rcases hown'.2 with ⟨rfl, _⟩ | ⟨g', cap', cur, rfl, _⟩
    · simp [Value.ownBlock] at hat
    · exact ⟨g', cap', rfl⟩
  obtain ⟨b', c', rfl⟩ := hform
  exact h b' c' w' (SsI.snoc h1 h2 hz hlo hg hown') hg ⟨L, h1⟩ (by simpa [Value.ownBlock] using hat)
theorem step_add_st {w : World} {ops : Array Oper} {o : Oper} {a : Act} {K : Act → World → Prop} {Q : Exit → Act → World → Prop} {E : Prop} (hgd : o.guard = none) (s x : Operand)
    (ho : o.op = .call { callee := .builtin .append, args := #[s, x], argTypes := #[28, 28] }) (base b c n : Nat) (xss : List (List Ce)) (hs : a.eval s = .slice (some ⟨b, 0, none⟩) n c) (hn : xss.length = n) (hown : SsI w base b c xss)
    (ad : Addr) (c3 lo5 b5 c5 m : Nat) (z : List Ce) (hm : z.length = m) (hz : StI w lo5 b5 c5 z) (hlo : base ≤ lo5) (hx : a.eval x = .slice (some ad) 1 c3) (hc : w.cell? ad = some (.slice (some ⟨b5, 0, none⟩) m c5)) (hnl : n ≤ 10000) (hbase : base ≤ w.heap.size)
    (h : ∀ b' c' w', SsI w' base b' c' (xss ++ [z]) → w.grownBy w' (some b) → (∃ M, OwnSt w base b c n M) → (b' = b ∨ b' = w.heap.size) → K (a.put o.dst (.slice (some ⟨b', 0, none⟩) (n + 1) c')) w') :
    if Region.wanted o (yielded ops a.tmps) = true then Oper.wp Try.prog o a w K Q else E := by
  subst hn hm
  obtain ⟨L, h1, h2⟩ := hown
  obtain ⟨i0, hi0, hz0, hz1, hz2⟩ := info_parts infoSt
  have hcc : ∀ j u, [Value.slice (some ⟨b5, 0, none⟩) z.length c5][j]? = some u → w.cell? (ad.add j) = some u := fun j u hu => by
    match j with
    | 0 => simp at hu; subst hu; simpa [Addr.add] using hc
    | j + 1 => simp at hu
  have hoc : ∀ u ∈ [Value.slice (some ⟨b5, 0, none⟩) z.length c5], u.oneCell' = true := fun u hu => by simp at hu; subst hu; rfl
  have hw : Region.wanted o (yielded ops a.tmps) = true := by simp [Region.wanted, hgd]
  rw [if_pos hw]
  obtain ⟨v', w', hr, hown', hg, _, hat⟩ := run_append_own_at (P := Try.prog) w base 28 o.type 27 i0 _ 1 24 Try.underlying28 hi0 hz0 hz1 hz2 rfl (by omega) _ xss.length L h1 ad 1 c3 _ rfl hcc hoc (by simp only [maxLen]; omega) (by omega) hbase
  unfold Oper.wp execOp
  simp only [ho, resolve, invoke, builtin, Sem.run_bind, Sem.run_pure, Result.andThen_ok, List.map_toArray, List.map_cons, List.map_nil, hs, hx, hr]
  have hform : ∃ b' c', v' = .slice (some ⟨b', 0, none⟩) (xss.length + 1) c' := by
    rcases hown'.2 with ⟨rfl, _⟩ | ⟨g', cap', cur, rfl, _⟩
    · simp [Value.ownBlock] at hat
    · exact ⟨g', cap', rfl⟩
  obtain ⟨b', c', rfl⟩ := hform
  exact h b' c' w' (SsI.snoc h1 h2 hz hlo hg hown') hg ⟨L, h1⟩ (by simpa [Value.ownBlock] using hat)
/-- Stores in a row, none of whose rows is nil. -/
def StN (w : World) (A : Option Addr) (xss : List (List Ce)) : Prop :=
  0 < xss.length → ∃ b off, A = some ⟨b, off, none⟩ ∧ b < w.heap.size ∧ ∀ i (xs : List Ce), xss[i]? = some xs → ∃ A0 c0, w.cell? ⟨b, off + i, none⟩ = some (.slice A0 xs.length c0) ∧ CeN w A0 xs ∧ xs.length ≤ c0
theorem StN.below {w w' : World} {A : Option Addr} {xss : List (List Ce)} (h : StN w A xss) (hb : Below w.heap.size w w') : StN w' A xss := fun h0 => by
  obtain ⟨b, off, rfl, hlt, hc⟩ := h h0
  refine ⟨b, off, rfl, Nat.lt_of_lt_of_le hlt hb.size, fun i xs hx => ?_⟩
  obtain ⟨A0, c0, h1, h2, h3⟩ := hc i xs hx
  exact ⟨A0, c0, (hb.cell (p := ⟨b, _, none⟩) hlt).trans h1, h2.below hb, h3⟩
theorem StN.stl {w : World} {A : Option Addr} {xss : List (List Ce)} (h : StN w A xss) (hs : ∀ xs ∈ xss, xs.length ≤ maxLen) : StL w A xss := fun h0 => by
  obtain ⟨b, off, rfl, hlt, hc⟩ := h h0
  refine ⟨b, off, rfl, hlt, fun i xs hx => ?_⟩
  obtain ⟨A0, c0, h1, h2, h3⟩ := hc i xs hx
  exact ⟨A0, c0, h1, h2.cel, hs xs (List.mem_of_getElem? hx), h3⟩
theorem StoreX.own {xs : List Ce} {w w' : World} {e : Ending} (h : StoreX xs w e w') : ∃ b c, e = .returned (.slice (some ⟨b, 0, none⟩) xs.length c) ∧ StI w' w.heap.size b c xs ∧ Below w.heap.size w w' := by
  obtain ⟨hb, b, c, L, e, h1, h2⟩ := h
  exact ⟨b, c, e, ⟨L, h1, h2⟩, hb⟩
def SsX (xss : List (List Ce)) (n : Nat) (w : World) (e : Ending) (w' : World) : Prop := ∃ b c, e = .returned (.slice (some ⟨b, 0, none⟩) n c) ∧ SsI w' w.heap.size b c xss ∧ Below w.heap.size w w'
set_option maxRecDepth 100000 in
set_option maxHeartbeats 2000000 in
theorem copyStores_any (A : Option Addr) (c n : Nat) (xss : List (List Ce)) (w : World) (hx : StN w A xss) (hn : xss.length = n) (hl : n ≤ 1000) (hs : ∀ xs ∈ xss, SmC xs) :
    Calls Try.prog 18 #[.slice A n c] w (SsX xss n w) := by
  have HN := Lib.hid hn
  have HX := Lib.hid hx
  have HS := Lib.hid hs
  have HE := Lib.hid (show SsI (w.alloc (.cells #[] 27)) w.heap.size w.heap.size 0 [] from ⟨[], ⟨rfl, .inr ⟨w.heap.size, 0, #[], rfl, Nat.le_refl _, World.alloc_heap_new w _, Nat.le_refl _, Nat.zero_le _, rfl, rfl⟩⟩, fun i xs hx => by simp at hx⟩)
  have HB0 := Lib.hid (Below.alloc (Below.refl w.heap.size w) (Nat.le_refl _) (.cells #[] 27))
  clear hx hn hs
  go_enter Try.func18, Try.ntmps18
  go_wp2_with fail
  go_loopw [3, 4] (fun v i wr => ∃ (k b c : Nat), k ≤ n ∧ v = .slice (some ⟨b, 0, none⟩) k c ∧ i = .int .i64 k ∧ Hid (SsI wr w.heap.size b c (xss.take k)) ∧ Hid (Below w.heap.size w wr)) (fun _ i _ => n - (intOf i).toNat)
  case atStart => exact ⟨0, w.heap.size, 0, by omega, rfl, rfl, HE, HB0⟩
  case round =>
    obtain ⟨k, b, cc, hk, rfl, rfl, HO, HB⟩ := hrel
    by_cases hlt : k < n
    · obtain ⟨b', off, rfl, hblt, hcell⟩ := (HX.out.below HB.out) (by have := HN.out; omega)
      obtain ⟨x, hx⟩ := at_some (show k < xss.length by rw [HN.out]; exact hlt)
      obtain ⟨A0, d0, e0, hat, _⟩ := hcell k x hx
      have hsz := HS.out x (List.mem_of_getElem? hx)
      have K := Lib.hid ((copyStore_any A0 d0 x.length x wr hat rfl (by have := hsz.1; omega) hsz.2).mono fun e w' h => h.own)
      have HXK := Lib.hid hx
      have hi1 : (0 : Int) ≤ (k : Int) := by omega
      have hi2 : (k : Int) < (n : Int) := by omega
      obtain ⟨u, hu⟩ : ∃ u, x.length = u := ⟨_, rfl⟩
      rw [hu] at e0 K
      have HU := Lib.hid hu
      clear hcell hx hat hsz hu
      go_wp2_with fail
      refine K.out.mono ?_
      rintro e w2 ⟨g0, d1, rfl, hst, hb⟩
      have HB2 := Lib.hid (more HB.out (Nat.le_refl _) hb)
      have hba := Below.alloc (Below.refl w2.heap.size w2) (Nat.le_refl _) (.cells #[.slice (some ⟨g0, 0, none⟩) u d1] 27)
      have HO2 := Lib.hid ((HO.out.below hb).below hba)
      have HZ2 := Lib.hid (hst.below hba)
      have HB3 := Lib.hid (HB2.out.trans (hba.mono HB2.out.size))
      have HC := Lib.hid (show (w2.alloc (.cells #[.slice (some ⟨g0, 0, none⟩) u d1] 27)).cell? ⟨w2.heap.size, 0, none⟩ = some (.slice (some ⟨g0, 0, none⟩) u d1) by go_simp)
      have HLO := Lib.hid HB.out.size
      have HKL := Lib.hid (show (xss.take k).length = k by rw [List.length_take, HN.out]; omega)
      have hsz2 := HB2.out.size
      clear hb hst e0 hba
      go_wp2_with (at_builtin; refine wp_add_st rfl (.tmp 12) (.tmp 18) rfl w.heap.size b cc k (xss.take k) rfl HKL.out HO2.out ⟨w2.heap.size, 0, none⟩ 1 wr.heap.size g0 d1 u x HU.out HZ2.out HLO.out rfl HC.out (by omega) (by simp; omega) ?_; intro b3 c3 w3 hss hg _ hat; have HO3 := Lib.hid hss; have HB4 := Lib.hid (HB3.out.grown hg (by simp; omega) (fun q hq => by injection hq with hq; subst hq; exact HO2.out.lt.1)); clear hss hg hat)
      go_roundw
      case rel => exact ⟨k + 1, b3, c3, by omega, rfl, by go_num, Lib.hid (by rw [List.take_succ_eq_append_getElem (by rw [HN.out]; exact hlt), (List.getElem?_eq_some_iff.1 HXK.out).2]; exact HO3.out), HB4⟩
      case measure => simp [intOf]; omega
    · obtain rfl : k = n := by omega
      have HT := Lib.hid (show xss.take k = xss by rw [List.take_of_length_le (by rw [HN.out]; exact Nat.le_refl _)])
      go_wp2_with fail
      go_ret
      exact ⟨b, cc, rfl, by have h := HO.out; rw [HT.out] at h; exact h, HB.out⟩
end Go.Proofs.Ytkofajjlkhamkaa
