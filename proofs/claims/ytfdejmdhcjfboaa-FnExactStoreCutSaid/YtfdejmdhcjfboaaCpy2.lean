/- Stores: the document's own copies of stores, and a cell put into one. -/
import Derived.Test.YtfdejmdhcjfboaaCpy1
namespace Go.Proofs.Ytfdejmdhcjfboaa
open Go.Joins Go.ChangeShapes Go.WideShapes Go.ChangeAt Go.RowKit Go.Deep
set_option linter.unusedVariables false
set_option linter.unusedSimpArgs false

theorem row_ne {w : World} {b1 b2 n1 n2 m1 m2 c1 c2 g1 g2 : Nat} {e1 e2 : TypeId} {xs ys : List Value} (h1 : w.ownsRow b1 e1 n1 (.slice (some ⟨g1, 0, none⟩) m1 c1) m1 xs) (h2 : w.ownsRow b2 e2 n2 (.slice (some ⟨g2, 0, none⟩) m2 c2) m2 ys) (hne : e1 ≠ e2) : g1 ≠ g2 := by
  rintro rfl
  rcases h1.2 with ⟨h', _⟩ | ⟨g, cap, cur, h', _, hg, _⟩
  · simp at h'
  rcases h2.2 with ⟨h'', _⟩ | ⟨g', cap', cur', h'', _, hg', _⟩
  · simp at h''
  simp only [Value.slice.injEq, Option.some.injEq, Addr.mk.injEq, and_true, true_and] at h' h''
  obtain ⟨rfl, _⟩ := h'
  obtain ⟨rfl, _⟩ := h''
  rw [hg] at hg'
  simp only [Option.some.injEq, Obj.cells.injEq] at hg'
  exact hne hg'.2.1
/-- Headers of cells in a row of the call's own. -/
def OwnC (w : World) (base b c n : Nat) (L : List Value) : Prop := w.ownsRow base 60 2 (.slice (some ⟨b, 0, none⟩) n c) n L
/-- A cell's rows, by the headers. -/
def RowAt (w : World) (lo : Nat) (L : List Value) (i : Nat) (x : Ce) : Prop :=
  ∃ g0 c0 g1 c1, L[i * 2]? = some (.slice (some ⟨g0, 0, none⟩) x.pl.length c0) ∧ L[i * 2 + 1]? = some (.slice (some ⟨g1, 0, none⟩) x.st.length c1) ∧ CeW w lo x x.pl.length x.st.length g0 c0 g1 c1
def StoW (w : World) (lo : Nat) (L : List Value) (xs : List Ce) : Prop := ∀ i x, xs[i]? = some x → RowAt w lo L i x
def SmallC (xs : List Ce) : Prop := ∀ x ∈ xs, x.pl.length ≤ 1000 ∧ x.st.length ≤ 1000
theorem CeW.below {w w' : World} {lo n m g0 c0 g1 c1 : Nat} {x : Ce} (h : CeW w lo x n m g0 c0 g1 c1) (hb : Below w.heap.size w w') : CeW w' lo x n m g0 c0 g1 c1 := ⟨ownsRow_below h.pl hb, ownsRow_below h.st hb⟩
theorem CeW.mono {w : World} {lo lo' n m g0 c0 g1 c1 : Nat} {x : Ce} (h : CeW w lo x n m g0 c0 g1 c1) (hl : lo' ≤ lo) : CeW w lo' x n m g0 c0 g1 c1 := ⟨World.ownsRow.mono h.pl hl, World.ownsRow.mono h.st hl⟩
theorem CeW.grown {w w' : World} {lo n m g0 c0 g1 c1 base b c k : Nat} {x : Ce} {L : List Value} (h : CeW w lo x n m g0 c0 g1 c1) (hg : w.grownBy w' (some b)) (ho : OwnC w base b c k L) : CeW w' lo x n m g0 c0 g1 c1 :=
  ⟨h.pl.kept hg (.inr (by simpa [Value.ownBlock] using row_ne h.pl ho (by decide))), h.st.kept hg (.inr (by simpa [Value.ownBlock] using row_ne h.st ho (by decide)))⟩
theorem StoW.below {w w' : World} {lo : Nat} {L : List Value} {xs : List Ce} (h : StoW w lo L xs) (hb : Below w.heap.size w w') : StoW w' lo L xs := fun i x hx => by
  obtain ⟨g0, c0, g1, c1, h0, h1, hc⟩ := h i x hx
  exact ⟨g0, c0, g1, c1, h0, h1, hc.below hb⟩
theorem StoW.mono {w : World} {lo lo' : Nat} {L : List Value} {xs : List Ce} (h : StoW w lo L xs) (hl : lo' ≤ lo) : StoW w lo' L xs := fun i x hx => by
  obtain ⟨g0, c0, g1, c1, h0, h1, hc⟩ := h i x hx
  exact ⟨g0, c0, g1, c1, h0, h1, hc.mono hl⟩
theorem StoW.grown {w w' : World} {lo base b c k : Nat} {L M : List Value} {xs : List Ce} (h : StoW w lo L xs) (hg : w.grownBy w' (some b)) (ho : OwnC w base b c k M) : StoW w' lo L xs := fun i x hx => by
  obtain ⟨g0, c0, g1, c1, h0, h1, hc⟩ := h i x hx
  exact ⟨g0, c0, g1, c1, h0, h1, hc.grown hg ho⟩
theorem StoW.append {w : World} {lo : Nat} {L M : List Value} {xs ys : List Ce} (h : StoW w lo L xs) (k : StoW w lo M ys) (hl : L.length = xs.length * 2) : StoW w lo (L ++ M) (xs ++ ys) := fun i x hx => by
  rcases Nat.lt_or_ge i xs.length with hi | hi
  · rw [List.getElem?_append_left hi] at hx
    obtain ⟨g0, c0, g1, c1, h0, h1, hc⟩ := h i x hx
    exact ⟨g0, c0, g1, c1, by rw [List.getElem?_append_left (by omega)]; exact h0, by rw [List.getElem?_append_left (by omega)]; exact h1, hc⟩
  · rw [List.getElem?_append_right hi] at hx
    obtain ⟨g0, c0, g1, c1, h0, h1, hc⟩ := k _ x hx
    refine ⟨g0, c0, g1, c1, ?_, ?_, hc⟩
    · rw [List.getElem?_append_right (by omega), show i * 2 - L.length = (i - xs.length) * 2 by omega]; exact h0
    · rw [List.getElem?_append_right (by omega), show i * 2 + 1 - L.length = (i - xs.length) * 2 + 1 by omega]; exact h1
theorem StoW.one {w : World} {lo g0 c0 g1 c1 : Nat} {x : Ce} (h : CeW w lo x x.pl.length x.st.length g0 c0 g1 c1) : StoW w lo [.slice (some ⟨g0, 0, none⟩) x.pl.length c0, .slice (some ⟨g1, 0, none⟩) x.st.length c1] [x] := fun i y hy => by
  cases i with
  | zero => simp at hy; subst hy; exact ⟨g0, c0, g1, c1, rfl, rfl, h⟩
  | succ i => simp at hy
theorem row_cap {w : World} {base n c g : Nat} {e : TypeId} {sz : Nat} {L : List Value} (h : w.ownsRow base e sz (.slice (some ⟨g, 0, none⟩) n c) n L) : n ≤ c := by
  rcases h.2 with ⟨h', _⟩ | ⟨g', cap', cur, h', _, _, hnc, _⟩
  · simp at h'
  · simp only [Value.slice.injEq, Option.some.injEq, Addr.mk.injEq, and_true, true_and] at h'
    obtain ⟨rfl, rfl⟩ := h'
    exact hnc
theorem CeN.of_sto {w : World} {lo base b c n : Nat} {L : List Value} {xs : List Ce} (ho : OwnC w base b c n L) (hs : StoW w lo L xs) (hn : xs.length = n) (hb : SmallC xs) : CeN w (some ⟨b, 0, none⟩) xs := fun h0 => by
  refine ⟨b, 0, rfl, (World.ownsRow.lt ho b rfl).2, fun i x hx => ?_⟩
  have hi : i < n := by rw [← hn]; exact (List.getElem?_eq_some_iff.1 hx).1
  obtain ⟨g0, c0, g1, c1, a0, a1, a2⟩ := hs i x hx
  have hsz := hb x (List.mem_of_getElem? hx)
  refine ⟨g0, 0, c0, g1, 0, c1, ⟨?_, ?_, Lie.of_own (c := Sl.cells) (fun _ => rfl) a2.pl, Lie.of_own (c := Va.cells) (fun _ => rfl) a2.st, row_cap a2.pl, row_cap a2.st, by unfold maxLen; omega, by unfold maxLen; omega⟩⟩
  · rw [Nat.zero_add, World.ownsRow.cellAt ho (i * 2) (by omega)]; exact a0
  · rw [Nat.zero_add, World.ownsRow.cellAt ho (i * 2 + 1) (by omega)]; exact a1
theorem CeN.take {w : World} {A : Option Addr} {xs : List Ce} (h : CeN w A xs) (k : Nat) : CeN w A (xs.take k) := fun h0 => by
  obtain ⟨b, off, e, hlt, hc⟩ := h (by rw [List.length_take] at h0; omega)
  refine ⟨b, off, e, hlt, fun i x hx => hc i x ?_⟩
  rw [List.getElem?_take] at hx
  split at hx
  · exact hx
  · cases hx
theorem CeN.drop {w : World} {A : Option Addr} {xs : List Ce} (h : CeN w A xs) (k c : Nat) (hc' : xs.length ≤ c) : CeN w (if c = k then A else A.map (·.add (k * 2))) (xs.drop k) := fun h0 => by
  have hl : k < xs.length := by rw [List.length_drop] at h0; omega
  obtain ⟨b, off, rfl, hlt, hc⟩ := h (by omega)
  rw [if_neg (by omega)]
  refine ⟨b, off + k * 2, by simp [Addr.add], hlt, fun i x hx => ?_⟩
  rw [List.getElem?_drop] at hx
  have := hc (k + i) x hx
  rw [show off + (k + i) * 2 = off + k * 2 + i * 2 by omega] at this
  exact this

/-- An append of cells onto a row of the call's own. -/
theorem wp_append_cells {w : World} {ops : Array Oper} {rest : List Oper} {o : Oper} {a : Act} {Q : Exit → Act → World → Prop} (hgd : o.guard = none) (s x : Operand)
    (ho : o.op = .call { callee := .builtin .append, args := #[s, x], argTypes := #[39, 39] }) (base b c n : Nat) (L : List Value) (hs : a.eval s = .slice (some ⟨b, 0, none⟩) n c) (hown : OwnC w base b c n L)
    (ad : Addr) (c2 m : Nat) (M : List Value) (hx : a.eval x = .slice (some ad) m c2) (hm : M.length = m * 2) (hcells : ∀ j u, M[j]? = some u → w.cell? (ad.add j) = some u) (h1 : ∀ u ∈ M, u.oneCell' = true)
    (hlen : n + m ≤ 100000) (hbase : base ≤ w.heap.size)
    (h : ∀ b' c' w', OwnC w' base b' c' (n + m) (L ++ M) → w.grownBy w' (some b) → Hid (b' = b ∨ b' = w.heap.size) → wpList Try.prog ops Q rest (a.put o.dst (.slice (some ⟨b', 0, none⟩) (n + m) c')) w') :
    wpList Try.prog ops Q (o :: rest) a w := by
  obtain ⟨i0, hi0, hz0, hz1, hz2⟩ := info_parts infoCe
  refine wpList_append_own_at w hgd s x _ ho base 60 i0 _ 2 48 Try.underlying39 hi0 hz0 hz1 hz2 rfl (by omega) _ n _ hs hown ad m c2 _ hx hm hcells h1 (by simp only [maxLen]; omega) (by omega) hbase ?_
  intro v' w' hown' hg hnil hat
  have hform : ∃ b' c', v' = .slice (some ⟨b', 0, none⟩) (n + m) c' := by
    rcases hown'.2 with ⟨rfl, _⟩ | ⟨g', cap', cur, rfl, _⟩
    · simp [Value.ownBlock] at hat
    · exact ⟨g', cap', rfl⟩
  obtain ⟨b', c', rfl⟩ := hform
  exact h b' c' w' hown' hg (Lib.hid (by simpa [Value.ownBlock] using hat))
theorem OwnC.none_ (w : World) {base : Nat} (hb : base ≤ w.heap.size) : OwnC (w.alloc (.cells #[] 60)) base w.heap.size 0 0 [] :=
  World.ownsRow_lit (e := 60) (size := 2) w #[] 0 hb (by decide) rfl
def StoreX (xs : List Ce) (w : World) (e : Ending) (w' : World) : Prop :=
  Below w.heap.size w w' ∧ ∃ b c L, e = .returned (.slice (some ⟨b, 0, none⟩) xs.length c) ∧ OwnC w' w.heap.size b c xs.length L ∧ StoW w' w.heap.size L xs
theorem two_one (u v : Value) (hu : u.oneCell' = true) (hv : v.oneCell' = true) : ∀ z ∈ [u, v], z.oneCell' = true := by
  intro z hz
  simp at hz
  rcases hz with rfl | rfl
  · exact hu
  · exact hv

set_option maxHeartbeats 2000000 in
theorem copyStore_any (A : Option Addr) (c n : Nat) (xs : List Ce) (w : World) (hx : CeN w A xs) (hn : xs.length = n) (hl : n ≤ 10000) (hs : SmallC xs) :
    Calls Try.prog 102 #[.slice A n c] w (StoreX xs w) := by
  have HN := Lib.hid hn
  have HX := Lib.hid hx
  have HS := Lib.hid hs
  have HE := Lib.hid (OwnC.none_ w (base := w.heap.size) (Nat.le_refl _))
  have HB0 := Lib.hid (Below.alloc (Below.refl w.heap.size w) (Nat.le_refl _) (.cells #[] 60))
  clear hx hn hs
  go_enter Try.func102, Try.ntmps102
  go_wp2_with fail
  go_loopw [3, 4] (fun v i wr => ∃ (k b c : Nat) (L : List Value), k ≤ n ∧ v = .slice (some ⟨b, 0, none⟩) k c ∧ i = .int .i64 k ∧ Hid (OwnC wr w.heap.size b c k L) ∧ Hid (StoW wr w.heap.size L (xs.take k)) ∧ Hid (Below w.heap.size w wr)) (fun _ i _ => n - (intOf i).toNat)
  case atStart => exact ⟨0, w.heap.size, 0, [], by omega, rfl, rfl, HE, Lib.hid (fun i x hx => by simp at hx), HB0⟩
  case round =>
    obtain ⟨k, b, cc, L, hk, rfl, rfl, HO, HW, HB⟩ := hrel
    by_cases hlt : k < n
    · obtain ⟨b', off, rfl, hblt, hcell⟩ := (HX.out.below HB.out) (by have := HN.out; omega)
      obtain ⟨x, hx⟩ := at_some (show k < xs.length by rw [HN.out]; exact hlt)
      obtain ⟨b0, o0, c0, b1, o1, c1, hat⟩ := hcell k x hx
      have e0 := hat.e0
      have e1 := hat.e1
      have hsz := HS.out x (List.mem_of_getElem? hx)
      have K := Lib.hid (copyCell_any b0 o0 b1 o1 c0 c1 x.pl.length x.st.length x wr hat.pl hat.st rfl rfl (by omega) (by omega))
      have HXK := Lib.hid hx
      clear hcell hx hat
      go_wp2_with fail
      refine K.out.mono ?_
      rintro e w2 ⟨hb, g0, d0, g1, d1, rfl, hcw⟩
      have HB2 := Lib.hid (more HB.out (Nat.le_refl _) hb)
      have HO2 := Lib.hid (World.ownsRow.alloc (ownsRow_below HO.out hb) (.cells #[.slice (some ⟨g0, 0, none⟩) x.pl.length d0, .slice (some ⟨g1, 0, none⟩) x.st.length d1] 60))
      have hba := Below.alloc (Below.refl w2.heap.size w2) (Nat.le_refl _) (.cells #[.slice (some ⟨g0, 0, none⟩) x.pl.length d0, .slice (some ⟨g1, 0, none⟩) x.st.length d1] 60)
      have HW2 := Lib.hid ((HW.out.below hb).below hba)
      have HC2 := Lib.hid ((hcw.mono HB.out.size).below hba)
      have HB3 := Lib.hid (HB2.out.trans (hba.mono HB2.out.size))
      have HLL := Lib.hid (show L.length = (xs.take k).length * 2 by rw [HO.out.1, List.length_take, HN.out]; omega)
      have HNW := Lib.hid (World.news_of_block (cs := #[.slice (some ⟨g0, 0, none⟩) x.pl.length d0, .slice (some ⟨g1, 0, none⟩) x.st.length d1]) (t := 60) (fr := (0, 0)) (heap_alloc_new w2 _))
      have hsz2 := HB2.out.size
      clear hb hcw e0 e1 hba
      go_wp2_with (at_builtin; refine wp_append_cells rfl (.tmp 12) (.tmp 18) rfl w.heap.size b cc k L rfl HO2.out ⟨w2.heap.size, 0, none⟩ 1 1 [.slice (some ⟨g0, 0, none⟩) x.pl.length d0, .slice (some ⟨g1, 0, none⟩) x.st.length d1] rfl rfl HNW.out (two_one _ _ rfl rfl) (by omega) (by simp; omega) ?_; intro b3 c3 w3 ho hgr HAT; have HO3 := Lib.hid ho; have HW3 := Lib.hid (StoW.append (HW2.out.grown hgr HO2.out) (StoW.one (HC2.out.grown hgr HO2.out)) HLL.out); have HB4 := Lib.hid (HB3.out.grown hgr HB3.out.size (fun k hk => by injection hk with hk; have := (World.ownsRow.lt HO2.out b rfl).1; omega)); clear ho hgr)
      go_roundw
      case rel => exact ⟨k + 1, b3, c3, _, by omega, rfl, by go_num, HO3, Lib.hid (by rw [List.take_succ_eq_append_getElem (by rw [HN.out]; exact hlt), (List.getElem?_eq_some_iff.1 HXK.out).2]; exact HW3.out), HB4⟩
      case measure => simp [intOf]; omega
    · obtain rfl : k = n := by omega
      have HT := Lib.hid (show xs.take k = xs by rw [List.take_of_length_le (by rw [HN.out]; exact Nat.le_refl _)])
      go_wp2_with fail
      go_ret
      refine ⟨HB.out, b, cc, L, by rw [HN.out]; rfl, by rw [HN.out]; exact HO.out, by have := HW.out; rw [HT.out] at this; exact this⟩
end Go.Proofs.Ytfdejmdhcjfboaa
