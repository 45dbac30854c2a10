/- Histories: the document's copies of cells and stores. -/
import Derived.Test.YtkofajjlkhamkaaHso6
namespace Go.Proofs.Ytkofajjlkhamkaa
open Go.Joins Go.ChangeShapes Go.WideShapes Go.ChangeAt Go.RowKit Go.Deep
set_option linter.unusedVariables false
set_option linter.unusedSimpArgs false

/-- Slots in a row of the call's own. -/
def OwnS (w : World) (base b c : Nat) (xs : List Sl) : Prop := w.ownsRow base 80 2 (.slice (some ⟨b, 0, none⟩) xs.length c) xs.length (xs.flatMap Sl.cells)
theorem slone_cells (xs : List Sl) : ∀ u ∈ xs.flatMap Sl.cells, u.oneCell' = true := by
  intro u hu
  rw [List.mem_flatMap] at hu
  obtain ⟨x, _, hx⟩ := hu
  simp [Sl.cells] at hx
  rcases hx with rfl | rfl <;> rfl
theorem OwnS.none_ (w : World) {base : Nat} (hb : base ≤ w.heap.size) : OwnS (w.alloc (.cells #[] 80)) base w.heap.size 0 [] :=
  World.ownsRow_lit (e := 80) (size := 2) w #[] 0 hb (by decide) rfl
/-- Values in a row of the call's own. -/
def OwnV (w : World) (base b c : Nat) (xs : List Va) : Prop := w.ownsRow base 82 3 (.slice (some ⟨b, 0, none⟩) xs.length c) xs.length (xs.flatMap Va.cells)
theorem vone_cells (xs : List Va) : ∀ u ∈ xs.flatMap Va.cells, u.oneCell' = true := by
  intro u hu
  rw [List.mem_flatMap] at hu
  obtain ⟨x, _, hx⟩ := hu
  simp [Va.cells] at hx
  rcases hx with rfl | rfl | rfl <;> rfl
theorem OwnV.none_ (w : World) {base : Nat} (hb : base ≤ w.heap.size) : OwnV (w.alloc (.cells #[] 82)) base w.heap.size 0 [] :=
  World.ownsRow_lit (e := 82) (size := 3) w #[] 0 hb (by decide) rfl
/-- The cells of values, by their places. -/
theorem VaL.news {w : World} {b o : Nat} {xs : List Va} (h : VaL w (some ⟨b, o, none⟩) xs) : ∀ j u, (xs.flatMap Va.cells)[j]? = some u → w.cell? ((⟨b, o, none⟩ : Addr).add j) = some u := by
  intro j u hu
  have hj : j < xs.length * 3 := by rw [← len_vcells]; exact (List.getElem?_eq_some_iff.1 hu).1
  obtain ⟨b', off, he, hlt, hc⟩ := h (by omega)
  simp only [Option.some.injEq, Addr.mk.injEq, and_true] at he
  obtain ⟨rfl, rfl⟩ := he
  obtain ⟨x, hx⟩ := at_some (show j / 3 < xs.length by omega)
  have key : ∀ (ys : List Va) (i r : Nat), ys[i]? = some x → r < 3 → (ys.flatMap Va.cells)[i * 3 + r]? = x.cells[r]? := by
    intro ys
    induction ys with
    | nil => intro i r hi; simp at hi
    | cons y ys ih =>
      intro i r hi hr
      cases i with
      | zero =>
        simp at hi
        subst hi
        rw [List.flatMap_cons, List.getElem?_append_left (by simp [Va.cells]; omega)]
        simp
      | succ i =>
        simp at hi
        rw [List.flatMap_cons, List.getElem?_append_right (by simp [Va.cells]; omega), show (i + 1) * 3 + r - y.cells.length = i * 3 + r by simp [Va.cells]; omega]
        exact ih i r hi hr
  have hu2 := key xs (j / 3) (j % 3) hx (by omega)
  rw [show j / 3 * 3 + j % 3 = j by omega, hu] at hu2
  have := hc (j / 3) x hx (j % 3) u hu2.symm
  rw [show o + j / 3 * 3 + j % 3 = o + j by omega] at this
  rw [add_plain]
  exact this

/-- Cells none of whose rows is nil. -/
def CeN (w : World) (A : Option Addr) (xs : List Ce) : Prop :=
  0 < xs.length → ∃ b off, A = some ⟨b, off, none⟩ ∧ b < w.heap.size ∧ ∀ i (x : Ce), xs[i]? = some x → ∃ b0 o0 c0 b1 o1 c1, CeAt w b (off + i * 2) x (some ⟨b0, o0, none⟩) c0 (some ⟨b1, o1, none⟩) c1
theorem CeN.cel {w : World} {A : Option Addr} {xs : List Ce} (h : CeN w A xs) : CeL w A xs := fun h0 => by
  obtain ⟨b, off, e, hlt, hc⟩ := h h0
  refine ⟨b, off, e, hlt, fun i x hx => ?_⟩
  obtain ⟨b0, o0, c0, b1, o1, c1, h1⟩ := hc i x hx
  exact ⟨_, c0, _, c1, h1⟩
theorem CeN.below {w w' : World} {A : Option Addr} {xs : List Ce} (h : CeN w A xs) (hb : Below w.heap.size w w') : CeN w' A xs := fun h0 => by
  obtain ⟨b, off, rfl, hlt, hc⟩ := h h0
  refine ⟨b, off, rfl, Nat.lt_of_lt_of_le hlt hb.size, fun i x hx => ?_⟩
  obtain ⟨b0, o0, c0, b1, o1, c1, h1⟩ := hc i x hx
  exact ⟨b0, o0, c0, b1, o1, c1, h1.below hlt hb⟩
theorem SlL.news {w : World} {b o : Nat} {xs : List Sl} (h : SlL w (some ⟨b, o, none⟩) xs) : ∀ j u, (xs.flatMap Sl.cells)[j]? = some u → w.cell? ((⟨b, o, none⟩ : Addr).add j) = some u := by
  intro j u hu
  have hj : j < xs.length * 2 := by rw [← len_cells]; exact (List.getElem?_eq_some_iff.1 hu).1
  obtain ⟨b', off, he, hlt, hc⟩ := h (by omega)
  simp only [Option.some.injEq, Addr.mk.injEq, and_true] at he
  obtain ⟨rfl, rfl⟩ := he
  obtain ⟨x, hx⟩ := at_some (show j / 2 < xs.length by omega)
  have key : ∀ (ys : List Sl) (i r : Nat), ys[i]? = some x → r < 2 → (ys.flatMap Sl.cells)[i * 2 + r]? = x.cells[r]? := by
    intro ys
    induction ys with
    | nil => intro i r hi; simp at hi
    | cons y ys ih =>
      intro i r hi hr
      cases i with
      | zero =>
        simp at hi
        subst hi
        rw [List.flatMap_cons, List.getElem?_append_left (by simp [Sl.cells]; omega)]
        simp
      | succ i =>
        simp at hi
        rw [List.flatMap_cons, List.getElem?_append_right (by simp [Sl.cells]; omega), show (i + 1) * 2 + r - y.cells.length = i * 2 + r by simp [Sl.cells]; omega]
        exact ih i r hi hr
  have hu2 := key xs (j / 2) (j % 2) hx (by omega)
  rw [show j / 2 * 2 + j % 2 = j by omega, hu] at hu2
  have := hc (j / 2) x hx (j % 2) u hu2.symm
  rw [show o + j / 2 * 2 + j % 2 = o + j by omega] at this
  rw [add_plain]
  exact this

/-- An append onto nothing, as a step of a region that draws its order. -/
theorem step_append_new {w : World} {ops : Array Oper} {o : Oper} {a : Act} {K : Act → World → Prop} {Q : Exit → Act → World → Prop} {E : Prop} (hgd : o.guard = none) (s x : Operand) (t e : TypeId) (i : TypeInfo) (z : Value) (size bytes : Nat)
    (ho : o.op = .call { callee := .builtin .append, args := #[s, x], argTypes := #[t, t] }) (ht : Try.prog.underlying t = some (.slice e)) (hi : Try.prog.info? e = some i) (hz : i.zero = some z) (hsize : i.size = size) (hby : i.bytes = bytes) (hzs : z.cells.size = size) (hsz : 0 < size)
    (base b : Nat) (hs : a.eval s = .slice (some ⟨b, 0, none⟩) 0 0) (hown : w.ownsRow base e size (.slice (some ⟨b, 0, none⟩) 0 0) 0 [])
    (ad : Addr) (c2 m : Nat) (news : List Value) (hx : a.eval x = .slice (some ad) m c2) (hl : news.length = m * size) (hcells : ∀ j u, news[j]? = some u → w.cell? (ad.add j) = some u) (h1 : ∀ u ∈ news, u.oneCell' = true)
    (hm : m ≤ 4000000) (hb : bytes ≤ 1000) (hbase : base ≤ w.heap.size)
    (h : ∀ b' c' w', w'.ownsRow base e size (.slice (some ⟨b', 0, none⟩) m c') m news → w.grownBy w' (some b) → (b' = b ∨ b' = w.heap.size) → K (a.put o.dst (.slice (some ⟨b', 0, none⟩) m c')) w') :
    if Region.wanted o (yielded ops a.tmps) = true then Oper.wp Try.prog o a w K Q else E := by
  have hw : Region.wanted o (yielded ops a.tmps) = true := by simp [Region.wanted, hgd]
  rw [if_pos hw]
  have hbm : m * bytes ≤ 4000000 * 1000 := Nat.mul_le_mul hm hb
  obtain ⟨v', w', hr, hown', hg, _, hat⟩ := run_append_own_at (P := Try.prog) w base t o.type e i z size bytes ht hi hz hsize hby hzs hsz _ 0 [] hown ad m c2 news hl hcells h1 (by simp only [maxLen]; omega) (by rw [Nat.zero_add]; omega) hbase
  unfold Oper.wp execOp
  simp only [ho, resolve, invoke, builtin, Sem.run_bind, Sem.run_pure, Result.andThen_ok, List.map_toArray, List.map_cons, List.map_nil, hs, hx, hr]
  rw [Nat.zero_add] at hown'
  have hform : ∃ b' c', v' = .slice (some ⟨b', 0, none⟩) m c' := by
    rcases hown'.2 with ⟨rfl, _⟩ | ⟨g', cap', cur, rfl, _⟩
    · simp [Value.ownBlock] at hat
    · exact ⟨g', cap', rfl⟩
  obtain ⟨b', c', rfl⟩ := hform
  exact h b' c' w' hown' hg (by simpa [Value.ownBlock] using hat)

/-- A cell's two rows, wherever they have room. -/
structure CeW (w : World) (lo : Nat) (x : Ce) (n m g0 c0 g1 c1 : Nat) : Prop where
  pl : w.ownsRow lo 80 2 (.slice (some ⟨g0, 0, none⟩) n c0) n (x.pl.flatMap Sl.cells)
  st : w.ownsRow lo 82 3 (.slice (some ⟨g1, 0, none⟩) m c1) m (x.st.flatMap Va.cells)
def CopyX (x : Ce) (n m : Nat) (w : World) (e : Ending) (w' : World) : Prop :=
  Below w.heap.size w w' ∧ ∃ g0 c0 g1 c1, e = .returned (.agg #[.slice (some ⟨g0, 0, none⟩) n c0, .slice (some ⟨g1, 0, none⟩) m c1]) ∧ CeW w' w.heap.size x n m g0 c0 g1 c1
theorem set_own {w : World} {base n m cap g : Nat} {e : TypeId} {xs : List Value} (ho : w.ownsRow base e n (.slice (some ⟨g, 0, none⟩) m cap) m xs) {p : Addr} (hp : p.block ≠ g) (u : Value) : (w.setCell p u).ownsRow base e n (.slice (some ⟨g, 0, none⟩) m cap) m xs :=
  ho.kept (row := some p.block) ⟨rfl, rfl, rfl, by simp [World.setCell], fun k _ hk => heap_setCell_other w p k u (fun e => hk (by simp [e]))⟩ (.inr (by simpa [Value.ownBlock] using fun e => hp e.symm))

set_option maxHeartbeats 8000000 in
theorem copyCell_any (p o q r c0 c1 n m : Nat) (x : Ce) (w : World) (hx : SlL w (some ⟨p, o, none⟩) x.pl) (hy : VaL w (some ⟨q, r, none⟩) x.st) (hn : x.pl.length = n) (hm : x.st.length = m) (hl0 : n ≤ 1000000) (hl1 : m ≤ 1000000) :
    Calls Try.prog 34 #[.agg #[.slice (some ⟨p, o, none⟩) n c0, .slice (some ⟨q, r, none⟩) m c1]] w (CopyX x n m w) := by
  have HN := Lib.hid hn
  have HM := Lib.hid hm
  have HX := Lib.hid hx
  have HY := Lib.hid hy
  obtain ⟨i0, hi0, hz0, hs0, hb0⟩ := info_parts infoSl
  obtain ⟨i1, hi1, hz1, hs1, hb1⟩ := info_parts infoVa
  have I0 := Lib.hid (And.intro hi0 (And.intro hz0 (And.intro hs0 hb0)))
  have I1 := Lib.hid (And.intro hi1 (And.intro hz1 (And.intro hs1 hb1)))
  have HB0 := Lib.hid (Below.drew ((Below.alloc (Below.refl w.heap.size w) (Nat.le_refl _) (.cells #[.slice (some ⟨p, o, none⟩) n c0, .slice (some ⟨q, r, none⟩) m c1] 60)).alloc (by simp) (.cells #[.slice none 0 0, .slice none 0 0] 60)))
  clear hx hy hn hm hi0 hz0 hs0 hb0 hi1 hz1 hs1 hb1
  go_enter Try.func34, Try.ntmps34
  go_wp2_with fail
  obtain ⟨wd, hwd⟩ : ∃ wd, ((w.alloc (.cells #[.slice (some ⟨p, o, none⟩) n c0, .slice (some ⟨q, r, none⟩) m c1] 60)).alloc (.cells #[.slice none 0 0, .slice none 0 0] 60)).drew = wd := ⟨_, rfl⟩
  have s0 : wd.cell? ⟨w.heap.size, 0, none⟩ = some (.slice (some ⟨p, o, none⟩) n c0) := by subst hwd; go_simp
  have s1 : wd.cell? ⟨w.heap.size, 1, none⟩ = some (.slice (some ⟨q, r, none⟩) m c1) := by subst hwd; go_simp
  have k0 : wd.cell? ⟨w.heap.size + 1, 0, none⟩ = some (.slice none 0 0) := by subst hwd; go_simp
  have k1 : wd.cell? ⟨w.heap.size + 1, 1, none⟩ = some (.slice none 0 0) := by subst hwd; go_simp
  have k2 : ∀ j, wd.frozen? ⟨w.heap.size + 1, j, none⟩ = false := fun j => by subst hwd; go_simp
  have hzd : w.heap.size + 2 = wd.heap.size := by subst hwd; simp
  have KK := Lib.hid (And.intro k0 (And.intro k1 k2))
  refine wp_region_held_drew (S := fun w' => w'.cell? ⟨w.heap.size, 0, none⟩ = some (.slice (some ⟨p, o, none⟩) n c0) ∧ w'.cell? ⟨w.heap.size, 1, none⟩ = some (.slice (some ⟨q, r, none⟩) m c1)) (by kernel_rfl) ?_ (fun hHeld => ?_)
  · rw [hwd]; exact ⟨s0, s1⟩
  rw [hwd] at HB0 hHeld ⊢
  clear hwd s0 s1 k0 k1 k2
  refine wpAnyH_take (i := 1) (oi := _) (v := ?_) rfl (by kernel_rfl) (by kernel_rfl) (by kernel_rfl) (fun _ _ _ h => h) (Or.inl ⟨by kernel_rfl, ?_⟩) (by assumption) ?_
  rotate_left
  · (intro w hSw; (try dsimp only at hSw); go_simp)
    try with_reducible rfl
  (try simp only [Act.put, List.getElem_toArray, List.getElem_cons_zero, List.getElem_cons_succ, List.setIfInBounds_toArray, List.set_cons_zero, List.set_cons_succ])
  refine wpAnyH_take (i := 2) (oi := _) (v := ?_) rfl (by kernel_rfl) (by kernel_rfl) (by kernel_rfl) (fun _ _ _ h => h) (Or.inl ⟨by kernel_rfl, ?_⟩) (by assumption) ?_
  rotate_left
  · (intro w hSw; (try dsimp only at hSw); go_simp)
    try with_reducible rfl
  (try simp only [Act.put, List.getElem_toArray, List.getElem_cons_zero, List.getElem_cons_succ, List.setIfInBounds_toArray, List.set_cons_zero, List.set_cons_succ])
  refine wpAnyH_take (i := 5) (oi := _) (v := ?_) rfl (by kernel_rfl) (by kernel_rfl) (by kernel_rfl) (fun _ _ _ h => h) (Or.inl ⟨by kernel_rfl, ?_⟩) (by assumption) ?_
  rotate_left
  · (intro w hSw; (try dsimp only at hSw); go_simp)
    try with_reducible rfl
  (try simp only [Act.put, List.getElem_toArray, List.getElem_cons_zero, List.getElem_cons_succ, List.setIfInBounds_toArray, List.set_cons_zero, List.set_cons_succ])
  refine wpAnyH_take (i := 6) (oi := _) (v := ?_) rfl (by kernel_rfl) (by kernel_rfl) (by kernel_rfl) (fun _ _ _ h => h) (Or.inl ⟨by kernel_rfl, ?_⟩) (by assumption) ?_
  rotate_left
  · (intro w hSw; (try dsimp only at hSw); go_simp)
    try with_reducible rfl
  (try simp only [Act.put, List.getElem_toArray, List.getElem_cons_zero, List.getElem_cons_succ, List.setIfInBounds_toArray, List.set_cons_zero, List.set_cons_succ])
  refine wpAnyH_ready (rs := [0, 4]) (by kernel_rfl) (by simp) ?_
  refine AllReadyH.cons (o := _) rfl (fun K hK => ?_) ?_
  · skip
    go_simp
    refine hK.out _ _ ?_ (fun hHeldv1 => ?_)
    · have hb := Below.alloc (Below.refl wd.heap.size wd) (Nat.le_refl _) (.cells #[] 80)
      exact ⟨(hb.cell (p := ⟨w.heap.size, 0, none⟩) (by show w.heap.size < _; omega)).trans hHeld.1, (hb.cell (p := ⟨w.heap.size, 1, none⟩) (by show w.heap.size < _; omega)).trans hHeld.2⟩
    have hb := Below.alloc (Below.refl wd.heap.size wd) (Nat.le_refl _) (.cells #[] 80)
    have hzv1 : wd.heap.size < (wd.alloc (.cells #[] 80)).heap.size := by simp
    have R0 := Lib.hid (show (wd.alloc (.cells #[] 80)).ownsRow w.heap.size 80 2 (.slice (some ⟨wd.heap.size, 0, none⟩) 0 0) 0 [] from OwnS.none_ wd (by omega))
    replace HB0 := Lib.hid (HB0.out.trans (hb.mono (by omega)))
    replace KK := Lib.hid (And.intro ((hb.cell (p := ⟨w.heap.size + 1, 0, none⟩) (by show w.heap.size + 1 < _; omega)).trans KK.out.1) (And.intro ((hb.cell (p := ⟨w.heap.size + 1, 1, none⟩) (by show w.heap.size + 1 < _; omega)).trans KK.out.2.1) (fun j => (hb.frozen (p := ⟨w.heap.size + 1, j, none⟩) (by show w.heap.size + 1 < _; omega)).trans (KK.out.2.2 j))))
    have hB0 : w.heap.size + 2 ≤ wd.heap.size := by omega
    obtain ⟨B0, hBB0⟩ : ∃ B, wd.heap.size = B := ⟨_, rfl⟩
    obtain ⟨v1, hv1⟩ : ∃ v, wd.alloc (.cells #[] 80) = v := ⟨_, rfl⟩
    rw [hv1] at HB0 KK R0 hHeldv1 hzv1 hb
    rw [hv1]
    rw [hBB0] at R0 hB0 hzv1 ⊢
    have hltv1 := hb.size
    rw [hBB0] at hltv1
    clear hK K hb hv1 hHeld
    have hHeld := hHeldv1
    clear hHeldv1
    (try simp only [Act.put, List.getElem_toArray, List.getElem_cons_zero, List.getElem_cons_succ, List.setIfInBounds_toArray, List.set_cons_zero, List.set_cons_succ])
    refine wpAnyH_ready (rs := [3, 4]) (by kernel_rfl) (by simp) ?_
    refine AllReadyH.cons (o := _) rfl (fun K hK => ?_) ?_
    · skip
      refine step_append_new (by rfl) (.tmp 3) (.tmp 5) 57 80 i0 _ 2 16 (by rfl) Try.underlying57 I0.out.1 I0.out.2.1 I0.out.2.2.1 I0.out.2.2.2 (by rfl) (by omega) w.heap.size B0 (by rfl) R0.out ⟨p, o, none⟩ c0 n (x.pl.flatMap Sl.cells) (by rfl) (by rw [len_cells, HN.out]) (SlL.news (HX.out.below HB0.out)) (slone_cells x.pl) (by omega) (by omega) (by omega) ?_
      intro g0 d0 v2 hown hgr hp0
      refine hK.out _ _ ?_ (fun hHeldv2 => ?_)
      · exact ⟨(World.cell?_of_block (a := ⟨w.heap.size, 0, none⟩) (hgr.block _ (by show w.heap.size < _; omega) (by simp; omega))).trans hHeld.1, (World.cell?_of_block (a := ⟨w.heap.size, 1, none⟩) (hgr.block _ (by show w.heap.size < _; omega) (by simp; omega))).trans hHeld.2⟩
      have hzv2 := hgr.size
      have Q0 := Lib.hid hown
      have hq0 := (World.ownsRow.lt hown g0 rfl).2
      replace HB0 := Lib.hid (HB0.out.grown hgr (by omega) (fun k hk => by injection hk with hk; omega))
      replace KK := Lib.hid (And.intro ((World.cell?_of_block (a := ⟨w.heap.size + 1, 0, none⟩) (hgr.block _ (by show w.heap.size + 1 < _; omega) (by simp; omega))).trans KK.out.1) (And.intro ((World.cell?_of_block (a := ⟨w.heap.size + 1, 1, none⟩) (hgr.block _ (by show w.heap.size + 1 < _; omega) (by simp; omega))).trans KK.out.2.1) (fun j => (World.frozen?_of_block (a := ⟨w.heap.size + 1, j, none⟩) (hgr.block _ (by show w.heap.size + 1 < _; omega) (by simp; omega))).trans (KK.out.2.2 j))))
      clear hK K hown hgr R0 hHeld
      have hHeld := hHeldv2
      clear hHeldv2
      (try simp only [Act.put, List.getElem_toArray, List.getElem_cons_zero, List.getElem_cons_succ, List.setIfInBounds_toArray, List.set_cons_zero, List.set_cons_succ])
      refine wpAnyH_ready (rs := [4]) (by kernel_rfl) (by simp) ?_
      refine AllReadyH.cons (o := _) rfl (fun K hK => ?_) AllReadyH.nil
      go_simp
      refine hK.out _ _ ?_ (fun hHeldv3 => ?_)
      · have hb := Below.alloc (Below.refl v2.heap.size v2) (Nat.le_refl _) (.cells #[] 82)
        exact ⟨(hb.cell (p := ⟨w.heap.size, 0, none⟩) (by show w.heap.size < _; omega)).trans hHeld.1, (hb.cell (p := ⟨w.heap.size, 1, none⟩) (by show w.heap.size < _; omega)).trans hHeld.2⟩
      have hb := Below.alloc (Below.refl v2.heap.size v2) (Nat.le_refl _) (.cells #[] 82)
      have hzv3 : v2.heap.size < (v2.alloc (.cells #[] 82)).heap.size := by simp
      have R1 := Lib.hid (show (v2.alloc (.cells #[] 82)).ownsRow w.heap.size 82 3 (.slice (some ⟨v2.heap.size, 0, none⟩) 0 0) 0 [] from OwnV.none_ v2 (by omega))
      replace Q0 := Lib.hid (ownsRow_below Q0.out hb)
      replace HB0 := Lib.hid (HB0.out.trans (hb.mono (by omega)))
      replace KK := Lib.hid (And.intro ((hb.cell (p := ⟨w.heap.size + 1, 0, none⟩) (by show w.heap.size + 1 < _; omega)).trans KK.out.1) (And.intro ((hb.cell (p := ⟨w.heap.size + 1, 1, none⟩) (by show w.heap.size + 1 < _; omega)).trans KK.out.2.1) (fun j => (hb.frozen (p := ⟨w.heap.size + 1, j, none⟩) (by show w.heap.size + 1 < _; omega)).trans (KK.out.2.2 j))))
      have hB1 : w.heap.size + 2 ≤ v2.heap.size := by omega
      obtain ⟨B1, hBB1⟩ : ∃ B, v2.heap.size = B := ⟨_, rfl⟩
      obtain ⟨v3, hv3⟩ : ∃ v, v2.alloc (.cells #[] 82) = v := ⟨_, rfl⟩
      rw [hv3] at HB0 KK R1 hHeldv3 hzv3 hb Q0
      rw [hv3]
      rw [hBB1] at R1 hB1 hzv3 ⊢
      have hltv3 := hb.size
      rw [hBB1] at hltv3
      clear hK K hb hv3 hHeld
      have hHeld := hHeldv3
      clear hHeldv3
      (try simp only [Act.put, List.getElem_toArray, List.getElem_cons_zero, List.getElem_cons_succ, List.setIfInBounds_toArray, List.set_cons_zero, List.set_cons_succ])
      refine wpAnyH_ready (rs := [7]) (by kernel_rfl) (by simp) ?_
      refine AllReadyH.cons (o := _) rfl (fun K hK => ?_) AllReadyH.nil
      refine step_append_new (by rfl) (.tmp 7) (.tmp 9) 58 82 i1 _ 3 32 (by rfl) Try.underlying58 I1.out.1 I1.out.2.1 I1.out.2.2.1 I1.out.2.2.2 (by rfl) (by omega) w.heap.size B1 (by rfl) R1.out ⟨q, r, none⟩ c1 m (x.st.flatMap Va.cells) (by rfl) (by rw [len_vcells, HM.out]) (VaL.news (HY.out.below HB0.out)) (vone_cells x.st) (by omega) (by omega) (by omega) ?_
      intro g1 d1 v4 hown hgr hp1
      refine hK.out _ _ ?_ (fun hHeldv4 => ?_)
      · exact ⟨(World.cell?_of_block (a := ⟨w.heap.size, 0, none⟩) (hgr.block _ (by show w.heap.size < _; omega) (by simp; omega))).trans hHeld.1, (World.cell?_of_block (a := ⟨w.heap.size, 1, none⟩) (hgr.block _ (by show w.heap.size < _; omega) (by simp; omega))).trans hHeld.2⟩
      have hzv4 := hgr.size
      replace Q0 := Lib.hid (World.ownsRow.kept Q0.out hgr (.inr (by simp [Value.ownBlock]; omega)))
      have Q1 := Lib.hid hown
      have hq1 := (World.ownsRow.lt hown g1 rfl).2
      replace HB0 := Lib.hid (HB0.out.grown hgr (by omega) (fun k hk => by injection hk with hk; omega))
      replace KK := Lib.hid (And.intro ((World.cell?_of_block (a := ⟨w.heap.size + 1, 0, none⟩) (hgr.block _ (by show w.heap.size + 1 < _; omega) (by simp; omega))).trans KK.out.1) (And.intro ((World.cell?_of_block (a := ⟨w.heap.size + 1, 1, none⟩) (hgr.block _ (by show w.heap.size + 1 < _; omega) (by simp; omega))).trans KK.out.2.1) (fun j => (World.frozen?_of_block (a := ⟨w.heap.size + 1, j, none⟩) (hgr.block _ (by show w.heap.size + 1 < _; omega) (by simp; omega))).trans (KK.out.2.2 j))))
      clear hK K hown hgr R1 hHeld
      have hHeld := hHeldv4
      clear hHeldv4
      (try simp only [Act.put, List.getElem_toArray, List.getElem_cons_zero, List.getElem_cons_succ, List.setIfInBounds_toArray, List.set_cons_zero, List.set_cons_succ])
      refine wpAnyH_take (i := 8) (oi := _) (v := ?_) rfl (by kernel_rfl) (by kernel_rfl) (by kernel_rfl) (fun _ _ _ h => h) (Or.inl ⟨by kernel_rfl, ?_⟩) (by assumption) ?_
      rotate_left
      · (intro w hSw; (try dsimp only at hSw); go_simp)
        try with_reducible rfl
      (try simp only [Act.put, List.getElem_toArray, List.getElem_cons_zero, List.getElem_cons_succ, List.setIfInBounds_toArray, List.set_cons_zero, List.set_cons_succ])
      obtain ⟨k0, k1, k2⟩ := KK.out
      refine wpAnyH_ready (rs := [9]) (by kernel_rfl) (by simp) ?_
      refine AllReadyH.cons (o := _) rfl (fun K hK => ?_) AllReadyH.nil
      go_simp
      refine hK.out _ _ ?_ (fun hHeld9 => ?_)
      · exact ⟨(World.cell?_setCell_far _ _ _ _ (by simp)).trans ((World.cell?_setCell_far _ _ _ _ (by simp)).trans hHeld.1), (World.cell?_setCell_far _ _ _ _ (by simp)).trans ((World.cell?_setCell_far _ _ _ _ (by simp)).trans hHeld.2)⟩
      clear hK K hHeld9
      (try simp only [Act.put, List.getElem_toArray, List.getElem_cons_zero, List.getElem_cons_succ, List.setIfInBounds_toArray, List.set_cons_zero, List.set_cons_succ])
      refine wpAnyH_done (by kernel_rfl) ?_ _
      go_wp2_with fail
      refine bodyPost_ret (v := .agg #[.slice (some ⟨g0, 0, none⟩) n d0, .slice (some ⟨g1, 0, none⟩) m d1]) (by simp [results, Try.results34, go_sem, k0, k1, k2]) rfl ⟨?_, g0, d0, g1, d1, rfl, ?_, ?_⟩
      · exact (HB0.out.setCell (by simp) _).setCell (by simp) _
      · exact set_own (set_own Q0.out (by simp; omega) _) (by simp; omega) _
      · exact set_own (set_own Q1.out (by simp; omega) _) (by simp; omega) _
    refine AllReadyH.cons (o := _) rfl (fun K hK => ?_) AllReadyH.nil
    go_simp
    refine hK.out _ _ ?_ (fun hHeldv5 => ?_)
    · have hb := Below.alloc (Below.refl v1.heap.size v1) (Nat.le_refl _) (.cells #[] 82)
      exact ⟨(hb.cell (p := ⟨w.heap.size, 0, none⟩) (by show w.heap.size < _; omega)).trans hHeld.1, (hb.cell (p := ⟨w.heap.size, 1, none⟩) (by show w.heap.size < _; omega)).trans hHeld.2⟩
    have hb := Below.alloc (Below.refl v1.heap.size v1) (Nat.le_refl _) (.cells #[] 82)
    have hzv5 : v1.heap.size < (v1.alloc (.cells #[] 82)).heap.size := by simp
    have R1 := Lib.hid (show (v1.alloc (.cells #[] 82)).ownsRow w.heap.size 82 3 (.slice (some ⟨v1.heap.size, 0, none⟩) 0 0) 0 [] from OwnV.none_ v1 (by omega))
    replace R0 := Lib.hid (ownsRow_below R0.out hb)
    replace HB0 := Lib.hid (HB0.out.trans (hb.mono (by omega)))
    replace KK := Lib.hid (And.intro ((hb.cell (p := ⟨w.heap.size + 1, 0, none⟩) (by show w.heap.size + 1 < _; omega)).trans KK.out.1) (And.intro ((hb.cell (p := ⟨w.heap.size + 1, 1, none⟩) (by show w.heap.size + 1 < _; omega)).trans KK.out.2.1) (fun j => (hb.frozen (p := ⟨w.heap.size + 1, j, none⟩) (by show w.heap.size + 1 < _; omega)).trans (KK.out.2.2 j))))
    have hB1 : w.heap.size + 2 ≤ v1.heap.size := by omega
    obtain ⟨B1, hBB1⟩ : ∃ B, v1.heap.size = B := ⟨_, rfl⟩
    obtain ⟨v5, hv5⟩ : ∃ v, v1.alloc (.cells #[] 82) = v := ⟨_, rfl⟩
    rw [hv5] at HB0 KK R1 hHeldv5 hzv5 hb R0
    rw [hv5]
    rw [hBB1] at R1 hB1 hzv5 ⊢
    have hltv5 := hb.size
    rw [hBB1] at hltv5
    clear hK K hb hv5 hHeld
    have hHeld := hHeldv5
    clear hHeldv5
    (try simp only [Act.put, List.getElem_toArray, List.getElem_cons_zero, List.getElem_cons_succ, List.setIfInBounds_toArray, List.set_cons_zero, List.set_cons_succ])
    refine wpAnyH_ready (rs := [3]) (by kernel_rfl) (by simp) ?_
    refine AllReadyH.cons (o := _) rfl (fun K hK => ?_) AllReadyH.nil
    refine step_append_new (by rfl) (.tmp 3) (.tmp 5) 57 80 i0 _ 2 16 (by rfl) Try.underlying57 I0.out.1 I0.out.2.1 I0.out.2.2.1 I0.out.2.2.2 (by rfl) (by omega) w.heap.size B0 (by rfl) R0.out ⟨p, o, none⟩ c0 n (x.pl.flatMap Sl.cells) (by rfl) (by rw [len_cells, HN.out]) (SlL.news (HX.out.below HB0.out)) (slone_cells x.pl) (by omega) (by omega) (by omega) ?_
    intro g0 d0 v6 hown hgr hp0
    refine hK.out _ _ ?_ (fun hHeldv6 => ?_)
    · exact ⟨(World.cell?_of_block (a := ⟨w.heap.size, 0, none⟩) (hgr.block _ (by show w.heap.size < _; omega) (by simp; omega))).trans hHeld.1, (World.cell?_of_block (a := ⟨w.heap.size, 1, none⟩) (hgr.block _ (by show w.heap.size < _; omega) (by simp; omega))).trans hHeld.2⟩
    have hzv6 := hgr.size
    replace R1 := Lib.hid (World.ownsRow.kept R1.out hgr (.inr (by simp [Value.ownBlock]; omega)))
    have Q0 := Lib.hid hown
    have hq0 := (World.ownsRow.lt hown g0 rfl).2
    replace HB0 := Lib.hid (HB0.out.grown hgr (by omega) (fun k hk => by injection hk with hk; omega))
    replace KK := Lib.hid (And.intro ((World.cell?_of_block (a := ⟨w.heap.size + 1, 0, none⟩) (hgr.block _ (by show w.heap.size + 1 < _; omega) (by simp; omega))).trans KK.out.1) (And.intro ((World.cell?_of_block (a := ⟨w.heap.size + 1, 1, none⟩) (hgr.block _ (by show w.heap.size + 1 < _; omega) (by simp; omega))).trans KK.out.2.1) (fun j => (World.frozen?_of_block (a := ⟨w.heap.size + 1, j, none⟩) (hgr.block _ (by show w.heap.size + 1 < _; omega) (by simp; omega))).trans (KK.out.2.2 j))))
    clear hK K hown hgr R0 hHeld
    have hHeld := hHeldv6
    clear hHeldv6
    (try simp only [Act.put, List.getElem_toArray, List.getElem_cons_zero, List.getElem_cons_succ, List.setIfInBounds_toArray, List.set_cons_zero, List.set_cons_succ])
    refine wpAnyH_ready (rs := [7]) (by kernel_rfl) (by simp) ?_
    refine AllReadyH.cons (o := _) rfl (fun K hK => ?_) AllReadyH.nil
    refine step_append_new (by rfl) (.tmp 7) (.tmp 9) 58 82 i1 _ 3 32 (by rfl) Try.underlying58 I1.out.1 I1.out.2.1 I1.out.2.2.1 I1.out.2.2.2 (by rfl) (by omega) w.heap.size B1 (by rfl) R1.out ⟨q, r, none⟩ c1 m (x.st.flatMap Va.cells) (by rfl) (by rw [len_vcells, HM.out]) (VaL.news (HY.out.below HB0.out)) (vone_cells x.st) (by omega) (by omega) (by omega) ?_
    intro g1 d1 v7 hown hgr hp1
    refine hK.out _ _ ?_ (fun hHeldv7 => ?_)
    · exact ⟨(World.cell?_of_block (a := ⟨w.heap.size, 0, none⟩) (hgr.block _ (by show w.heap.size < _; omega) (by simp; omega))).trans hHeld.1, (World.cell?_of_block (a := ⟨w.heap.size, 1, none⟩) (hgr.block _ (by show w.heap.size < _; omega) (by simp; omega))).trans hHeld.2⟩
    have hzv7 := hgr.size
    replace Q0 := Lib.hid (World.ownsRow.kept Q0.out hgr (.inr (by simp [Value.ownBlock]; omega)))
    have Q1 := Lib.hid hown
    have hq1 := (World.ownsRow.lt hown g1 rfl).2
    replace HB0 := Lib.hid (HB0.out.grown hgr (by omega) (fun k hk => by injection hk with hk; omega))
    replace KK := Lib.hid (And.intro ((World.cell?_of_block (a := ⟨w.heap.size + 1, 0, none⟩) (hgr.block _ (by show w.heap.size + 1 < _; omega) (by simp; omega))).trans KK.out.1) (And.intro ((World.cell?_of_block (a := ⟨w.heap.size + 1, 1, none⟩) (hgr.block _ (by show w.heap.size + 1 < _; omega) (by simp; omega))).trans KK.out.2.1) (fun j => (World.frozen?_of_block (a := ⟨w.heap.size + 1, j, none⟩) (hgr.block _ (by show w.heap.size + 1 < _; omega) (by simp; omega))).trans (KK.out.2.2 j))))
    clear hK K hown hgr R1 hHeld
    have hHeld := hHeldv7
    clear hHeldv7
    (try simp only [Act.put, List.getElem_toArray, List.getElem_cons_zero, List.getElem_cons_succ, List.setIfInBounds_toArray, List.set_cons_zero, List.set_cons_succ])
    refine wpAnyH_take (i := 8) (oi := _) (v := ?_) rfl (by kernel_rfl) (by kernel_rfl) (by kernel_rfl) (fun _ _ _ h => h) (Or.inl ⟨by kernel_rfl, ?_⟩) (by assumption) ?_
    rotate_left
    · (intro w hSw; (try dsimp only at hSw); go_simp)
      try with_reducible rfl
    (try simp only [Act.put, List.getElem_toArray, List.getElem_cons_zero, List.getElem_cons_succ, List.setIfInBounds_toArray, List.set_cons_zero, List.set_cons_succ])
    obtain ⟨k0, k1, k2⟩ := KK.out
    refine wpAnyH_ready (rs := [9]) (by kernel_rfl) (by simp) ?_
    refine AllReadyH.cons (o := _) rfl (fun K hK => ?_) AllReadyH.nil
    go_simp
    refine hK.out _ _ ?_ (fun hHeld9 => ?_)
    · exact ⟨(World.cell?_setCell_far _ _ _ _ (by simp)).trans ((World.cell?_setCell_far _ _ _ _ (by simp)).trans hHeld.1), (World.cell?_setCell_far _ _ _ _ (by simp)).trans ((World.cell?_setCell_far _ _ _ _ (by simp)).trans hHeld.2)⟩
    clear hK K hHeld9
    (try simp only [Act.put, List.getElem_toArray, List.getElem_cons_zero, List.getElem_cons_succ, List.setIfInBounds_toArray, List.set_cons_zero, List.set_cons_succ])
    refine wpAnyH_done (by kernel_rfl) ?_ _
    go_wp2_with fail
    refine bodyPost_ret (v := .agg #[.slice (some ⟨g0, 0, none⟩) n d0, .slice (some ⟨g1, 0, none⟩) m d1]) (by simp [results, Try.results34, go_sem, k0, k1, k2]) rfl ⟨?_, g0, d0, g1, d1, rfl, ?_, ?_⟩
    · exact (HB0.out.setCell (by simp) _).setCell (by simp) _
    · exact set_own (set_own Q0.out (by simp; omega) _) (by simp; omega) _
    · exact set_own (set_own Q1.out (by simp; omega) _) (by simp; omega) _
  refine AllReadyH.cons (o := _) rfl (fun K hK => ?_) AllReadyH.nil
  go_simp
  refine hK.out _ _ ?_ (fun hHeldv8 => ?_)
  · have hb := Below.alloc (Below.refl wd.heap.size wd) (Nat.le_refl _) (.cells #[] 82)
    exact ⟨(hb.cell (p := ⟨w.heap.size, 0, none⟩) (by show w.heap.size < _; omega)).trans hHeld.1, (hb.cell (p := ⟨w.heap.size, 1, none⟩) (by show w.heap.size < _; omega)).trans hHeld.2⟩
  have hb := Below.alloc (Below.refl wd.heap.size wd) (Nat.le_refl _) (.cells #[] 82)
  have hzv8 : wd.heap.size < (wd.alloc (.cells #[] 82)).heap.size := by simp
  have R1 := Lib.hid (show (wd.alloc (.cells #[] 82)).ownsRow w.heap.size 82 3 (.slice (some ⟨wd.heap.size, 0, none⟩) 0 0) 0 [] from OwnV.none_ wd (by omega))
  replace HB0 := Lib.hid (HB0.out.trans (hb.mono (by omega)))
  replace KK := Lib.hid (And.intro ((hb.cell (p := ⟨w.heap.size + 1, 0, none⟩) (by show w.heap.size + 1 < _; omega)).trans KK.out.1) (And.intro ((hb.cell (p := ⟨w.heap.size + 1, 1, none⟩) (by show w.heap.size + 1 < _; omega)).trans KK.out.2.1) (fun j => (hb.frozen (p := ⟨w.heap.size + 1, j, none⟩) (by show w.heap.size + 1 < _; omega)).trans (KK.out.2.2 j))))
  have hB1 : w.heap.size + 2 ≤ wd.heap.size := by omega
  obtain ⟨B1, hBB1⟩ : ∃ B, wd.heap.size = B := ⟨_, rfl⟩
  obtain ⟨v8, hv8⟩ : ∃ v, wd.alloc (.cells #[] 82) = v := ⟨_, rfl⟩
  rw [hv8] at HB0 KK R1 hHeldv8 hzv8 hb
  rw [hv8]
  rw [hBB1] at R1 hB1 hzv8 ⊢
  have hltv8 := hb.size
  rw [hBB1] at hltv8
  clear hK K hb hv8 hHeld
  have hHeld := hHeldv8
  clear hHeldv8
  (try simp only [Act.put, List.getElem_toArray, List.getElem_cons_zero, List.getElem_cons_succ, List.setIfInBounds_toArray, List.set_cons_zero, List.set_cons_succ])
  refine wpAnyH_ready (rs := [0]) (by kernel_rfl) (by simp) ?_
  refine AllReadyH.cons (o := _) rfl (fun K hK => ?_) AllReadyH.nil
  go_simp
  refine hK.out _ _ ?_ (fun hHeldv9 => ?_)
  · have hb := Below.alloc (Below.refl v8.heap.size v8) (Nat.le_refl _) (.cells #[] 80)
    exact ⟨(hb.cell (p := ⟨w.heap.size, 0, none⟩) (by show w.heap.size < _; omega)).trans hHeld.1, (hb.cell (p := ⟨w.heap.size, 1, none⟩) (by show w.heap.size < _; omega)).trans hHeld.2⟩
  have hb := Below.alloc (Below.refl v8.heap.size v8) (Nat.le_refl _) (.cells #[] 80)
  have hzv9 : v8.heap.size < (v8.alloc (.cells #[] 80)).heap.size := by simp
  have R0 := Lib.hid (show (v8.alloc (.cells #[] 80)).ownsRow w.heap.size 80 2 (.slice (some ⟨v8.heap.size, 0, none⟩) 0 0) 0 [] from OwnS.none_ v8 (by omega))
  replace R1 := Lib.hid (ownsRow_below R1.out hb)
  replace HB0 := Lib.hid (HB0.out.trans (hb.mono (by omega)))
  replace KK := Lib.hid (And.intro ((hb.cell (p := ⟨w.heap.size + 1, 0, none⟩) (by show w.heap.size + 1 < _; omega)).trans KK.out.1) (And.intro ((hb.cell (p := ⟨w.heap.size + 1, 1, none⟩) (by show w.heap.size + 1 < _; omega)).trans KK.out.2.1) (fun j => (hb.frozen (p := ⟨w.heap.size + 1, j, none⟩) (by show w.heap.size + 1 < _; omega)).trans (KK.out.2.2 j))))
  have hB0 : w.heap.size + 2 ≤ v8.heap.size := by omega
  obtain ⟨B0, hBB0⟩ : ∃ B, v8.heap.size = B := ⟨_, rfl⟩
  obtain ⟨v9, hv9⟩ : ∃ v, v8.alloc (.cells #[] 80) = v := ⟨_, rfl⟩
  rw [hv9] at HB0 KK R0 hHeldv9 hzv9 hb R1
  rw [hv9]
  rw [hBB0] at R0 hB0 hzv9 ⊢
  have hltv9 := hb.size
  rw [hBB0] at hltv9
  clear hK K hb hv9 hHeld
  have hHeld := hHeldv9
  clear hHeldv9
  (try simp only [Act.put, List.getElem_toArray, List.getElem_cons_zero, List.getElem_cons_succ, List.setIfInBounds_toArray, List.set_cons_zero, List.set_cons_succ])
  refine wpAnyH_ready (rs := [3]) (by kernel_rfl) (by simp) ?_
  refine AllReadyH.cons (o := _) rfl (fun K hK => ?_) AllReadyH.nil
  refine step_append_new (by rfl) (.tmp 3) (.tmp 5) 57 80 i0 _ 2 16 (by rfl) Try.underlying57 I0.out.1 I0.out.2.1 I0.out.2.2.1 I0.out.2.2.2 (by rfl) (by omega) w.heap.size B0 (by rfl) R0.out ⟨p, o, none⟩ c0 n (x.pl.flatMap Sl.cells) (by rfl) (by rw [len_cells, HN.out]) (SlL.news (HX.out.below HB0.out)) (slone_cells x.pl) (by omega) (by omega) (by omega) ?_
  intro g0 d0 v10 hown hgr hp0
  refine hK.out _ _ ?_ (fun hHeldv10 => ?_)
  · exact ⟨(World.cell?_of_block (a := ⟨w.heap.size, 0, none⟩) (hgr.block _ (by show w.heap.size < _; omega) (by simp; omega))).trans hHeld.1, (World.cell?_of_block (a := ⟨w.heap.size, 1, none⟩) (hgr.block _ (by show w.heap.size < _; omega) (by simp; omega))).trans hHeld.2⟩
  have hzv10 := hgr.size
  replace R1 := Lib.hid (World.ownsRow.kept R1.out hgr (.inr (by simp [Value.ownBlock]; omega)))
  have Q0 := Lib.hid hown
  have hq0 := (World.ownsRow.lt hown g0 rfl).2
  replace HB0 := Lib.hid (HB0.out.grown hgr (by omega) (fun k hk => by injection hk with hk; omega))
  replace KK := Lib.hid (And.intro ((World.cell?_of_block (a := ⟨w.heap.size + 1, 0, none⟩) (hgr.block _ (by show w.heap.size + 1 < _; omega) (by simp; omega))).trans KK.out.1) (And.intro ((World.cell?_of_block (a := ⟨w.heap.size + 1, 1, none⟩) (hgr.block _ (by show w.heap.size + 1 < _; omega) (by simp; omega))).trans KK.out.2.1) (fun j => (World.frozen?_of_block (a := ⟨w.heap.size + 1, j, none⟩) (hgr.block _ (by show w.heap.size + 1 < _; omega) (by simp; omega))).trans (KK.out.2.2 j))))
  clear hK K hown hgr R0 hHeld
  have hHeld := hHeldv10
  clear hHeldv10
  (try simp only [Act.put, List.getElem_toArray, List.getElem_cons_zero, List.getElem_cons_succ, List.setIfInBounds_toArray, List.set_cons_zero, List.set_cons_succ])
  refine wpAnyH_ready (rs := [7]) (by kernel_rfl) (by simp) ?_
  refine AllReadyH.cons (o := _) rfl (fun K hK => ?_) AllReadyH.nil
  refine step_append_new (by rfl) (.tmp 7) (.tmp 9) 58 82 i1 _ 3 32 (by rfl) Try.underlying58 I1.out.1 I1.out.2.1 I1.out.2.2.1 I1.out.2.2.2 (by rfl) (by omega) w.heap.size B1 (by rfl) R1.out ⟨q, r, none⟩ c1 m (x.st.flatMap Va.cells) (by rfl) (by rw [len_vcells, HM.out]) (VaL.news (HY.out.below HB0.out)) (vone_cells x.st) (by omega) (by omega) (by omega) ?_
  intro g1 d1 v11 hown hgr hp1
  refine hK.out _ _ ?_ (fun hHeldv11 => ?_)
  · exact ⟨(World.cell?_of_block (a := ⟨w.heap.size, 0, none⟩) (hgr.block _ (by show w.heap.size < _; omega) (by simp; omega))).trans hHeld.1, (World.cell?_of_block (a := ⟨w.heap.size, 1, none⟩) (hgr.block _ (by show w.heap.size < _; omega) (by simp; omega))).trans hHeld.2⟩
  have hzv11 := hgr.size
  replace Q0 := Lib.hid (World.ownsRow.kept Q0.out hgr (.inr (by simp [Value.ownBlock]; omega)))
  have Q1 := Lib.hid hown
  have hq1 := (World.ownsRow.lt hown g1 rfl).2
  replace HB0 := Lib.hid (HB0.out.grown hgr (by omega) (fun k hk => by injection hk with hk; omega))
  replace KK := Lib.hid (And.intro ((World.cell?_of_block (a := ⟨w.heap.size + 1, 0, none⟩) (hgr.block _ (by show w.heap.size + 1 < _; omega) (by simp; omega))).trans KK.out.1) (And.intro ((World.cell?_of_block (a := ⟨w.heap.size + 1, 1, none⟩) (hgr.block _ (by show w.heap.size + 1 < _; omega) (by simp; omega))).trans KK.out.2.1) (fun j => (World.frozen?_of_block (a := ⟨w.heap.size + 1, j, none⟩) (hgr.block _ (by show w.heap.size + 1 < _; omega) (by simp; omega))).trans (KK.out.2.2 j))))
  clear hK K hown hgr R1 hHeld
  have hHeld := hHeldv11
  clear hHeldv11
  (try simp only [Act.put, List.getElem_toArray, List.getElem_cons_zero, List.getElem_cons_succ, List.setIfInBounds_toArray, List.set_cons_zero, List.set_cons_succ])
  refine wpAnyH_take (i := 8) (oi := _) (v := ?_) rfl (by kernel_rfl) (by kernel_rfl) (by kernel_rfl) (fun _ _ _ h => h) (Or.inl ⟨by kernel_rfl, ?_⟩) (by assumption) ?_
  rotate_left
  · (intro w hSw; (try dsimp only at hSw); go_simp)
    try with_reducible rfl
  (try simp only [Act.put, List.getElem_toArray, List.getElem_cons_zero, List.getElem_cons_succ, List.setIfInBounds_toArray, List.set_cons_zero, List.set_cons_succ])
  obtain ⟨k0, k1, k2⟩ := KK.out
  refine wpAnyH_ready (rs := [9]) (by kernel_rfl) (by simp) ?_
  refine AllReadyH.cons (o := _) rfl (fun K hK => ?_) AllReadyH.nil
  go_simp
  refine hK.out _ _ ?_ (fun hHeld9 => ?_)
  · exact ⟨(World.cell?_setCell_far _ _ _ _ (by simp)).trans ((World.cell?_setCell_far _ _ _ _ (by simp)).trans hHeld.1), (World.cell?_setCell_far _ _ _ _ (by simp)).trans ((World.cell?_setCell_far _ _ _ _ (by simp)).trans hHeld.2)⟩
  clear hK K hHeld9
  (try simp only [Act.put, List.getElem_toArray, List.getElem_cons_zero, List.getElem_cons_succ, List.setIfInBounds_toArray, List.set_cons_zero, List.set_cons_succ])
  refine wpAnyH_done (by kernel_rfl) ?_ _
  go_wp2_with fail
  refine bodyPost_ret (v := .agg #[.slice (some ⟨g0, 0, none⟩) n d0, .slice (some ⟨g1, 0, none⟩) m d1]) (by simp [results, Try.results34, go_sem, k0, k1, k2]) rfl ⟨?_, g0, d0, g1, d1, rfl, ?_, ?_⟩
  · exact (HB0.out.setCell (by simp) _).setCell (by simp) _
  · exact set_own (set_own Q0.out (by simp; omega) _) (by simp; omega) _
  · exact set_own (set_own Q1.out (by simp; omega) _) (by simp; omega) _

theorem row_ne {w : World} {b1 b2 n1 n2 m1 m2 c1 c2 g1 g2 : Nat} {e1 e2 : TypeId} {xs ys : List Value} (h1 : w.ownsRow b1 e1 n1 (.slice (some ⟨g1, 0, none⟩) m1 c1) m1 xs) (h2 : w.ownsRow b2 e2 n2 (.slice (some ⟨g2, 0, none⟩) m2 c2) m2 ys) (hne : e1 ≠ e2) : g1 ≠ g2 := by
  rintro rfl
  rcases h1.2 with ⟨h', _⟩ | ⟨g, cap, cur, h', _, hg, _⟩
  · simp at h'
  rcases h2.2 with ⟨h'', _⟩ | ⟨g', cap', cur', h'', _, hg', _⟩
  · simp at h''
  simp only [Value.slice.injEq, Option.some.injEq, Addr.mk.injEq, and_true, true_and] at h' h''
  obtain ⟨rfl, _⟩ := h'
  obtain ⟨rfl, _⟩ := h''
  rw [hg] at hg'
  simp only [Option.some.injEq, Obj.cells.injEq] at hg'
  exact hne hg'.2.1
/-- Headers of cells in a row of the call's own. -/
def OwnC (w : World) (base b c n : Nat) (L : List Value) : Prop := w.ownsRow base 60 2 (.slice (some ⟨b, 0, none⟩) n c) n L
/-- A cell's rows, by the headers. -/
def RowAt (w : World) (lo : Nat) (L : List Value) (i : Nat) (x : Ce) : Prop :=
  ∃ g0 c0 g1 c1, L[i * 2]? = some (.slice (some ⟨g0, 0, none⟩) x.pl.length c0) ∧ L[i * 2 + 1]? = some (.slice (some ⟨g1, 0, none⟩) x.st.length c1) ∧ CeW w lo x x.pl.length x.st.length g0 c0 g1 c1
def StoW (w : World) (lo : Nat) (L : List Value) (xs : List Ce) : Prop := ∀ i x, xs[i]? = some x → RowAt w lo L i x
def SmallC (xs : List Ce) : Prop := ∀ x ∈ xs, x.pl.length ≤ 1000 ∧ x.st.length ≤ 1000
theorem CeW.below {w w' : World} {lo n m g0 c0 g1 c1 : Nat} {x : Ce} (h : CeW w lo x n m g0 c0 g1 c1) (hb : Below w.heap.size w w') : CeW w' lo x n m g0 c0 g1 c1 := ⟨ownsRow_below h.pl hb, ownsRow_below h.st hb⟩
theorem CeW.mono {w : World} {lo lo' n m g0 c0 g1 c1 : Nat} {x : Ce} (h : CeW w lo x n m g0 c0 g1 c1) (hl : lo' ≤ lo) : CeW w lo' x n m g0 c0 g1 c1 := ⟨World.ownsRow.mono h.pl hl, World.ownsRow.mono h.st hl⟩
theorem CeW.grown {w w' : World} {lo n m g0 c0 g1 c1 base b c k : Nat} {x : Ce} {L : List Value} (h : CeW w lo x n m g0 c0 g1 c1) (hg : w.grownBy w' (some b)) (ho : OwnC w base b c k L) : CeW w' lo x n m g0 c0 g1 c1 :=
  ⟨h.pl.kept hg (.inr (by simpa [Value.ownBlock] using row_ne h.pl ho (by decide))), h.st.kept hg (.inr (by simpa [Value.ownBlock] using row_ne h.st ho (by decide)))⟩
theorem StoW.below {w w' : World} {lo : Nat} {L : List Value} {xs : List Ce} (h : StoW w lo L xs) (hb : Below w.heap.size w w') : StoW w' lo L xs := fun i x hx => by
  obtain ⟨g0, c0, g1, c1, h0, h1, hc⟩ := h i x hx
  exact ⟨g0, c0, g1, c1, h0, h1, hc.below hb⟩
theorem StoW.mono {w : World} {lo lo' : Nat} {L : List Value} {xs : List Ce} (h : StoW w lo L xs) (hl : lo' ≤ lo) : StoW w lo' L xs := fun i x hx => by
  obtain ⟨g0, c0, g1, c1, h0, h1, hc⟩ := h i x hx
  exact ⟨g0, c0, g1, c1, h0, h1, hc.mono hl⟩
theorem StoW.grown {w w' : World} {lo base b c k : Nat} {L M : List Value} {xs : List Ce} (h : StoW w lo L xs) (hg : w.grownBy w' (some b)) (ho : OwnC w base b c k M) : StoW w' lo L xs := fun i x hx => by
  obtain ⟨g0, c0, g1, c1, h0, h1, hc⟩ := h i x hx
  exact ⟨g0, c0, g1, c1, h0, h1, hc.grown hg ho⟩
theorem StoW.append {w : World} {lo : Nat} {L M : List Value} {xs ys : List Ce} (h : StoW w lo L xs) (k : StoW w lo M ys) (hl : L.length = xs.length * 2) : StoW w lo (L ++ M) (xs ++ ys) := fun i x hx => by
  rcases Nat.lt_or_ge i xs.length with hi | hi
  · rw [List.getElem?_append_left hi] at hx
    obtain ⟨g0, c0, g1, c1, h0, h1, hc⟩ := h i x hx
    exact ⟨g0, c0, g1, c1, by rw [List.getElem?_append_left (by omega)]; exact h0, by rw [List.getElem?_append_left (by omega)]; exact h1, hc⟩
  · rw [List.getElem?_append_right hi] at hx
    obtain ⟨g0, c0, g1, c1, h0, h1, hc⟩ := k _ x hx
    refine ⟨g0, c0, g1, c1, ?_, ?_, hc⟩
    · rw [List.getElem?_append_right (by omega), show i * 2 - L.length = (i - xs.length) * 2 by omega]; exact h0
    · rw [List.getElem?_append_right (by omega), show i * 2 + 1 - L.length = (i - xs.length) * 2 + 1 by omega]; exact h1
theorem StoW.one {w : World} {lo g0 c0 g1 c1 : Nat} {x : Ce} (h : CeW w lo x x.pl.length x.st.length g0 c0 g1 c1) : StoW w lo [.slice (some ⟨g0, 0, none⟩) x.pl.length c0, .slice (some ⟨g1, 0, none⟩) x.st.length c1] [x] := fun i y hy => by
  cases i with
  | zero => simp at hy; subst hy; exact ⟨g0, c0, g1, c1, rfl, rfl, h⟩
  | succ i => simp at hy
theorem row_cap {w : World} {base n c g : Nat} {e : TypeId} {sz : Nat} {L : List Value} (h : w.ownsRow base e sz (.slice (some ⟨g, 0, none⟩) n c) n L) : n ≤ c := by
  rcases h.2 with ⟨h', _⟩ | ⟨g', cap', cur, h', _, _, hnc, _⟩
  · simp at h'
  · simp only [Value.slice.injEq, Option.some.injEq, Addr.mk.injEq, and_true, true_and] at h'
    obtain ⟨rfl, rfl⟩ := h'
    exact hnc
theorem CeN.of_sto {w : World} {lo base b c n : Nat} {L : List Value} {xs : List Ce} (ho : OwnC w base b c n L) (hs : StoW w lo L xs) (hn : xs.length = n) (hb : SmallC xs) : CeN w (some ⟨b, 0, none⟩) xs := fun h0 => by
  refine ⟨b, 0, rfl, (World.ownsRow.lt ho b rfl).2, fun i x hx => ?_⟩
  have hi : i < n := by rw [← hn]; exact (List.getElem?_eq_some_iff.1 hx).1
  obtain ⟨g0, c0, g1, c1, a0, a1, a2⟩ := hs i x hx
  have hsz := hb x (List.mem_of_getElem? hx)
  refine ⟨g0, 0, c0, g1, 0, c1, ⟨?_, ?_, Lie.of_own (c := Sl.cells) (fun _ => rfl) a2.pl, Lie.of_own (c := Va.cells) (fun _ => rfl) a2.st, row_cap a2.pl, row_cap a2.st, by unfold maxLen; omega, by unfold maxLen; omega⟩⟩
  · rw [Nat.zero_add, World.ownsRow.cellAt ho (i * 2) (by omega)]; exact a0
  · rw [Nat.zero_add, World.ownsRow.cellAt ho (i * 2 + 1) (by omega)]; exact a1
theorem CeN.take {w : World} {A : Option Addr} {xs : List Ce} (h : CeN w A xs) (k : Nat) : CeN w A (xs.take k) := fun h0 => by
  obtain ⟨b, off, e, hlt, hc⟩ := h (by rw [List.length_take] at h0; omega)
  refine ⟨b, off, e, hlt, fun i x hx => hc i x ?_⟩
  rw [List.getElem?_take] at hx
  split at hx
  · exact hx
  · cases hx
theorem CeN.drop {w : World} {A : Option Addr} {xs : List Ce} (h : CeN w A xs) (k c : Nat) (hc' : xs.length ≤ c) : CeN w (if c = k then A else A.map (·.add (k * 2))) (xs.drop k) := fun h0 => by
  have hl : k < xs.length := by rw [List.length_drop] at h0; omega
  obtain ⟨b, off, rfl, hlt, hc⟩ := h (by omega)
  rw [if_neg (by omega)]
  refine ⟨b, off + k * 2, by simp [Addr.add], hlt, fun i x hx => ?_⟩
  rw [List.getElem?_drop] at hx
  have := hc (k + i) x hx
  rw [show off + (k + i) * 2 = off + k * 2 + i * 2 by omega] at this
  exact this

/-- An append of cells onto a row of the call's own. -/
theorem wp_append_cells {w : World} {ops : Array Oper} {rest : List Oper} {o : Oper} {a : Act} {Q : Exit → Act → World → Prop} (hgd : o.guard = none) (s x : Operand)
    (ho : o.op = .call { callee := .builtin .append, args := #[s, x], argTypes := #[27, 27] }) (base b c n : Nat) (L : List Value) (hs : a.eval s = .slice (some ⟨b, 0, none⟩) n c) (hown : OwnC w base b c n L)
    (ad : Addr) (c2 m : Nat) (M : List Value) (hx : a.eval x = .slice (some ad) m c2) (hm : M.length = m * 2) (hcells : ∀ j u, M[j]? = some u → w.cell? (ad.add j) = some u) (h1 : ∀ u ∈ M, u.oneCell' = true)
    (hlen : n + m ≤ 100000) (hbase : base ≤ w.heap.size)
    (h : ∀ b' c' w', OwnC w' base b' c' (n + m) (L ++ M) → w.grownBy w' (some b) → Hid (b' = b ∨ b' = w.heap.size) → wpList Try.prog ops Q rest (a.put o.dst (.slice (some ⟨b', 0, none⟩) (n + m) c')) w') :
    wpList Try.prog ops Q (o :: rest) a w := by
  obtain ⟨i0, hi0, hz0, hz1, hz2⟩ := info_parts infoCe
  refine wpList_append_own_at w hgd s x _ ho base 60 i0 _ 2 48 Try.underlying27 hi0 hz0 hz1 hz2 rfl (by omega) _ n _ hs hown ad m c2 _ hx hm hcells h1 (by simp only [maxLen]; omega) (by omega) hbase ?_
  intro v' w' hown' hg hnil hat
  have hform : ∃ b' c', v' = .slice (some ⟨b', 0, none⟩) (n + m) c' := by
    rcases hown'.2 with ⟨rfl, _⟩ | ⟨g', cap', cur, rfl, _⟩
    · simp [Value.ownBlock] at hat
    · exact ⟨g', cap', rfl⟩
  obtain ⟨b', c', rfl⟩ := hform
  exact h b' c' w' hown' hg (Lib.hid (by simpa [Value.ownBlock] using hat))
theorem OwnC.none_ (w : World) {base : Nat} (hb : base ≤ w.heap.size) : OwnC (w.alloc (.cells #[] 60)) base w.heap.size 0 0 [] :=
  World.ownsRow_lit (e := 60) (size := 2) w #[] 0 hb (by decide) rfl
def StoreX (xs : List Ce) (w : World) (e : Ending) (w' : World) : Prop :=
  Below w.heap.size w w' ∧ ∃ b c L, e = .returned (.slice (some ⟨b, 0, none⟩) xs.length c) ∧ OwnC w' w.heap.size b c xs.length L ∧ StoW w' w.heap.size L xs
theorem two_one (u v : Value) (hu : u.oneCell' = true) (hv : v.oneCell' = true) : ∀ z ∈ [u, v], z.oneCell' = true := by
  intro z hz
  simp at hz
  rcases hz with rfl | rfl
  · exact hu
  · exact hv

set_option maxHeartbeats 2000000 in
theorem copyStore_any (A : Option Addr) (c n : Nat) (xs : List Ce) (w : World) (hx : CeN w A xs) (hn : xs.length = n) (hl : n ≤ 10000) (hs : SmallC xs) :
    Calls Try.prog 17 #[.slice A n c] w (StoreX xs w) := by
  have HN := Lib.hid hn
  have HX := Lib.hid hx
  have HS := Lib.hid hs
  have HE := Lib.hid (OwnC.none_ w (base := w.heap.size) (Nat.le_refl _))
  have HB0 := Lib.hid (Below.alloc (Below.refl w.heap.size w) (Nat.le_refl _) (.cells #[] 60))
  clear hx hn hs
  go_enter Try.func17, Try.ntmps17
  go_wp2_with fail
  go_loopw [3, 4] (fun v i wr => ∃ (k b c : Nat) (L : List Value), k ≤ n ∧ v = .slice (some ⟨b, 0, none⟩) k c ∧ i = .int .i64 k ∧ Hid (OwnC wr w.heap.size b c k L) ∧ Hid (StoW wr w.heap.size L (xs.take k)) ∧ Hid (Below w.heap.size w wr)) (fun _ i _ => n - (intOf i).toNat)
  case atStart => exact ⟨0, w.heap.size, 0, [], by omega, rfl, rfl, HE, Lib.hid (fun i x hx => by simp at hx), HB0⟩
  case round =>
    obtain ⟨k, b, cc, L, hk, rfl, rfl, HO, HW, HB⟩ := hrel
    by_cases hlt : k < n
    · obtain ⟨b', off, rfl, hblt, hcell⟩ := (HX.out.below HB.out) (by have := HN.out; omega)
      obtain ⟨x, hx⟩ := at_some (show k < xs.length by rw [HN.out]; exact hlt)
      obtain ⟨b0, o0, c0, b1, o1, c1, hat⟩ := hcell k x hx
      have e0 := hat.e0
      have e1 := hat.e1
      have hsz := HS.out x (List.mem_of_getElem? hx)
      have K := Lib.hid (copyCell_any b0 o0 b1 o1 c0 c1 x.pl.length x.st.length x wr hat.pl hat.st rfl rfl (by omega) (by omega))
      have HXK := Lib.hid hx
      clear hcell hx hat
      go_wp2_with fail
      refine K.out.mono ?_
      rintro e w2 ⟨hb, g0, d0, g1, d1, rfl, hcw⟩
      have HB2 := Lib.hid (more HB.out (Nat.le_refl _) hb)
      have HO2 := Lib.hid (World.ownsRow.alloc (ownsRow_below HO.out hb) (.cells #[.slice (some ⟨g0, 0, none⟩) x.pl.length d0, .slice (some ⟨g1, 0, none⟩) x.st.length d1] 60))
      have hba := Below.alloc (Below.refl w2.heap.size w2) (Nat.le_refl _) (.cells #[.slice (some ⟨g0, 0, none⟩) x.pl.length d0, .slice (some ⟨g1, 0, none⟩) x.st.length d1] 60)
      have HW2 := Lib.hid ((HW.out.below hb).below hba)
      have HC2 := Lib.hid ((hcw.mono HB.out.size).below hba)
      have HB3 := Lib.hid (HB2.out.trans (hba.mono HB2.out.size))
      have HLL := Lib.hid (show L.length = (xs.take k).length * 2 by rw [HO.out.1, List.length_take, HN.out]; omega)
      have HNW := Lib.hid (World.news_of_block (cs := #[.slice (some ⟨g0, 0, none⟩) x.pl.length d0, .slice (some ⟨g1, 0, none⟩) x.st.length d1]) (t := 60) (fr := (0, 0)) (heap_alloc_new w2 _))
      have hsz2 := HB2.out.size
      clear hb hcw e0 e1 hba
      go_wp2_with (at_builtin; refine wp_append_cells rfl (.tmp 12) (.tmp 18) rfl w.heap.size b cc k L rfl HO2.out ⟨w2.heap.size, 0, none⟩ 1 1 [.slice (some ⟨g0, 0, none⟩) x.pl.length d0, .slice (some ⟨g1, 0, none⟩) x.st.length d1] rfl rfl HNW.out (two_one _ _ rfl rfl) (by omega) (by simp; omega) ?_; intro b3 c3 w3 ho hgr HAT; have HO3 := Lib.hid ho; have HW3 := Lib.hid (StoW.append (HW2.out.grown hgr HO2.out) (StoW.one (HC2.out.grown hgr HO2.out)) HLL.out); have HB4 := Lib.hid (HB3.out.grown hgr HB3.out.size (fun k hk => by injection hk with hk; have := (World.ownsRow.lt HO2.out b rfl).1; omega)); clear ho hgr)
      go_roundw
      case rel => exact ⟨k + 1, b3, c3, _, by omega, rfl, by go_num, HO3, Lib.hid (by rw [List.take_succ_eq_append_getElem (by rw [HN.out]; exact hlt), (List.getElem?_eq_some_iff.1 HXK.out).2]; exact HW3.out), HB4⟩
      case measure => simp [intOf]; omega
    · obtain rfl : k = n := by omega
      have HT := Lib.hid (show xs.take k = xs by rw [List.take_of_length_le (by rw [HN.out]; exact Nat.le_refl _)])
      go_wp2_with fail
      go_ret
      refine ⟨HB.out, b, cc, L, by rw [HN.out]; rfl, by rw [HN.out]; exact HO.out, by have := HW.out; rw [HT.out] at this; exact this⟩

end Go.Proofs.Ytkofajjlkhamkaa
