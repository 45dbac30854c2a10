/- Stores: the document's own copy of a cell. -/
import Derived.Test.YtfdejmdhcjfboaaSto9
import Derived.Test.YtfdejmdhcjfboaaDrwS
import Derived.Deep.RegionHeld3
namespace Go.Proofs.Ytfdejmdhcjfboaa
open Go.Joins Go.ChangeShapes Go.WideShapes Go.ChangeAt Go.RowKit Go.Deep
set_option linter.unusedVariables false
set_option linter.unusedSimpArgs false

theorem SlL.news {w : World} {b o : Nat} {xs : List Sl} (h : SlL w (some ⟨b, o, none⟩) xs) : ∀ j u, (xs.flatMap Sl.cells)[j]? = some u → w.cell? ((⟨b, o, none⟩ : Addr).add j) = some u := by
  intro j u hu
  have hj : j < xs.length * 2 := by rw [← len_cells]; exact (List.getElem?_eq_some_iff.1 hu).1
  obtain ⟨b', off, he, hlt, hc⟩ := h (by omega)
  simp only [Option.some.injEq, Addr.mk.injEq, and_true] at he
  obtain ⟨rfl, rfl⟩ := he
  obtain ⟨x, hx⟩ := at_some (show j / 2 < xs.length by omega)
  have key : ∀ (ys : List Sl) (i r : Nat), ys[i]? = some x → r < 2 → (ys.flatMap Sl.cells)[i * 2 + r]? = x.cells[r]? := by
    intro ys
    induction ys with
    | nil => intro i r hi; simp at hi
    | cons y ys ih =>
      intro i r hi hr
      cases i with
      | zero =>
        simp at hi
        subst hi
        rw [List.flatMap_cons, List.getElem?_append_left (by simp [Sl.cells]; omega)]
        simp
      | succ i =>
        simp at hi
        rw [List.flatMap_cons, List.getElem?_append_right (by simp [Sl.cells]; omega), show (i + 1) * 2 + r - y.cells.length = i * 2 + r by simp [Sl.cells]; omega]
        exact ih i r hi hr
  have hu2 := key xs (j / 2) (j % 2) hx (by omega)
  rw [show j / 2 * 2 + j % 2 = j by omega, hu] at hu2
  have := hc (j / 2) x hx (j % 2) u hu2.symm
  rw [show o + j / 2 * 2 + j % 2 = o + j by omega] at this
  rw [add_plain]
  exact this

/-- An append onto nothing, as a step of a region that draws its order. -/
theorem step_append_new {w : World} {ops : Array Oper} {o : Oper} {a : Act} {K : Act → World → Prop} {Q : Exit → Act → World → Prop} {E : Prop} (hgd : o.guard = none) (s x : Operand) (t e : TypeId) (i : TypeInfo) (z : Value) (size bytes : Nat)
    (ho : o.op = .call { callee := .builtin .append, args := #[s, x], argTypes := #[t, t] }) (ht : Try.prog.underlying t = some (.slice e)) (hi : Try.prog.info? e = some i) (hz : i.zero = some z) (hsize : i.size = size) (hby : i.bytes = bytes) (hzs : z.cells.size = size) (hsz : 0 < size)
    (base b : Nat) (hs : a.eval s = .slice (some ⟨b, 0, none⟩) 0 0) (hown : w.ownsRow base e size (.slice (some ⟨b, 0, none⟩) 0 0) 0 [])
    (ad : Addr) (c2 m : Nat) (news : List Value) (hx : a.eval x = .slice (some ad) m c2) (hl : news.length = m * size) (hcells : ∀ j u, news[j]? = some u → w.cell? (ad.add j) = some u) (h1 : ∀ u ∈ news, u.oneCell' = true)
    (hm : m ≤ 4000000) (hb : bytes ≤ 1000) (hbase : base ≤ w.heap.size)
    (h : ∀ b' c' w', w'.ownsRow base e size (.slice (some ⟨b', 0, none⟩) m c') m news → w.grownBy w' (some b) → (b' = b ∨ b' = w.heap.size) → K (a.put o.dst (.slice (some ⟨b', 0, none⟩) m c')) w') :
    if Region.wanted o (yielded ops a.tmps) = true then Oper.wp Try.prog o a w K Q else E := by
  have hw : Region.wanted o (yielded ops a.tmps) = true := by simp [Region.wanted, hgd]
  rw [if_pos hw]
  have hbm : m * bytes ≤ 4000000 * 1000 := Nat.mul_le_mul hm hb
  obtain ⟨v', w', hr, hown', hg, _, hat⟩ := run_append_own_at (P := Try.prog) w base t o.type e i z size bytes ht hi hz hsize hby hzs hsz _ 0 [] hown ad m c2 news hl hcells h1 (by simp only [maxLen]; omega) (by rw [Nat.zero_add]; omega) hbase
  unfold Oper.wp execOp
  simp only [ho, resolve, invoke, builtin, Sem.run_bind, Sem.run_pure, Result.andThen_ok, List.map_toArray, List.map_cons, List.map_nil, hs, hx, hr]
  rw [Nat.zero_add] at hown'
  have hform : ∃ b' c', v' = .slice (some ⟨b', 0, none⟩) m c' := by
    rcases hown'.2 with ⟨rfl, _⟩ | ⟨g', cap', cur, rfl, _⟩
    · simp [Value.ownBlock] at hat
    · exact ⟨g', cap', rfl⟩
  obtain ⟨b', c', rfl⟩ := hform
  exact h b' c' w' hown' hg (by simpa [Value.ownBlock] using hat)

/-- A cell's two rows, wherever they have room. -/
structure CeW (w : World) (lo : Nat) (x : Ce) (n m g0 c0 g1 c1 : Nat) : Prop where
  pl : w.ownsRow lo 66 2 (.slice (some ⟨g0, 0, none⟩) n c0) n (x.pl.flatMap Sl.cells)
  st : w.ownsRow lo 90 3 (.slice (some ⟨g1, 0, none⟩) m c1) m (x.st.flatMap Va.cells)
def CopyX (x : Ce) (n m : Nat) (w : World) (e : Ending) (w' : World) : Prop :=
  Below w.heap.size w w' ∧ ∃ g0 c0 g1 c1, e = .returned (.agg #[.slice (some ⟨g0, 0, none⟩) n c0, .slice (some ⟨g1, 0, none⟩) m c1]) ∧ CeW w' w.heap.size x n m g0 c0 g1 c1
theorem set_own {w : World} {base n m cap g : Nat} {e : TypeId} {xs : List Value} (ho : w.ownsRow base e n (.slice (some ⟨g, 0, none⟩) m cap) m xs) {p : Addr} (hp : p.block ≠ g) (u : Value) : (w.setCell p u).ownsRow base e n (.slice (some ⟨g, 0, none⟩) m cap) m xs :=
  ho.kept (row := some p.block) ⟨rfl, rfl, rfl, by simp [World.setCell], fun k _ hk => heap_setCell_other w p k u (fun e => hk (by simp [e]))⟩ (.inr (by simpa [Value.ownBlock] using fun e => hp e.symm))

set_option maxHeartbeats 8000000 in
theorem copyCell_any (p o q r c0 c1 n m : Nat) (x : Ce) (w : World) (hx : SlL w (some ⟨p, o, none⟩) x.pl) (hy : VaL w (some ⟨q, r, none⟩) x.st) (hn : x.pl.length = n) (hm : x.st.length = m) (hl0 : n ≤ 1000000) (hl1 : m ≤ 1000000) :
    Calls Try.prog 86 #[.agg #[.slice (some ⟨p, o, none⟩) n c0, .slice (some ⟨q, r, none⟩) m c1]] w (CopyX x n m w) := by
  have HN := Lib.hid hn
  have HM := Lib.hid hm
  have HX := Lib.hid hx
  have HY := Lib.hid hy
  obtain ⟨i0, hi0, hz0, hs0, hb0⟩ := info_parts infoSl
  obtain ⟨i1, hi1, hz1, hs1, hb1⟩ := info_parts infoVa
  have I0 := Lib.hid (And.intro hi0 (And.intro hz0 (And.intro hs0 hb0)))
  have I1 := Lib.hid (And.intro hi1 (And.intro hz1 (And.intro hs1 hb1)))
  have HB0 := Lib.hid (Below.drew ((Below.alloc (Below.refl w.heap.size w) (Nat.le_refl _) (.cells #[.slice (some ⟨p, o, none⟩) n c0, .slice (some ⟨q, r, none⟩) m c1] 60)).alloc (by simp) (.cells #[.slice none 0 0, .slice none 0 0] 60)))
  clear hx hy hn hm hi0 hz0 hs0 hb0 hi1 hz1 hs1 hb1
  go_enter Try.func86, Try.ntmps86
  go_wp2_with fail
  obtain ⟨wd, hwd⟩ : ∃ wd, ((w.alloc (.cells #[.slice (some ⟨p, o, none⟩) n c0, .slice (some ⟨q, r, none⟩) m c1] 60)).alloc (.cells #[.slice none 0 0, .slice none 0 0] 60)).drew = wd := ⟨_, rfl⟩
  have s0 : wd.cell? ⟨w.heap.size, 0, none⟩ = some (.slice (some ⟨p, o, none⟩) n c0) := by subst hwd; go_simp
  have s1 : wd.cell? ⟨w.heap.size, 1, none⟩ = some (.slice (some ⟨q, r, none⟩) m c1) := by subst hwd; go_simp
  have k0 : wd.cell? ⟨w.heap.size + 1, 0, none⟩ = some (.slice none 0 0) := by subst hwd; go_simp
  have k1 : wd.cell? ⟨w.heap.size + 1, 1, none⟩ = some (.slice none 0 0) := by subst hwd; go_simp
  have k2 : ∀ j, wd.frozen? ⟨w.heap.size + 1, j, none⟩ = false := fun j => by subst hwd; go_simp
  have hzd : w.heap.size + 2 = wd.heap.size := by subst hwd; simp
  have KK := Lib.hid (And.intro k0 (And.intro k1 k2))
  refine wp_region_held_drew (S := fun w' => w'.cell? ⟨w.heap.size, 0, none⟩ = some (.slice (some ⟨p, o, none⟩) n c0) ∧ w'.cell? ⟨w.heap.size, 1, none⟩ = some (.slice (some ⟨q, r, none⟩) m c1)) (by kernel_rfl) ?_ (fun hHeld => ?_)
  · rw [hwd]; exact ⟨s0, s1⟩
  rw [hwd] at HB0 hHeld ⊢
  clear hwd s0 s1 k0 k1 k2
  refine wpAnyH_take (i := 1) (oi := _) (v := ?_) rfl (by kernel_rfl) (by kernel_rfl) (by kernel_rfl) (fun _ _ _ h => h) (Or.inl ⟨by kernel_rfl, ?_⟩) (by assumption) ?_
  rotate_left
  · (intro w hSw; (try dsimp only at hSw); go_simp)
    try with_reducible rfl
  (try simp only [Act.put, List.getElem_toArray, List.getElem_cons_zero, List.getElem_cons_succ, List.setIfInBounds_toArray, List.set_cons_zero, List.set_cons_succ])
  refine wpAnyH_take (i := 2) (oi := _) (v := ?_) rfl (by kernel_rfl) (by kernel_rfl) (by kernel_rfl) (fun _ _ _ h => h) (Or.inl ⟨by kernel_rfl, ?_⟩) (by assumption) ?_
  rotate_left
  · (intro w hSw; (try dsimp only at hSw); go_simp)
    try with_reducible rfl
  (try simp only [Act.put, List.getElem_toArray, List.getElem_cons_zero, List.getElem_cons_succ, List.setIfInBounds_toArray, List.set_cons_zero, List.set_cons_succ])
  refine wpAnyH_take (i := 5) (oi := _) (v := ?_) rfl (by kernel_rfl) (by kernel_rfl) (by kernel_rfl) (fun _ _ _ h => h) (Or.inl ⟨by kernel_rfl, ?_⟩) (by assumption) ?_
  rotate_left
  · (intro w hSw; (try dsimp only at hSw); go_simp)
    try with_reducible rfl
  (try simp only [Act.put, List.getElem_toArray, List.getElem_cons_zero, List.getElem_cons_succ, List.setIfInBounds_toArray, List.set_cons_zero, List.set_cons_succ])
  refine wpAnyH_take (i := 6) (oi := _) (v := ?_) rfl (by kernel_rfl) (by kernel_rfl) (by kernel_rfl) (fun _ _ _ h => h) (Or.inl ⟨by kernel_rfl, ?_⟩) (by assumption) ?_
  rotate_left
  · (intro w hSw; (try dsimp only at hSw); go_simp)
    try with_reducible rfl
  (try simp only [Act.put, List.getElem_toArray, List.getElem_cons_zero, List.getElem_cons_succ, List.setIfInBounds_toArray, List.set_cons_zero, List.set_cons_succ])
  refine wpAnyH_ready (rs := [0, 4]) (by kernel_rfl) (by simp) ?_
  refine AllReadyH.cons (o := _) rfl (fun K hK => ?_) ?_
  · skip
    go_simp
    refine hK.out _ _ ?_ (fun hHeldv1 => ?_)
    · have hb := Below.alloc (Below.refl wd.heap.size wd) (Nat.le_refl _) (.cells #[] 66)
      exact ⟨(hb.cell (p := ⟨w.heap.size, 0, none⟩) (by show w.heap.size < _; omega)).trans hHeld.1, (hb.cell (p := ⟨w.heap.size, 1, none⟩) (by show w.heap.size < _; omega)).trans hHeld.2⟩
    have hb := Below.alloc (Below.refl wd.heap.size wd) (Nat.le_refl _) (.cells #[] 66)
    have hzv1 : wd.heap.size < (wd.alloc (.cells #[] 66)).heap.size := by simp
    have R0 := Lib.hid (show (wd.alloc (.cells #[] 66)).ownsRow w.heap.size 66 2 (.slice (some ⟨wd.heap.size, 0, none⟩) 0 0) 0 [] from OwnS.none_ wd (by omega))
    replace HB0 := Lib.hid (HB0.out.trans (hb.mono (by omega)))
    replace KK := Lib.hid (And.intro ((hb.cell (p := ⟨w.heap.size + 1, 0, none⟩) (by show w.heap.size + 1 < _; omega)).trans KK.out.1) (And.intro ((hb.cell (p := ⟨w.heap.size + 1, 1, none⟩) (by show w.heap.size + 1 < _; omega)).trans KK.out.2.1) (fun j => (hb.frozen (p := ⟨w.heap.size + 1, j, none⟩) (by show w.heap.size + 1 < _; omega)).trans (KK.out.2.2 j))))
    have hB0 : w.heap.size + 2 ≤ wd.heap.size := by omega
    obtain ⟨B0, hBB0⟩ : ∃ B, wd.heap.size = B := ⟨_, rfl⟩
    obtain ⟨v1, hv1⟩ : ∃ v, wd.alloc (.cells #[] 66) = v := ⟨_, rfl⟩
    rw [hv1] at HB0 KK R0 hHeldv1 hzv1 hb
    rw [hv1]
    rw [hBB0] at R0 hB0 hzv1 ⊢
    have hltv1 := hb.size
    rw [hBB0] at hltv1
    clear hK K hb hv1 hHeld
    have hHeld := hHeldv1
    clear hHeldv1
    (try simp only [Act.put, List.getElem_toArray, List.getElem_cons_zero, List.getElem_cons_succ, List.setIfInBounds_toArray, List.set_cons_zero, List.set_cons_succ])
    refine wpAnyH_ready (rs := [3, 4]) (by kernel_rfl) (by simp) ?_
    refine AllReadyH.cons (o := _) rfl (fun K hK => ?_) ?_
    · skip
      refine step_append_new (by rfl) (.tmp 3) (.tmp 5) 25 66 i0 _ 2 16 (by rfl) Try.underlying25 I0.out.1 I0.out.2.1 I0.out.2.2.1 I0.out.2.2.2 (by rfl) (by omega) w.heap.size B0 (by rfl) R0.out ⟨p, o, none⟩ c0 n (x.pl.flatMap Sl.cells) (by rfl) (by rw [len_cells, HN.out]) (SlL.news (HX.out.below HB0.out)) (slone_cells x.pl) (by omega) (by omega) (by omega) ?_
      intro g0 d0 v2 hown hgr hp0
      refine hK.out _ _ ?_ (fun hHeldv2 => ?_)
      · exact ⟨(World.cell?_of_block (a := ⟨w.heap.size, 0, none⟩) (hgr.block _ (by show w.heap.size < _; omega) (by simp; omega))).trans hHeld.1, (World.cell?_of_block (a := ⟨w.heap.size, 1, none⟩) (hgr.block _ (by show w.heap.size < _; omega) (by simp; omega))).trans hHeld.2⟩
      have hzv2 := hgr.size
      have Q0 := Lib.hid hown
      have hq0 := (World.ownsRow.lt hown g0 rfl).2
      replace HB0 := Lib.hid (HB0.out.grown hgr (by omega) (fun k hk => by injection hk with hk; omega))
      replace KK := Lib.hid (And.intro ((World.cell?_of_block (a := ⟨w.heap.size + 1, 0, none⟩) (hgr.block _ (by show w.heap.size + 1 < _; omega) (by simp; omega))).trans KK.out.1) (And.intro ((World.cell?_of_block (a := ⟨w.heap.size + 1, 1, none⟩) (hgr.block _ (by show w.heap.size + 1 < _; omega) (by simp; omega))).trans KK.out.2.1) (fun j => (World.frozen?_of_block (a := ⟨w.heap.size + 1, j, none⟩) (hgr.block _ (by show w.heap.size + 1 < _; omega) (by simp; omega))).trans (KK.out.2.2 j))))
      clear hK K hown hgr R0 hHeld
      have hHeld := hHeldv2
      clear hHeldv2
      (try simp only [Act.put, List.getElem_toArray, List.getElem_cons_zero, List.getElem_cons_succ, List.setIfInBounds_toArray, List.set_cons_zero, List.set_cons_succ])
      refine wpAnyH_ready (rs := [4]) (by kernel_rfl) (by simp) ?_
      refine AllReadyH.cons (o := _) rfl (fun K hK => ?_) AllReadyH.nil
      go_simp
      refine hK.out _ _ ?_ (fun hHeldv3 => ?_)
      · have hb := Below.alloc (Below.refl v2.heap.size v2) (Nat.le_refl _) (.cells #[] 90)
        exact ⟨(hb.cell (p := ⟨w.heap.size, 0, none⟩) (by show w.heap.size < _; omega)).trans hHeld.1, (hb.cell (p := ⟨w.heap.size, 1, none⟩) (by show w.heap.size < _; omega)).trans hHeld.2⟩
      have hb := Below.alloc (Below.refl v2.heap.size v2) (Nat.le_refl _) (.cells #[] 90)
      have hzv3 : v2.heap.size < (v2.alloc (.cells #[] 90)).heap.size := by simp
      have R1 := Lib.hid (show (v2.alloc (.cells #[] 90)).ownsRow w.heap.size 90 3 (.slice (some ⟨v2.heap.size, 0, none⟩) 0 0) 0 [] from OwnV.none_ v2 (by omega))
      replace Q0 := Lib.hid (ownsRow_below Q0.out hb)
      replace HB0 := Lib.hid (HB0.out.trans (hb.mono (by omega)))
      replace KK := Lib.hid (And.intro ((hb.cell (p := ⟨w.heap.size + 1, 0, none⟩) (by show w.heap.size + 1 < _; omega)).trans KK.out.1) (And.intro ((hb.cell (p := ⟨w.heap.size + 1, 1, none⟩) (by show w.heap.size + 1 < _; omega)).trans KK.out.2.1) (fun j => (hb.frozen (p := ⟨w.heap.size + 1, j, none⟩) (by show w.heap.size + 1 < _; omega)).trans (KK.out.2.2 j))))
      have hB1 : w.heap.size + 2 ≤ v2.heap.size := by omega
      obtain ⟨B1, hBB1⟩ : ∃ B, v2.heap.size = B := ⟨_, rfl⟩
      obtain ⟨v3, hv3⟩ : ∃ v, v2.alloc (.cells #[] 90) = v := ⟨_, rfl⟩
      rw [hv3] at HB0 KK R1 hHeldv3 hzv3 hb Q0
      rw [hv3]
      rw [hBB1] at R1 hB1 hzv3 ⊢
      have hltv3 := hb.size
      rw [hBB1] at hltv3
      clear hK K hb hv3 hHeld
      have hHeld := hHeldv3
      clear hHeldv3
      (try simp only [Act.put, List.getElem_toArray, List.getElem_cons_zero, List.getElem_cons_succ, List.setIfInBounds_toArray, List.set_cons_zero, List.set_cons_succ])
      refine wpAnyH_ready (rs := [7]) (by kernel_rfl) (by simp) ?_
      refine AllReadyH.cons (o := _) rfl (fun K hK => ?_) AllReadyH.nil
      refine step_append_new (by rfl) (.tmp 7) (.tmp 9) 43 90 i1 _ 3 32 (by rfl) Try.underlying43 I1.out.1 I1.out.2.1 I1.out.2.2.1 I1.out.2.2.2 (by rfl) (by omega) w.heap.size B1 (by rfl) R1.out ⟨q, r, none⟩ c1 m (x.st.flatMap Va.cells) (by rfl) (by rw [len_vcells, HM.out]) (VaL.news (HY.out.below HB0.out)) (vone_cells x.st) (by omega) (by omega) (by omega) ?_
      intro g1 d1 v4 hown hgr hp1
      refine hK.out _ _ ?_ (fun hHeldv4 => ?_)
      · exact ⟨(World.cell?_of_block (a := ⟨w.heap.size, 0, none⟩) (hgr.block _ (by show w.heap.size < _; omega) (by simp; omega))).trans hHeld.1, (World.cell?_of_block (a := ⟨w.heap.size, 1, none⟩) (hgr.block _ (by show w.heap.size < _; omega) (by simp; omega))).trans hHeld.2⟩
      have hzv4 := hgr.size
      replace Q0 := Lib.hid (World.ownsRow.kept Q0.out hgr (.inr (by simp [Value.ownBlock]; omega)))
      have Q1 := Lib.hid hown
      have hq1 := (World.ownsRow.lt hown g1 rfl).2
      replace HB0 := Lib.hid (HB0.out.grown hgr (by omega) (fun k hk => by injection hk with hk; omega))
      replace KK := Lib.hid (And.intro ((World.cell?_of_block (a := ⟨w.heap.size + 1, 0, none⟩) (hgr.block _ (by show w.heap.size + 1 < _; omega) (by simp; omega))).trans KK.out.1) (And.intro ((World.cell?_of_block (a := ⟨w.heap.size + 1, 1, none⟩) (hgr.block _ (by show w.heap.size + 1 < _; omega) (by simp; omega))).trans KK.out.2.1) (fun j => (World.frozen?_of_block (a := ⟨w.heap.size + 1, j, none⟩) (hgr.block _ (by show w.heap.size + 1 < _; omega) (by simp; omega))).trans (KK.out.2.2 j))))
      clear hK K hown hgr R1 hHeld
      have hHeld := hHeldv4
      clear hHeldv4
      (try simp only [Act.put, List.getElem_toArray, List.getElem_cons_zero, List.getElem_cons_succ, List.setIfInBounds_toArray, List.set_cons_zero, List.set_cons_succ])
      refine wpAnyH_take (i := 8) (oi := _) (v := ?_) rfl (by kernel_rfl) (by kernel_rfl) (by kernel_rfl) (fun _ _ _ h => h) (Or.inl ⟨by kernel_rfl, ?_⟩) (by assumption) ?_
      rotate_left
      · (intro w hSw; (try dsimp only at hSw); go_simp)
        try with_reducible rfl
      (try simp only [Act.put, List.getElem_toArray, List.getElem_cons_zero, List.getElem_cons_succ, List.setIfInBounds_toArray, List.set_cons_zero, List.set_cons_succ])
      obtain ⟨k0, k1, k2⟩ := KK.out
      refine wpAnyH_ready (rs := [9]) (by kernel_rfl) (by simp) ?_
      refine AllReadyH.cons (o := _) rfl (fun K hK => ?_) AllReadyH.nil
      go_simp
      refine hK.out _ _ ?_ (fun hHeld9 => ?_)
      · exact ⟨(World.cell?_setCell_far _ _ _ _ (by simp)).trans ((World.cell?_setCell_far _ _ _ _ (by simp)).trans hHeld.1), (World.cell?_setCell_far _ _ _ _ (by simp)).trans ((World.cell?_setCell_far _ _ _ _ (by simp)).trans hHeld.2)⟩
      clear hK K hHeld9
      (try simp only [Act.put, List.getElem_toArray, List.getElem_cons_zero, List.getElem_cons_succ, List.setIfInBounds_toArray, List.set_cons_zero, List.set_cons_succ])
      refine wpAnyH_done (by kernel_rfl) ?_ _
      go_wp2_with fail
      refine bodyPost_ret (v := .agg #[.slice (some ⟨g0, 0, none⟩) n d0, .slice (some ⟨g1, 0, none⟩) m d1]) (by simp [results, Try.results86, go_sem, k0, k1, k2]) rfl ⟨?_, g0, d0, g1, d1, rfl, ?_, ?_⟩
      · exact (HB0.out.setCell (by simp) _).setCell (by simp) _
      · exact set_own (set_own Q0.out (by simp; omega) _) (by simp; omega) _
      · exact set_own (set_own Q1.out (by simp; omega) _) (by simp; omega) _
    refine AllReadyH.cons (o := _) rfl (fun K hK => ?_) AllReadyH.nil
    go_simp
    refine hK.out _ _ ?_ (fun hHeldv5 => ?_)
    · have hb := Below.alloc (Below.refl v1.heap.size v1) (Nat.le_refl _) (.cells #[] 90)
      exact ⟨(hb.cell (p := ⟨w.heap.size, 0, none⟩) (by show w.heap.size < _; omega)).trans hHeld.1, (hb.cell (p := ⟨w.heap.size, 1, none⟩) (by show w.heap.size < _; omega)).trans hHeld.2⟩
    have hb := Below.alloc (Below.refl v1.heap.size v1) (Nat.le_refl _) (.cells #[] 90)
    have hzv5 : v1.heap.size < (v1.alloc (.cells #[] 90)).heap.size := by simp
    have R1 := Lib.hid (show (v1.alloc (.cells #[] 90)).ownsRow w.heap.size 90 3 (.slice (some ⟨v1.heap.size, 0, none⟩) 0 0) 0 [] from OwnV.none_ v1 (by omega))
    replace R0 := Lib.hid (ownsRow_below R0.out hb)
    replace HB0 := Lib.hid (HB0.out.trans (hb.mono (by omega)))
    replace KK := Lib.hid (And.intro ((hb.cell (p := ⟨w.heap.size + 1, 0, none⟩) (by show w.heap.size + 1 < _; omega)).trans KK.out.1) (And.intro ((hb.cell (p := ⟨w.heap.size + 1, 1, none⟩) (by show w.heap.size + 1 < _; omega)).trans KK.out.2.1) (fun j => (hb.frozen (p := ⟨w.heap.size + 1, j, none⟩) (by show w.heap.size + 1 < _; omega)).trans (KK.out.2.2 j))))
    have hB1 : w.heap.size + 2 ≤ v1.heap.size := by omega
    obtain ⟨B1, hBB1⟩ : ∃ B, v1.heap.size = B := ⟨_, rfl⟩
    obtain ⟨v5, hv5⟩ : ∃ v, v1.alloc (.cells #[] 90) = v := ⟨_, rfl⟩
    rw [hv5] at HB0 KK R1 hHeldv5 hzv5 hb R0
    rw [hv5]
    rw [hBB1] at R1 hB1 hzv5 ⊢
    have hltv5 := hb.size
    rw [hBB1] at hltv5
    clear hK K hb hv5 hHeld
    have hHeld := hHeldv5
    clear hHeldv5
    (try simp only [Act.put, List.getElem_toArray, List.getElem_cons_zero, List.getElem_cons_succ, List.setIfInBounds_toArray, List.set_cons_zero, List.set_cons_succ])
    refine wpAnyH_ready (rs := [3]) (by kernel_rfl) (by simp) ?_
    refine AllReadyH.cons (o := _) rfl (fun K hK => ?_) AllReadyH.nil
    refine step_append_new (by rfl) (.tmp 3) (.tmp 5) 25 66 i0 _ 2 16 (by rfl) Try.underlying25 I0.out.1 I0.out.2.1 I0.out.2.2.1 I0.out.2.2.2 (by rfl) (by omega) w.heap.size B0 (by rfl) R0.out ⟨p, o, none⟩ c0 n (x.pl.flatMap Sl.cells) (by rfl) (by rw [len_cells, HN.out]) (SlL.news (HX.out.below HB0.out)) (slone_cells x.pl) (by omega) (by omega) (by omega) ?_
    intro g0 d0 v6 hown hgr hp0
    refine hK.out _ _ ?_ (fun hHeldv6 => ?_)
    · exact ⟨(World.cell?_of_block (a := ⟨w.heap.size, 0, none⟩) (hgr.block _ (by show w.heap.size < _; omega) (by simp; omega))).trans hHeld.1, (World.cell?_of_block (a := ⟨w.heap.size, 1, none⟩) (hgr.block _ (by show w.heap.size < _; omega) (by simp; omega))).trans hHeld.2⟩
    have hzv6 := hgr.size
    replace R1 := Lib.hid (World.ownsRow.kept R1.out hgr (.inr (by simp [Value.ownBlock]; omega)))
    have Q0 := Lib.hid hown
    have hq0 := (World.ownsRow.lt hown g0 rfl).2
    replace HB0 := Lib.hid (HB0.out.grown hgr (by omega) (fun k hk => by injection hk with hk; omega))
    replace KK := Lib.hid (And.intro ((World.cell?_of_block (a := ⟨w.heap.size + 1, 0, none⟩) (hgr.block _ (by show w.heap.size + 1 < _; omega) (by simp; omega))).trans KK.out.1) (And.intro ((World.cell?_of_block (a := ⟨w.heap.size + 1, 1, none⟩) (hgr.block _ (by show w.heap.size + 1 < _; omega) (by simp; omega))).trans KK.out.2.1) (fun j => (World.frozen?_of_block (a := ⟨w.heap.size + 1, j, none⟩) (hgr.block _ (by show w.heap.size + 1 < _; omega) (by simp; omega))).trans (KK.out.2.2 j))))
    clear hK K hown hgr R0 hHeld
    have hHeld := hHeldv6
    clear hHeldv6
    (try simp only [Act.put, List.getElem_toArray, List.getElem_cons_zero, List.getElem_cons_succ, List.setIfInBounds_toArray, List.set_cons_zero, List.set_cons_succ])
    refine wpAnyH_ready (rs := [7]) (by kernel_rfl) (by simp) ?_
    refine AllReadyH.cons (o := _) rfl (fun K hK => ?_) AllReadyH.nil
    refine step_append_new (by rfl) (.tmp 7) (.tmp 9) 43 90 i1 _ 3 32 (by rfl) Try.underlying43 I1.out.1 I1.out.2.1 I1.out.2.2.1 I1.out.2.2.2 (by rfl) (by omega) w.heap.size B1 (by rfl) R1.out ⟨q, r, none⟩ c1 m (x.st.flatMap Va.cells) (by rfl) (by rw [len_vcells, HM.out]) (VaL.news (HY.out.below HB0.out)) (vone_cells x.st) (by omega) (by omega) (by omega) ?_
    intro g1 d1 v7 hown hgr hp1
    refine hK.out _ _ ?_ (fun hHeldv7 => ?_)
    · exact ⟨(World.cell?_of_block (a := ⟨w.heap.size, 0, none⟩) (hgr.block _ (by show w.heap.size < _; omega) (by simp; omega))).trans hHeld.1, (World.cell?_of_block (a := ⟨w.heap.size, 1, none⟩) (hgr.block _ (by show w.heap.size < _; omega) (by simp; omega))).trans hHeld.2⟩
    have hzv7 := hgr.size
    replace Q0 := Lib.hid (World.ownsRow.kept Q0.out hgr (.inr (by simp [Value.ownBlock]; omega)))
    have Q1 := Lib.hid hown
    have hq1 := (World.ownsRow.lt hown g1 rfl).2
    replace HB0 := Lib.hid (HB0.out.grown hgr (by omega) (fun k hk => by injection hk with hk; omega))
    replace KK := Lib.hid (And.intro ((World.cell?_of_block (a := ⟨w.heap.size + 1, 0, none⟩) (hgr.block _ (by show w.heap.size + 1 < _; omega) (by simp; omega))).trans KK.out.1) (And.intro ((World.cell?_of_block (a := ⟨w.heap.size + 1, 1, none⟩) (hgr.block _ (by show w.heap.size + 1 < _; omega) (by simp; omega))).trans KK.out.2.1) (fun j => (World.frozen?_of_block (a := ⟨w.heap.size + 1, j, none⟩) (hgr.block _ (by show w.heap.size + 1 < _; omega) (by simp; omega))).trans (KK.out.2.2 j))))
    clear hK K hown hgr R1 hHeld
    have hHeld := hHeldv7
    clear hHeldv7
    (try simp only [Act.put, List.getElem_toArray, List.getElem_cons_zero, List.getElem_cons_succ, List.setIfInBounds_toArray, List.set_cons_zero, List.set_cons_succ])
    refine wpAnyH_take (i := 8) (oi := _) (v := ?_) rfl (by kernel_rfl) (by kernel_rfl) (by kernel_rfl) (fun _ _ _ h => h) (Or.inl ⟨by kernel_rfl, ?_⟩) (by assumption) ?_
    rotate_left
    · (intro w hSw; (try dsimp only at hSw); go_simp)
      try with_reducible rfl
    (try simp only [Act.put, List.getElem_toArray, List.getElem_cons_zero, List.getElem_cons_succ, List.setIfInBounds_toArray, List.set_cons_zero, List.set_cons_succ])
    obtain ⟨k0, k1, k2⟩ := KK.out
    refine wpAnyH_ready (rs := [9]) (by kernel_rfl) (by simp) ?_
    refine AllReadyH.cons (o := _) rfl (fun K hK => ?_) AllReadyH.nil
    go_simp
    refine hK.out _ _ ?_ (fun hHeld9 => ?_)
    · exact ⟨(World.cell?_setCell_far _ _ _ _ (by simp)).trans ((World.cell?_setCell_far _ _ _ _ (by simp)).trans hHeld.1), (World.cell?_setCell_far _ _ _ _ (by simp)).trans ((World.cell?_setCell_far _ _ _ _ (by simp)).trans hHeld.2)⟩
    clear hK K hHeld9
    (try simp only [Act.put, List.getElem_toArray, List.getElem_cons_zero, List.getElem_cons_succ, List.setIfInBounds_toArray, List.set_cons_zero, List.set_cons_succ])
    refine wpAnyH_done (by kernel_rfl) ?_ _
    go_wp2_with fail
    refine bodyPost_ret (v := .agg #[.slice (some ⟨g0, 0, none⟩) n d0, .slice (some ⟨g1, 0, none⟩) m d1]) (by simp [results, Try.results86, go_sem, k0, k1, k2]) rfl ⟨?_, g0, d0, g1, d1, rfl, ?_, ?_⟩
    · exact (HB0.out.setCell (by simp) _).setCell (by simp) _
    · exact set_own (set_own Q0.out (by simp; omega) _) (by simp; omega) _
    · exact set_own (set_own Q1.out (by simp; omega) _) (by simp; omega) _
  refine AllReadyH.cons (o := _) rfl (fun K hK => ?_) AllReadyH.nil
  go_simp
  refine hK.out _ _ ?_ (fun hHeldv8 => ?_)
  · have hb := Below.alloc (Below.refl wd.heap.size wd) (Nat.le_refl _) (.cells #[] 90)
    exact ⟨(hb.cell (p := ⟨w.heap.size, 0, none⟩) (by show w.heap.size < _; omega)).trans hHeld.1, (hb.cell (p := ⟨w.heap.size, 1, none⟩) (by show w.heap.size < _; omega)).trans hHeld.2⟩
  have hb := Below.alloc (Below.refl wd.heap.size wd) (Nat.le_refl _) (.cells #[] 90)
  have hzv8 : wd.heap.size < (wd.alloc (.cells #[] 90)).heap.size := by simp
  have R1 := Lib.hid (show (wd.alloc (.cells #[] 90)).ownsRow w.heap.size 90 3 (.slice (some ⟨wd.heap.size, 0, none⟩) 0 0) 0 [] from OwnV.none_ wd (by omega))
  replace HB0 := Lib.hid (HB0.out.trans (hb.mono (by omega)))
  replace KK := Lib.hid (And.intro ((hb.cell (p := ⟨w.heap.size + 1, 0, none⟩) (by show w.heap.size + 1 < _; omega)).trans KK.out.1) (And.intro ((hb.cell (p := ⟨w.heap.size + 1, 1, none⟩) (by show w.heap.size + 1 < _; omega)).trans KK.out.2.1) (fun j => (hb.frozen (p := ⟨w.heap.size + 1, j, none⟩) (by show w.heap.size + 1 < _; omega)).trans (KK.out.2.2 j))))
  have hB1 : w.heap.size + 2 ≤ wd.heap.size := by omega
  obtain ⟨B1, hBB1⟩ : ∃ B, wd.heap.size = B := ⟨_, rfl⟩
  obtain ⟨v8, hv8⟩ : ∃ v, wd.alloc (.cells #[] 90) = v := ⟨_, rfl⟩
  rw [hv8] at HB0 KK R1 hHeldv8 hzv8 hb
  rw [hv8]
  rw [hBB1] at R1 hB1 hzv8 ⊢
  have hltv8 := hb.size
  rw [hBB1] at hltv8
  clear hK K hb hv8 hHeld
  have hHeld := hHeldv8
  clear hHeldv8
  (try simp only [Act.put, List.getElem_toArray, List.getElem_cons_zero, List.getElem_cons_succ, List.setIfInBounds_toArray, List.set_cons_zero, List.set_cons_succ])
  refine wpAnyH_ready (rs := [0]) (by kernel_rfl) (by simp) ?_
  refine AllReadyH.cons (o := _) rfl (fun K hK => ?_) AllReadyH.nil
  go_simp
  refine hK.out _ _ ?_ (fun hHeldv9 => ?_)
  · have hb := Below.alloc (Below.refl v8.heap.size v8) (Nat.le_refl _) (.cells #[] 66)
    exact ⟨(hb.cell (p := ⟨w.heap.size, 0, none⟩) (by show w.heap.size < _; omega)).trans hHeld.1, (hb.cell (p := ⟨w.heap.size, 1, none⟩) (by show w.heap.size < _; omega)).trans hHeld.2⟩
  have hb := Below.alloc (Below.refl v8.heap.size v8) (Nat.le_refl _) (.cells #[] 66)
  have hzv9 : v8.heap.size < (v8.alloc (.cells #[] 66)).heap.size := by simp
  have R0 := Lib.hid (show (v8.alloc (.cells #[] 66)).ownsRow w.heap.size 66 2 (.slice (some ⟨v8.heap.size, 0, none⟩) 0 0) 0 [] from OwnS.none_ v8 (by omega))
  replace R1 := Lib.hid (ownsRow_below R1.out hb)
  replace HB0 := Lib.hid (HB0.out.trans (hb.mono (by omega)))
  replace KK := Lib.hid (And.intro ((hb.cell (p := ⟨w.heap.size + 1, 0, none⟩) (by show w.heap.size + 1 < _; omega)).trans KK.out.1) (And.intro ((hb.cell (p := ⟨w.heap.size + 1, 1, none⟩) (by show w.heap.size + 1 < _; omega)).trans KK.out.2.1) (fun j => (hb.frozen (p := ⟨w.heap.size + 1, j, none⟩) (by show w.heap.size + 1 < _; omega)).trans (KK.out.2.2 j))))
  have hB0 : w.heap.size + 2 ≤ v8.heap.size := by omega
  obtain ⟨B0, hBB0⟩ : ∃ B, v8.heap.size = B := ⟨_, rfl⟩
  obtain ⟨v9, hv9⟩ : ∃ v, v8.alloc (.cells #[] 66) = v := ⟨_, rfl⟩
  rw [hv9] at HB0 KK R0 hHeldv9 hzv9 hb R1
  rw [hv9]
  rw [hBB0] at R0 hB0 hzv9 ⊢
  have hltv9 := hb.size
  rw [hBB0] at hltv9
  clear hK K hb hv9 hHeld
  have hHeld := hHeldv9
  clear hHeldv9
  (try simp only [Act.put, List.getElem_toArray, List.getElem_cons_zero, List.getElem_cons_succ, List.setIfInBounds_toArray, List.set_cons_zero, List.set_cons_succ])
  refine wpAnyH_ready (rs := [3]) (by kernel_rfl) (by simp) ?_
  refine AllReadyH.cons (o := _) rfl (fun K hK => ?_) AllReadyH.nil
  refine step_append_new (by rfl) (.tmp 3) (.tmp 5) 25 66 i0 _ 2 16 (by rfl) Try.underlying25 I0.out.1 I0.out.2.1 I0.out.2.2.1 I0.out.2.2.2 (by rfl) (by omega) w.heap.size B0 (by rfl) R0.out ⟨p, o, none⟩ c0 n (x.pl.flatMap Sl.cells) (by rfl) (by rw [len_cells, HN.out]) (SlL.news (HX.out.below HB0.out)) (slone_cells x.pl) (by omega) (by omega) (by omega) ?_
  intro g0 d0 v10 hown hgr hp0
  refine hK.out _ _ ?_ (fun hHeldv10 => ?_)
  · exact ⟨(World.cell?_of_block (a := ⟨w.heap.size, 0, none⟩) (hgr.block _ (by show w.heap.size < _; omega) (by simp; omega))).trans hHeld.1, (World.cell?_of_block (a := ⟨w.heap.size, 1, none⟩) (hgr.block _ (by show w.heap.size < _; omega) (by simp; omega))).trans hHeld.2⟩
  have hzv10 := hgr.size
  replace R1 := Lib.hid (World.ownsRow.kept R1.out hgr (.inr (by simp [Value.ownBlock]; omega)))
  have Q0 := Lib.hid hown
  have hq0 := (World.ownsRow.lt hown g0 rfl).2
  replace HB0 := Lib.hid (HB0.out.grown hgr (by omega) (fun k hk => by injection hk with hk; omega))
  replace KK := Lib.hid (And.intro ((World.cell?_of_block (a := ⟨w.heap.size + 1, 0, none⟩) (hgr.block _ (by show w.heap.size + 1 < _; omega) (by simp; omega))).trans KK.out.1) (And.intro ((World.cell?_of_block (a := ⟨w.heap.size + 1, 1, none⟩) (hgr.block _ (by show w.heap.size + 1 < _; omega) (by simp; omega))).trans KK.out.2.1) (fun j => (World.frozen?_of_block (a := ⟨w.heap.size + 1, j, none⟩) (hgr.block _ (by show w.heap.size + 1 < _; omega) (by simp; omega))).trans (KK.out.2.2 j))))
  clear hK K hown hgr R0 hHeld
  have hHeld := hHeldv10
  clear hHeldv10
  (try simp only [Act.put, List.getElem_toArray, List.getElem_cons_zero, List.getElem_cons_succ, List.setIfInBounds_toArray, List.set_cons_zero, List.set_cons_succ])
  refine wpAnyH_ready (rs := [7]) (by kernel_rfl) (by simp) ?_
  refine AllReadyH.cons (o := _) rfl (fun K hK => ?_) AllReadyH.nil
  refine step_append_new (by rfl) (.tmp 7) (.tmp 9) 43 90 i1 _ 3 32 (by rfl) Try.underlying43 I1.out.1 I1.out.2.1 I1.out.2.2.1 I1.out.2.2.2 (by rfl) (by omega) w.heap.size B1 (by rfl) R1.out ⟨q, r, none⟩ c1 m (x.st.flatMap Va.cells) (by rfl) (by rw [len_vcells, HM.out]) (VaL.news (HY.out.below HB0.out)) (vone_cells x.st) (by omega) (by omega) (by omega) ?_
  intro g1 d1 v11 hown hgr hp1
  refine hK.out _ _ ?_ (fun hHeldv11 => ?_)
  · exact ⟨(World.cell?_of_block (a := ⟨w.heap.size, 0, none⟩) (hgr.block _ (by show w.heap.size < _; omega) (by simp; omega))).trans hHeld.1, (World.cell?_of_block (a := ⟨w.heap.size, 1, none⟩) (hgr.block _ (by show w.heap.size < _; omega) (by simp; omega))).trans hHeld.2⟩
  have hzv11 := hgr.size
  replace Q0 := Lib.hid (World.ownsRow.kept Q0.out hgr (.inr (by simp [Value.ownBlock]; omega)))
  have Q1 := Lib.hid hown
  have hq1 := (World.ownsRow.lt hown g1 rfl).2
  replace HB0 := Lib.hid (HB0.out.grown hgr (by omega) (fun k hk => by injection hk with hk; omega))
  replace KK := Lib.hid (And.intro ((World.cell?_of_block (a := ⟨w.heap.size + 1, 0, none⟩) (hgr.block _ (by show w.heap.size + 1 < _; omega) (by simp; omega))).trans KK.out.1) (And.intro ((World.cell?_of_block (a := ⟨w.heap.size + 1, 1, none⟩) (hgr.block _ (by show w.heap.size + 1 < _; omega) (by simp; omega))).trans KK.out.2.1) (fun j => (World.frozen?_of_block (a := ⟨w.heap.size + 1, j, none⟩) (hgr.block _ (by show w.heap.size + 1 < _; omega) (by simp; omega))).trans (KK.out.2.2 j))))
  clear hK K hown hgr R1 hHeld
  have hHeld := hHeldv11
  clear hHeldv11
  (try simp only [Act.put, List.getElem_toArray, List.getElem_cons_zero, List.getElem_cons_succ, List.setIfInBounds_toArray, List.set_cons_zero, List.set_cons_succ])
  refine wpAnyH_take (i := 8) (oi := _) (v := ?_) rfl (by kernel_rfl) (by kernel_rfl) (by kernel_rfl) (fun _ _ _ h => h) (Or.inl ⟨by kernel_rfl, ?_⟩) (by assumption) ?_
  rotate_left
  · (intro w hSw; (try dsimp only at hSw); go_simp)
    try with_reducible rfl
  (try simp only [Act.put, List.getElem_toArray, List.getElem_cons_zero, List.getElem_cons_succ, List.setIfInBounds_toArray, List.set_cons_zero, List.set_cons_succ])
  obtain ⟨k0, k1, k2⟩ := KK.out
  refine wpAnyH_ready (rs := [9]) (by kernel_rfl) (by simp) ?_
  refine AllReadyH.cons (o := _) rfl (fun K hK => ?_) AllReadyH.nil
  go_simp
  refine hK.out _ _ ?_ (fun hHeld9 => ?_)
  · exact ⟨(World.cell?_setCell_far _ _ _ _ (by simp)).trans ((World.cell?_setCell_far _ _ _ _ (by simp)).trans hHeld.1), (World.cell?_setCell_far _ _ _ _ (by simp)).trans ((World.cell?_setCell_far _ _ _ _ (by simp)).trans hHeld.2)⟩
  clear hK K hHeld9
  (try simp only [Act.put, List.getElem_toArray, List.getElem_cons_zero, List.getElem_cons_succ, List.setIfInBounds_toArray, List.set_cons_zero, List.set_cons_succ])
  refine wpAnyH_done (by kernel_rfl) ?_ _
  go_wp2_with fail
  refine bodyPost_ret (v := .agg #[.slice (some ⟨g0, 0, none⟩) n d0, .slice (some ⟨g1, 0, none⟩) m d1]) (by simp [results, Try.results86, go_sem, k0, k1, k2]) rfl ⟨?_, g0, d0, g1, d1, rfl, ?_, ?_⟩
  · exact (HB0.out.setCell (by simp) _).setCell (by simp) _
  · exact set_own (set_own Q0.out (by simp; omega) _) (by simp; omega) _
  · exact set_own (set_own Q1.out (by simp; omega) _) (by simp; omega) _
end Go.Proofs.Ytfdejmdhcjfboaa
