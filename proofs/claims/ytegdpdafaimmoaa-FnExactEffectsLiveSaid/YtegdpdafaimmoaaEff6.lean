/- What effects leave there, plainly; rows of places of the call's own. -/
import Derived.Test.YtegdpdafaimmoaaEff5
namespace Go.Proofs.Ytegdpdafaimmoaa
open Go.Joins Go.ChangeShapes Go.WideShapes Go.ChangeAt Go.RowKit Go.Deep
set_option linter.unusedVariables false
set_option linter.unusedSimpArgs false

theorem wp_cloneSl {w : World} {ops : Array Oper} {rest : List Oper} {o : Oper} {a : Act} {Q : Exit → Act → World → Prop} (hgd : o.guard = none) (s x : Operand)
    (ho : o.op = .call { callee := .builtin .append, args := #[s, x], argTypes := #[37, 37] }) (base b n c : Nat) (hs : a.eval s = .slice (some ⟨b, 0, none⟩) 0 0) (hown : w.ownsRow base 65 2 (.slice (some ⟨b, 0, none⟩) 0 0) 0 [])
    (ad : Addr) (L : List Value) (hx : a.eval x = .slice (some ad) n c) (hl : L.length = n * 2) (hc : ∀ j u, L[j]? = some u → w.cell? (ad.add j) = some u) (h1 : ∀ u ∈ L, u.oneCell' = true) (hn : n ≤ 1000000) (hbase : base ≤ w.heap.size)
    (h : ∀ b' c' w', w'.ownsRow base 65 2 (.slice (some ⟨b', 0, none⟩) n c') n L → w.grownBy w' (some b) → wpList Try.prog ops Q rest (a.put o.dst (.slice (some ⟨b', 0, none⟩) n c')) w') :
    wpList Try.prog ops Q (o :: rest) a w := by
  obtain ⟨i0, hi0, hz0, hz1, hz2⟩ := info_parts infoSl
  refine wpList_append_own_at w hgd s x _ ho base 65 i0 _ 2 16 Try.underlying37 hi0 hz0 hz1 hz2 rfl (by omega) _ 0 [] hs hown ad n c L hx hl hc h1 (by simp only [maxLen]; omega) (by omega) hbase ?_
  intro v' w' hown' hg hnil hat
  rw [Nat.zero_add, List.nil_append] at hown'
  have hform : ∃ b' c', v' = .slice (some ⟨b', 0, none⟩) n c' := by
    rcases hown'.2 with ⟨rfl, _⟩ | ⟨g', cap', cur, rfl, _⟩
    · simp [Value.ownBlock] at hat
    · exact ⟨g', cap', rfl⟩
  obtain ⟨b', c', rfl⟩ := hform
  exact h b' c' w' hown' hg
theorem flat_lenG {α : Type} {c : α → List Value} {m : Nat} (hc : ∀ x, (c x).length = m) : ∀ ys : List α, (ys.flatMap c).length = ys.length * m
  | [] => by simp
  | y :: ys => by rw [List.flatMap_cons, List.length_append, flat_lenG hc ys, hc, List.length_cons, Nat.add_mul]; omega
theorem flat_atG {α : Type} {c : α → List Value} {m : Nat} (hc : ∀ x, (c x).length = m) {x : α} : ∀ (ys : List α) (i r : Nat), ys[i]? = some x → r < m → (ys.flatMap c)[i * m + r]? = (c x)[r]?
  | [], i, r, h, _ => by simp at h
  | y :: ys, 0, r, h, hr => by
    simp at h
    subst h
    rw [List.flatMap_cons, Nat.zero_mul, Nat.zero_add, List.getElem?_append_left (by rw [hc]; exact hr)]
  | y :: ys, i + 1, r, h, hr => by
    simp at h
    rw [List.flatMap_cons, List.getElem?_append_right (by rw [hc, Nat.add_mul]; omega), hc, show (i + 1) * m + r - m = i * m + r by rw [Nat.add_mul]; omega]
    exact flat_atG hc ys i r h hr
/-- What lies in memory may be copied. -/
theorem lie_cells {α : Type} {c : α → List Value} {m : Nat} (hm : 0 < m) (hc : ∀ x, (c x).length = m) {w : World} {A : Option Addr} {ps : List α} (h : Lie c m w A ps) : 0 < ps.length → ∃ ad, A = some ad ∧ ∀ w', Below w.heap.size w w' → ∀ j u, (ps.flatMap c)[j]? = some u → w'.cell? (ad.add j) = some u := fun h0 => by
  obtain ⟨b, off, rfl, hlt, hcl⟩ := h h0
  refine ⟨_, rfl, fun w' hb j u hu => ?_⟩
  have hj : j < ps.length * m := by rw [← flat_lenG hc]; exact (List.getElem?_eq_some_iff.1 hu).1
  have hjm : j / m < ps.length := (Nat.div_lt_iff_lt_mul hm).2 hj
  obtain ⟨x, hx⟩ := at_some hjm
  have hu2 := flat_atG hc ps (j / m) (j % m) hx (Nat.mod_lt _ hm)
  have hdm : j / m * m + j % m = j := Nat.div_add_mod' j m
  rw [hdm, hu] at hu2
  have := hcl (j / m) x hx (j % m) u hu2.symm
  rw [show off + j / m * m + j % m = off + j by omega] at this
  have ha : ((⟨b, off, none⟩ : Addr).add j) = ⟨b, off + j, none⟩ := by simp [Addr.add] <;> (intros; omega)
  rw [ha]
  exact (hb.cell (p := ⟨b, off + j, none⟩) hlt).trans this
theorem sl_one (ys : List Sl) : ∀ u ∈ ys.flatMap Sl.cells, u.oneCell' = true := by
  intro u hu
  obtain ⟨y, _, hy⟩ := List.mem_flatMap.1 hu
  simp only [Sl.cells, List.mem_cons, List.not_mem_nil, or_false] at hy
  rcases hy with rfl | rfl <;> rfl
/-- Slots in a row of the call's own. -/
def OwnS (w : World) (base b c : Nat) (xs : List Sl) : Prop := w.ownsRow base 65 2 (.slice (some ⟨b, 0, none⟩) xs.length c) xs.length (xs.flatMap Sl.cells)
theorem OwnS.none_ (w : World) {base : Nat} (hb : base ≤ w.heap.size) : OwnS (w.alloc (.cells #[] 65)) base w.heap.size 0 [] :=
  World.ownsRow_lit (e := 65) (size := 2) w #[] 0 hb (by decide) rfl
theorem row_ne {w : World} {b1 b2 n1 n2 m1 m2 c1 c2 g1 g2 : Nat} {e1 e2 : TypeId} {xs ys : List Value} (h1 : w.ownsRow b1 e1 n1 (.slice (some ⟨g1, 0, none⟩) m1 c1) m1 xs) (h2 : w.ownsRow b2 e2 n2 (.slice (some ⟨g2, 0, none⟩) m2 c2) m2 ys) (hne : e1 ≠ e2) : g1 ≠ g2 := by
  rintro rfl
  rcases h1.2 with ⟨h', _⟩ | ⟨g, cap, cur, h', _, hg, _⟩
  · simp at h'
  rcases h2.2 with ⟨h'', _⟩ | ⟨g', cap', cur', h'', _, hg', _⟩
  · simp at h''
  simp only [Value.slice.injEq, Option.some.injEq, Addr.mk.injEq, and_true, true_and] at h' h''
  obtain ⟨rfl, _⟩ := h'
  obtain ⟨rfl, _⟩ := h''
  rw [hg] at hg'
  simp only [Option.some.injEq, Obj.cells.injEq] at hg'
  exact hne hg'.2.1
theorem row_cap {w : World} {base n c g : Nat} {e : TypeId} {sz : Nat} {L : List Value} (h : w.ownsRow base e sz (.slice (some ⟨g, 0, none⟩) n c) n L) : n ≤ c := by
  rcases h.2 with ⟨h', _⟩ | ⟨g', cap', cur, h', _, _, hnc, _⟩
  · simp at h'
  · simp only [Value.slice.injEq, Option.some.injEq, Addr.mk.injEq, and_true, true_and] at h'
    obtain ⟨rfl, rfl⟩ := h'
    exact hnc
/-- An append onto nothing, as a step of a region that draws its order. -/
theorem step_append_new {w : World} {ops : Array Oper} {o : Oper} {a : Act} {K : Act → World → Prop} {Q : Exit → Act → World → Prop} {E : Prop} (hgd : o.guard = none) (s x : Operand) (t e : TypeId) (i : TypeInfo) (z : Value) (size bytes : Nat)
    (ho : o.op = .call { callee := .builtin .append, args := #[s, x], argTypes := #[t, t] }) (ht : Try.prog.underlying t = some (.slice e)) (hi : Try.prog.info? e = some i) (hz : i.zero = some z) (hsize : i.size = size) (hby : i.bytes = bytes) (hzs : z.cells.size = size) (hsz : 0 < size)
    (base b : Nat) (hs : a.eval s = .slice (some ⟨b, 0, none⟩) 0 0) (hown : w.ownsRow base e size (.slice (some ⟨b, 0, none⟩) 0 0) 0 [])
    (ad : Addr) (c2 m : Nat) (news : List Value) (hx : a.eval x = .slice (some ad) m c2) (hl : news.length = m * size) (hcells : ∀ j u, news[j]? = some u → w.cell? (ad.add j) = some u) (h1 : ∀ u ∈ news, u.oneCell' = true)
    (hm : m ≤ 4000000) (hb : bytes ≤ 1000) (hbase : base ≤ w.heap.size)
    (h : ∀ b' c' w', w'.ownsRow base e size (.slice (some ⟨b', 0, none⟩) m c') m news → w.grownBy w' (some b) → (b' = b ∨ b' = w.heap.size) → K (a.put o.dst (.slice (some ⟨b', 0, none⟩) m c')) w') :
    if Region.wanted o (yielded ops a.tmps) = true then Oper.wp Try.prog o a w K Q else E := by
  have hw : Region.wanted o (yielded ops a.tmps) = true := by simp [Region.wanted, hgd]
  rw [if_pos hw]
  have hbm : m * bytes ≤ 4000000 * 1000 := Nat.mul_le_mul hm hb
  obtain ⟨v', w', hr, hown', hg, _, hat⟩ := run_append_own_at (P := Try.prog) w base t o.type e i z size bytes ht hi hz hsize hby hzs hsz _ 0 [] hown ad m c2 news hl hcells h1 (by simp only [maxLen]; omega) (by rw [Nat.zero_add]; omega) hbase
  unfold Oper.wp execOp
  simp only [ho, resolve, invoke, builtin, Sem.run_bind, Sem.run_pure, Result.andThen_ok, List.map_toArray, List.map_cons, List.map_nil, hs, hx, hr]
  rw [Nat.zero_add] at hown'
  have hform : ∃ b' c', v' = .slice (some ⟨b', 0, none⟩) m c' := by
    rcases hown'.2 with ⟨rfl, _⟩ | ⟨g', cap', cur, rfl, _⟩
    · simp [Value.ownBlock] at hat
    · exact ⟨g', cap', rfl⟩
  obtain ⟨b', c', rfl⟩ := hform
  exact h b' c' w' hown' hg (by simpa [Value.ownBlock] using hat)

theorem infoPl : (Try.prog.info? 37).map (fun i => (i.zero, i.size, i.bytes)) = some (some (.slice none 0 0), 1, 24) := by kernel_rfl
/-- A row of rows of slots, by its headers. -/
def OwnP (w : World) (base b c n : Nat) (L : List Value) : Prop := w.ownsRow base 37 1 (.slice (some ⟨b, 0, none⟩) n c) n L
theorem OwnP.none_ (w : World) {base : Nat} (hb : base ≤ w.heap.size) : OwnP (w.alloc (.cells #[] 37)) base w.heap.size 0 0 [] :=
  World.ownsRow_lit (e := 37) (size := 1) w #[] 0 hb (by decide) rfl
/-- An append of cells onto a row of the call's own. -/
theorem wp_append_pls {w : World} {ops : Array Oper} {rest : List Oper} {o : Oper} {a : Act} {Q : Exit → Act → World → Prop} (hgd : o.guard = none) (s x : Operand)
    (ho : o.op = .call { callee := .builtin .append, args := #[s, x], argTypes := #[24, 24] }) (base b c n : Nat) (L : List Value) (hs : a.eval s = .slice (some ⟨b, 0, none⟩) n c) (hown : OwnP w base b c n L)
    (ad : Addr) (c2 m : Nat) (M : List Value) (hx : a.eval x = .slice (some ad) m c2) (hm : M.length = m * 1) (hcells : ∀ j u, M[j]? = some u → w.cell? (ad.add j) = some u) (h1 : ∀ u ∈ M, u.oneCell' = true)
    (hlen : n + m ≤ 100000) (hbase : base ≤ w.heap.size)
    (h : ∀ b' c' w', OwnP w' base b' c' (n + m) (L ++ M) → w.grownBy w' (some b) → Hid (b' = b ∨ b' = w.heap.size) → wpList Try.prog ops Q rest (a.put o.dst (.slice (some ⟨b', 0, none⟩) (n + m) c')) w') :
    wpList Try.prog ops Q (o :: rest) a w := by
  obtain ⟨i0, hi0, hz0, hz1, hz2⟩ := info_parts infoPl
  refine wpList_append_own_at w hgd s x _ ho base 37 i0 _ 1 24 Try.underlying24 hi0 hz0 hz1 hz2 rfl (by omega) _ n _ hs hown ad m c2 _ hx hm hcells h1 (by simp only [maxLen]; omega) (by omega) hbase ?_
  intro v' w' hown' hg hnil hat
  have hform : ∃ b' c', v' = .slice (some ⟨b', 0, none⟩) (n + m) c' := by
    rcases hown'.2 with ⟨rfl, _⟩ | ⟨g', cap', cur, rfl, _⟩
    · simp [Value.ownBlock] at hat
    · exact ⟨g', cap', rfl⟩
  obtain ⟨b', c', rfl⟩ := hform
  exact h b' c' w' hown' hg (Lib.hid (by simpa [Value.ownBlock] using hat))
/-- An append onto nothing, as a step of a region that draws its order. -/
theorem step_append_pls {w : World} {ops : Array Oper} {o : Oper} {a : Act} {K : Act → World → Prop} {Q : Exit → Act → World → Prop} {E : Prop} (hgd : o.guard = none) (s x : Operand) 
    (ho : o.op = .call { callee := .builtin .append, args := #[s, x], argTypes := #[24, 24] })
    (base b c n : Nat) (L : List Value) (hs : a.eval s = .slice (some ⟨b, 0, none⟩) n c) (hown : OwnP w base b c n L)
    (ad : Addr) (c2 m : Nat) (news : List Value) (hx : a.eval x = .slice (some ad) m c2) (hl : news.length = m * 1) (hcells : ∀ j u, news[j]? = some u → w.cell? (ad.add j) = some u) (h1 : ∀ u ∈ news, u.oneCell' = true)
    (hm : n + m ≤ 100000) (hbase : base ≤ w.heap.size)
    (h : ∀ b' c' w', OwnP w' base b' c' (n + m) (L ++ news) → w.grownBy w' (some b) → (b' = b ∨ b' = w.heap.size) → K (a.put o.dst (.slice (some ⟨b', 0, none⟩) (n + m) c')) w') :
    if Region.wanted o (yielded ops a.tmps) = true then Oper.wp Try.prog o a w K Q else E := by
  have hw : Region.wanted o (yielded ops a.tmps) = true := by simp [Region.wanted, hgd]
  rw [if_pos hw]
  obtain ⟨i0, hi0, hz0, hz1, hz2⟩ := info_parts infoPl
  obtain ⟨v', w', hr, hown', hg, _, hat⟩ := run_append_own_at (P := Try.prog) w base 24 o.type 37 i0 _ 1 24 Try.underlying24 hi0 hz0 hz1 hz2 rfl (by omega) _ n L hown ad m c2 news hl hcells h1 (by simp only [maxLen]; omega) (by omega) hbase
  unfold Oper.wp execOp
  simp only [ho, resolve, invoke, builtin, Sem.run_bind, Sem.run_pure, Result.andThen_ok, List.map_toArray, List.map_cons, List.map_nil, hs, hx, hr]
  have hform : ∃ b' c', v' = .slice (some ⟨b', 0, none⟩) (n + m) c' := by
    rcases hown'.2 with ⟨rfl, _⟩ | ⟨g', cap', cur, rfl, _⟩
    · simp [Value.ownBlock] at hat
    · exact ⟨g', cap', rfl⟩
  obtain ⟨b', c', rfl⟩ := hform
  exact h b' c' w' hown' hg (by simpa [Value.ownBlock] using hat)

/-- Places, each in a row of the call's own, of which L are the headers. -/
def LvW (w : World) (lo : Nat) (L : List Value) (ps : List (List Sl)) : Prop := L.length = ps.length ∧ ∀ (i : Nat) (p : List Sl), ps[i]? = some p → ∃ b c, L[i]? = some (.slice (some ⟨b, 0, none⟩) p.length c) ∧ OwnS w lo b c p
theorem LvW.nil (w : World) (lo : Nat) : LvW w lo [] [] := ⟨rfl, fun i p h => by simp at h⟩
theorem LvW.below {w w' : World} {lo : Nat} {L : List Value} {ps : List (List Sl)} (h : LvW w lo L ps) (hb : Below w.heap.size w w') : LvW w' lo L ps :=
  ⟨h.1, fun i p hp => by obtain ⟨b, c, e, ho⟩ := h.2 i p hp; exact ⟨b, c, e, ownsRow_below ho hb⟩⟩
theorem LvW.grown {w w' : World} {lo base b c n : Nat} {L M : List Value} {ps : List (List Sl)} (h : LvW w lo L ps) (hg : w.grownBy w' (some b)) (ho : OwnP w base b c n M) : LvW w' lo L ps :=
  ⟨h.1, fun i p hp => by
    obtain ⟨b1, c1, e, h1⟩ := h.2 i p hp
    exact ⟨b1, c1, e, World.ownsRow.kept h1 hg (.inr (by simpa [Value.ownBlock] using row_ne h1 ho (by decide)))⟩⟩
theorem LvW.append {w : World} {lo : Nat} {L M : List Value} {ps qs : List (List Sl)} (h : LvW w lo L ps) (k : LvW w lo M qs) : LvW w lo (L ++ M) (ps ++ qs) := by
  refine ⟨by rw [List.length_append, List.length_append, h.1, k.1], fun i zs hz => ?_⟩
  by_cases hi : i < ps.length
  · rw [List.getElem?_append_left hi] at hz
    obtain ⟨A, c, h1, h2⟩ := h.2 i zs hz
    exact ⟨A, c, by rw [List.getElem?_append_left (by rw [h.1]; exact hi)]; exact h1, h2⟩
  · rw [List.getElem?_append_right (by omega)] at hz
    obtain ⟨A, c, h1, h2⟩ := k.2 _ zs hz
    exact ⟨A, c, by rw [List.getElem?_append_right (by rw [h.1]; omega), h.1]; exact h1, h2⟩
theorem LvW.one {w : World} {lo b c : Nat} {p : List Sl} (h : OwnS w lo b c p) : LvW w lo [.slice (some ⟨b, 0, none⟩) p.length c] [p] :=
  ⟨rfl, fun i q hq => by
    match i, hq with
    | 0, hq => simp at hq; subst hq; exact ⟨b, c, rfl, h⟩
    | i + 1, hq => simp at hq⟩
theorem LvW.take {w : World} {lo : Nat} {L : List Value} {ps : List (List Sl)} (h : LvW w lo L ps) (k : Nat) : LvW w lo (L.take k) (ps.take k) :=
  ⟨by rw [List.length_take, List.length_take, h.1], fun i p hp => by
    rw [List.getElem?_take] at hp
    split at hp
    · rename_i hi
      obtain ⟨b, c, e, ho⟩ := h.2 i p hp
      exact ⟨b, c, by rw [List.getElem?_take, if_pos hi]; exact e, ho⟩
    · cases hp⟩
theorem LvW.drop {w : World} {lo : Nat} {L : List Value} {ps : List (List Sl)} (h : LvW w lo L ps) (k : Nat) : LvW w lo (L.drop k) (ps.drop k) :=
  ⟨by rw [List.length_drop, List.length_drop, h.1], fun i p hp => by
    rw [List.getElem?_drop] at hp
    obtain ⟨b, c, e, ho⟩ := h.2 _ p hp
    exact ⟨b, c, by rw [List.getElem?_drop]; exact e, ho⟩⟩
theorem LvW.lies {w : World} {lo base b c n : Nat} {L : List Value} {ps : List (List Sl)} (h : LvW w lo L ps) (ho : OwnP w base b c n L) : PsL w (some ⟨b, 0, none⟩) ps := fun h0 => by
  refine ⟨b, 0, rfl, (World.ownsRow.lt ho b rfl).2, fun i p hp => ?_⟩
  obtain ⟨b1, c1, e, h1⟩ := h.2 i p hp
  have hn : L.length = n * 1 := ho.1
  have := (List.getElem?_eq_some_iff.1 e).1
  exact ⟨_, c1, by rw [Nat.zero_add, World.ownsRow.cellAt ho i (by omega)]; exact e, Lie.of_own (c := Sl.cells) (fun _ => rfl) h1⟩
/-- What is left when a place goes. -/
def outV (y : List Sl) (ps : List (List Sl)) : List (List Sl) := ps.filter (fun q => !decide (q = y))
theorem outV_out {y : List Sl} : ∀ {ps : List (List Sl)}, y ∉ ps → outV y ps = ps
  | [], _ => rfl
  | p :: ps, h => by
    have h1 : ¬ p = y := fun e => h (by rw [e]; exact List.mem_cons_self ..)
    have h2 : y ∉ ps := fun e => h (List.mem_cons_of_mem _ e)
    unfold outV
    rw [List.filter_cons, if_pos (by simp [h1])]
    exact congrArg _ (outV_out h2)
theorem posP_out {y : List Sl} : ∀ {ps : List (List Sl)} {k : Nat}, y ∉ ps → posP y ps k = -1
  | [], _, _ => rfl
  | p :: ps, k, h => by
    rw [posP, if_neg (fun e => h (by rw [e]; exact List.mem_cons_self ..))]
    exact posP_out (fun e => h (List.mem_cons_of_mem _ e))
theorem posP_in {y : List Sl} : ∀ {ps : List (List Sl)} {k : Nat}, y ∈ ps → ps.Nodup → ∃ j : Nat, posP y ps k = ((k + j : Nat) : Int) ∧ j < ps.length ∧ ps.take j ++ ps.drop (j + 1) = outV y ps
  | [], _, h, _ => by simp at h
  | p :: ps, k, h, hd => by
    obtain ⟨h1, h2⟩ := List.nodup_cons.1 hd
    by_cases he : p = y
    · subst he
      refine ⟨0, by rw [posP, if_pos rfl]; rfl, by simp, ?_⟩
      unfold outV
      rw [List.filter_cons, if_neg (by simp)]
      exact (outV_out h1).symm
    · have hm : y ∈ ps := by
        rcases List.mem_cons.1 h with e | e
        · exact absurd e.symm he
        · exact e
      obtain ⟨j, a, b, c⟩ := posP_in (k := k + 1) hm h2
      refine ⟨j + 1, by rw [posP, if_neg he, a, show k + 1 + j = k + (j + 1) by omega], by simp; omega, ?_⟩
      unfold outV at c ⊢
      rw [List.filter_cons, if_pos (by simp [he]), ← c]
      rfl
/-- What one effect leaves there, if there can be such a one. -/
def stepLv (ps : List (List Sl)) (x : Ef) : Option (List (List Sl)) :=
  if placeB x.pl = false then none
  else if x.k = 1 then (if x.pl ∈ ps then none else some (ps ++ [x.pl]))
  else if x.k = 0 then (if x.pl ∈ ps then some (outV x.pl ps) else none)
  else if x.k = 2 ∧ x.pl ∈ ps then some ps else none
def runLv : List (List Sl) → List Ef → Option (List (List Sl))
  | ps, [] => some ps
  | ps, x :: xs => match stepLv ps x with
    | none => none
    | some qs => runLv qs xs
def liveV (xs : List Ef) : Option (List (List Sl)) := if 400 < xs.length then none else runLv [] xs
/-- What may be there: places that are valid, each once. -/
def LvOk (k : Nat) (ps : List (List Sl)) : Prop := ps.Nodup ∧ ps.length ≤ k ∧ ∀ p ∈ ps, placeB p = true
theorem LvOk.nil : LvOk 0 [] := ⟨List.nodup_nil, Nat.le_refl _, fun p h => by simp at h⟩
theorem LvOk.step {k : Nat} {ps qs : List (List Sl)} {x : Ef} (h : LvOk k ps) (hs : stepLv ps x = some qs) : LvOk (k + 1) qs := by
  unfold stepLv at hs
  obtain ⟨h1, h2, h3⟩ := h
  split at hs
  · cases hs
  rename_i hp
  have hp : placeB x.pl = true := by simpa using hp
  split at hs
  · split at hs
    · cases hs
    · rename_i hn
      injection hs with hs
      subst hs
      refine ⟨?_, by simp; omega, fun p hm => ?_⟩
      · rw [List.nodup_append]
        exact ⟨h1, by simp, fun a ha b hb e => hn (by simp at hb; rw [← hb, ← e]; exact ha)⟩
      · rcases List.mem_append.1 hm with hm | hm
        · exact h3 p hm
        · simp at hm; rw [hm]; exact hp
  · split at hs
    · split at hs
      · injection hs with hs
        subst hs
        unfold outV
        exact ⟨h1.filter _, Nat.le_trans (List.length_filter_le _ _) (by omega), fun p hm => h3 p (List.mem_filter.1 hm).1⟩
      · cases hs
    · split at hs
      · injection hs with hs
        subst hs
        exact ⟨h1, by omega, h3⟩
      · cases hs
theorem placeB_len {p : List Sl} (h : placeB p = true) : p.length ≤ 20 := by
  unfold placeB at h
  simp at h
  exact h.1
end Go.Proofs.Ytegdpdafaimmoaa
