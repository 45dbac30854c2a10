/- The document's own copy of a tree: what is laid, in whatever order. -/
import Derived.Test.YtpkhpaioddommaaDoorCptM
namespace Go.Proofs.YtpkhpaioddommaaDoor
open Go.Joins Go.ChangeShapes Go.WideShapes Go.ChangeAt Go.RowKit Go.Deep
set_option linter.unusedVariables false
set_option linter.unusedSimpArgs false

/-- What has been laid so far: the Props' row, the tree's own block. -/
structure RP (base : Nat) (w0 w : World) (row : Option (Value × Nat × List Value)) (g7 : Option Nat) : Prop where
  below : Below base w0 w
  le : base ≤ w.heap.size
  own : ∀ v n L, row = some (v, n, L) → w.ownsRow base 95 4 v n L
  box : ∀ g, g7 = some g → base ≤ g ∧ w.heap[g]? = some (.cells #[.int .i64 0, .int .i64 0, .string ⟨#[]⟩, .slice none 0 0, .slice none 0 0] 26) ∧ ∀ v n L, row = some (v, n, L) → v.ownBlock ≠ some g
theorem RP.start {base : Nat} {w0 w : World} (hb : Below base w0 w) (hl : base ≤ w.heap.size) : RP base w0 w none none := ⟨hb, hl, fun _ _ _ h => (by cases h), fun _ h => (by cases h)⟩
theorem RP.alloc {base : Nat} {w0 w : World} {row : Option (Value × Nat × List Value)} {g7 : Option Nat} (h : RP base w0 w row g7) (o : Obj) : RP base w0 (w.alloc o) row g7 :=
  ⟨h.below.alloc h.le o, by have := h.le; simp; omega, fun v n L e => own_alloc (h.own v n L e) o,
    fun g e => ⟨(h.box g e).1, (Below.heap_alloc w o g (Array.getElem?_eq_some_iff.1 (h.box g e).2.1).1).trans (h.box g e).2.1, (h.box g e).2.2⟩⟩
theorem RP.newRow {base : Nat} {w0 w : World} {g7 : Option Nat} (h : RP base w0 w none g7) : RP base w0 (w.alloc (.cells #[] 95)) (some (.slice (some ⟨w.heap.size, 0, none⟩) 0 0, 0, [])) g7 := by
  have h1 := h.alloc (.cells #[] 95)
  refine ⟨h1.below, h1.le, fun v n L e => ?_, fun g e => ⟨(h1.box g e).1, (h1.box g e).2.1, fun v n L e2 => ?_⟩⟩
  · cases e
    exact ⟨rfl, .inr ⟨w.heap.size, 0, #[], rfl, h.le, World.alloc_heap_new w _, Nat.le_refl _, Nat.zero_le _, rfl, rfl⟩⟩
  · cases e2
    have := (Array.getElem?_eq_some_iff.1 (h.box g e).2.1).1
    simp [Value.ownBlock]
    omega
theorem RP.newBox {base : Nat} {w0 w : World} {row : Option (Value × Nat × List Value)} (h : RP base w0 w row none) : RP base w0 (w.alloc (.cells #[.int .i64 0, .int .i64 0, .string ⟨#[]⟩, .slice none 0 0, .slice none 0 0] 26)) row (some w.heap.size) := by
  have h1 := h.alloc (.cells #[.int .i64 0, .int .i64 0, .string ⟨#[]⟩, .slice none 0 0, .slice none 0 0] 26)
  refine ⟨h1.below, h1.le, h1.own, fun g e => ?_⟩
  cases e
  refine ⟨h.le, World.alloc_heap_new w _, fun v n L e2 e3 => ?_⟩
  have := ((h.own v n L e2).lt _ e3).2
  omega
theorem RP.app {base : Nat} {w0 w w' : World} {v v' : Value} {n n' : Nat} {L L' : List Value} {g7 : Option Nat} (h : RP base w0 w (some (v, n, L)) g7) (ho : w'.ownsRow base 95 4 v' n' L') (hg : w.grownBy w' v.ownBlock) (hat : v'.ownBlock = v.ownBlock ∨ v'.ownBlock = some w.heap.size) : RP base w0 w' (some (v', n', L')) g7 := by
  refine ⟨h.below.grown hg h.le (fun k hk => ((h.own v n L rfl).lt k hk).1), Nat.le_trans h.le hg.size, fun v1 n1 L1 e => ?_, fun g e => ?_⟩
  · cases e; exact ho
  · obtain ⟨h1, h2, h3⟩ := h.box g e
    have hlt := (Array.getElem?_eq_some_iff.1 h2).1
    refine ⟨h1, (hg.block g hlt (fun e => h3 _ _ _ rfl e.symm)).trans h2, fun v1 n1 L1 e2 e3 => ?_⟩
    cases e2
    rcases hat with hat | hat
    · exact h3 _ _ _ rfl (hat.symm.trans e3)
    · rw [hat] at e3
      injection e3 with e3
      omega
theorem own_formP {w : World} {base sz : Nat} {e : TypeId} {n : Nat} {v : Value} {g : Nat} {L : List Value} (ho : w.ownsRow base e sz v n L) (hv : v.ownBlock = some g) : ∃ c, v = .slice (some ⟨g, 0, none⟩) n c := by
  rcases ho.2 with ⟨rfl, _⟩ | ⟨g', c, cur, rfl, _⟩
  · cases hv
  · simp [Value.ownBlock] at hv
    subst hv
    exact ⟨c, rfl⟩
/-- The Props, appended onto nothing. -/
theorem step_props {w w0 : World} {ops : Array Oper} {o : Oper} {a : Act} {K : Act → World → Prop} {Q : Exit → Act → World → Prop} {E : Prop} (hgd : o.guard = none) (s x : Operand)
    (ho : o.op = .call { callee := .builtin .append, args := #[s, x], argTypes := #[23, 23] }) (base b m c2 : Nat) (A : Option Addr) (L : List Value) (g7 : Option Nat) (hs : a.eval s = .slice (some ⟨b, 0, none⟩) 0 0) (hx : a.eval x = .slice A m c2)
    (h : RP base w0 w (some (.slice (some ⟨b, 0, none⟩) 0 0, 0, [])) g7) (hl : L.length = m * 4) (h1 : ∀ u ∈ L, u.oneCell' = true) (hc : 0 < m → ∃ ad, A = some ad ∧ ∀ j u, L[j]? = some u → w.cell? (ad.add j) = some u) (hm : m ≤ 1000)
    (hK : ∀ b' c' w', RP base w0 w' (some (.slice (some ⟨b', 0, none⟩) m c', m, L)) g7 → K (a.put o.dst (.slice (some ⟨b', 0, none⟩) m c')) w') :
    if Region.wanted o (yielded ops a.tmps) = true then Oper.wp Tryd.prog o a w K Q else E := by
  have hw : Region.wanted o (yielded ops a.tmps) = true := by simp [Region.wanted, hgd]
  rw [if_pos hw]
  obtain ⟨i, hi, hz, hsz, hby⟩ := info_parts infoPr
  rcases Nat.eq_zero_or_pos m with rfl | hp
  · obtain rfl : L = [] := List.eq_nil_of_length_eq_zero (by simpa using hl)
    have hr := run_append0 w 23 o.type 95 i Tryd.underlying23 hi ⟨b, 0, none⟩ A c2
    unfold Oper.wp execOp
    simp only [ho, resolve, invoke, builtin, Sem.run_bind, Sem.run_pure, Result.andThen_ok, List.map_toArray, List.map_cons, List.map_nil, hs, hx, hr]
    exact hK b 0 w h
  · obtain ⟨ad, rfl, hcells⟩ := hc hp
    obtain ⟨v', w', hr, hown', hg, hn, hat⟩ := run_append_own_at (P := Tryd.prog) w base 23 o.type 95 i _ 4 40 Tryd.underlying23 hi hz hsz hby rfl (by omega) _ 0 [] (h.own _ _ _ rfl) ad m c2 L hl hcells h1 (by simp only [maxLen]; omega) (by omega) h.le
    rw [Nat.zero_add, List.nil_append] at hown'
    have hR := h.app hown' hg hat
    obtain ⟨b', c', rfl⟩ : ∃ b' c', v' = .slice (some ⟨b', 0, none⟩) m c' := by
      rcases hat with hat | hat
      · obtain ⟨c', e⟩ := own_formP hown' hat
        exact ⟨_, c', e⟩
      · obtain ⟨c', e⟩ := own_formP hown' hat
        exact ⟨_, c', e⟩
    unfold Oper.wp execOp
    simp only [ho, resolve, invoke, builtin, Sem.run_bind, Sem.run_pure, Result.andThen_ok, List.map_toArray, List.map_cons, List.map_nil, hs, hx, hr]
    exact hK b' c' w' hR
/-- A tree that lies in blocks from lo up to hi, whatever else is done. -/
def Stands (w : World) (lo hi : Nat) (cs : List Value) (t : Tr) : Prop := ∀ w' : World, hi ≤ w'.heap.size → (∀ b, lo ≤ b → b < hi → w'.heap[b]? = w.heap[b]?) → TrC w' lo cs t
theorem TrC.stands {w : World} {lo : Nat} {cs : List Value} {t : Tr} (h : TrC w lo cs t) : Stands w lo w.heap.size cs t := fun w' hs hb => h.kept hs (fun b h1 h2 => hb b h1 h2)
theorem Stands.next {w w' : World} {lo hi : Nat} {cs : List Value} {t : Tr} (h : Stands w lo hi cs t) (hb : ∀ b, lo ≤ b → b < hi → w'.heap[b]? = w.heap[b]?) : Stands w' lo hi cs t := fun w2 hs h2 => h w2 hs (fun b h3 h4 => (h2 b h3 h4).trans (hb b h3 h4))
/-- The Kids copied so far: a row of their cells, each standing apart from it. -/
structure KdC (base : Nat) (w : World) (gb : Nat) (v : Value) (xs : List Tr) : Prop where
  L : ∃ L, w.ownsRow base 26 5 v xs.length L ∧ v.ownBlock ≠ some gb ∧ ∀ i x, xs[i]? = some x → ∃ cs lo hi, cs.length = 5 ∧ base ≤ lo ∧ hi ≤ w.heap.size ∧ (∀ g, v.ownBlock = some g → g < lo ∨ hi ≤ g) ∧ (gb < lo ∨ hi ≤ gb) ∧ Stands w lo hi cs x ∧ ∀ j, j < 5 → L[i * 5 + j]? = cs[j]?
theorem KdC.start {base : Nat} {w : World} {gb : Nat} : KdC base w gb (.slice none 0 0) [] := ⟨[], World.ownsRow_nil w _ _ _, by simp [Value.ownBlock], fun i x h => by simp at h⟩
/-- Other blocks than these have turned. -/
theorem KdC.move {base : Nat} {w w' : World} {gb : Nat} {v : Value} {xs : List Tr} (h : KdC base w gb v xs) (hs : w.heap.size ≤ w'.heap.size) (hb : ∀ b, b < w.heap.size → b ≠ gb → w'.heap[b]? = w.heap[b]?) (hg : gb < w.heap.size) : KdC base w' gb v xs := by
  obtain ⟨L, ho, hgb, hk⟩ := h.L
  refine ⟨L, ⟨ho.1, ?_⟩, hgb, fun i x hx => ?_⟩
  · rcases ho.2 with hn | ⟨g, cap, cur, rfl, hbg, hgg, rest⟩
    · exact .inl hn
    · exact .inr ⟨g, cap, cur, rfl, hbg, (hb g (Array.getElem?_eq_some_iff.1 hgg).1 (fun e => hgb (by simp [Value.ownBlock, e]))).trans hgg, rest⟩
  · obtain ⟨cs, lo, hi, h1, h2, h3, h4, h5, h6, h7⟩ := hk i x hx
    exact ⟨cs, lo, hi, h1, h2, Nat.le_trans h3 hs, h4, h5, h6.next (fun b h8 h9 => hb b (Nat.lt_of_lt_of_le h9 h3) (fun e => by omega)), h7⟩
theorem KdC.trl {base : Nat} {w : World} {gb : Nat} {v : Value} {xs : List Tr} (h : KdC base w gb v xs) : ∃ A c, v = .slice A xs.length c ∧ TrL w base A xs := by
  obtain ⟨L, ho, hgb, hk⟩ := h.L
  rcases ho.2 with ⟨rfl, h0⟩ | ⟨g, cap, cur, rfl, hbg, hgg, rest⟩
  · obtain rfl : xs = [] := List.eq_nil_of_length_eq_zero h0
    exact ⟨_, _, rfl, TrL.nil⟩
  · refine ⟨some ⟨g, 0, none⟩, cap, rfl, fun i => if h : i < xs.length then (hk i xs[i] (List.getElem?_eq_getElem h)).choose else [], fun _ => ⟨g, 0, rfl, hbg, (Array.getElem?_eq_some_iff.1 hgg).1, fun i hi j u hu => ?_⟩, fun i x hx => ?_⟩
    · dsimp only at hu
      rw [dif_pos hi] at hu
      obtain ⟨lo, hi2, k1, k2, k3, k4, k5, k6, k7⟩ := (hk i xs[i] (List.getElem?_eq_getElem hi)).choose_spec
      have hj : j < 5 := by rw [← k1]; exact (List.getElem?_eq_some_iff.1 hu).1
      have e := k7 j hj
      rw [hu] at e
      have := ho.cells (g := g) rfl (i * 5 + j) u e
      rw [addr_add] at this
      rw [show 0 + i * 5 + j = 0 + (i * 5 + j) by omega]
      exact this
    · have hi := (List.getElem?_eq_some_iff.1 hx).1
      show TrC w base (if h : i < xs.length then (hk i xs[i] (List.getElem?_eq_getElem h)).choose else []) x
      rw [dif_pos hi]
      obtain ⟨lo, hi2, k1, k2, k3, k4, k5, k6, k7⟩ := (hk i xs[i] (List.getElem?_eq_getElem hi)).choose_spec
      have e : xs[i] = x := (List.getElem?_eq_some_iff.1 hx).2
      have := (k6 w k3 (fun _ _ _ => rfl)).mono k2
      rw [← e]
      exact this
/-- A Kid more. -/
theorem KdC.add {base : Nat} {w w' : World} {gb : Nat} {v v' : Value} {xs : List Tr} {x : Tr} {L cs : List Value} {lo hi : Nat} (hgb2 : gb < w.heap.size)
    (ho : w.ownsRow base 26 5 v xs.length L) (hgb : v.ownBlock ≠ some gb) (hk : ∀ i x, xs[i]? = some x → ∃ cs lo hi, cs.length = 5 ∧ base ≤ lo ∧ hi ≤ w.heap.size ∧ (∀ g, v.ownBlock = some g → g < lo ∨ hi ≤ g) ∧ (gb < lo ∨ hi ≤ gb) ∧ Stands w lo hi cs x ∧ ∀ j, j < 5 → L[i * 5 + j]? = cs[j]?)
    (ho' : w'.ownsRow base 26 5 v' (xs.length + 1) (L ++ cs)) (hg : w.grownBy w' v.ownBlock) (hat : v'.ownBlock = v.ownBlock ∨ v'.ownBlock = some w.heap.size)
    (hc5 : cs.length = 5) (hlo : base ≤ lo) (hhi : hi ≤ w.heap.size) (hv : ∀ g, v.ownBlock = some g → g < lo ∨ hi ≤ g) (hgl : gb < lo ∨ hi ≤ gb) (hst : Stands w lo hi cs x) : KdC base w' gb v' (xs ++ [x]) := by
  have hL : L.length = xs.length * 5 := ho.1
  have hvn : ∀ (lo hi : Nat), hi ≤ w.heap.size → (∀ g, v.ownBlock = some g → g < lo ∨ hi ≤ g) → (∀ g, v'.ownBlock = some g → g < lo ∨ hi ≤ g) := fun lo hi h1 h2 g h3 => by
    rcases hat with hat | hat
    · exact h2 g (hat.symm.trans h3)
    · rw [hat] at h3; injection h3 with h3; omega
  have hnx : ∀ (lo hi : Nat) (cs : List Value) (t : Tr), hi ≤ w.heap.size → (∀ g, v.ownBlock = some g → g < lo ∨ hi ≤ g) → Stands w lo hi cs t → Stands w' lo hi cs t := fun lo hi cs t h1 h2 h3 => h3.next (fun b h4 h5 => hg.block b (by omega) (fun e => by have := h2 b e.symm; omega))
  refine ⟨L ++ cs, by rw [List.length_append]; exact ho', fun e => ?_, fun i y hy => ?_⟩
  · rcases hat with hat | hat
    · exact hgb (hat.symm.trans e)
    · rw [hat] at e; injection e with e; omega
  · by_cases hi2 : i < xs.length
    · rw [List.getElem?_append_left hi2] at hy
      obtain ⟨cs', lo', hi', h1, h2, h3, h4, h5, h6, h7⟩ := hk i y hy
      exact ⟨cs', lo', hi', h1, h2, Nat.le_trans h3 hg.size, hvn lo' hi' h3 h4, h5, hnx lo' hi' cs' y h3 h4 h6, fun j hj => by rw [List.getElem?_append_left (by omega)]; exact h7 j hj⟩
    · rw [List.getElem?_append_right (by omega)] at hy
      have hi3 : i - xs.length = 0 := by
        have := (List.getElem?_eq_some_iff.1 hy).1
        simp only [List.length_cons, List.length_nil] at this
        omega
      rw [hi3] at hy
      simp only [List.getElem?_cons_zero, Option.some.injEq] at hy
      subst hy
      exact ⟨cs, lo, hi, hc5, hlo, Nat.le_trans hhi hg.size, hvn lo hi hhi hv, hgl, hnx lo hi cs x hhi hv hst, fun j hj => by rw [List.getElem?_append_right (by omega)]; congr 1; omega⟩
theorem five5 {w : World} {b : Nat} {v0 v1 v2 v3 v4 : Value} {t : TypeId} (h : w.heap[b]? = some (.cells #[v0, v1, v2, v3, v4] t (0, 0))) : w.cell? ⟨b, 0, none⟩ = some v0 ∧ w.cell? ⟨b, 1, none⟩ = some v1 ∧ w.cell? ⟨b, 2, none⟩ = some v2 ∧ w.cell? ⟨b, 3, none⟩ = some v3 ∧ w.cell? ⟨b, 4, none⟩ = some v4 := by
  simp [World.cell?, h]
theorem own_mv {w w' : World} {base n m : Nat} {e : TypeId} {v : Value} {xs : List Value} (h : w.ownsRow base e n v m xs) (hb : ∀ g, v.ownBlock = some g → w'.heap[g]? = w.heap[g]?) : w'.ownsRow base e n v m xs := by
  refine ⟨h.1, ?_⟩
  rcases h.2 with hn | ⟨g, cap, cur, rfl, hbg, hgg, rest⟩
  · exact .inl hn
  · exact .inr ⟨g, cap, cur, rfl, hbg, (hb g rfl).trans hgg, rest⟩
/-- The tree's own block is filled. -/
theorem RP.filled {base : Nat} {w0 w : World} {v : Value} {n g : Nat} {L : List Value} (h : RP base w0 w (some (v, n, L)) (some g)) (u0 u1 u2 u3 u4 : Value) :
    Below base w0 (((((w.setCell ⟨g, 0, none⟩ u0).setCell ⟨g, 1, none⟩ u1).setCell ⟨g, 2, none⟩ u2).setCell ⟨g, 3, none⟩ u3).setCell ⟨g, 4, none⟩ u4) ∧ (((((w.setCell ⟨g, 0, none⟩ u0).setCell ⟨g, 1, none⟩ u1).setCell ⟨g, 2, none⟩ u2).setCell ⟨g, 3, none⟩ u3).setCell ⟨g, 4, none⟩ u4).ownsRow base 95 4 v n L ∧ v.ownBlock ≠ some g ∧
      (((((w.setCell ⟨g, 0, none⟩ u0).setCell ⟨g, 1, none⟩ u1).setCell ⟨g, 2, none⟩ u2).setCell ⟨g, 3, none⟩ u3).setCell ⟨g, 4, none⟩ u4).heap[g]? = some (.cells #[u0, u1, u2, u3, u4] 26) ∧ base ≤ g := by
  obtain ⟨h1, h2, h3⟩ := h.box g rfl
  have h4 := h3 _ _ _ rfl
  refine ⟨((((h.below.setCell (p := ⟨g, 0, none⟩) h1 u0).setCell (p := ⟨g, 1, none⟩) h1 u1).setCell (p := ⟨g, 2, none⟩) h1 u2).setCell (p := ⟨g, 3, none⟩) h1 u3).setCell (p := ⟨g, 4, none⟩) h1 u4, own_mv (h.own _ _ _ rfl) (fun b hb => ?_), h4, ?_, h1⟩
  · have hne : b ≠ g := fun e => h4 (by rw [← e]; exact hb)
    rw [Below.heap_setCell _ _ _ _ hne, Below.heap_setCell _ _ _ _ hne, Below.heap_setCell _ _ _ _ hne, Below.heap_setCell _ _ _ _ hne, Below.heap_setCell _ _ _ _ hne]
  · simp [World.setCell, Array.getElem?_modify, h2]
end Go.Proofs.YtpkhpaioddommaaDoor
