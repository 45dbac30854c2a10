/- A tree with a part more: how its Kids are laid, in whatever order. -/
import Derived.Test.YtagaaeolgecdmaaGreatDoorDrTM
import Derived.Test.YtagaaeolgecdmaaGreatDoorWrtM
namespace Go.Proofs.YtagaaeolgecdmaaGreatDoor
open Go.Joins Go.ChangeShapes Go.WideShapes Go.ChangeAt Go.RowKit Go.Deep
set_option linter.unusedVariables false
set_option linter.unusedSimpArgs false

theorem addr_add (b o j : Nat) : (⟨b, o, none⟩ : Addr).add j = ⟨b, o + j, none⟩ := by unfold Addr.add; split <;> simp_all
def leafC : List Value := [.int .i64 (-1), .int .i64 (-1), .string ⟨#[]⟩, .slice none 0 0, .slice none 0 0]
def leafT : Tr := .mk (-1) (-1) ⟨#[]⟩ [] []
/-- The cells of Kids in a row. -/
def kcs (hdr : Nat → List Value) : Nat → List Value
  | 0 => []
  | n + 1 => kcs hdr n ++ hdr n
theorem kcs_len {hdr : Nat → List Value} : ∀ n, (∀ i, i < n → (hdr i).length = 5) → (kcs hdr n).length = n * 5
  | 0, _ => rfl
  | n + 1, h => by
    rw [kcs, List.length_append, kcs_len n (fun i hi => h i (by omega)), h n (by omega)]
    omega
theorem kcs_at {hdr : Nat → List Value} : ∀ n, (∀ i, i < n → (hdr i).length = 5) → ∀ i, i < n → ∀ j, j < 5 → (kcs hdr n)[i * 5 + j]? = (hdr i)[j]?
  | 0, _, i, hi, _, _ => absurd hi (by omega)
  | n + 1, h, i, hi, j, hj => by
    have hl := kcs_len n (fun i hi => h i (by omega))
    rw [kcs]
    by_cases e : i < n
    · rw [List.getElem?_append_left (by omega)]
      exact kcs_at n (fun i hi => h i (by omega)) i e j hj
    · obtain rfl : i = n := by omega
      rw [List.getElem?_append_right (by omega)]
      congr 1
      omega
theorem kcs_all {hdr : Nat → List Value} {P : Value → Prop} : ∀ n, (∀ i, i < n → ∀ u ∈ hdr i, P u) → ∀ u ∈ kcs hdr n, P u
  | 0, _, u, hu => by cases hu
  | n + 1, h, u, hu => by
    rw [kcs] at hu
    rcases List.mem_append.1 hu with hu | hu
    · exact kcs_all n (fun i hi => h i (by omega)) u hu
    · exact h n (by omega) u hu
theorem TrC.five {w : World} {lo : Nat} {cs : List Value} {t : Tr} (h : TrC w lo cs t) : cs.length = 5 ∧ ∀ u ∈ cs, u.oneCell' = true := by
  obtain ⟨A0, c0, A1, c1, rfl, _⟩ := h.open_
  refine ⟨rfl, fun u hu => ?_⟩
  simp only [List.mem_cons, List.not_mem_nil, or_false] at hu
  rcases hu with rfl | rfl | rfl | rfl | rfl <;> rfl
/-- Kids as they lie: their cells in a row. -/
theorem TrL.cells {w : World} {A : Option Addr} {ks : List Tr} (h : TrL w 0 A ks) : ∃ L : List Value, L.length = ks.length * 5 ∧ (∀ u ∈ L, u.oneCell' = true) ∧ (0 < ks.length → ∃ ad, A = some ad ∧ ∀ w', Below w.heap.size w w' → ∀ j u, L[j]? = some u → w'.cell? (ad.add j) = some u) ∧
    (∀ i x, ks[i]? = some x → ∃ cs, cs.length = 5 ∧ TrC w 0 cs x ∧ ∀ j, j < 5 → L[i * 5 + j]? = cs[j]?) := by
  obtain ⟨hdr, h0, h1⟩ := h
  have h5 : ∀ i, i < ks.length → (hdr i).length = 5 ∧ ∀ u ∈ hdr i, u.oneCell' = true := fun i hi => by
    obtain ⟨x, hx⟩ := at_some hi
    exact (h1 i x hx).five
  refine ⟨kcs hdr ks.length, kcs_len _ (fun i hi => (h5 i hi).1), kcs_all _ (fun i hi => (h5 i hi).2), fun hp => ?_, fun i x hx => ?_⟩
  · obtain ⟨b, off, rfl, _, hlt, hc⟩ := h0 hp
    refine ⟨_, rfl, fun w' hb j u hu => ?_⟩
    have hj : j < ks.length * 5 := by rw [← kcs_len (hdr := hdr) ks.length (fun i hi => (h5 i hi).1)]; exact (List.getElem?_eq_some_iff.1 hu).1
    have e := kcs_at ks.length (fun i hi => (h5 i hi).1) (j / 5) (by omega) (j % 5) (by omega)
    rw [show j / 5 * 5 + j % 5 = j by omega, hu] at e
    have := hc (j / 5) (by omega) (j % 5) u e.symm
    rw [show off + j / 5 * 5 + j % 5 = off + j by omega] at this
    rw [addr_add]
    exact (hb.cell (p := ⟨b, off + j, none⟩) hlt).trans this
  · have hi : i < ks.length := (List.getElem?_eq_some_iff.1 hx).1
    exact ⟨hdr i, (h5 i hi).1, h1 i x hx, fun j hj => kcs_at ks.length (fun i hi => (h5 i hi).1) i hi j hj⟩
theorem leaf_lies (w : World) (lo : Nat) : TrC w lo leafC leafT :=
  TrC.mk (ps := []) (ks := []) none 0 none 0 (fun _ => []) (fun h => absurd h (by simp)) (fun b o h => by cases h) (fun h => absurd h (by simp)) (fun i x h => by simp at h)
/-- The row with a leaf more holds the Kids with a leaf more. -/
theorem kids_more {w w' : World} {ks : List Tr} {L : List Value} (hL : L.length = ks.length * 5) (hk : ∀ i x, ks[i]? = some x → ∃ cs, cs.length = 5 ∧ TrC w 0 cs x ∧ ∀ j, j < 5 → L[i * 5 + j]? = cs[j]?) (hb : Below w.heap.size w w') {base g c : Nat}
    (ho : w'.ownsRow base 32 5 (.slice (some ⟨g, 0, none⟩) (ks.length + 1) c) (ks.length + 1) (L ++ leafC)) : TrL w' 0 (some ⟨g, 0, none⟩) (ks ++ [leafT]) := by
  have hlt := (ho.lt g rfl).2
  have key : ∀ i x, (ks ++ [leafT])[i]? = some x → ∃ cs, cs.length = 5 ∧ TrC w' 0 cs x ∧ ∀ j, j < 5 → (L ++ leafC)[i * 5 + j]? = cs[j]? := fun i x hx => by
    by_cases hi : i < ks.length
    · rw [List.getElem?_append_left hi] at hx
      obtain ⟨cs, h1, h2, h3⟩ := hk i x hx
      exact ⟨cs, h1, h2.later hb, fun j hj => by rw [List.getElem?_append_left (by omega)]; exact h3 j hj⟩
    · rw [List.getElem?_append_right (by omega)] at hx
      have hi2 : i - ks.length = 0 := by
        have := (List.getElem?_eq_some_iff.1 hx).1
        simp only [List.length_cons, List.length_nil] at this
        omega
      rw [hi2] at hx
      simp only [List.getElem?_cons_zero, Option.some.injEq] at hx
      subst hx
      exact ⟨leafC, rfl, leaf_lies _ _, fun j hj => by rw [List.getElem?_append_right (by omega)]; congr 1; omega⟩
  refine ⟨fun i => if h : i < ks.length + 1 then (key i ((ks ++ [leafT])[i]'(by simpa using h)) (List.getElem?_eq_getElem _)).choose else [], fun _ => ⟨g, 0, rfl, Nat.zero_le _, hlt, fun i hi j u hu => ?_⟩, fun i x hx => ?_⟩
  · have hi' : i < ks.length + 1 := by simpa using hi
    dsimp only at hu
    rw [dif_pos hi'] at hu
    obtain ⟨k1, k2, k3⟩ := (key i ((ks ++ [leafT])[i]'(by simpa using hi')) (List.getElem?_eq_getElem _)).choose_spec
    have hj : j < 5 := by rw [← k1]; exact (List.getElem?_eq_some_iff.1 hu).1
    have e := k3 j hj
    rw [hu] at e
    have := ho.cells (g := g) rfl (i * 5 + j) u e
    rw [addr_add] at this
    rw [show 0 + i * 5 + j = 0 + (i * 5 + j) by omega]
    exact this
  · have hi' : i < ks.length + 1 := by have := (List.getElem?_eq_some_iff.1 hx).1; simpa using this
    show TrC w' 0 (if h : i < ks.length + 1 then (key i ((ks ++ [leafT])[i]'(by simpa using h)) (List.getElem?_eq_getElem _)).choose else []) x
    rw [dif_pos hi']
    have e : (ks ++ [leafT])[i]'(by simpa using hi') = x := (List.getElem?_eq_some_iff.1 hx).2
    have := (key i ((ks ++ [leafT])[i]'(by simpa using hi')) (List.getElem?_eq_getElem _)).choose_spec.2.1
    rw [← e]
    exact this
/-- What has been laid so far: the Kids' row, the leaf, the tree's own block. -/
structure RG (base : Nat) (w0 w : World) (row : Option (Value × Nat × List Value)) (g3 g7 : Option Nat) : Prop where
  below : Below base w0 w
  le : base ≤ w.heap.size
  own : ∀ v n L, row = some (v, n, L) → w.ownsRow base 32 5 v n L
  leaf : ∀ g, g3 = some g → base ≤ g ∧ w.heap[g]? = some (.cells leafC.toArray 32) ∧ ∀ v n L, row = some (v, n, L) → v.ownBlock ≠ some g
  box : ∀ g, g7 = some g → base ≤ g ∧ w.heap[g]? = some (.cells #[.int .i64 0, .int .i64 0, .string ⟨#[]⟩, .slice none 0 0, .slice none 0 0] 32) ∧ ∀ v n L, row = some (v, n, L) → v.ownBlock ≠ some g
theorem RG.start {base : Nat} {w0 w : World} (hb : Below base w0 w) (hl : base ≤ w.heap.size) : RG base w0 w none none none := ⟨hb, hl, fun _ _ _ h => (by cases h), fun _ h => (by cases h), fun _ h => (by cases h)⟩
theorem own_alloc {w : World} {base n m : Nat} {e : TypeId} {v : Value} {xs : List Value} (h : w.ownsRow base e n v m xs) (o : Obj) : (w.alloc o).ownsRow base e n v m xs :=
  h.kept (row := none) ⟨rfl, rfl, rfl, by simp, fun k hk _ => Below.heap_alloc w o k hk⟩ (by cases hv : v.ownBlock <;> simp)
theorem RG.alloc {base : Nat} {w0 w : World} {row : Option (Value × Nat × List Value)} {g3 g7 : Option Nat} (h : RG base w0 w row g3 g7) (o : Obj) : RG base w0 (w.alloc o) row g3 g7 :=
  ⟨h.below.alloc h.le o, by have := h.le; simp; omega, fun v n L e => own_alloc (h.own v n L e) o,
    fun g e => ⟨(h.leaf g e).1, (Below.heap_alloc w o g (Array.getElem?_eq_some_iff.1 (h.leaf g e).2.1).1).trans (h.leaf g e).2.1, (h.leaf g e).2.2⟩,
    fun g e => ⟨(h.box g e).1, (Below.heap_alloc w o g (Array.getElem?_eq_some_iff.1 (h.box g e).2.1).1).trans (h.box g e).2.1, (h.box g e).2.2⟩⟩
theorem RG.newRow {base : Nat} {w0 w : World} {g3 g7 : Option Nat} (h : RG base w0 w none g3 g7) : RG base w0 (w.alloc (.cells #[] 32)) (some (.slice (some ⟨w.heap.size, 0, none⟩) 0 0, 0, [])) g3 g7 := by
  have h1 := h.alloc (.cells #[] 32)
  refine ⟨h1.below, h1.le, fun v n L e => ?_, fun g e => ⟨(h1.leaf g e).1, (h1.leaf g e).2.1, fun v n L e2 => ?_⟩, fun g e => ⟨(h1.box g e).1, (h1.box g e).2.1, fun v n L e2 => ?_⟩⟩
  · cases e
    exact ⟨rfl, .inr ⟨w.heap.size, 0, #[], rfl, h.le, World.alloc_heap_new w _, Nat.le_refl _, Nat.zero_le _, rfl, rfl⟩⟩
  · cases e2
    have := (Array.getElem?_eq_some_iff.1 (h.leaf g e).2.1).1
    simp [Value.ownBlock]
    omega
  · cases e2
    have := (Array.getElem?_eq_some_iff.1 (h.box g e).2.1).1
    simp [Value.ownBlock]
    omega
theorem RG.newLeaf {base : Nat} {w0 w : World} {row : Option (Value × Nat × List Value)} {g7 : Option Nat} (h : RG base w0 w row none g7) : RG base w0 (w.alloc (.cells leafC.toArray 32)) row (some w.heap.size) g7 := by
  have h1 := h.alloc (.cells leafC.toArray 32)
  refine ⟨h1.below, h1.le, h1.own, fun g e => ?_, h1.box⟩
  cases e
  refine ⟨h.le, World.alloc_heap_new w _, fun v n L e2 e3 => ?_⟩
  have := ((h.own v n L e2).lt _ e3).2
  omega
theorem RG.newBox {base : Nat} {w0 w : World} {row : Option (Value × Nat × List Value)} {g3 : Option Nat} (h : RG base w0 w row g3 none) : RG base w0 (w.alloc (.cells #[.int .i64 0, .int .i64 0, .string ⟨#[]⟩, .slice none 0 0, .slice none 0 0] 32)) row g3 (some w.heap.size) := by
  have h1 := h.alloc (.cells #[.int .i64 0, .int .i64 0, .string ⟨#[]⟩, .slice none 0 0, .slice none 0 0] 32)
  refine ⟨h1.below, h1.le, h1.own, h1.leaf, fun g e => ?_⟩
  cases e
  refine ⟨h.le, World.alloc_heap_new w _, fun v n L e2 e3 => ?_⟩
  have := ((h.own v n L e2).lt _ e3).2
  omega
theorem RG.app {base : Nat} {w0 w w' : World} {v v' : Value} {n n' : Nat} {L L' : List Value} {g3 g7 : Option Nat} (h : RG base w0 w (some (v, n, L)) g3 g7) (ho : w'.ownsRow base 32 5 v' n' L') (hg : w.grownBy w' v.ownBlock) (hat : v'.ownBlock = v.ownBlock ∨ v'.ownBlock = some w.heap.size) : RG base w0 w' (some (v', n', L')) g3 g7 := by
  refine ⟨h.below.grown hg h.le (fun k hk => ((h.own v n L rfl).lt k hk).1), Nat.le_trans h.le hg.size, fun v1 n1 L1 e => ?_, fun g e => ?_, fun g e => ?_⟩
  · cases e; exact ho
  · obtain ⟨h1, h2, h3⟩ := h.leaf g e
    have hlt := (Array.getElem?_eq_some_iff.1 h2).1
    refine ⟨h1, (hg.block g hlt (fun e => h3 _ _ _ rfl e.symm)).trans h2, fun v1 n1 L1 e2 e3 => ?_⟩
    cases e2
    rcases hat with hat | hat
    · exact h3 _ _ _ rfl (hat.symm.trans e3)
    · rw [hat] at e3
      injection e3 with e3
      omega
  · obtain ⟨h1, h2, h3⟩ := h.box g e
    have hlt := (Array.getElem?_eq_some_iff.1 h2).1
    refine ⟨h1, (hg.block g hlt (fun e => h3 _ _ _ rfl e.symm)).trans h2, fun v1 n1 L1 e2 e3 => ?_⟩
    cases e2
    rcases hat with hat | hat
    · exact h3 _ _ _ rfl (hat.symm.trans e3)
    · rw [hat] at e3
      injection e3 with e3
      omega
theorem run_append0 (w : World) (t ty e : TypeId) (i : TypeInfo) (ht : Tryz.prog.underlying t = some (.slice e)) (hi : Tryz.prog.info? e = some i) (b0 : Addr) (p : Option Addr) (c : Nat) :
    (Builtin.append_ #[t, t] ty #[.slice (some b0) 0 0, .slice p 0 c]).run Tryz.prog w = .ok (.slice (some b0) 0 0) w := by
  cases p <;> simp [Builtin.append_, run_underlying ht, sizeOf, typeInfo, hi, Builtin.lenOf, Builtin.firstCells, loadCells, loadCellsFrom, storeCells]
theorem own_form {w : World} {base : Nat} {e : TypeId} {n : Nat} {v : Value} {g : Nat} {L : List Value} (ho : w.ownsRow base e 5 v n L) (hv : v.ownBlock = some g) : ∃ c, v = .slice (some ⟨g, 0, none⟩) n c := by
  rcases ho.2 with ⟨rfl, _⟩ | ⟨g', c, cur, rfl, _⟩
  · cases hv
  · simp [Value.ownBlock] at hv
    subst hv
    exact ⟨c, rfl⟩
/-- The Kids, appended onto nothing. -/
theorem step_first {w w0 : World} {ops : Array Oper} {o : Oper} {a : Act} {K : Act → World → Prop} {Q : Exit → Act → World → Prop} {E : Prop} (hgd : o.guard = none) (s x : Operand)
    (ho : o.op = .call { callee := .builtin .append, args := #[s, x], argTypes := #[30, 30] }) (base b m c2 : Nat) (A : Option Addr) (L : List Value) (g3 g7 : Option Nat) (hs : a.eval s = .slice (some ⟨b, 0, none⟩) 0 0) (hx : a.eval x = .slice A m c2)
    (h : RG base w0 w (some (.slice (some ⟨b, 0, none⟩) 0 0, 0, [])) g3 g7) (hl : L.length = m * 5) (h1 : ∀ u ∈ L, u.oneCell' = true) (hc : 0 < m → ∃ ad, A = some ad ∧ ∀ j u, L[j]? = some u → w.cell? (ad.add j) = some u) (hm : m ≤ 1000)
    (hK : ∀ b' c' w', RG base w0 w' (some (.slice (some ⟨b', 0, none⟩) m c', m, L)) g3 g7 → K (a.put o.dst (.slice (some ⟨b', 0, none⟩) m c')) w') :
    if Region.wanted o (yielded ops a.tmps) = true then Oper.wp Tryz.prog o a w K Q else E := by
  have hw : Region.wanted o (yielded ops a.tmps) = true := by simp [Region.wanted, hgd]
  rw [if_pos hw]
  obtain ⟨i, hi, hz, hsz, hby⟩ := info_parts infoTr
  rcases Nat.eq_zero_or_pos m with rfl | hp
  · obtain rfl : L = [] := List.eq_nil_of_length_eq_zero (by simpa using hl)
    have hr := run_append0 w 30 o.type 32 i Tryz.underlying30 hi ⟨b, 0, none⟩ A c2
    unfold Oper.wp execOp
    simp only [ho, resolve, invoke, builtin, Sem.run_bind, Sem.run_pure, Result.andThen_ok, List.map_toArray, List.map_cons, List.map_nil, hs, hx, hr]
    exact hK b 0 w h
  · obtain ⟨ad, rfl, hcells⟩ := hc hp
    obtain ⟨v', w', hr, hown', hg, hn, hat⟩ := run_append_own_at (P := Tryz.prog) w base 30 o.type 32 i _ 5 80 Tryz.underlying30 hi hz hsz hby rfl (by omega) _ 0 [] (h.own _ _ _ rfl) ad m c2 L hl hcells h1 (by simp only [maxLen]; omega) (by omega) h.le
    rw [Nat.zero_add, List.nil_append] at hown'
    have hR := h.app hown' hg hat
    obtain ⟨b', c', rfl⟩ : ∃ b' c', v' = .slice (some ⟨b', 0, none⟩) m c' := by
      rcases hat with hat | hat
      · obtain ⟨c', e⟩ := own_form hown' hat
        exact ⟨_, c', e⟩
      · obtain ⟨c', e⟩ := own_form hown' hat
        exact ⟨_, c', e⟩
    unfold Oper.wp execOp
    simp only [ho, resolve, invoke, builtin, Sem.run_bind, Sem.run_pure, Result.andThen_ok, List.map_toArray, List.map_cons, List.map_nil, hs, hx, hr]
    exact hK b' c' w' hR
/-- The leaf, appended behind the Kids. -/
theorem step_leaf {w w0 : World} {ops : Array Oper} {o : Oper} {a : Act} {K : Act → World → Prop} {Q : Exit → Act → World → Prop} {E : Prop} (hgd : o.guard = none) (s x : Operand)
    (ho : o.op = .call { callee := .builtin .append, args := #[s, x], argTypes := #[30, 30] }) (base b m c g : Nat) (L : List Value) (g7 : Option Nat) (hs : a.eval s = .slice (some ⟨b, 0, none⟩) m c) (hx : a.eval x = .slice (some ⟨g, 0, none⟩) 1 1)
    (h : RG base w0 w (some (.slice (some ⟨b, 0, none⟩) m c, m, L)) (some g) g7) (hm : m ≤ 1000)
    (hK : ∀ b' c' w', RG base w0 w' (some (.slice (some ⟨b', 0, none⟩) (m + 1) c', m + 1, L ++ leafC)) (some g) g7 → K (a.put o.dst (.slice (some ⟨b', 0, none⟩) (m + 1) c')) w') :
    if Region.wanted o (yielded ops a.tmps) = true then Oper.wp Tryz.prog o a w K Q else E := by
  have hw : Region.wanted o (yielded ops a.tmps) = true := by simp [Region.wanted, hgd]
  rw [if_pos hw]
  obtain ⟨i, hi, hz, hsz, hby⟩ := info_parts infoTr
  have hcells : ∀ j u, leafC[j]? = some u → w.cell? ((⟨g, 0, none⟩ : Addr).add j) = some u := fun j u hu => by
    rw [addr_add, Nat.zero_add, cell_of_row w g j _ _ _ (h.leaf g rfl).2.1]
    simpa using hu
  obtain ⟨v', w', hr, hown', hg, hn, hat⟩ := run_append_own_at (P := Tryz.prog) w base 30 o.type 32 i _ 5 80 Tryz.underlying30 hi hz hsz hby rfl (by omega) _ m L (h.own _ _ _ rfl) ⟨g, 0, none⟩ 1 1 leafC rfl hcells (leaf_lies w 0).five.2 (by simp only [maxLen]; omega) (by omega) h.le
  have hR := h.app hown' hg hat
  obtain ⟨b', c', rfl⟩ : ∃ b' c', v' = .slice (some ⟨b', 0, none⟩) (m + 1) c' := by
    rcases hat with hat | hat
    · obtain ⟨c', e⟩ := own_form hown' hat
      exact ⟨_, c', e⟩
    · obtain ⟨c', e⟩ := own_form hown' hat
      exact ⟨_, c', e⟩
  unfold Oper.wp execOp
  simp only [ho, resolve, invoke, builtin, Sem.run_bind, Sem.run_pure, Result.andThen_ok, List.map_toArray, List.map_cons, List.map_nil, hs, hx, hr]
  exact hK b' c' w' hR
end Go.Proofs.YtagaaeolgecdmaaGreatDoor
