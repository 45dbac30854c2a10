/- Cpt1, Cpt2, Cpt3, No1, No3, Tat1, Lad in one text. -/
import Derived.Test.YtagaaeolgecdmaaGreatDoorOt1
import Derived.Lib.SliceRun
import Derived.Maps.AppendAt
import Derived.Test.YtagaaeolgecdmaaGreatDoorIntM
import Derived.StillTailTactics
namespace Go.Proofs.YtagaaeolgecdmaaGreatDoor
open Go.Joins Go.ChangeShapes Go.WideShapes Go.ChangeAt Go.RowKit Go.Deep
set_option linter.unusedVariables false
set_option linter.unusedSimpArgs false

theorem wp_cloneT {w : World} {ops : Array Oper} {rest : List Oper} {o : Oper} {a : Act} {Q : Exit → Act → World → Prop} (hgd : o.guard = none) (s x : Operand)
    (ho : o.op = .call { callee := .builtin .append, args := #[s, x], argTypes := #[30, 30] }) (base b n c : Nat) (hs : a.eval s = .slice (some ⟨b, 0, none⟩) 0 0) (hown : w.ownsRow base 32 5 (.slice (some ⟨b, 0, none⟩) 0 0) 0 [])
    (ad : Addr) (L : List Value) (hx : a.eval x = .slice (some ad) n c) (hl : L.length = n * 5) (hc : ∀ j u, L[j]? = some u → w.cell? (ad.add j) = some u) (h1 : ∀ u ∈ L, u.oneCell' = true) (hn : n ≤ 1000000) (hbase : base ≤ w.heap.size)
    (h : ∀ b' c' w', w'.ownsRow base 32 5 (.slice (some ⟨b', 0, none⟩) n c') n L → w.grownBy w' (some b) → wpList Tryz.prog ops Q rest (a.put o.dst (.slice (some ⟨b', 0, none⟩) n c')) w') :
    wpList Tryz.prog ops Q (o :: rest) a w := by
  obtain ⟨i0, hi0, hz0, hz1, hz2⟩ := info_parts infoTr
  refine wpList_append_own_at w hgd s x _ ho base 32 i0 _ 5 80 Tryz.underlying30 hi0 hz0 hz1 hz2 rfl (by omega) _ 0 [] hs hown ad n c L hx hl hc h1 (by simp only [maxLen]; omega) (by omega) hbase ?_
  intro v' w' hown' hg hnil hat
  rw [Nat.zero_add, List.nil_append] at hown'
  have hform : ∃ b' c', v' = .slice (some ⟨b', 0, none⟩) n c' := by
    rcases hown'.2 with ⟨rfl, _⟩ | ⟨g', cap', cur, rfl, _⟩
    · simp [Value.ownBlock] at hat
    · exact ⟨g', cap', rfl⟩
  obtain ⟨b', c', rfl⟩ := hform
  exact h b' c' w' hown' hg
set_option maxHeartbeats 1000000 in
theorem cloneT_any (A : Option Addr) (n c : Nat) (L : List Value) (w : World) (hl : L.length = n * 5) (h1 : ∀ u ∈ L, u.oneCell' = true) (hc : 0 < n → ∃ ad, A = some ad ∧ ∀ w', Below w.heap.size w w' → ∀ j u, L[j]? = some u → w'.cell? (ad.add j) = some u) (hn : n ≤ 1000000) :
    Calls Tryz.prog 104 #[.slice A n c] w fun e w' => ∃ A' c', e = .returned (.slice A' n c') ∧ Below w.heap.size w w' ∧ (∀ b o, A' = some ⟨b, o, none⟩ → w.heap.size ≤ b) ∧ (0 < n → ∃ g, A' = some ⟨g, 0, none⟩ ∧ w'.ownsRow w.heap.size 32 5 (.slice (some ⟨g, 0, none⟩) n c') n L) := by
  have HL := Lib.hid hl
  have H1 := Lib.hid h1
  have HN := Lib.hid hn
  have kn := fun (w : World) => Lib.run_eql_slice_nil (P := Tryz.prog) w 30 32 A n c 0 0 Tryz.underlying30
  cases A with
  | none =>
    have hn0 : n = 0 := by
      rcases Nat.eq_zero_or_pos n with h | h
      · exact h
      · obtain ⟨ad, e, _⟩ := hc h
        cases e
    subst hn0
    clear hl h1 hc hn
    go_enter Tryz.func104, Tryz.ntmps104
    go_wp2_with fail
    go_ret
    exact ⟨none, 0, rfl, Below.refl _ _, fun b o e => (by cases e), fun h => absurd h (by omega)⟩
  | some ad =>
    have hcell : ∀ w', Below w.heap.size w w' → ∀ j u, L[j]? = some u → w'.cell? (ad.add j) = some u := by
      rcases Nat.eq_zero_or_pos n with h | h
      · subst h
        obtain rfl : L = [] := List.eq_nil_of_length_eq_zero (by simpa using hl)
        intro w' _ j u hu
        simp at hu
      · obtain ⟨ad', e, h⟩ := hc h
        cases e
        exact h
    have hb0 := Below.alloc (Below.refl w.heap.size w) (Nat.le_refl _) (.cells #[] 32)
    have HC := Lib.hid (hcell _ hb0)
    have HB := Lib.hid hb0
    have HO := Lib.hid (show (w.alloc (.cells #[] 32)).ownsRow w.heap.size 32 5 (.slice (some ⟨w.heap.size, 0, none⟩) 0 0) 0 [] from ⟨rfl, .inr ⟨w.heap.size, 0, #[], rfl, Nat.le_refl _, World.alloc_heap_new w _, Nat.le_refl _, Nat.zero_le _, rfl, rfl⟩⟩)
    clear hl h1 hc hn hcell hb0
    go_enter Tryz.func104, Tryz.ntmps104
    go_wp2_with (at_builtin; refine wp_cloneT rfl (.tmp 5) (.tmp 6) rfl w.heap.size w.heap.size n c rfl HO.out ad L rfl HL.out HC.out H1.out HN.out (by simp) ?_; intro b3 c3 w5 ho hgr; have HO5 := Lib.hid ho; have HB5 := Lib.hid (HB.out.grown hgr (by simp) (fun k hk => by injection hk with hk; omega)); clear ho hgr)
    go_ret
    exact ⟨some ⟨b3, 0, none⟩, c3, rfl, HB5.out, fun b o e => (by cases e; exact (HO5.out.lt _ rfl).1), fun _ => ⟨b3, rfl, HO5.out⟩⟩
theorem wp_cloneP {w : World} {ops : Array Oper} {rest : List Oper} {o : Oper} {a : Act} {Q : Exit → Act → World → Prop} (hgd : o.guard = none) (s x : Operand)
    (ho : o.op = .call { callee := .builtin .append, args := #[s, x], argTypes := #[29, 29] }) (base b n c : Nat) (hs : a.eval s = .slice (some ⟨b, 0, none⟩) 0 0) (hown : w.ownsRow base 88 4 (.slice (some ⟨b, 0, none⟩) 0 0) 0 [])
    (ad : Addr) (L : List Value) (hx : a.eval x = .slice (some ad) n c) (hl : L.length = n * 4) (hc : ∀ j u, L[j]? = some u → w.cell? (ad.add j) = some u) (h1 : ∀ u ∈ L, u.oneCell' = true) (hn : n ≤ 1000000) (hbase : base ≤ w.heap.size)
    (h : ∀ b' c' w', w'.ownsRow base 88 4 (.slice (some ⟨b', 0, none⟩) n c') n L → w.grownBy w' (some b) → wpList Tryz.prog ops Q rest (a.put o.dst (.slice (some ⟨b', 0, none⟩) n c')) w') :
    wpList Tryz.prog ops Q (o :: rest) a w := by
  obtain ⟨i0, hi0, hz0, hz1, hz2⟩ := info_parts infoPr
  refine wpList_append_own_at w hgd s x _ ho base 88 i0 _ 4 40 Tryz.underlying29 hi0 hz0 hz1 hz2 rfl (by omega) _ 0 [] hs hown ad n c L hx hl hc h1 (by simp only [maxLen]; omega) (by omega) hbase ?_
  intro v' w' hown' hg hnil hat
  rw [Nat.zero_add, List.nil_append] at hown'
  have hform : ∃ b' c', v' = .slice (some ⟨b', 0, none⟩) n c' := by
    rcases hown'.2 with ⟨rfl, _⟩ | ⟨g', cap', cur, rfl, _⟩
    · simp [Value.ownBlock] at hat
    · exact ⟨g', cap', rfl⟩
  obtain ⟨b', c', rfl⟩ := hform
  exact h b' c' w' hown' hg
set_option maxHeartbeats 1000000 in
theorem cloneP_any (A : Option Addr) (n c : Nat) (L : List Value) (w : World) (hl : L.length = n * 4) (h1 : ∀ u ∈ L, u.oneCell' = true) (hc : 0 < n → ∃ ad, A = some ad ∧ ∀ w', Below w.heap.size w w' → ∀ j u, L[j]? = some u → w'.cell? (ad.add j) = some u) (hn : n ≤ 1000000) :
    Calls Tryz.prog 77 #[.slice A n c] w fun e w' => ∃ A' c', e = .returned (.slice A' n c') ∧ Below w.heap.size w w' ∧ (∀ b o, A' = some ⟨b, o, none⟩ → w.heap.size ≤ b) ∧ (0 < n → ∃ g, A' = some ⟨g, 0, none⟩ ∧ w'.ownsRow w.heap.size 88 4 (.slice (some ⟨g, 0, none⟩) n c') n L) := by
  have HL := Lib.hid hl
  have H1 := Lib.hid h1
  have HN := Lib.hid hn
  have kn := fun (w : World) => Lib.run_eql_slice_nil (P := Tryz.prog) w 29 88 A n c 0 0 Tryz.underlying29
  cases A with
  | none =>
    have hn0 : n = 0 := by
      rcases Nat.eq_zero_or_pos n with h | h
      · exact h
      · obtain ⟨ad, e, _⟩ := hc h
        cases e
    subst hn0
    clear hl h1 hc hn
    go_enter Tryz.func77, Tryz.ntmps77
    go_wp2_with fail
    go_ret
    exact ⟨none, 0, rfl, Below.refl _ _, fun b o e => (by cases e), fun h => absurd h (by omega)⟩
  | some ad =>
    have hcell : ∀ w', Below w.heap.size w w' → ∀ j u, L[j]? = some u → w'.cell? (ad.add j) = some u := by
      rcases Nat.eq_zero_or_pos n with h | h
      · subst h
        obtain rfl : L = [] := List.eq_nil_of_length_eq_zero (by simpa using hl)
        intro w' _ j u hu
        simp at hu
      · obtain ⟨ad', e, h⟩ := hc h
        cases e
        exact h
    have hb0 := Below.alloc (Below.refl w.heap.size w) (Nat.le_refl _) (.cells #[] 88)
    have HC := Lib.hid (hcell _ hb0)
    have HB := Lib.hid hb0
    have HO := Lib.hid (show (w.alloc (.cells #[] 88)).ownsRow w.heap.size 88 4 (.slice (some ⟨w.heap.size, 0, none⟩) 0 0) 0 [] from ⟨rfl, .inr ⟨w.heap.size, 0, #[], rfl, Nat.le_refl _, World.alloc_heap_new w _, Nat.le_refl _, Nat.zero_le _, rfl, rfl⟩⟩)
    clear hl h1 hc hn hcell hb0
    go_enter Tryz.func77, Tryz.ntmps77
    go_wp2_with (at_builtin; refine wp_cloneP rfl (.tmp 5) (.tmp 6) rfl w.heap.size w.heap.size n c rfl HO.out ad L rfl HL.out HC.out H1.out HN.out (by simp) ?_; intro b3 c3 w5 ho hgr; have HO5 := Lib.hid ho; have HB5 := Lib.hid (HB.out.grown hgr (by simp) (fun k hk => by injection hk with hk; omega)); clear ho hgr)
    go_ret
    exact ⟨some ⟨b3, 0, none⟩, c3, rfl, HB5.out, fun b o e => (by cases e; exact (HO5.out.lt _ rfl).1), fun _ => ⟨b3, rfl, HO5.out⟩⟩
theorem prs_cells {w : World} {A : Option Addr} {ps : List Pr} (h : PrL w A ps) : 0 < ps.length → ∃ ad, A = some ad ∧ ∀ w', Below w.heap.size w w' → ∀ j u, (ps.flatMap Pr.cells)[j]? = some u → w'.cell? (ad.add j) = some u := fun h0 => by
  obtain ⟨b, off, rfl, hlt, hc⟩ := h h0
  refine ⟨_, rfl, fun w' hb j u hu => ?_⟩
  have hlen : ∀ ys : List Pr, (ys.flatMap Pr.cells).length = ys.length * 4 := fun ys => by
    induction ys with
    | nil => rfl
    | cons y ys ih => rw [List.flatMap_cons, List.length_append, ih]; simp [Pr.cells]; omega
  have hj : j < ps.length * 4 := by rw [← hlen]; exact (List.getElem?_eq_some_iff.1 hu).1
  obtain ⟨x, hx⟩ := at_some (show j / 4 < ps.length by omega)
  have key : ∀ (ys : List Pr) (i r : Nat), ys[i]? = some x → r < 4 → (ys.flatMap Pr.cells)[i * 4 + r]? = x.cells[r]? := by
    intro ys
    induction ys with
    | nil => intro i r hi; simp at hi
    | cons y ys ih =>
      intro i r hi hr
      cases i with
      | zero =>
        simp at hi
        subst hi
        rw [List.flatMap_cons, List.getElem?_append_left (by simp [Pr.cells]; omega)]
        simp
      | succ i =>
        simp at hi
        rw [List.flatMap_cons, List.getElem?_append_right (by simp [Pr.cells]; omega), show (i + 1) * 4 + r - y.cells.length = i * 4 + r by simp [Pr.cells]; omega]
        exact ih i r hi hr
  have hu2 := key ps (j / 4) (j % 4) hx (by omega)
  rw [show j / 4 * 4 + j % 4 = j by omega, hu] at hu2
  have := hc (j / 4) x hx (j % 4) u hu2.symm
  rw [show off + j / 4 * 4 + j % 4 = off + j by omega] at this
  rw [addr_add]
  exact (hb.cell (p := ⟨b, off + j, none⟩) hlt).trans this
theorem prs_len (ys : List Pr) : (ys.flatMap Pr.cells).length = ys.length * 4 := by
  induction ys with
  | nil => rfl
  | cons y ys ih => rw [List.flatMap_cons, List.length_append, ih]; simp [Pr.cells]; omega
theorem prs_one (ys : List Pr) : ∀ u ∈ ys.flatMap Pr.cells, u.oneCell' = true := by
  intro u hu
  obtain ⟨y, _, hy⟩ := List.mem_flatMap.1 hu
  simp only [Pr.cells, List.mem_cons, List.not_mem_nil, or_false] at hy
  rcases hy with rfl | rfl | rfl | rfl <;> rfl
/-- Props copied. -/
theorem cloneProps_any (A : Option Addr) (c n : Nat) (ps : List Pr) (w : World) (hp : PrL w A ps) (hn : ps.length = n) (hl : n ≤ 1000000) :
    Calls Tryz.prog 77 #[.slice A n c] w fun e w' => ∃ A' c', e = .returned (.slice A' n c') ∧ Below w.heap.size w w' ∧ PrL w' A' ps ∧ (∀ b o, A' = some ⟨b, o, none⟩ → w.heap.size ≤ b) := by
  refine (cloneP_any A n c (ps.flatMap Pr.cells) w (by rw [prs_len, hn]) (prs_one ps) (fun h => prs_cells hp (by omega)) hl).mono ?_
  rintro e w' ⟨A', c', rfl, hb, hlo, h⟩
  refine ⟨A', c', rfl, hb, fun h0 => ?_, hlo⟩
  obtain ⟨g, rfl, ho⟩ := h (by omega)
  rw [← hn] at ho
  exact Lie.of_own (c := Pr.cells) Pr.cells_len ho h0
end Go.Proofs.YtagaaeolgecdmaaGreatDoor

namespace Go.Proofs.YtagaaeolgecdmaaGreatDoor
open Go.Joins Go.ChangeShapes Go.WideShapes Go.ChangeAt Go.RowKit Go.Deep
set_option linter.unusedVariables false
set_option linter.unusedSimpArgs false

def CpX (t : Tr) (w : World) (e : Ending) (w' : World) : Prop :=
  ∃ B0 f0 B1 f1, e = .returned (.agg #[.int .i64 t.tag, .int .i64 t.key, .string t.text, .slice B0 t.ps.length f0, .slice B1 t.ks.length f1]) ∧
    PrL w' B0 t.ps ∧ (∀ b o, B0 = some ⟨b, o, none⟩ → w.heap.size ≤ b) ∧ TrL w' w.heap.size B1 t.ks ∧ Below w.heap.size w w'
theorem CpX.front {t : Tr} {w W w' : World} {e : Ending} (h : CpX t W e w') (hb : Below w.heap.size w W) : CpX t w e w' := by
  obtain ⟨B0, f0, B1, f1, rfl, hp, hl, hk, h2⟩ := h
  exact ⟨B0, f0, B1, f1, rfl, hp, fun b o e => Nat.le_trans hb.size (hl b o e), hk.mono hb.size, hb.trans (h2.mono hb.size)⟩
def CpT (t : Tr) : Prop := ∀ (A0 A1 : Option Addr) (c0 c1 : Nat) (w : World), PrL w A0 t.ps → TrL w 0 A1 t.ks →
  Calls Tryz.prog 56 #[.agg #[.int .i64 t.tag, .int .i64 t.key, .string t.text, .slice A0 t.ps.length c0, .slice A1 t.ks.length c1]] w (CpX t w)
def CpsX (n : Nat) (xs : List Tr) (w : World) (e : Ending) (w' : World) : Prop :=
  ∃ A' c', e = .returned (.slice A' n c') ∧ TrL w' w.heap.size A' xs ∧ Below w.heap.size w w'
theorem own_below {w w' : World} {base n m : Nat} {e : TypeId} {v : Value} {xs : List Value} (h : w.ownsRow base e n v m xs) (hb : Below w.heap.size w w') : w'.ownsRow base e n v m xs :=
  h.kept (row := none) ⟨hb.os, hb.tape, hb.output, hb.size, fun k hk _ => hb.block k hk⟩ (by cases hv : v.ownBlock <;> simp)
set_option maxHeartbeats 2000000 in
set_option maxRecDepth 100000 in
theorem copyAll_of (A : Option Addr) (c n : Nat) (xs : List Tr) (IH : ∀ x ∈ xs, CpT x) (w : World) (hx : TrL w 0 A xs) (hn : xs.length = n) (hl : n ≤ 1000000) :
    Calls Tryz.prog 78 #[.slice A n c, .func (.func 56) #[] #[]] w (CpsX n xs w) := by
  obtain ⟨L0, hL0, hL1, hLc, hLk⟩ := hx.cells
  rw [hn] at hL0 hLc
  have KC := Lib.hid (cloneT_any A n c L0 w hL0 hL1 hLc hl)
  have HN := Lib.hid hn
  have HI := Lib.hid IH
  have HLK := Lib.hid hLk
  clear hx hn IH hL0 hL1 hLc hLk
  go_enter Tryz.func78, Tryz.ntmps78
  go_wp2_with fail
  refine KC.out.mono ?_
  rintro e w1 ⟨A', c', rfl, hb, hlo, hrow⟩
  have HB1 := Lib.hid hb
  have HLO := Lib.hid hlo
  rcases Nat.eq_zero_or_pos n with hn0 | hn0
  · subst hn0
    clear hb hrow hlo
    obtain rfl : xs = [] := List.eq_nil_of_length_eq_zero HN.out
    go_wp2_with fail
    go_loopw [11] (fun i wr => i = .int .i64 0 ∧ Hid (Below w.heap.size w wr)) (fun _ _ => 0)
    case atStart => exact ⟨rfl, HB1⟩
    case round =>
      obtain ⟨rfl, HB⟩ := hrel
      go_wp2_with fail
      go_ret
      exact ⟨A', c', rfl, TrL.nil, HB.out⟩
  obtain ⟨g, rfl, ho⟩ := hrow hn0
  have HO := Lib.hid ho
  clear hb hrow hlo ho KC
  go_wp2_with fail
  go_loopw [11] (fun i wr => ∃ (k : Nat) (L : List Value) (hdr : Nat → List Value), k ≤ n ∧ i = .int .i64 k ∧ wr.ownsRow w.heap.size 32 5 (.slice (some ⟨g, 0, none⟩) n c') n L ∧ Hid (∀ i, i < k → ∀ j u, (hdr i)[j]? = some u → j < 5 ∧ L[i * 5 + j]? = some u) ∧ Hid (∀ i x, i < k → xs[i]? = some x → TrC wr (g + 1) (hdr i) x) ∧ Hid (∀ i, k ≤ i → ∀ j, j < 5 → L[i * 5 + j]? = L0[i * 5 + j]?) ∧ Below w.heap.size w wr) (fun i _ => n - (intOf i).toNat)
  case atStart => exact ⟨0, L0, fun _ => [], by omega, rfl, HO.out, Lib.hid (fun i h => absurd h (by omega)), Lib.hid (fun i x h => absurd h (by omega)), Lib.hid (fun i h j hj => rfl), HB1.out⟩
  case round =>
    clear HO
    obtain ⟨k, L, hdr, hk, rfl, hown, HH, HT, HU, hB⟩ := hrel
    have HO2 := Lib.hid hown
    have hgl := hown.lt _ rfl
    have hg1 := hgl.1
    have hg2 := hgl.2
    have hLn : L.length = n * 5 := hown.1
    clear hgl
    by_cases hlt : k < n
    · obtain ⟨x, hx⟩ := at_some (show k < xs.length by rw [HN.out]; exact hlt)
      obtain ⟨cs, hcs, htc, hce⟩ := HLK.out k x hx
      obtain ⟨A0, d0, A1, d1, rfl, hp, _, hks⟩ := htc.open_
      have hu := fun j hj => (HU.out k (Nat.le_refl _) j hj).trans (hce j hj)
      have e0 : wr.cell? ⟨g, k * 5, none⟩ = some (.int .i64 x.tag) := (hown.cellAt (k * 5) (by omega)).trans ((hu 0 (by omega)).trans rfl)
      have e1 : wr.cell? ⟨g, k * 5 + 1, none⟩ = some (.int .i64 x.key) := (hown.cellAt (k * 5 + 1) (by omega)).trans ((hu 1 (by omega)).trans rfl)
      have e2 : wr.cell? ⟨g, k * 5 + 2, none⟩ = some (.string x.text) := (hown.cellAt (k * 5 + 2) (by omega)).trans ((hu 2 (by omega)).trans rfl)
      have e3 : wr.cell? ⟨g, k * 5 + 3, none⟩ = some (.slice A0 x.ps.length d0) := (hown.cellAt (k * 5 + 3) (by omega)).trans ((hu 3 (by omega)).trans rfl)
      have e4 : wr.cell? ⟨g, k * 5 + 4, none⟩ = some (.slice A1 x.ks.length d1) := (hown.cellAt (k * 5 + 4) (by omega)).trans ((hu 4 (by omega)).trans rfl)
      have HS := Lib.hid (fun W (hb : Below wr.heap.size wr W) => (HI.out x (List.mem_of_getElem? hx) A0 A1 d0 d1 W (hp.below (more hB (Nat.le_refl _) hb)) (hks.below (more hB (Nat.le_refl _) hb))).mono fun e w' h => h.front hb)
      have HXK := Lib.hid hx
      clear hx hp hks hown hu hce htc hcs
      obtain ⟨tag, key, text, ps, ks⟩ := x
      dsimp only [Tr.tag, Tr.key, Tr.text, Tr.ps, Tr.ks] at e0 e1 e2 e3 e4 HS
      have hcx : ∀ e w', CpX (.mk tag key text ps ks) wr e w' → ∃ B0 f0 B1 f1, e = .returned (.agg #[.int .i64 tag, .int .i64 key, .string text, .slice B0 ps.length f0, .slice B1 ks.length f1]) ∧ PrL w' B0 ps ∧ (∀ b o, B0 = some ⟨b, o, none⟩ → wr.heap.size ≤ b) ∧ TrL w' wr.heap.size B1 ks ∧ Below wr.heap.size wr w' := fun e w' h => h
      obtain ⟨Q, hQ⟩ : ∃ Q, CpX (.mk tag key text ps ks) wr = Q := ⟨_, rfl⟩
      rw [hQ] at HS hcx
      have HCX := Lib.hid hcx
      clear hcx hQ
      obtain ⟨np, hnp⟩ : ∃ q, ps.length = q := ⟨_, rfl⟩
      obtain ⟨nk, hnk⟩ : ∃ q, ks.length = q := ⟨_, rfl⟩
      have HNP := Lib.hid hnp
      have HNK := Lib.hid hnk
      rw [hnp] at e3 HS HCX
      rw [hnk] at e4 HS HCX
      clear hnp hnk
      have hi1 : (0 : Int) ≤ (k : Int) := by omega
      have hi2 : (k : Int) < (n : Int) := by omega
      go_wp2_with fail
      refine (HS.out _ (by go_grown)).mono ?_
      intro e w2 hq
      obtain ⟨B0, f0, B1, f1, rfl, hp, hplo, hkk, hb⟩ := HCX.out e w2 hq
      have hO3 := own_below HO2.out hb
      obtain ⟨u0, d0'⟩ : ∃ u, w2.cell? ⟨g, k * 5, none⟩ = some u := ⟨_, (hO3.cellAt (k * 5) (by omega)).trans (List.getElem?_eq_getElem (show k * 5 < L.length by omega))⟩
      have q0 := hO3.frozenAt (k * 5)
      obtain ⟨u1, d1'⟩ : ∃ u, w2.cell? ⟨g, k * 5 + 1, none⟩ = some u := ⟨_, (hO3.cellAt (k * 5 + 1) (by omega)).trans (List.getElem?_eq_getElem (show k * 5 + 1 < L.length by omega))⟩
      have q1 := hO3.frozenAt (k * 5 + 1)
      obtain ⟨u2, d2'⟩ : ∃ u, w2.cell? ⟨g, k * 5 + 2, none⟩ = some u := ⟨_, (hO3.cellAt (k * 5 + 2) (by omega)).trans (List.getElem?_eq_getElem (show k * 5 + 2 < L.length by omega))⟩
      have q2 := hO3.frozenAt (k * 5 + 2)
      obtain ⟨u3, d3'⟩ : ∃ u, w2.cell? ⟨g, k * 5 + 3, none⟩ = some u := ⟨_, (hO3.cellAt (k * 5 + 3) (by omega)).trans (List.getElem?_eq_getElem (show k * 5 + 3 < L.length by omega))⟩
      have q3 := hO3.frozenAt (k * 5 + 3)
      obtain ⟨u4, d4'⟩ : ∃ u, w2.cell? ⟨g, k * 5 + 4, none⟩ = some u := ⟨_, (hO3.cellAt (k * 5 + 4) (by omega)).trans (List.getElem?_eq_getElem (show k * 5 + 4 < L.length by omega))⟩
      have q4 := hO3.frozenAt (k * 5 + 4)
      have HO3 := Lib.hid hO3
      have HB2 := Lib.hid (more hB (Nat.le_refl _) hb)
      have HT2 := Lib.hid (fun i x hi hx => (HT.out i x hi hx).later hb)
      have HP2 := Lib.hid hp
      have HPL := Lib.hid hplo
      have HK2 := Lib.hid hkk
      clear hO3 hb hp hplo hkk e0 e1 e2 e3 e4 HT hq HS HCX
      go_wp2_with fail
      obtain ⟨s1, z1⟩ := HO3.out.stored (k * 5) (.int .i64 tag)
      obtain ⟨s2, z2⟩ := s1.stored (k * 5 + 1) (.int .i64 key)
      obtain ⟨s3, z3⟩ := s2.stored (k * 5 + 2) (.string text)
      obtain ⟨s4, z4⟩ := s3.stored (k * 5 + 3) (.slice B0 np f0)
      obtain ⟨s5, z5⟩ := s4.stored (k * 5 + 4) (.slice B1 nk f1)
      go_roundw
      case rel =>
        refine ⟨k + 1, _, fun i => if i = k then [.int .i64 tag, .int .i64 key, .string text, .slice B0 np f0, .slice B1 nk f1] else hdr i, by omega, by go_num, s5, Lib.hid (fun i hi j u hu => ?_), Lib.hid (fun i x hi hx => ?_), Lib.hid (fun i hi j hj => ?_), ((((HB2.out.setCell hg1 _).setCell hg1 _).setCell hg1 _).setCell hg1 _).setCell hg1 _⟩
        · by_cases hik : i = k
          · subst hik
            simp only [↓reduceIte] at hu
            have hj : j < 5 := (List.getElem?_eq_some_iff.1 hu).1
            refine ⟨hj, ?_⟩
            match j, hj with
            | 0, _ => simp at hu; subst hu; (repeat (rw [List.getElem?_set_ne (by omega)])); rw [show i * 5 + 0 = i * 5 from rfl, List.getElem?_set_self (by first | omega | (simp; omega))]
            | 1, _ => simp at hu; subst hu; (repeat (rw [List.getElem?_set_ne (by omega)])); rw [List.getElem?_set_self (by first | omega | (simp; omega))]
            | 2, _ => simp at hu; subst hu; (repeat (rw [List.getElem?_set_ne (by omega)])); rw [List.getElem?_set_self (by first | omega | (simp; omega))]
            | 3, _ => simp at hu; subst hu; (repeat (rw [List.getElem?_set_ne (by omega)])); rw [List.getElem?_set_self (by first | omega | (simp; omega))]
            | 4, _ => simp at hu; subst hu; rw [List.getElem?_set_self (by first | omega | (simp; omega))]
          · simp only [if_neg hik] at hu
            obtain ⟨hj, h⟩ := HH.out i (by omega) j u hu
            refine ⟨hj, ?_⟩
            rw [List.getElem?_set_ne (by omega), List.getElem?_set_ne (by omega), List.getElem?_set_ne (by omega), List.getElem?_set_ne (by omega), List.getElem?_set_ne (by omega)]
            exact h
        · have hsz : ∀ (W : World) (p : Addr) (u : Value), (W.setCell p u).heap.size = W.heap.size := fun W p u => by simp [World.setCell]
          by_cases hik : i = k
          · subst hik
            simp only [↓reduceIte]
            have e := HXK.out
            rw [hx] at e
            injection e with e
            subst e
            refine TrC.kept (w := w2) (by simp only [hsz]; exact Nat.le_refl _) (fun b hb _ => by rw [Below.heap_setCell _ _ _ b (by simp <;> omega), Below.heap_setCell _ _ _ b (by simp <;> omega), Below.heap_setCell _ _ _ b (by simp <;> omega), Below.heap_setCell _ _ _ b (by simp <;> omega), Below.heap_setCell _ _ _ b (by simp <;> omega)]) ?_
            have h := TrC.shut (lo := wr.heap.size) (t := .mk tag key text ps ks) (c0 := f0) (c1 := f1) HP2.out HPL.out HK2.out
            rw [← HNP.out, ← HNK.out]
            exact h.mono hg2
          · simp only [if_neg hik]
            refine TrC.kept (w := w2) (by simp only [hsz]; exact Nat.le_refl _) (fun b hb _ => by rw [Below.heap_setCell _ _ _ b (by simp <;> omega), Below.heap_setCell _ _ _ b (by simp <;> omega), Below.heap_setCell _ _ _ b (by simp <;> omega), Below.heap_setCell _ _ _ b (by simp <;> omega), Below.heap_setCell _ _ _ b (by simp <;> omega)]) ?_
            exact HT2.out i x (by omega) hx
        · rw [List.getElem?_set_ne (by omega), List.getElem?_set_ne (by omega), List.getElem?_set_ne (by omega), List.getElem?_set_ne (by omega), List.getElem?_set_ne (by omega)]
          exact HU.out i (by omega) j hj
      case measure => simp [intOf]; omega
    · obtain rfl : k = n := by omega
      clear hown
      go_wp2_with fail
      go_ret
      refine ⟨some ⟨g, 0, none⟩, c', rfl, ⟨hdr, fun h0 => ⟨g, 0, rfl, hg1, hg2, fun i hi j u hu => ?_⟩, fun i x hx => (HT.out i x (by rw [← HN.out]; exact (List.getElem?_eq_some_iff.1 hx).1) hx).mono (Nat.le_succ_of_le hg1)⟩, hB⟩
      obtain ⟨hj, h⟩ := HH.out i (by rw [← HN.out]; exact hi) j u hu
      have hi2 : i < k := by rw [← HN.out]; exact hi
      rw [show 0 + i * 5 + j = i * 5 + j by omega, HO2.out.cellAt (i * 5 + j) (by omega)]
      exact h
end Go.Proofs.YtagaaeolgecdmaaGreatDoor

namespace Go.Proofs.YtagaaeolgecdmaaGreatDoor
open Go.Joins Go.ChangeShapes Go.WideShapes Go.ChangeAt Go.RowKit Go.Deep
set_option linter.unusedVariables false
set_option linter.unusedSimpArgs false

/-- No row is longer than a million. -/
inductive MiT : Tr → Prop
  | mk {tag key : Int} {text : ByteArray} {ps : List Pr} {ks : List Tr} (h1 : ps.length ≤ 1000000) (h3 : ks.length ≤ 1000000) (h4 : ∀ x ∈ ks, MiT x) : MiT (.mk tag key text ps ks)
theorem MiT.open_ {t : Tr} (h : MiT t) : t.ps.length ≤ 1000000 ∧ t.ks.length ≤ 1000000 ∧ ∀ x ∈ t.ks, MiT x := by
  cases h with
  | mk h1 h3 h4 => exact ⟨h1, h3, h4⟩
theorem kids_le_size : ∀ ks : List Tr, ks.length ≤ sizeL ks
  | [] => by simp
  | x :: xs => by
    have := kids_le_size xs
    have := sizeT_pos x
    simp only [sizeL, List.length_cons]
    omega
theorem MiT.of_ok : ∀ t, treeOkB t = true → MiT t := Tr.by_kids fun t ih h => by
  have hs := (treeB_yes (show treeB shownB t = true from h)).2.2
  have hk := fun x hx => ih x hx (kid_valid h hx)
  have hn := node_ok h
  have hp : t.ps.length ≤ 1000000 := by
    rcases hn with ⟨h0, _⟩ | ⟨_, _, _, _, _, h5⟩
    · have h1 := h
      unfold treeOkB at h1
      rw [Bool.and_eq_true, vpT_eq, Bool.and_eq_true] at h1
      have h2 := h1.2.1
      rw [partB_text h0] at h2
      simp only [Bool.and_eq_true] at h2
      have := List.isEmpty_iff.1 h2.2.2.1
      rw [this]
      exact Nat.zero_le _
    · have := runP_len4 h5
      omega
  rw [sizeT_eq] at hs
  have hl := kids_le_size t.ks
  obtain ⟨tag, key, text, ps, ks⟩ := t
  exact .mk hp (by simp only [Tr.ks] at hs hl; omega) hk
set_option maxRecDepth 100000 in
set_option maxHeartbeats 2000000 in
theorem copyTree_any (t : Tr) : MiT t → CpT t := by
  induction t using Tr.by_kids with
  | h t ih =>
  intro hmi A0 A1 c0 c1 w hp hk
  obtain ⟨s1, s3, s4⟩ := hmi.open_
  have HIK := Lib.hid (fun w hw => copyAll_of A1 c1 t.ks.length t.ks (fun x hx => ih x hx (s4 x hx)) w hw rfl s3)
  have HIP := Lib.hid (fun w hw => cloneProps_any A0 c0 t.ps.length t.ps w hw rfl s1)
  have HP := Lib.hid (fun W (hb : Below w.heap.size w W) => hp.below hb)
  have HK := Lib.hid (fun W (hb : Below w.heap.size w W) => hk.below hb)
  have hT : ∀ e w', (∃ B0 f0 B1 f1, e = .returned (.agg #[.int .i64 t.tag, .int .i64 t.key, .string t.text, .slice B0 t.ps.length f0, .slice B1 t.ks.length f1]) ∧ PrL w' B0 t.ps ∧ (∀ b o, B0 = some ⟨b, o, none⟩ → w.heap.size ≤ b) ∧ TrL w' w.heap.size B1 t.ks ∧ Below w.heap.size w w') → CpX t w e w' := fun e w' h => h
  obtain ⟨Q, hQ⟩ : ∃ Q, CpX t w = Q := ⟨_, rfl⟩
  rw [hQ] at hT ⊢
  have HQ := Lib.hid hT
  clear hp hk ih s1 s3 s4 hmi hT hQ
  obtain ⟨tag, key, text, ps, ks⟩ := t
  dsimp only [Tr.tag, Tr.key, Tr.text, Tr.ps, Tr.ks] at *
  have hcs : ∀ n xs w e w', CpsX n xs w e w' → ∃ A' c', e = .returned (.slice A' n c') ∧ TrL w' w.heap.size A' xs ∧ Below w.heap.size w w' := fun _ _ _ _ _ h => h
  obtain ⟨np, hnp⟩ : ∃ q, ps.length = q := ⟨_, rfl⟩
  obtain ⟨nk, hnk⟩ : ∃ q, ks.length = q := ⟨_, rfl⟩
  rw [hnp] at HIP HQ ⊢
  rw [hnk] at HIK HQ ⊢
  clear hnp hnk
  have hb0 : Below w.heap.size w ((w.alloc (.cells #[.int .i64 tag, .int .i64 key, .string text, .slice A0 np c0, .slice A1 nk c1] 32)).alloc (.cells #[.int .i64 0, .int .i64 0, .string ⟨#[]⟩, .slice none 0 0, .slice none 0 0] 32)) := (Below.alloc (Below.refl w.heap.size w) (Nat.le_refl _) _).alloc (by simp) _
  have a0 : ((w.alloc (.cells #[.int .i64 tag, .int .i64 key, .string text, .slice A0 np c0, .slice A1 nk c1] 32)).alloc (.cells #[.int .i64 0, .int .i64 0, .string ⟨#[]⟩, .slice none 0 0, .slice none 0 0] 32)).cell? ⟨w.heap.size, 0, none⟩ = some (.int .i64 tag) := by go_simp
  have a1 : ((w.alloc (.cells #[.int .i64 tag, .int .i64 key, .string text, .slice A0 np c0, .slice A1 nk c1] 32)).alloc (.cells #[.int .i64 0, .int .i64 0, .string ⟨#[]⟩, .slice none 0 0, .slice none 0 0] 32)).cell? ⟨w.heap.size, 1, none⟩ = some (.int .i64 key) := by go_simp
  have a2 : ((w.alloc (.cells #[.int .i64 tag, .int .i64 key, .string text, .slice A0 np c0, .slice A1 nk c1] 32)).alloc (.cells #[.int .i64 0, .int .i64 0, .string ⟨#[]⟩, .slice none 0 0, .slice none 0 0] 32)).cell? ⟨w.heap.size, 2, none⟩ = some (.string text) := by go_simp
  have a3 : ((w.alloc (.cells #[.int .i64 tag, .int .i64 key, .string text, .slice A0 np c0, .slice A1 nk c1] 32)).alloc (.cells #[.int .i64 0, .int .i64 0, .string ⟨#[]⟩, .slice none 0 0, .slice none 0 0] 32)).cell? ⟨w.heap.size, 3, none⟩ = some (.slice A0 np c0) := by go_simp
  have a4 : ((w.alloc (.cells #[.int .i64 tag, .int .i64 key, .string text, .slice A0 np c0, .slice A1 nk c1] 32)).alloc (.cells #[.int .i64 0, .int .i64 0, .string ⟨#[]⟩, .slice none 0 0, .slice none 0 0] 32)).cell? ⟨w.heap.size, 4, none⟩ = some (.slice A1 nk c1) := by go_simp
  have z0 : ((w.alloc (.cells #[.int .i64 tag, .int .i64 key, .string text, .slice A0 np c0, .slice A1 nk c1] 32)).alloc (.cells #[.int .i64 0, .int .i64 0, .string ⟨#[]⟩, .slice none 0 0, .slice none 0 0] 32)).cell? ⟨w.heap.size + 1, 0, none⟩ = some (.int .i64 0) := by go_simp
  have z1 : ((w.alloc (.cells #[.int .i64 tag, .int .i64 key, .string text, .slice A0 np c0, .slice A1 nk c1] 32)).alloc (.cells #[.int .i64 0, .int .i64 0, .string ⟨#[]⟩, .slice none 0 0, .slice none 0 0] 32)).cell? ⟨w.heap.size + 1, 1, none⟩ = some (.int .i64 0) := by go_simp
  have z2 : ((w.alloc (.cells #[.int .i64 tag, .int .i64 key, .string text, .slice A0 np c0, .slice A1 nk c1] 32)).alloc (.cells #[.int .i64 0, .int .i64 0, .string ⟨#[]⟩, .slice none 0 0, .slice none 0 0] 32)).cell? ⟨w.heap.size + 1, 2, none⟩ = some (.string ⟨#[]⟩) := by go_simp
  have z3 : ((w.alloc (.cells #[.int .i64 tag, .int .i64 key, .string text, .slice A0 np c0, .slice A1 nk c1] 32)).alloc (.cells #[.int .i64 0, .int .i64 0, .string ⟨#[]⟩, .slice none 0 0, .slice none 0 0] 32)).cell? ⟨w.heap.size + 1, 3, none⟩ = some (.slice none 0 0) := by go_simp
  have z4 : ((w.alloc (.cells #[.int .i64 tag, .int .i64 key, .string text, .slice A0 np c0, .slice A1 nk c1] 32)).alloc (.cells #[.int .i64 0, .int .i64 0, .string ⟨#[]⟩, .slice none 0 0, .slice none 0 0] 32)).cell? ⟨w.heap.size + 1, 4, none⟩ = some (.slice none 0 0) := by go_simp
  have af : ∀ o, ((w.alloc (.cells #[.int .i64 tag, .int .i64 key, .string text, .slice A0 np c0, .slice A1 nk c1] 32)).alloc (.cells #[.int .i64 0, .int .i64 0, .string ⟨#[]⟩, .slice none 0 0, .slice none 0 0] 32)).frozen? ⟨w.heap.size, o, none⟩ = false := fun o => by go_simp
  have zf : ∀ o, ((w.alloc (.cells #[.int .i64 tag, .int .i64 key, .string text, .slice A0 np c0, .slice A1 nk c1] 32)).alloc (.cells #[.int .i64 0, .int .i64 0, .string ⟨#[]⟩, .slice none 0 0, .slice none 0 0] 32)).frozen? ⟨w.heap.size + 1, o, none⟩ = false := fun o => by go_simp
  have hlt : w.heap.size + 1 < ((w.alloc (.cells #[.int .i64 tag, .int .i64 key, .string text, .slice A0 np c0, .slice A1 nk c1] 32)).alloc (.cells #[.int .i64 0, .int .i64 0, .string ⟨#[]⟩, .slice none 0 0, .slice none 0 0] 32)).heap.size := by simp
  have HB0 := Lib.hid hb0
  obtain ⟨wb, hwb⟩ : ∃ v, ((w.alloc (.cells #[.int .i64 tag, .int .i64 key, .string text, .slice A0 np c0, .slice A1 nk c1] 32)).alloc (.cells #[.int .i64 0, .int .i64 0, .string ⟨#[]⟩, .slice none 0 0, .slice none 0 0] 32)) = v := ⟨_, rfl⟩
  rw [hwb] at a0 a1 a2 a3 a4 z0 z1 z2 z3 z4 af zf hlt HB0
  clear hb0
  go_enter Tryz.func56, Tryz.ntmps56
  go_wp2_with fail
  refine (HIP.out _ (HP.out _ HB0.out)).mono ?_
  rintro e w1 ⟨B0, f0, rfl, hb, hpp, hplo⟩
  replace a0 := (hb.cell (p := ⟨w.heap.size, 0, none⟩) (by first | omega | (simp; omega))).trans a0
  replace a1 := (hb.cell (p := ⟨w.heap.size, 1, none⟩) (by first | omega | (simp; omega))).trans a1
  replace a2 := (hb.cell (p := ⟨w.heap.size, 2, none⟩) (by first | omega | (simp; omega))).trans a2
  replace a3 := (hb.cell (p := ⟨w.heap.size, 3, none⟩) (by first | omega | (simp; omega))).trans a3
  replace a4 := (hb.cell (p := ⟨w.heap.size, 4, none⟩) (by first | omega | (simp; omega))).trans a4
  replace af := fun o => (hb.frozen (p := ⟨w.heap.size, o, none⟩) (by first | omega | (simp; omega))).trans (af o)
  replace z0 := (hb.cell (p := ⟨w.heap.size + 1, 0, none⟩) (by first | omega | (simp; omega))).trans z0
  replace z1 := (hb.cell (p := ⟨w.heap.size + 1, 1, none⟩) (by first | omega | (simp; omega))).trans z1
  replace z2 := (hb.cell (p := ⟨w.heap.size + 1, 2, none⟩) (by first | omega | (simp; omega))).trans z2
  replace z3 := (hb.cell (p := ⟨w.heap.size + 1, 3, none⟩) (by first | omega | (simp; omega))).trans z3
  replace z4 := (hb.cell (p := ⟨w.heap.size + 1, 4, none⟩) (by first | omega | (simp; omega))).trans z4
  replace zf := fun o => (hb.frozen (p := ⟨w.heap.size + 1, o, none⟩) (by first | omega | (simp; omega))).trans (zf o)
  have HB1 := Lib.hid (more HB0.out (Nat.le_refl _) hb)
  have HPP := Lib.hid hpp
  have HPL := Lib.hid (fun b o e => Nat.lt_of_lt_of_le hlt (hplo b o e))
  have hlt1 := Nat.lt_of_lt_of_le hlt hb.size
  clear hb hpp hplo hwb hlt HIP HP
  go_wp2_with fail
  have y0 : (w1.setCell ⟨w.heap.size, 3, none⟩ (.slice B0 np f0)).cell? ⟨w.heap.size, 0, none⟩ = some (.int .i64 tag) := by go_simp
  have y1 : (w1.setCell ⟨w.heap.size, 3, none⟩ (.slice B0 np f0)).cell? ⟨w.heap.size, 1, none⟩ = some (.int .i64 key) := by go_simp
  have y2 : (w1.setCell ⟨w.heap.size, 3, none⟩ (.slice B0 np f0)).cell? ⟨w.heap.size, 2, none⟩ = some (.string text) := by go_simp
  have y3 : (w1.setCell ⟨w.heap.size, 3, none⟩ (.slice B0 np f0)).cell? ⟨w.heap.size, 3, none⟩ = some (.slice B0 np f0) := by go_simp
  have y4 : (w1.setCell ⟨w.heap.size, 3, none⟩ (.slice B0 np f0)).cell? ⟨w.heap.size, 4, none⟩ = some (.slice A1 nk c1) := by go_simp
  replace z0 : (w1.setCell ⟨w.heap.size, 3, none⟩ (.slice B0 np f0)).cell? ⟨w.heap.size + 1, 0, none⟩ = some (.int .i64 0) := by go_simp
  replace z1 : (w1.setCell ⟨w.heap.size, 3, none⟩ (.slice B0 np f0)).cell? ⟨w.heap.size + 1, 1, none⟩ = some (.int .i64 0) := by go_simp
  replace z2 : (w1.setCell ⟨w.heap.size, 3, none⟩ (.slice B0 np f0)).cell? ⟨w.heap.size + 1, 2, none⟩ = some (.string ⟨#[]⟩) := by go_simp
  replace z3 : (w1.setCell ⟨w.heap.size, 3, none⟩ (.slice B0 np f0)).cell? ⟨w.heap.size + 1, 3, none⟩ = some (.slice none 0 0) := by go_simp
  replace z4 : (w1.setCell ⟨w.heap.size, 3, none⟩ (.slice B0 np f0)).cell? ⟨w.heap.size + 1, 4, none⟩ = some (.slice none 0 0) := by go_simp
  replace af : ∀ o, (w1.setCell ⟨w.heap.size, 3, none⟩ (.slice B0 np f0)).frozen? ⟨w.heap.size, o, none⟩ = false := fun o => by simp only [World.frozen?_setCell]; exact af o
  replace zf : ∀ o, (w1.setCell ⟨w.heap.size, 3, none⟩ (.slice B0 np f0)).frozen? ⟨w.heap.size + 1, o, none⟩ = false := fun o => by simp only [World.frozen?_setCell]; exact zf o
  have HB2 := Lib.hid (HB1.out.setCell (p := ⟨w.heap.size, 3, none⟩) (Nat.le_refl _) (.slice B0 np f0))
  have HPP2 := Lib.hid (PrL.kept (lo := w.heap.size + 1 + 1) (w' := (w1.setCell ⟨w.heap.size, 3, none⟩ (.slice B0 np f0))) (by simp [World.setCell]) (fun b hb _ => Below.heap_setCell _ _ _ b (by simp <;> omega)) HPP.out (fun b o e => HPL.out b o e))
  have hlt2 : w.heap.size + 1 < (w1.setCell ⟨w.heap.size, 3, none⟩ (.slice B0 np f0)).heap.size := by simp [World.setCell]; omega
  clear a0 a1 a2 a3 a4 HPP HB1
  have a0 := y0
  have a1 := y1
  have a2 := y2
  have a3 := y3
  have a4 := y4
  clear y0 y1 y2 y3 y4
  obtain ⟨ws, hws⟩ : ∃ ws, (w1.setCell ⟨w.heap.size, 3, none⟩ (.slice B0 np f0)) = ws := ⟨_, rfl⟩
  rw [hws] at a0 a1 a2 a3 a4 z0 z1 z2 z3 z4 af zf HB2 HPP2 hlt2 ⊢
  clear hws
  refine (HIK.out _ (HK.out _ HB2.out)).mono ?_
  intro e w2 hq
  obtain ⟨B1, f1, rfl, hkk, hb⟩ := hcs _ _ _ _ _ hq
  replace a0 := (hb.cell (p := ⟨w.heap.size, 0, none⟩) (by first | omega | (simp; omega))).trans a0
  replace a1 := (hb.cell (p := ⟨w.heap.size, 1, none⟩) (by first | omega | (simp; omega))).trans a1
  replace a2 := (hb.cell (p := ⟨w.heap.size, 2, none⟩) (by first | omega | (simp; omega))).trans a2
  replace a3 := (hb.cell (p := ⟨w.heap.size, 3, none⟩) (by first | omega | (simp; omega))).trans a3
  replace a4 := (hb.cell (p := ⟨w.heap.size, 4, none⟩) (by first | omega | (simp; omega))).trans a4
  replace af := fun o => (hb.frozen (p := ⟨w.heap.size, o, none⟩) (by first | omega | (simp; omega))).trans (af o)
  replace z0 := (hb.cell (p := ⟨w.heap.size + 1, 0, none⟩) (by first | omega | (simp; omega))).trans z0
  replace z1 := (hb.cell (p := ⟨w.heap.size + 1, 1, none⟩) (by first | omega | (simp; omega))).trans z1
  replace z2 := (hb.cell (p := ⟨w.heap.size + 1, 2, none⟩) (by first | omega | (simp; omega))).trans z2
  replace z3 := (hb.cell (p := ⟨w.heap.size + 1, 3, none⟩) (by first | omega | (simp; omega))).trans z3
  replace z4 := (hb.cell (p := ⟨w.heap.size + 1, 4, none⟩) (by first | omega | (simp; omega))).trans z4
  replace zf := fun o => (hb.frozen (p := ⟨w.heap.size + 1, o, none⟩) (by first | omega | (simp; omega))).trans (zf o)
  have HB3 := Lib.hid (more HB2.out (Nat.le_refl _) hb)
  have HPP3 := Lib.hid (HPP2.out.below hb)
  have HKK := Lib.hid hkk
  have hlt3 := Nat.lt_of_lt_of_le hlt2 hb.size
  clear hkk hb HB2 HPP2 hq HIK HK
  go_wp2_with fail
  refine bodyPost_ret (v := .agg #[.int .i64 tag, .int .i64 key, .string text, .slice B0 np f0, .slice B1 nk f1]) (by simp [results, Tryz.results56, go_sem, a0, a1, a2, a3, a4, z0, z1, z2, z3, z4, af, zf]) rfl (HQ.out _ _ ⟨B0, f0, B1, f1, rfl, ?_, fun b o e => Nat.le_of_lt (Nat.lt_trans (Nat.lt_succ_self _) (HPL.out b o e)), ?_, ?_⟩)
  · refine PrL.kept (w := w2) (lo := w.heap.size + 1 + 1) (by simp [World.setCell]) (fun b hb _ => ?_) HPP3.out (fun b o e => HPL.out b o e)
    rw [Below.heap_setCell _ _ _ b (by first | omega | (simp; omega) | (simp <;> omega)), Below.heap_setCell _ _ _ b (by first | omega | (simp; omega) | (simp <;> omega)), Below.heap_setCell _ _ _ b (by first | omega | (simp; omega) | (simp <;> omega)), Below.heap_setCell _ _ _ b (by first | omega | (simp; omega) | (simp <;> omega)), Below.heap_setCell _ _ _ b (by first | omega | (simp; omega) | (simp <;> omega)), Below.heap_setCell _ _ _ b (by first | omega | (simp; omega) | (simp <;> omega))]
  · refine TrL.mono (lo := ws.heap.size) (by omega) (TrL.kept (w := w2) (by simp [World.setCell]) (fun b hb _ => ?_) HKK.out)
    rw [Below.heap_setCell _ _ _ b (by first | omega | (simp; omega) | (simp <;> omega)), Below.heap_setCell _ _ _ b (by first | omega | (simp; omega) | (simp <;> omega)), Below.heap_setCell _ _ _ b (by first | omega | (simp; omega) | (simp <;> omega)), Below.heap_setCell _ _ _ b (by first | omega | (simp; omega) | (simp <;> omega)), Below.heap_setCell _ _ _ b (by first | omega | (simp; omega) | (simp <;> omega)), Below.heap_setCell _ _ _ b (by first | omega | (simp; omega) | (simp <;> omega))]
  · exact ((((((HB3.out.setCell (by first | omega | (simp <;> omega)) _).setCell (by first | omega | (simp <;> omega)) _).setCell (by first | omega | (simp <;> omega)) _).setCell (by first | omega | (simp <;> omega)) _).setCell (by first | omega | (simp <;> omega)) _).setCell (by first | omega | (simp <;> omega)) _)
end Go.Proofs.YtagaaeolgecdmaaGreatDoor

namespace Go.Proofs.YtagaaeolgecdmaaGreatDoor
open Go.Joins Go.ChangeShapes Go.WideShapes Go.ChangeAt Go.RowKit Go.Deep
set_option linter.unusedVariables false
set_option linter.unusedSimpArgs false

/-- Whether a part is at the way. -/
def isAt (zs : List Int) (y : List Nat × Tr) : Bool := decide (natI y.1 = zs)
def noP (zs : List Int) (l : List (List Nat × Tr)) : Int := (l.findIdx? (isAt zs)).elim (-1) (fun i => (i : Int))
theorem noP_none {zs : List Int} {l : List (List Nat × Tr)} (h : ∀ y ∈ l, isAt zs y = false) : noP zs l = -1 := by
  unfold noP
  rw [List.findIdx?_eq_none_iff.2 h]
  rfl
theorem noP_some {zs : List Int} {a b : List (List Nat × Tr)} {y : List Nat × Tr} (h : ∀ y ∈ a, isAt zs y = false) (hy : isAt zs y = true) : noP zs (a ++ y :: b) = a.length := by
  unfold noP
  rw [List.findIdx?_append, List.findIdx?_eq_none_iff.2 h, List.findIdx?_cons, if_pos hy]
  simp
/-- The part at a way, by the document. -/
def atT : Tr → List Int → Option Tr
  | t, [] => some t
  | t, z :: zs => if 0 ≤ z ∧ z ≤ (t.ks.length : Int) - 1 then (t.ks[z.toNat]?).bind (fun x => atT x zs) else none
/-- Its number, by the document. -/
def numT : Tr → List Int → Nat
  | _, [] => 0
  | t, z :: zs => 1 + sizeL (t.ks.take z.toNat) + (t.ks[z.toNat]?).elim 0 (fun x => numT x zs)
theorem way_pre : ∀ (t : Tr) (way : List Nat), ∀ y ∈ partsT way t, way <+: y.1 := Tr.by_kids fun t ih way y hy => by
  have hl : ∀ (ks : List Tr) (i : Nat), (∀ x ∈ ks, ∀ way, ∀ y ∈ partsT way x, way <+: y.1) → ∀ y ∈ partsL way i ks, ∃ j, i ≤ j ∧ (way ++ [j]) <+: y.1 := by
    intro ks
    induction ks with
    | nil => intro i _ y hy; simp only [partsL] at hy; cases hy
    | cons x xs ihx =>
      intro i h y hy
      simp only [partsL] at hy
      rcases List.mem_append.1 hy with hy | hy
      · exact ⟨i, Nat.le_refl _, h x (by simp) _ y hy⟩
      · obtain ⟨j, hj, hp⟩ := ihx (i + 1) (fun z hz => h z (List.mem_cons_of_mem _ hz)) y hy
        exact ⟨j, by omega, hp⟩
  rw [partsT_eq] at hy
  rcases List.mem_cons.1 hy with rfl | hy
  · exact List.prefix_refl _
  · obtain ⟨j, _, hp⟩ := hl t.ks 0 ih y hy
    exact (List.prefix_append way [j]).trans hp
theorem natI_append (a b : List Nat) : natI (a ++ b) = natI a ++ natI b := by simp [natI]
/-- Parts of another Kid are not at the way. -/
theorem isAt_other {way : List Nat} {i : Nat} {z : Int} {zs : List Int} (h : z ≠ i) {x : Tr} : ∀ y ∈ partsT (way ++ [i]) x, isAt (natI way ++ z :: zs) y = false := fun y hy => by
  obtain ⟨q, hq⟩ := way_pre x _ y hy
  unfold isAt
  rw [decide_eq_false_iff_not, ← hq, natI_append, natI_append, List.append_assoc]
  intro e
  have := List.append_cancel_left e
  simp [natI] at this
  exact h this.1.symm
theorem idx_T : ∀ (zs : List Int) (t : Tr) (way : List Nat), (partsT way t).findIdx? (isAt (natI way ++ zs)) = (atT t zs).map (fun _ => numT t zs)
  | [], t, way => by
    rw [partsT_eq, List.findIdx?_cons, if_pos (by unfold isAt; simp), atT, Option.map_some, numT]
  | z :: zs, t, way => by
    have IH := idx_T zs
    have hl : ∀ (ks : List Tr) (i : Nat), (partsL way i ks).findIdx? (isAt (natI way ++ z :: zs)) = if i ≤ z ∧ z ≤ (i : Int) + ks.length - 1 then (ks[(z - i).toNat]?).bind (fun x => (atT x zs).map (fun _ => sizeL (ks.take (z - i).toNat) + numT x zs)) else none := by
      intro ks
      induction ks with
      | nil =>
        intro i
        rw [partsL_nil, if_neg (by simp only [List.length_nil]; omega)]
        rfl
      | cons x xs ih =>
        intro i
        have e : partsL way i (x :: xs) = partsT (way ++ [i]) x ++ partsL way (i + 1) xs := by simp only [partsL]
        rw [e, List.findIdx?_append]
        by_cases hz : z = i
        · subst hz
          rw [if_pos ⟨by omega, by simp only [List.length_cons]; omega⟩]
          have h1 := IH x (way ++ [i])
          rw [natI_append, List.append_assoc, show natI [i] ++ zs = (i : Int) :: zs from rfl] at h1
          rw [h1, show ((i : Int) - i).toNat = 0 by omega]
          simp only [List.getElem?_cons_zero, Option.bind_some, List.take_zero, sizeL, Nat.zero_add]
          cases atT x zs with
          | none =>
            simp only [Option.map_none, Option.none_or]
            rw [ih (i + 1), if_neg (by omega)]
            rfl
          | some u => simp
        · rw [List.findIdx?_eq_none_iff.2 (isAt_other hz), Option.none_or, ih (i + 1), partsT_length]
          by_cases hc : ((i + 1 : Nat) : Int) ≤ z ∧ z ≤ ((i + 1 : Nat) : Int) + xs.length - 1
          · rw [if_pos hc, if_pos ⟨by omega, by simp only [List.length_cons]; omega⟩, show (z - i).toNat = (z - (i + 1 : Nat)).toNat + 1 by omega, List.getElem?_cons_succ, List.take_succ_cons]
            cases xs[(z - ((i + 1 : Nat) : Int)).toNat]? with
            | none => rfl
            | some y =>
              simp only [Option.bind_some, Option.map_map, sizeL]
              cases atT y zs with
              | none => rfl
              | some u => simp only [Option.map_some, Function.comp]; congr 1; omega
          · rw [if_neg hc, if_neg (by simp only [List.length_cons]; omega)]
            rfl
    rw [partsT_eq, List.findIdx?_cons, if_neg (by unfold isAt; simp), hl t.ks 0, atT]
    by_cases hc : 0 ≤ z ∧ z ≤ (t.ks.length : Int) - 1
    · rw [if_pos hc, if_pos ⟨by omega, by omega⟩, show (z - ((0 : Nat) : Int)).toNat = z.toNat by omega, numT]
      cases t.ks[z.toNat]? with
      | none => rfl
      | some y =>
        simp only [Option.bind_some, Option.elim_some]
        cases atT y zs with
        | none => rfl
        | some u => simp only [Option.map_some]; congr 1; omega
    · rw [if_neg hc, if_neg (by omega)]
      rfl
/-- The number by the parts in order is the document's own. -/
theorem noP_is (t : Tr) (zs : List Int) : noP zs (partsT [] t) = (atT t zs).elim (-1) (fun _ => (numT t zs : Int)) := by
  unfold noP
  have h := idx_T zs t []
  rw [show natI [] ++ zs = zs from rfl] at h
  rw [h]
  cases atT t zs <;> rfl
end Go.Proofs.YtagaaeolgecdmaaGreatDoor

namespace Go.Proofs.YtagaaeolgecdmaaGreatDoor
open Go.Joins Go.ChangeShapes Go.WideShapes Go.ChangeAt Go.RowKit Go.Deep
set_option linter.unusedVariables false
set_option linter.unusedSimpArgs false

theorem wrapI {z : Int} (h0 : -9223372036854775808 ≤ z) (h1 : z ≤ 9223372036854775807) : IntKind.i64.wrap z = z := by
  unfold IntKind.wrap; simp [IntKind.bits, IntKind.signed]; omega
theorem atT_step {x : Tr} {zs : List Int} {k : Nat} {z : Int} (hz : zs[k]? = some z) : atT x (zs.drop k) = if 0 ≤ z ∧ z ≤ (x.ks.length : Int) - 1 then (x.ks[z.toNat]?).bind (fun y => atT y (zs.drop (k + 1))) else none := by
  obtain ⟨hk, he⟩ := List.getElem?_eq_some_iff.1 hz
  rw [List.drop_eq_getElem_cons hk, he, atT]
/-- What partAt answers: the part, lying where it lay; or none. -/
def PAtX (t : Tr) (zs : List Int) (w : World) (e : Ending) (w' : World) : Prop :=
  Below w.heap.size w w' ∧ ((atT t zs = none ∧ e = .returned (.tuple #[.agg #[.int .i64 0, .int .i64 0, .string ⟨#[]⟩, .slice none 0 0, .slice none 0 0], .bool false])) ∨ ∃ (x : Tr) (A0 A1 : Option Addr) (c0 c1 : Nat), atT t zs = some x ∧ SmT x ∧ PrL w A0 x.ps ∧ TrL w 0 A1 x.ks ∧ e = .returned (.tuple #[.agg #[.int .i64 x.tag, .int .i64 x.key, .string x.text, .slice A0 x.ps.length c0, .slice A1 x.ks.length c1], .bool true]))
end Go.Proofs.YtagaaeolgecdmaaGreatDoor

namespace Go.Proofs.YtagaaeolgecdmaaGreatDoor
open Go.Joins Go.ChangeShapes Go.WideShapes Go.ChangeAt Go.RowKit Go.Deep
set_option linter.unusedVariables false
set_option linter.unusedSimpArgs false

def atV (t : Tr) (zs : List Int) : Option Tr := if treeOkB t = true then atT t zs else none
/-- What TreeAt answers: a copy of the part; or none. -/
def TaX (t : Tr) (zs : List Int) (w : World) (e : Ending) (w' : World) : Prop :=
  Below w.heap.size w w' ∧ ((atV t zs = none ∧ e = .returned (.tuple #[.agg #[.int .i64 0, .int .i64 0, .string ⟨#[]⟩, .slice none 0 0, .slice none 0 0], .bool false])) ∨ ∃ (x : Tr) (B0 B1 : Option Addr) (f0 f1 : Nat), atV t zs = some x ∧ e = .returned (.tuple #[.agg #[.int .i64 x.tag, .int .i64 x.key, .string x.text, .slice B0 x.ps.length f0, .slice B1 x.ks.length f1], .bool true]) ∧ PrL w' B0 x.ps ∧ (∀ b o, B0 = some ⟨b, o, none⟩ → w.heap.size ≤ b) ∧ TrL w' w.heap.size B1 x.ks)
set_option maxRecDepth 100000 in
set_option maxHeartbeats 2000000 in
theorem iTreeAt_any (V : World → Prop) (hV : ShOk V) (t : Tr) (hsm : SmT t) (hkw : KwT t) (zs : List Int) (hzl : zs.length ≤ maxLen) : ∀ (A A0 A1 : Option Addr) (c c0 c1 : Nat) (w : World), V w → PrL w A0 t.ps → TrL w 0 A1 t.ks → IntL w A zs →
    Calls Tryz.prog 23 #[.agg #[.int .i64 t.tag, .int .i64 t.key, .string t.text, .slice A0 t.ps.length c0, .slice A1 t.ks.length c1], .slice A zs.length c] w (TaX t zs w) := by
  intro A A0 A1 c c0 c1 w hv hp hk hz
  have k1 := fun w hv hp hk => iTreeOk_any V hV t hsm hkw A0 A1 c0 c1 w hv hp hk
  unfold maxLen at hzl
  have HTX := Lib.hid (show ∀ e w', Below w.heap.size w w' ∧ ((atV t zs = none ∧ e = .returned (.tuple #[.agg #[.int .i64 0, .int .i64 0, .string ⟨#[]⟩, .slice none 0 0, .slice none 0 0], .bool false])) ∨ ∃ (x : Tr) (B0 B1 : Option Addr) (f0 f1 : Nat), atV t zs = some x ∧ e = .returned (.tuple #[.agg #[.int .i64 x.tag, .int .i64 x.key, .string x.text, .slice B0 x.ps.length f0, .slice B1 x.ks.length f1], .bool true]) ∧ PrL w' B0 x.ps ∧ (∀ b o, B0 = some ⟨b, o, none⟩ → w.heap.size ≤ b) ∧ TrL w' w.heap.size B1 x.ks) → TaX t zs w e w' from fun e w' h => h)
  obtain ⟨Q, hQ⟩ : ∃ Q, TaX t zs w = Q := ⟨_, rfl⟩
  rw [hQ] at HTX ⊢
  clear hQ
  obtain ⟨n, hn⟩ : ∃ n, zs.length = n := ⟨_, rfl⟩
  have HN := Lib.hid hn
  rw [hn] at hzl ⊢
  have hb0 : Below w.heap.size w ((w.alloc (.cells #[.int .i64 t.tag, .int .i64 t.key, .string t.text, .slice A0 t.ps.length c0, .slice A1 t.ks.length c1] 32)).alloc (.cells #[.int .i64 0, .int .i64 0, .string ⟨#[]⟩, .slice none 0 0, .slice none 0 0] 32)) := (Below.alloc (Below.refl w.heap.size w) (Nat.le_refl _) _).alloc (by simp) _
  have d0 : ((w.alloc (.cells #[.int .i64 t.tag, .int .i64 t.key, .string t.text, .slice A0 t.ps.length c0, .slice A1 t.ks.length c1] 32)).alloc (.cells #[.int .i64 0, .int .i64 0, .string ⟨#[]⟩, .slice none 0 0, .slice none 0 0] 32)).cell? ⟨w.heap.size, 0, none⟩ = some (.int .i64 t.tag) := by go_simp
  have d1 : ((w.alloc (.cells #[.int .i64 t.tag, .int .i64 t.key, .string t.text, .slice A0 t.ps.length c0, .slice A1 t.ks.length c1] 32)).alloc (.cells #[.int .i64 0, .int .i64 0, .string ⟨#[]⟩, .slice none 0 0, .slice none 0 0] 32)).cell? ⟨w.heap.size, 1, none⟩ = some (.int .i64 t.key) := by go_simp
  have d2 : ((w.alloc (.cells #[.int .i64 t.tag, .int .i64 t.key, .string t.text, .slice A0 t.ps.length c0, .slice A1 t.ks.length c1] 32)).alloc (.cells #[.int .i64 0, .int .i64 0, .string ⟨#[]⟩, .slice none 0 0, .slice none 0 0] 32)).cell? ⟨w.heap.size, 2, none⟩ = some (.string t.text) := by go_simp
  have d3 : ((w.alloc (.cells #[.int .i64 t.tag, .int .i64 t.key, .string t.text, .slice A0 t.ps.length c0, .slice A1 t.ks.length c1] 32)).alloc (.cells #[.int .i64 0, .int .i64 0, .string ⟨#[]⟩, .slice none 0 0, .slice none 0 0] 32)).cell? ⟨w.heap.size, 3, none⟩ = some (.slice A0 t.ps.length c0) := by go_simp
  have d4 : ((w.alloc (.cells #[.int .i64 t.tag, .int .i64 t.key, .string t.text, .slice A0 t.ps.length c0, .slice A1 t.ks.length c1] 32)).alloc (.cells #[.int .i64 0, .int .i64 0, .string ⟨#[]⟩, .slice none 0 0, .slice none 0 0] 32)).cell? ⟨w.heap.size, 4, none⟩ = some (.slice A1 t.ks.length c1) := by go_simp
  have z0 : ((w.alloc (.cells #[.int .i64 t.tag, .int .i64 t.key, .string t.text, .slice A0 t.ps.length c0, .slice A1 t.ks.length c1] 32)).alloc (.cells #[.int .i64 0, .int .i64 0, .string ⟨#[]⟩, .slice none 0 0, .slice none 0 0] 32)).cell? ⟨w.heap.size + 1, 0, none⟩ = some (.int .i64 0) := by go_simp
  have z1 : ((w.alloc (.cells #[.int .i64 t.tag, .int .i64 t.key, .string t.text, .slice A0 t.ps.length c0, .slice A1 t.ks.length c1] 32)).alloc (.cells #[.int .i64 0, .int .i64 0, .string ⟨#[]⟩, .slice none 0 0, .slice none 0 0] 32)).cell? ⟨w.heap.size + 1, 1, none⟩ = some (.int .i64 0) := by go_simp
  have z2 : ((w.alloc (.cells #[.int .i64 t.tag, .int .i64 t.key, .string t.text, .slice A0 t.ps.length c0, .slice A1 t.ks.length c1] 32)).alloc (.cells #[.int .i64 0, .int .i64 0, .string ⟨#[]⟩, .slice none 0 0, .slice none 0 0] 32)).cell? ⟨w.heap.size + 1, 2, none⟩ = some (.string ⟨#[]⟩) := by go_simp
  have z3 : ((w.alloc (.cells #[.int .i64 t.tag, .int .i64 t.key, .string t.text, .slice A0 t.ps.length c0, .slice A1 t.ks.length c1] 32)).alloc (.cells #[.int .i64 0, .int .i64 0, .string ⟨#[]⟩, .slice none 0 0, .slice none 0 0] 32)).cell? ⟨w.heap.size + 1, 3, none⟩ = some (.slice none 0 0) := by go_simp
  have z4 : ((w.alloc (.cells #[.int .i64 t.tag, .int .i64 t.key, .string t.text, .slice A0 t.ps.length c0, .slice A1 t.ks.length c1] 32)).alloc (.cells #[.int .i64 0, .int .i64 0, .string ⟨#[]⟩, .slice none 0 0, .slice none 0 0] 32)).cell? ⟨w.heap.size + 1, 4, none⟩ = some (.slice none 0 0) := by go_simp
  have f2 : ∀ o, ((w.alloc (.cells #[.int .i64 t.tag, .int .i64 t.key, .string t.text, .slice A0 t.ps.length c0, .slice A1 t.ks.length c1] 32)).alloc (.cells #[.int .i64 0, .int .i64 0, .string ⟨#[]⟩, .slice none 0 0, .slice none 0 0] 32)).frozen? ⟨w.heap.size, o, none⟩ = false := fun o => by go_simp
  have f4 : ∀ o, ((w.alloc (.cells #[.int .i64 t.tag, .int .i64 t.key, .string t.text, .slice A0 t.ps.length c0, .slice A1 t.ks.length c1] 32)).alloc (.cells #[.int .i64 0, .int .i64 0, .string ⟨#[]⟩, .slice none 0 0, .slice none 0 0] 32)).frozen? ⟨w.heap.size + 1, o, none⟩ = false := fun o => by go_simp
  have hsz : w.heap.size + 1 < ((w.alloc (.cells #[.int .i64 t.tag, .int .i64 t.key, .string t.text, .slice A0 t.ps.length c0, .slice A1 t.ks.length c1] 32)).alloc (.cells #[.int .i64 0, .int .i64 0, .string ⟨#[]⟩, .slice none 0 0, .slice none 0 0] 32)).heap.size := by simp
  have HB0 := Lib.hid hb0
  have K1 := Lib.hid (k1 _ (hV.stays _ _ hv hb0) (hp.below hb0) (hk.below hb0))
  have HZ := Lib.hid hz
  have HP := Lib.hid hp
  have HK := Lib.hid hk
  have HS := Lib.hid hsm
  have HAV := Lib.hid (show ∀ v, treeOkB t = v → atV t zs = if v = true then atT t zs else none from fun v hv => by unfold atV; rw [hv])
  obtain ⟨wb, hwb⟩ : ∃ v, ((w.alloc (.cells #[.int .i64 t.tag, .int .i64 t.key, .string t.text, .slice A0 t.ps.length c0, .slice A1 t.ks.length c1] 32)).alloc (.cells #[.int .i64 0, .int .i64 0, .string ⟨#[]⟩, .slice none 0 0, .slice none 0 0] 32)) = v := ⟨_, rfl⟩
  rw [hwb] at d0 d1 d2 d3 d4 z0 z1 z2 z3 z4 f2 f4 hsz HB0 K1
  obtain ⟨ok, hok⟩ : ∃ v, treeOkB t = v := ⟨_, rfl⟩
  have HOK := Lib.hid hok
  rw [hok] at K1
  clear hb0 hz hp hk hsm hv hn hok k1
  go_enter Tryz.func23, Tryz.ntmps23
  go_wp2_with fail
  refine K1.out.mono ?_
  rintro e w1 ⟨rfl, hb⟩
  replace d0 := (hb.cell (p := ⟨w.heap.size, 0, none⟩) (by first | omega | (simp; omega))).trans d0
  replace z0 := (hb.cell (p := ⟨w.heap.size + 1, 0, none⟩) (by first | omega | (simp; omega))).trans z0
  replace d1 := (hb.cell (p := ⟨w.heap.size, 1, none⟩) (by first | omega | (simp; omega))).trans d1
  replace z1 := (hb.cell (p := ⟨w.heap.size + 1, 1, none⟩) (by first | omega | (simp; omega))).trans z1
  replace d2 := (hb.cell (p := ⟨w.heap.size, 2, none⟩) (by first | omega | (simp; omega))).trans d2
  replace z2 := (hb.cell (p := ⟨w.heap.size + 1, 2, none⟩) (by first | omega | (simp; omega))).trans z2
  replace d3 := (hb.cell (p := ⟨w.heap.size, 3, none⟩) (by first | omega | (simp; omega))).trans d3
  replace z3 := (hb.cell (p := ⟨w.heap.size + 1, 3, none⟩) (by first | omega | (simp; omega))).trans z3
  replace d4 := (hb.cell (p := ⟨w.heap.size, 4, none⟩) (by first | omega | (simp; omega))).trans d4
  replace z4 := (hb.cell (p := ⟨w.heap.size + 1, 4, none⟩) (by first | omega | (simp; omega))).trans z4
  replace f2 := fun o => (hb.frozen (p := ⟨w.heap.size, o, none⟩) (by first | omega | (simp; omega))).trans (f2 o)
  replace f4 := fun o => (hb.frozen (p := ⟨w.heap.size + 1, o, none⟩) (by first | omega | (simp; omega))).trans (f4 o)
  have HB1 := Lib.hid (more HB0.out (Nat.le_refl _) hb)
  replace hsz := Nat.lt_of_lt_of_le hsz hb.size
  clear hb hwb K1 HB0
  cases ok
  · have HE := Lib.hid ((HAV.out _ HOK.out).trans (if_neg (by decide)))
    clear HAV
    go_wp2_with fail
    refine bodyPost_ret (v := .tuple #[.agg #[.int .i64 0, .int .i64 0, .string ⟨#[]⟩, .slice none 0 0, .slice none 0 0], .bool false]) (by simp [results, Tryz.results23, go_sem, d0, d1, d2, d3, d4, z0, z1, z2, z3, z4, f2, f4]) rfl (HTX.out _ _ ⟨?_, .inl ⟨HE.out, rfl⟩⟩)
    exact ((((HB1.out.setCell (p := ⟨w.heap.size + 1, 0, none⟩) (by simp) _).setCell (p := ⟨w.heap.size + 1, 1, none⟩) (by simp) _).setCell (p := ⟨w.heap.size + 1, 2, none⟩) (by simp) _).setCell (p := ⟨w.heap.size + 1, 3, none⟩) (by simp) _).setCell (p := ⟨w.heap.size + 1, 4, none⟩) (by simp) _
  have HAT := Lib.hid ((HAV.out _ HOK.out).trans (if_pos rfl))
  clear HAV
  go_wp2_with fail
  go_loopw [14] (fun i wr => ∃ (k : Nat) (x : Tr) (A0 A1 : Option Addr) (c0 c1 : Nat), k ≤ n ∧ i = .int .i64 k ∧ Hid (atT x (zs.drop k) = atT t zs) ∧ Hid (SmT x) ∧ Hid (treeOkB x = true) ∧ Hid (PrL w A0 x.ps) ∧ Hid (TrL w 0 A1 x.ks) ∧ wr.cell? ⟨w.heap.size, 0, none⟩ = some (.int .i64 x.tag) ∧ wr.cell? ⟨w.heap.size, 1, none⟩ = some (.int .i64 x.key) ∧ wr.cell? ⟨w.heap.size, 2, none⟩ = some (.string x.text) ∧ wr.cell? ⟨w.heap.size, 3, none⟩ = some (.slice A0 x.ps.length c0) ∧ wr.cell? ⟨w.heap.size, 4, none⟩ = some (.slice A1 x.ks.length c1) ∧ wr.cell? ⟨w.heap.size + 1, 0, none⟩ = some (.int .i64 0) ∧ wr.cell? ⟨w.heap.size + 1, 1, none⟩ = some (.int .i64 0) ∧ wr.cell? ⟨w.heap.size + 1, 2, none⟩ = some (.string ⟨#[]⟩) ∧ wr.cell? ⟨w.heap.size + 1, 3, none⟩ = some (.slice none 0 0) ∧ wr.cell? ⟨w.heap.size + 1, 4, none⟩ = some (.slice none 0 0) ∧ (∀ o, wr.frozen? ⟨w.heap.size, o, none⟩ = false) ∧ (∀ o, wr.frozen? ⟨w.heap.size + 1, o, none⟩ = false) ∧ w.heap.size + 1 < wr.heap.size ∧ Hid (Below w.heap.size w wr)) (fun i _ => n - (intOf i).toNat)
  case atStart => exact ⟨0, t, A0, A1, c0, c1, by omega, rfl, Lib.hid rfl, HS, HOK, HP, HK, d0, d1, d2, d3, d4, z0, z1, z2, z3, z4, f2, f4, hsz, HB1⟩
  case round =>
    clear d0 d1 d2 d3 d4 z0 z1 z2 z3 z4 f2 f4 hsz HB1 HS HOK HP HK
    obtain ⟨k, x, A0, A1, c0, c1, hk, rfl, HE, HS, HOK, HP, HK, d0, d1, d2, d3, d4, z0, z1, z2, z3, z4, f2, f4, hsz, HB⟩ := hrel
    by_cases hlt : k < n
    · obtain ⟨z, hz⟩ := at_some (show k < zs.length by rw [HN.out]; exact hlt)
      obtain ⟨bz, oz, rfl, hbz, ez⟩ := HZ.out.at_ hz
      replace ez := (HB.out.cell (p := ⟨bz, _, none⟩) hbz).trans ez
      have hE := HE.out
      rw [atT_step hz] at hE
      obtain ⟨s0, s1, s2, s3, s4⟩ := HS.out.open_
      have hi1 : (0 : Int) ≤ (k : Int) := by omega
      have hi2 : (k : Int) < (n : Int) := by omega
      have HSK := Lib.hid s4
      unfold maxLen at s3
      clear hz HE s0 s1 s2 s4
      by_cases hr : 0 ≤ z ∧ z ≤ (x.ks.length : Int) - 1
      · obtain ⟨j, rfl⟩ : ∃ j : Nat, z = (j : Int) := ⟨z.toNat, by omega⟩
        rw [if_pos hr, show ((j : Int)).toNat = j by omega] at hE
        obtain ⟨y, hy⟩ := at_some (show j < x.ks.length by omega)
        rw [hy, Option.bind_some] at hE
        obtain ⟨b, off, E0, g0, E1, g1, rfl, hblt, _, e0, e1, e2, e3, e4, hp, _, hks⟩ := HK.out.at_ hy
        replace e0 := (HB.out.cell (p := ⟨b, _, none⟩) hblt).trans e0
        replace e1 := (HB.out.cell (p := ⟨b, _, none⟩) hblt).trans e1
        replace e2 := (HB.out.cell (p := ⟨b, _, none⟩) hblt).trans e2
        replace e3 := (HB.out.cell (p := ⟨b, _, none⟩) hblt).trans e3
        replace e4 := (HB.out.cell (p := ⟨b, _, none⟩) hblt).trans e4
        have HSY := Lib.hid (HSK.out y (List.mem_of_getElem? hy))
        have HOY := Lib.hid (kid_valid HOK.out (List.mem_of_getElem? hy))
        have HPY := Lib.hid hp
        have HKY := Lib.hid hks
        have HEY := Lib.hid hE
        have hj1 : (0 : Int) ≤ (j : Int) := by omega
        have hj2 : (j : Int) < (x.ks.length : Int) := by omega
        have hj3 : (j : Int) ≤ (x.ks.length : Int) - 1 := by omega
        have hne : b ≠ w.heap.size := by omega
        have hne2 : bz ≠ w.heap.size := by omega
        obtain ⟨ln, hln⟩ : ∃ ln, x.ks.length = ln := ⟨_, rfl⟩
        rw [hln] at hj2 hj3 s3 d4
        have U1 := Lib.hid (fun w => (show Calls Tryz.prog 55 #[.int .i64 (j : Int), .int .i64 ((ln : Int) - 1)] w fun e w' => e = .returned (.bool true) ∧ w = w' by have := upTo_any (j : Int) ((ln : Int) - 1) w; rwa [decide_eq_true (show 0 ≤ (j : Int) ∧ (j : Int) ≤ (ln : Int) - 1 by omega)] at this))
        clear hp hks hE hr hy hln HSK HS HP HK HOK
        obtain ⟨yt, yk, ys, yp, yq⟩ := y
        dsimp only [Tr.tag, Tr.key, Tr.text, Tr.ps, Tr.ks] at e0 e1 e2 e3 e4
        go_wp2_with fail
        refine (U1.out _).mono ?_
        rintro e w' ⟨rfl, rfl⟩
        go_wp2_with fail
        go_roundw
        case rel =>
          refine ⟨k + 1, .mk yt yk ys yp yq, E0, E1, g0, g1, by omega, by go_num, HEY, HSY, HOY, HPY, HKY, ?_, ?_, ?_, ?_, ?_, ?_, ?_, ?_, ?_, ?_, fun o => ?_, fun o => ?_, by (simp [World.setCell]; omega), Lib.hid (((((HB.out.setCell (p := ⟨w.heap.size, 0, none⟩) (by simp) _).setCell (p := ⟨w.heap.size, 1, none⟩) (by simp) _).setCell (p := ⟨w.heap.size, 2, none⟩) (by simp) _).setCell (p := ⟨w.heap.size, 3, none⟩) (by simp) _).setCell (p := ⟨w.heap.size, 4, none⟩) (by simp) _)⟩
          all_goals ((try dsimp only [Tr.tag, Tr.key, Tr.text, Tr.ps, Tr.ks]); go_simp)
        case measure => simp [intOf]; omega
      · rw [if_neg hr] at hE
        have HEN := Lib.hid (HAT.out.trans hE.symm)
        obtain ⟨ln, hln⟩ : ∃ ln, x.ks.length = ln := ⟨_, rfl⟩
        rw [hln] at hr s3 d4
        have U1 := Lib.hid (fun w => (show Calls Tryz.prog 55 #[.int .i64 z, .int .i64 ((ln : Int) - 1)] w fun e w' => e = .returned (.bool false) ∧ w = w' by have := upTo_any z ((ln : Int) - 1) w; rwa [decide_eq_false hr] at this))
        clear hE HSK hr hln HOK HS HP HK
        go_wp2_with fail
        refine (U1.out _).mono ?_
        rintro e w' ⟨rfl, rfl⟩
        go_wp2_with fail
        refine bodyPost_ret (v := .tuple #[.agg #[.int .i64 0, .int .i64 0, .string ⟨#[]⟩, .slice none 0 0, .slice none 0 0], .bool false]) (by simp [results, Tryz.results23, go_sem, d0, d1, d2, d3, d4, z0, z1, z2, z3, z4, f2, f4]) rfl (HTX.out _ _ ⟨?_, .inl ⟨HEN.out, rfl⟩⟩)
        exact ((((HB.out.setCell (p := ⟨w.heap.size + 1, 0, none⟩) (by simp) _).setCell (p := ⟨w.heap.size + 1, 1, none⟩) (by simp) _).setCell (p := ⟨w.heap.size + 1, 2, none⟩) (by simp) _).setCell (p := ⟨w.heap.size + 1, 3, none⟩) (by simp) _).setCell (p := ⟨w.heap.size + 1, 4, none⟩) (by simp) _
    · obtain rfl : k = n := by omega
      have hE := HE.out
      rw [← HN.out, List.drop_length, atT] at hE
      have HEN := Lib.hid (HAT.out.trans hE.symm)
      have KC := Lib.hid (fun W hp hk => copyTree_any x (MiT.of_ok x HOK.out) A0 A1 c0 c1 W hp hk)
      have hcx : ∀ W e w', CpX x W e w' → ∃ B0 f0 B1 f1, e = .returned (.agg #[.int .i64 x.tag, .int .i64 x.key, .string x.text, .slice B0 x.ps.length f0, .slice B1 x.ks.length f1]) ∧ PrL w' B0 x.ps ∧ (∀ b o, B0 = some ⟨b, o, none⟩ → W.heap.size ≤ b) ∧ TrL w' W.heap.size B1 x.ks ∧ Below W.heap.size W w' := fun W e w' h => h
      clear hE HE
      go_wp2_with fail
      refine (KC.out _ (HP.out.below HB.out) (HK.out.below HB.out)).mono ?_
      intro e w2 hq
      obtain ⟨B0, f0, B1, f1, rfl, hpp, hplo, hkk, hb⟩ := hcx _ _ _ hq
      replace z0 := (hb.cell (p := ⟨w.heap.size + 1, 0, none⟩) (by first | omega | (simp; omega))).trans z0
      replace z1 := (hb.cell (p := ⟨w.heap.size + 1, 1, none⟩) (by first | omega | (simp; omega))).trans z1
      replace z2 := (hb.cell (p := ⟨w.heap.size + 1, 2, none⟩) (by first | omega | (simp; omega))).trans z2
      replace z3 := (hb.cell (p := ⟨w.heap.size + 1, 3, none⟩) (by first | omega | (simp; omega))).trans z3
      replace z4 := (hb.cell (p := ⟨w.heap.size + 1, 4, none⟩) (by first | omega | (simp; omega))).trans z4
      replace f4 := fun o => (hb.frozen (p := ⟨w.heap.size + 1, o, none⟩) (by first | omega | (simp; omega))).trans (f4 o)
      have HB2 := Lib.hid (more HB.out (Nat.le_refl _) hb)
      have HPP := Lib.hid hpp
      have HPL := Lib.hid hplo
      have HKK := Lib.hid hkk
      clear hpp hplo hkk hb hq hcx KC HP HK
      go_wp2_with fail
      refine bodyPost_ret (v := .tuple #[.agg #[.int .i64 x.tag, .int .i64 x.key, .string x.text, .slice B0 x.ps.length f0, .slice B1 x.ks.length f1], .bool true]) (by simp [results, Tryz.results23, go_sem, z0, z1, z2, z3, z4, f4]) rfl (HTX.out _ _ ⟨?_, .inr ⟨x, B0, B1, f0, f1, HEN.out, rfl, ?_, fun b o e => by have := HPL.out b o e; omega, ?_⟩⟩)
      · exact ((((HB2.out.setCell (p := ⟨w.heap.size + 1, 0, none⟩) (by simp) _).setCell (p := ⟨w.heap.size + 1, 1, none⟩) (by simp) _).setCell (p := ⟨w.heap.size + 1, 2, none⟩) (by simp) _).setCell (p := ⟨w.heap.size + 1, 3, none⟩) (by simp) _).setCell (p := ⟨w.heap.size + 1, 4, none⟩) (by simp) _
      · refine PrL.kept (w := w2) (lo := w.heap.size + 1 + 1) (by simp [World.setCell]) (fun b hb _ => ?_) HPP.out (fun b o e => by have := HPL.out b o e; omega)
        rw [Below.heap_setCell _ _ _ b (by first | omega | (simp; omega) | (simp <;> omega)), Below.heap_setCell _ _ _ b (by first | omega | (simp; omega) | (simp <;> omega)), Below.heap_setCell _ _ _ b (by first | omega | (simp; omega) | (simp <;> omega)), Below.heap_setCell _ _ _ b (by first | omega | (simp; omega) | (simp <;> omega)), Below.heap_setCell _ _ _ b (by first | omega | (simp; omega) | (simp <;> omega))]
      · refine TrL.mono (lo := wr.heap.size) (by omega) (TrL.kept (w := w2) (by simp [World.setCell]) (fun b hb _ => ?_) HKK.out)
        rw [Below.heap_setCell _ _ _ b (by first | omega | (simp; omega) | (simp <;> omega)), Below.heap_setCell _ _ _ b (by first | omega | (simp; omega) | (simp <;> omega)), Below.heap_setCell _ _ _ b (by first | omega | (simp; omega) | (simp <;> omega)), Below.heap_setCell _ _ _ b (by first | omega | (simp; omega) | (simp <;> omega)), Below.heap_setCell _ _ _ b (by first | omega | (simp; omega) | (simp <;> omega))]
end Go.Proofs.YtagaaeolgecdmaaGreatDoor

namespace Go.Proofs.YtagaaeolgecdmaaGreatDoor
open Go.Joins Go.ChangeShapes Go.WideShapes Go.ChangeAt Go.RowKit Go.Deep
set_option linter.unusedVariables false
set_option linter.unusedSimpArgs false

theorem partsL_in : ∀ (ks : List Tr) (way : List Nat) (i : Nat) (y : List Nat × Tr), y ∈ partsL way i ks → ∃ (j : Nat) (x : Tr), ks[j]? = some x ∧ y ∈ partsT (way ++ [i + j]) x
  | [], way, i, y, h => by simp only [partsL] at h; cases h
  | x :: xs, way, i, y, h => by
    simp only [partsL] at h
    rcases List.mem_append.1 h with h | h
    · exact ⟨0, x, by simp, by simpa using h⟩
    · obtain ⟨j, z, h1, h2⟩ := partsL_in xs way (i + 1) y h
      exact ⟨j + 1, z, by simpa using h1, by rw [show i + (j + 1) = i + 1 + j by omega]; exact h2⟩
/-- Each part is the one at its way. -/
theorem parts_at : ∀ (t : Tr) (way : List Nat), ∀ y ∈ partsT way t, ∃ ns : List Nat, y.1 = way ++ ns ∧ atT t (ns.map fun (n : Nat) => (n : Int)) = some y.2 := Tr.by_kids fun t ih way y hy => by
  rw [partsT_eq] at hy
  rcases List.mem_cons.1 hy with rfl | hy
  · exact ⟨[], by simp, by rw [List.map_nil, atT]⟩
  · obtain ⟨j, x, h1, h2⟩ := partsL_in t.ks way 0 y hy
    obtain ⟨ns, h3, h4⟩ := ih x (List.mem_of_getElem? h1) _ y h2
    refine ⟨j :: ns, by rw [h3]; simp, ?_⟩
    have hj := (List.getElem?_eq_some_iff.1 h1).1
    rw [List.map_cons, atT, if_pos ⟨by omega, by omega⟩, show ((j : Int)).toNat = j by omega, h1]
    exact h4
/-- TreeAt's answer where there is a part. -/
def TaS (y : Tr) (w : World) (e : Ending) (w' : World) : Prop := ∃ (D0 D1 : Option Addr) (i0 i1 : Nat), e = .returned (.tuple #[.agg #[.int .i64 y.tag, .int .i64 y.key, .string y.text, .slice D0 y.ps.length i0, .slice D1 y.ks.length i1], .bool true]) ∧ PrL w' D0 y.ps ∧ (∀ b o, D0 = some ⟨b, o, none⟩ → w.heap.size ≤ b) ∧ TrL w' w.heap.size D1 y.ks ∧ Below w.heap.size w w'
theorem TaX.is {t y : Tr} {zs : List Int} {w w' : World} {e : Ending} (h : TaX t zs w e w') (hs : atV t zs = some y) : TaS y w e w' := by
  obtain ⟨hb, ⟨hn, _⟩ | ⟨x, B0, B1, f0, f1, hx, rfl, hp, hl, hk⟩⟩ := h
  · rw [hs] at hn; cases hn
  · rw [hs] at hx
    cases hx
    exact ⟨B0, B1, f0, f1, rfl, hp, hl, hk, hb⟩
theorem TaX.no {t : Tr} {zs : List Int} {w w' : World} {e : Ending} (h : TaX t zs w e w') (hs : atV t zs = none) : e = .returned (.tuple #[.agg #[.int .i64 0, .int .i64 0, .string ⟨#[]⟩, .slice none 0 0, .slice none 0 0], .bool false]) ∧ Below w.heap.size w w' := by
  obtain ⟨hb, ⟨_, he⟩ | ⟨x, B0, B1, f0, f1, hx, rfl, hp, hl, hk⟩⟩ := h
  · exact ⟨he, hb⟩
  · rw [hs] at hx; cases hx
theorem fill_far {w : World} {g b : Nat} (hb : b ≠ g) (u0 u1 u2 u3 u4 : Value) : (((((w.setCell ⟨g, 0, none⟩ (u0)).setCell ⟨g, 1, none⟩ (u1)).setCell ⟨g, 2, none⟩ (u2)).setCell ⟨g, 3, none⟩ (u3)).setCell ⟨g, 4, none⟩ (u4)).heap[b]? = w.heap[b]? := by
  rw [Below.heap_setCell _ _ _ _ hb, Below.heap_setCell _ _ _ _ hb, Below.heap_setCell _ _ _ _ hb, Below.heap_setCell _ _ _ _ hb, Below.heap_setCell _ _ _ _ hb]
/-- A tree in a box of its own, with all that it needs. -/
def Laid (w0 : World) (y : Tr) (g : Nat) (D0 D1 : Option Addr) (i0 i1 : Nat) (we : World) : Prop :=
  Below w0.heap.size w0 we ∧ w0.heap.size ≤ g ∧ we.heap[g]? = some (.cells #[.int .i64 y.tag, .int .i64 y.key, .string y.text, .slice D0 y.ps.length i0, .slice D1 y.ks.length i1] 32) ∧ PrL we D0 y.ps ∧ TrL we 0 D1 y.ks
theorem Below.fill {B g : Nat} {w0 w : World} (h : Below B w0 w) (hg : B ≤ g) (u0 u1 u2 u3 u4 : Value) : Below B w0 (((((w.setCell ⟨g, 0, none⟩ (u0)).setCell ⟨g, 1, none⟩ (u1)).setCell ⟨g, 2, none⟩ (u2)).setCell ⟨g, 3, none⟩ (u3)).setCell ⟨g, 4, none⟩ (u4)) :=
  ((((h.setCell (p := ⟨g, 0, none⟩) hg u0).setCell (p := ⟨g, 1, none⟩) hg u1).setCell (p := ⟨g, 2, none⟩) hg u2).setCell (p := ⟨g, 3, none⟩) hg u3).setCell (p := ⟨g, 4, none⟩) hg u4
theorem fill_at {w : World} {g : Nat} (h : w.heap[g]? = some (.cells #[.int .i64 0, .int .i64 0, .string ⟨#[]⟩, .slice none 0 0, .slice none 0 0] 32)) (u0 u1 u2 u3 u4 : Value) : (((((w.setCell ⟨g, 0, none⟩ (u0)).setCell ⟨g, 1, none⟩ (u1)).setCell ⟨g, 2, none⟩ (u2)).setCell ⟨g, 3, none⟩ (u3)).setCell ⟨g, 4, none⟩ (u4)).heap[g]? = some (.cells #[u0, u1, u2, u3, u4] 32) := by
  simp [World.setCell, Array.getElem?_modify, h]
theorem fill_size {w : World} {g : Nat} (u0 u1 u2 u3 u4 : Value) : (((((w.setCell ⟨g, 0, none⟩ (u0)).setCell ⟨g, 1, none⟩ (u1)).setCell ⟨g, 2, none⟩ (u2)).setCell ⟨g, 3, none⟩ (u3)).setCell ⟨g, 4, none⟩ (u4)).heap.size = w.heap.size := by simp [World.setCell]
/-- The call first, then the box. -/
theorem laidA {w0 u1 : World} {y : Tr} {D0 D1 : Option Addr} {i0 i1 : Nat} (hb : Below w0.heap.size w0 u1) (hp : PrL u1 D0 y.ps) (hk : TrL u1 0 D1 y.ks) :
    Laid w0 y u1.heap.size D0 D1 i0 i1 ((((((u1.alloc (.cells #[.int .i64 0, .int .i64 0, .string ⟨#[]⟩, .slice none 0 0, .slice none 0 0] 32)).setCell ⟨u1.heap.size, 0, none⟩ (.int .i64 y.tag)).setCell ⟨u1.heap.size, 1, none⟩ (.int .i64 y.key)).setCell ⟨u1.heap.size, 2, none⟩ (.string y.text)).setCell ⟨u1.heap.size, 3, none⟩ (.slice D0 y.ps.length i0)).setCell ⟨u1.heap.size, 4, none⟩ (.slice D1 y.ks.length i1)) := by
  have hbu := Below.fill (Below.alloc (Below.refl u1.heap.size u1) (Nat.le_refl _) (.cells #[.int .i64 0, .int .i64 0, .string ⟨#[]⟩, .slice none 0 0, .slice none 0 0] 32)) (Nat.le_refl _) (.int .i64 y.tag) (.int .i64 y.key) (.string y.text) (.slice D0 y.ps.length i0) (.slice D1 y.ks.length i1)
  exact ⟨hb.trans (hbu.mono hb.size), hb.size, fill_at (World.alloc_heap_new u1 _) _ _ _ _ _, hp.below hbu, hk.below hbu⟩
/-- The box first, then the call. -/
theorem laidB {w0 u0 u1 : World} {y : Tr} {D0 D1 : Option Addr} {i0 i1 : Nat} (h0 : Below w0.heap.size w0 u0) (hg0 : u0.heap[w0.heap.size]? = some (.cells #[.int .i64 0, .int .i64 0, .string ⟨#[]⟩, .slice none 0 0, .slice none 0 0] 32)) (hb : Below u0.heap.size u0 u1) (hp : PrL u1 D0 y.ps) (hpl : ∀ b o, D0 = some ⟨b, o, none⟩ → u0.heap.size ≤ b) (hk : TrL u1 u0.heap.size D1 y.ks) :
    Laid w0 y w0.heap.size D0 D1 i0 i1 (((((u1.setCell ⟨w0.heap.size, 0, none⟩ (.int .i64 y.tag)).setCell ⟨w0.heap.size, 1, none⟩ (.int .i64 y.key)).setCell ⟨w0.heap.size, 2, none⟩ (.string y.text)).setCell ⟨w0.heap.size, 3, none⟩ (.slice D0 y.ps.length i0)).setCell ⟨w0.heap.size, 4, none⟩ (.slice D1 y.ks.length i1)) := by
  have hgl := (Array.getElem?_eq_some_iff.1 hg0).1
  have h1 := (hb.block _ hgl).trans hg0
  have hsz := Nat.le_of_eq (fill_size (w := u1) (g := w0.heap.size) (.int .i64 y.tag) (.int .i64 y.key) (.string y.text) (.slice D0 y.ps.length i0) (.slice D1 y.ks.length i1)).symm
  refine ⟨Below.fill (h0.trans (hb.mono h0.size)) (Nat.le_refl _) _ _ _ _ _, Nat.le_refl _, fill_at h1 _ _ _ _ _, ?_, ?_⟩
  · exact PrL.kept (lo := u0.heap.size) hsz (fun b hb _ => fill_far (by omega) _ _ _ _ _) hp hpl
  · exact (TrL.kept (lo := u0.heap.size) hsz (fun b hb _ => fill_far (by omega) _ _ _ _ _) hk).mono (Nat.zero_le _)
/-- What is left is the same, in whatever order it was laid. -/
theorem laterR {P : Prop} {F G : Nat → Option Addr → Option Addr → Nat → Nat → World → Prop} (h : Hid (∀ g a b c d w, F g a b c d w → G g a b c d w) → P) (ht : ∀ g a b c d w, F g a b c d w → G g a b c d w) : P := h (Lib.hid ht)
end Go.Proofs.YtagaaeolgecdmaaGreatDoor
