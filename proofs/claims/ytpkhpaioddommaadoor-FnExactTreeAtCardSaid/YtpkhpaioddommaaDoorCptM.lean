/- Cpt1, Cpt2, Cpt3 in one text. -/
import Derived.Test.YtpkhpaioddommaaDoorOt1
import Derived.Lib.SliceRun
import Derived.Maps.AppendAt
namespace Go.Proofs.YtpkhpaioddommaaDoor
open Go.Joins Go.ChangeShapes Go.WideShapes Go.ChangeAt Go.RowKit Go.Deep
set_option linter.unusedVariables false
set_option linter.unusedSimpArgs false

theorem wp_cloneT {w : World} {ops : Array Oper} {rest : List Oper} {o : Oper} {a : Act} {Q : Exit → Act → World → Prop} (hgd : o.guard = none) (s x : Operand)
    (ho : o.op = .call { callee := .builtin .append, args := #[s, x], argTypes := #[24, 24] }) (base b n c : Nat) (hs : a.eval s = .slice (some ⟨b, 0, none⟩) 0 0) (hown : w.ownsRow base 26 5 (.slice (some ⟨b, 0, none⟩) 0 0) 0 [])
    (ad : Addr) (L : List Value) (hx : a.eval x = .slice (some ad) n c) (hl : L.length = n * 5) (hc : ∀ j u, L[j]? = some u → w.cell? (ad.add j) = some u) (h1 : ∀ u ∈ L, u.oneCell' = true) (hn : n ≤ 1000000) (hbase : base ≤ w.heap.size)
    (h : ∀ b' c' w', w'.ownsRow base 26 5 (.slice (some ⟨b', 0, none⟩) n c') n L → w.grownBy w' (some b) → wpList Tryd.prog ops Q rest (a.put o.dst (.slice (some ⟨b', 0, none⟩) n c')) w') :
    wpList Tryd.prog ops Q (o :: rest) a w := by
  obtain ⟨i0, hi0, hz0, hz1, hz2⟩ := info_parts infoTr
  refine wpList_append_own_at w hgd s x _ ho base 26 i0 _ 5 80 Tryd.underlying24 hi0 hz0 hz1 hz2 rfl (by omega) _ 0 [] hs hown ad n c L hx hl hc h1 (by simp only [maxLen]; omega) (by omega) hbase ?_
  intro v' w' hown' hg hnil hat
  rw [Nat.zero_add, List.nil_append] at hown'
  have hform : ∃ b' c', v' = .slice (some ⟨b', 0, none⟩) n c' := by
    rcases hown'.2 with ⟨rfl, _⟩ | ⟨g', cap', cur, rfl, _⟩
    · simp [Value.ownBlock] at hat
    · exact ⟨g', cap', rfl⟩
  obtain ⟨b', c', rfl⟩ := hform
  exact h b' c' w' hown' hg
set_option maxHeartbeats 1000000 in
theorem cloneT_any (A : Option Addr) (n c : Nat) (L : List Value) (w : World) (hl : L.length = n * 5) (h1 : ∀ u ∈ L, u.oneCell' = true) (hc : 0 < n → ∃ ad, A = some ad ∧ ∀ w', Below w.heap.size w w' → ∀ j u, L[j]? = some u → w'.cell? (ad.add j) = some u) (hn : n ≤ 1000000) :
    Calls Tryd.prog 106 #[.slice A n c] w fun e w' => ∃ A' c', e = .returned (.slice A' n c') ∧ Below w.heap.size w w' ∧ (∀ b o, A' = some ⟨b, o, none⟩ → w.heap.size ≤ b) ∧ (0 < n → ∃ g, A' = some ⟨g, 0, none⟩ ∧ w'.ownsRow w.heap.size 26 5 (.slice (some ⟨g, 0, none⟩) n c') n L) := by
  have HL := Lib.hid hl
  have H1 := Lib.hid h1
  have HN := Lib.hid hn
  have kn := fun (w : World) => Lib.run_eql_slice_nil (P := Tryd.prog) w 24 26 A n c 0 0 Tryd.underlying24
  cases A with
  | none =>
    have hn0 : n = 0 := by
      rcases Nat.eq_zero_or_pos n with h | h
      · exact h
      · obtain ⟨ad, e, _⟩ := hc h
        cases e
    subst hn0
    clear hl h1 hc hn
    go_enter Tryd.func106, Tryd.ntmps106
    go_wp2_with fail
    go_ret
    exact ⟨none, 0, rfl, Below.refl _ _, fun b o e => (by cases e), fun h => absurd h (by omega)⟩
  | some ad =>
    have hcell : ∀ w', Below w.heap.size w w' → ∀ j u, L[j]? = some u → w'.cell? (ad.add j) = some u := by
      rcases Nat.eq_zero_or_pos n with h | h
      · subst h
        obtain rfl : L = [] := List.eq_nil_of_length_eq_zero (by simpa using hl)
        intro w' _ j u hu
        simp at hu
      · obtain ⟨ad', e, h⟩ := hc h
        cases e
        exact h
    have hb0 := Below.alloc (Below.refl w.heap.size w) (Nat.le_refl _) (.cells #[] 26)
    have HC := Lib.hid (hcell _ hb0)
    have HB := Lib.hid hb0
    have HO := Lib.hid (show (w.alloc (.cells #[] 26)).ownsRow w.heap.size 26 5 (.slice (some ⟨w.heap.size, 0, none⟩) 0 0) 0 [] from ⟨rfl, .inr ⟨w.heap.size, 0, #[], rfl, Nat.le_refl _, World.alloc_heap_new w _, Nat.le_refl _, Nat.zero_le _, rfl, rfl⟩⟩)
    clear hl h1 hc hn hcell hb0
    go_enter Tryd.func106, Tryd.ntmps106
    go_wp2_with (at_builtin; refine wp_cloneT rfl (.tmp 5) (.tmp 6) rfl w.heap.size w.heap.size n c rfl HO.out ad L rfl HL.out HC.out H1.out HN.out (by simp) ?_; intro b3 c3 w5 ho hgr; have HO5 := Lib.hid ho; have HB5 := Lib.hid (HB.out.grown hgr (by simp) (fun k hk => by injection hk with hk; omega)); clear ho hgr)
    go_ret
    exact ⟨some ⟨b3, 0, none⟩, c3, rfl, HB5.out, fun b o e => (by cases e; exact (HO5.out.lt _ rfl).1), fun _ => ⟨b3, rfl, HO5.out⟩⟩
theorem wp_cloneP {w : World} {ops : Array Oper} {rest : List Oper} {o : Oper} {a : Act} {Q : Exit → Act → World → Prop} (hgd : o.guard = none) (s x : Operand)
    (ho : o.op = .call { callee := .builtin .append, args := #[s, x], argTypes := #[23, 23] }) (base b n c : Nat) (hs : a.eval s = .slice (some ⟨b, 0, none⟩) 0 0) (hown : w.ownsRow base 95 4 (.slice (some ⟨b, 0, none⟩) 0 0) 0 [])
    (ad : Addr) (L : List Value) (hx : a.eval x = .slice (some ad) n c) (hl : L.length = n * 4) (hc : ∀ j u, L[j]? = some u → w.cell? (ad.add j) = some u) (h1 : ∀ u ∈ L, u.oneCell' = true) (hn : n ≤ 1000000) (hbase : base ≤ w.heap.size)
    (h : ∀ b' c' w', w'.ownsRow base 95 4 (.slice (some ⟨b', 0, none⟩) n c') n L → w.grownBy w' (some b) → wpList Tryd.prog ops Q rest (a.put o.dst (.slice (some ⟨b', 0, none⟩) n c')) w') :
    wpList Tryd.prog ops Q (o :: rest) a w := by
  obtain ⟨i0, hi0, hz0, hz1, hz2⟩ := info_parts infoPr
  refine wpList_append_own_at w hgd s x _ ho base 95 i0 _ 4 40 Tryd.underlying23 hi0 hz0 hz1 hz2 rfl (by omega) _ 0 [] hs hown ad n c L hx hl hc h1 (by simp only [maxLen]; omega) (by omega) hbase ?_
  intro v' w' hown' hg hnil hat
  rw [Nat.zero_add, List.nil_append] at hown'
  have hform : ∃ b' c', v' = .slice (some ⟨b', 0, none⟩) n c' := by
    rcases hown'.2 with ⟨rfl, _⟩ | ⟨g', cap', cur, rfl, _⟩
    · simp [Value.ownBlock] at hat
    · exact ⟨g', cap', rfl⟩
  obtain ⟨b', c', rfl⟩ := hform
  exact h b' c' w' hown' hg
set_option maxHeartbeats 1000000 in
theorem cloneP_any (A : Option Addr) (n c : Nat) (L : List Value) (w : World) (hl : L.length = n * 4) (h1 : ∀ u ∈ L, u.oneCell' = true) (hc : 0 < n → ∃ ad, A = some ad ∧ ∀ w', Below w.heap.size w w' → ∀ j u, L[j]? = some u → w'.cell? (ad.add j) = some u) (hn : n ≤ 1000000) :
    Calls Tryd.prog 82 #[.slice A n c] w fun e w' => ∃ A' c', e = .returned (.slice A' n c') ∧ Below w.heap.size w w' ∧ (∀ b o, A' = some ⟨b, o, none⟩ → w.heap.size ≤ b) ∧ (0 < n → ∃ g, A' = some ⟨g, 0, none⟩ ∧ w'.ownsRow w.heap.size 95 4 (.slice (some ⟨g, 0, none⟩) n c') n L) := by
  have HL := Lib.hid hl
  have H1 := Lib.hid h1
  have HN := Lib.hid hn
  have kn := fun (w : World) => Lib.run_eql_slice_nil (P := Tryd.prog) w 23 95 A n c 0 0 Tryd.underlying23
  cases A with
  | none =>
    have hn0 : n = 0 := by
      rcases Nat.eq_zero_or_pos n with h | h
      · exact h
      · obtain ⟨ad, e, _⟩ := hc h
        cases e
    subst hn0
    clear hl h1 hc hn
    go_enter Tryd.func82, Tryd.ntmps82
    go_wp2_with fail
    go_ret
    exact ⟨none, 0, rfl, Below.refl _ _, fun b o e => (by cases e), fun h => absurd h (by omega)⟩
  | some ad =>
    have hcell : ∀ w', Below w.heap.size w w' → ∀ j u, L[j]? = some u → w'.cell? (ad.add j) = some u := by
      rcases Nat.eq_zero_or_pos n with h | h
      · subst h
        obtain rfl : L = [] := List.eq_nil_of_length_eq_zero (by simpa using hl)
        intro w' _ j u hu
        simp at hu
      · obtain ⟨ad', e, h⟩ := hc h
        cases e
        exact h
    have hb0 := Below.alloc (Below.refl w.heap.size w) (Nat.le_refl _) (.cells #[] 95)
    have HC := Lib.hid (hcell _ hb0)
    have HB := Lib.hid hb0
    have HO := Lib.hid (show (w.alloc (.cells #[] 95)).ownsRow w.heap.size 95 4 (.slice (some ⟨w.heap.size, 0, none⟩) 0 0) 0 [] from ⟨rfl, .inr ⟨w.heap.size, 0, #[], rfl, Nat.le_refl _, World.alloc_heap_new w _, Nat.le_refl _, Nat.zero_le _, rfl, rfl⟩⟩)
    clear hl h1 hc hn hcell hb0
    go_enter Tryd.func82, Tryd.ntmps82
    go_wp2_with (at_builtin; refine wp_cloneP rfl (.tmp 5) (.tmp 6) rfl w.heap.size w.heap.size n c rfl HO.out ad L rfl HL.out HC.out H1.out HN.out (by simp) ?_; intro b3 c3 w5 ho hgr; have HO5 := Lib.hid ho; have HB5 := Lib.hid (HB.out.grown hgr (by simp) (fun k hk => by injection hk with hk; omega)); clear ho hgr)
    go_ret
    exact ⟨some ⟨b3, 0, none⟩, c3, rfl, HB5.out, fun b o e => (by cases e; exact (HO5.out.lt _ rfl).1), fun _ => ⟨b3, rfl, HO5.out⟩⟩
theorem prs_cells {w : World} {A : Option Addr} {ps : List Pr} (h : PrL w A ps) : 0 < ps.length → ∃ ad, A = some ad ∧ ∀ w', Below w.heap.size w w' → ∀ j u, (ps.flatMap Pr.cells)[j]? = some u → w'.cell? (ad.add j) = some u := fun h0 => by
  obtain ⟨b, off, rfl, hlt, hc⟩ := h h0
  refine ⟨_, rfl, fun w' hb j u hu => ?_⟩
  have hlen : ∀ ys : List Pr, (ys.flatMap Pr.cells).length = ys.length * 4 := fun ys => by
    induction ys with
    | nil => rfl
    | cons y ys ih => rw [List.flatMap_cons, List.length_append, ih]; simp [Pr.cells]; omega
  have hj : j < ps.length * 4 := by rw [← hlen]; exact (List.getElem?_eq_some_iff.1 hu).1
  obtain ⟨x, hx⟩ := at_some (show j / 4 < ps.length by omega)
  have key : ∀ (ys : List Pr) (i r : Nat), ys[i]? = some x → r < 4 → (ys.flatMap Pr.cells)[i * 4 + r]? = x.cells[r]? := by
    intro ys
    induction ys with
    | nil => intro i r hi; simp at hi
    | cons y ys ih =>
      intro i r hi hr
      cases i with
      | zero =>
        simp at hi
        subst hi
        rw [List.flatMap_cons, List.getElem?_append_left (by simp [Pr.cells]; omega)]
        simp
      | succ i =>
        simp at hi
        rw [List.flatMap_cons, List.getElem?_append_right (by simp [Pr.cells]; omega), show (i + 1) * 4 + r - y.cells.length = i * 4 + r by simp [Pr.cells]; omega]
        exact ih i r hi hr
  have hu2 := key ps (j / 4) (j % 4) hx (by omega)
  rw [show j / 4 * 4 + j % 4 = j by omega, hu] at hu2
  have := hc (j / 4) x hx (j % 4) u hu2.symm
  rw [show off + j / 4 * 4 + j % 4 = off + j by omega] at this
  rw [addr_add]
  exact (hb.cell (p := ⟨b, off + j, none⟩) hlt).trans this
theorem prs_len (ys : List Pr) : (ys.flatMap Pr.cells).length = ys.length * 4 := by
  induction ys with
  | nil => rfl
  | cons y ys ih => rw [List.flatMap_cons, List.length_append, ih]; simp [Pr.cells]; omega
theorem prs_one (ys : List Pr) : ∀ u ∈ ys.flatMap Pr.cells, u.oneCell' = true := by
  intro u hu
  obtain ⟨y, _, hy⟩ := List.mem_flatMap.1 hu
  simp only [Pr.cells, List.mem_cons, List.not_mem_nil, or_false] at hy
  rcases hy with rfl | rfl | rfl | rfl <;> rfl
/-- Props copied. -/
theorem cloneProps_any (A : Option Addr) (c n : Nat) (ps : List Pr) (w : World) (hp : PrL w A ps) (hn : ps.length = n) (hl : n ≤ 1000000) :
    Calls Tryd.prog 82 #[.slice A n c] w fun e w' => ∃ A' c', e = .returned (.slice A' n c') ∧ Below w.heap.size w w' ∧ PrL w' A' ps ∧ (∀ b o, A' = some ⟨b, o, none⟩ → w.heap.size ≤ b) := by
  refine (cloneP_any A n c (ps.flatMap Pr.cells) w (by rw [prs_len, hn]) (prs_one ps) (fun h => prs_cells hp (by omega)) hl).mono ?_
  rintro e w' ⟨A', c', rfl, hb, hlo, h⟩
  refine ⟨A', c', rfl, hb, fun h0 => ?_, hlo⟩
  obtain ⟨g, rfl, ho⟩ := h (by omega)
  rw [← hn] at ho
  exact Lie.of_own (c := Pr.cells) Pr.cells_len ho h0
end Go.Proofs.YtpkhpaioddommaaDoor

namespace Go.Proofs.YtpkhpaioddommaaDoor
open Go.Joins Go.ChangeShapes Go.WideShapes Go.ChangeAt Go.RowKit Go.Deep
set_option linter.unusedVariables false
set_option linter.unusedSimpArgs false

def CpX (t : Tr) (w : World) (e : Ending) (w' : World) : Prop :=
  ∃ B0 f0 B1 f1, e = .returned (.agg #[.int .i64 t.tag, .int .i64 t.key, .string t.text, .slice B0 t.ps.length f0, .slice B1 t.ks.length f1]) ∧
    PrL w' B0 t.ps ∧ (∀ b o, B0 = some ⟨b, o, none⟩ → w.heap.size ≤ b) ∧ TrL w' w.heap.size B1 t.ks ∧ Below w.heap.size w w'
theorem CpX.front {t : Tr} {w W w' : World} {e : Ending} (h : CpX t W e w') (hb : Below w.heap.size w W) : CpX t w e w' := by
  obtain ⟨B0, f0, B1, f1, rfl, hp, hl, hk, h2⟩ := h
  exact ⟨B0, f0, B1, f1, rfl, hp, fun b o e => Nat.le_trans hb.size (hl b o e), hk.mono hb.size, hb.trans (h2.mono hb.size)⟩
def CpT (t : Tr) : Prop := ∀ (A0 A1 : Option Addr) (c0 c1 : Nat) (w : World), PrL w A0 t.ps → TrL w 0 A1 t.ks →
  Calls Tryd.prog 52 #[.agg #[.int .i64 t.tag, .int .i64 t.key, .string t.text, .slice A0 t.ps.length c0, .slice A1 t.ks.length c1]] w (CpX t w)
def CpsX (n : Nat) (xs : List Tr) (w : World) (e : Ending) (w' : World) : Prop :=
  ∃ A' c', e = .returned (.slice A' n c') ∧ TrL w' w.heap.size A' xs ∧ Below w.heap.size w w'
theorem own_below {w w' : World} {base n m : Nat} {e : TypeId} {v : Value} {xs : List Value} (h : w.ownsRow base e n v m xs) (hb : Below w.heap.size w w') : w'.ownsRow base e n v m xs :=
  h.kept (row := none) ⟨hb.os, hb.tape, hb.output, hb.size, fun k hk _ => hb.block k hk⟩ (by cases hv : v.ownBlock <;> simp)
set_option maxHeartbeats 2000000 in
set_option maxRecDepth 100000 in
theorem copyAll_of (A : Option Addr) (c n : Nat) (xs : List Tr) (IH : ∀ x ∈ xs, CpT x) (w : World) (hx : TrL w 0 A xs) (hn : xs.length = n) (hl : n ≤ 1000000) :
    Calls Tryd.prog 83 #[.slice A n c, .func (.func 52) #[] #[]] w (CpsX n xs w) := by
  obtain ⟨L0, hL0, hL1, hLc, hLk⟩ := hx.cells
  rw [hn] at hL0 hLc
  have KC := Lib.hid (cloneT_any A n c L0 w hL0 hL1 hLc hl)
  have HN := Lib.hid hn
  have HI := Lib.hid IH
  have HLK := Lib.hid hLk
  clear hx hn IH hL0 hL1 hLc hLk
  go_enter Tryd.func83, Tryd.ntmps83
  go_wp2_with fail
  refine KC.out.mono ?_
  rintro e w1 ⟨A', c', rfl, hb, hlo, hrow⟩
  have HB1 := Lib.hid hb
  have HLO := Lib.hid hlo
  rcases Nat.eq_zero_or_pos n with hn0 | hn0
  · subst hn0
    clear hb hrow hlo
    obtain rfl : xs = [] := List.eq_nil_of_length_eq_zero HN.out
    go_wp2_with fail
    go_loopw [11] (fun i wr => i = .int .i64 0 ∧ Hid (Below w.heap.size w wr)) (fun _ _ => 0)
    case atStart => exact ⟨rfl, HB1⟩
    case round =>
      obtain ⟨rfl, HB⟩ := hrel
      go_wp2_with fail
      go_ret
      exact ⟨A', c', rfl, TrL.nil, HB.out⟩
  obtain ⟨g, rfl, ho⟩ := hrow hn0
  have HO := Lib.hid ho
  clear hb hrow hlo ho KC
  go_wp2_with fail
  go_loopw [11] (fun i wr => ∃ (k : Nat) (L : List Value) (hdr : Nat → List Value), k ≤ n ∧ i = .int .i64 k ∧ wr.ownsRow w.heap.size 26 5 (.slice (some ⟨g, 0, none⟩) n c') n L ∧ Hid (∀ i, i < k → ∀ j u, (hdr i)[j]? = some u → j < 5 ∧ L[i * 5 + j]? = some u) ∧ Hid (∀ i x, i < k → xs[i]? = some x → TrC wr (g + 1) (hdr i) x) ∧ Hid (∀ i, k ≤ i → ∀ j, j < 5 → L[i * 5 + j]? = L0[i * 5 + j]?) ∧ Below w.heap.size w wr) (fun i _ => n - (intOf i).toNat)
  case atStart => exact ⟨0, L0, fun _ => [], by omega, rfl, HO.out, Lib.hid (fun i h => absurd h (by omega)), Lib.hid (fun i x h => absurd h (by omega)), Lib.hid (fun i h j hj => rfl), HB1.out⟩
  case round =>
    clear HO
    obtain ⟨k, L, hdr, hk, rfl, hown, HH, HT, HU, hB⟩ := hrel
    have HO2 := Lib.hid hown
    have hgl := hown.lt _ rfl
    have hg1 := hgl.1
    have hg2 := hgl.2
    have hLn : L.length = n * 5 := hown.1
    clear hgl
    by_cases hlt : k < n
    · obtain ⟨x, hx⟩ := at_some (show k < xs.length by rw [HN.out]; exact hlt)
      obtain ⟨cs, hcs, htc, hce⟩ := HLK.out k x hx
      obtain ⟨A0, d0, A1, d1, rfl, hp, _, hks⟩ := htc.open_
      have hu := fun j hj => (HU.out k (Nat.le_refl _) j hj).trans (hce j hj)
      have e0 : wr.cell? ⟨g, k * 5, none⟩ = some (.int .i64 x.tag) := (hown.cellAt (k * 5) (by omega)).trans ((hu 0 (by omega)).trans rfl)
      have e1 : wr.cell? ⟨g, k * 5 + 1, none⟩ = some (.int .i64 x.key) := (hown.cellAt (k * 5 + 1) (by omega)).trans ((hu 1 (by omega)).trans rfl)
      have e2 : wr.cell? ⟨g, k * 5 + 2, none⟩ = some (.string x.text) := (hown.cellAt (k * 5 + 2) (by omega)).trans ((hu 2 (by omega)).trans rfl)
      have e3 : wr.cell? ⟨g, k * 5 + 3, none⟩ = some (.slice A0 x.ps.length d0) := (hown.cellAt (k * 5 + 3) (by omega)).trans ((hu 3 (by omega)).trans rfl)
      have e4 : wr.cell? ⟨g, k * 5 + 4, none⟩ = some (.slice A1 x.ks.length d1) := (hown.cellAt (k * 5 + 4) (by omega)).trans ((hu 4 (by omega)).trans rfl)
      have HS := Lib.hid (fun W (hb : Below wr.heap.size wr W) => (HI.out x (List.mem_of_getElem? hx) A0 A1 d0 d1 W (hp.below (more hB (Nat.le_refl _) hb)) (hks.below (more hB (Nat.le_refl _) hb))).mono fun e w' h => h.front hb)
      have HXK := Lib.hid hx
      clear hx hp hks hown hu hce htc hcs
      obtain ⟨tag, key, text, ps, ks⟩ := x
      dsimp only [Tr.tag, Tr.key, Tr.text, Tr.ps, Tr.ks] at e0 e1 e2 e3 e4 HS
      have hcx : ∀ e w', CpX (.mk tag key text ps ks) wr e w' → ∃ B0 f0 B1 f1, e = .returned (.agg #[.int .i64 tag, .int .i64 key, .string text, .slice B0 ps.length f0, .slice B1 ks.length f1]) ∧ PrL w' B0 ps ∧ (∀ b o, B0 = some ⟨b, o, none⟩ → wr.heap.size ≤ b) ∧ TrL w' wr.heap.size B1 ks ∧ Below wr.heap.size wr w' := fun e w' h => h
      obtain ⟨Q, hQ⟩ : ∃ Q, CpX (.mk tag key text ps ks) wr = Q := ⟨_, rfl⟩
      rw [hQ] at HS hcx
      have HCX := Lib.hid hcx
      clear hcx hQ
      obtain ⟨np, hnp⟩ : ∃ q, ps.length = q := ⟨_, rfl⟩
      obtain ⟨nk, hnk⟩ : ∃ q, ks.length = q := ⟨_, rfl⟩
      have HNP := Lib.hid hnp
      have HNK := Lib.hid hnk
      rw [hnp] at e3 HS HCX
      rw [hnk] at e4 HS HCX
      clear hnp hnk
      have hi1 : (0 : Int) ≤ (k : Int) := by omega
      have hi2 : (k : Int) < (n : Int) := by omega
      go_wp2_with fail
      refine (HS.out _ (by go_grown)).mono ?_
      intro e w2 hq
      obtain ⟨B0, f0, B1, f1, rfl, hp, hplo, hkk, hb⟩ := HCX.out e w2 hq
      have hO3 := own_below HO2.out hb
      obtain ⟨u0, d0'⟩ : ∃ u, w2.cell? ⟨g, k * 5, none⟩ = some u := ⟨_, (hO3.cellAt (k * 5) (by omega)).trans (List.getElem?_eq_getElem (show k * 5 < L.length by omega))⟩
      have q0 := hO3.frozenAt (k * 5)
      obtain ⟨u1, d1'⟩ : ∃ u, w2.cell? ⟨g, k * 5 + 1, none⟩ = some u := ⟨_, (hO3.cellAt (k * 5 + 1) (by omega)).trans (List.getElem?_eq_getElem (show k * 5 + 1 < L.length by omega))⟩
      have q1 := hO3.frozenAt (k * 5 + 1)
      obtain ⟨u2, d2'⟩ : ∃ u, w2.cell? ⟨g, k * 5 + 2, none⟩ = some u := ⟨_, (hO3.cellAt (k * 5 + 2) (by omega)).trans (List.getElem?_eq_getElem (show k * 5 + 2 < L.length by omega))⟩
      have q2 := hO3.frozenAt (k * 5 + 2)
      obtain ⟨u3, d3'⟩ : ∃ u, w2.cell? ⟨g, k * 5 + 3, none⟩ = some u := ⟨_, (hO3.cellAt (k * 5 + 3) (by omega)).trans (List.getElem?_eq_getElem (show k * 5 + 3 < L.length by omega))⟩
      have q3 := hO3.frozenAt (k * 5 + 3)
      obtain ⟨u4, d4'⟩ : ∃ u, w2.cell? ⟨g, k * 5 + 4, none⟩ = some u := ⟨_, (hO3.cellAt (k * 5 + 4) (by omega)).trans (List.getElem?_eq_getElem (show k * 5 + 4 < L.length by omega))⟩
      have q4 := hO3.frozenAt (k * 5 + 4)
      have HO3 := Lib.hid hO3
      have HB2 := Lib.hid (more hB (Nat.le_refl _) hb)
      have HT2 := Lib.hid (fun i x hi hx => (HT.out i x hi hx).later hb)
      have HP2 := Lib.hid hp
      have HPL := Lib.hid hplo
      have HK2 := Lib.hid hkk
      clear hO3 hb hp hplo hkk e0 e1 e2 e3 e4 HT hq HS HCX
      go_wp2_with fail
      obtain ⟨s1, z1⟩ := HO3.out.stored (k * 5) (.int .i64 tag)
      obtain ⟨s2, z2⟩ := s1.stored (k * 5 + 1) (.int .i64 key)
      obtain ⟨s3, z3⟩ := s2.stored (k * 5 + 2) (.string text)
      obtain ⟨s4, z4⟩ := s3.stored (k * 5 + 3) (.slice B0 np f0)
      obtain ⟨s5, z5⟩ := s4.stored (k * 5 + 4) (.slice B1 nk f1)
      go_roundw
      case rel =>
        refine ⟨k + 1, _, fun i => if i = k then [.int .i64 tag, .int .i64 key, .string text, .slice B0 np f0, .slice B1 nk f1] else hdr i, by omega, by go_num, s5, Lib.hid (fun i hi j u hu => ?_), Lib.hid (fun i x hi hx => ?_), Lib.hid (fun i hi j hj => ?_), ((((HB2.out.setCell hg1 _).setCell hg1 _).setCell hg1 _).setCell hg1 _).setCell hg1 _⟩
        · by_cases hik : i = k
          · subst hik
            simp only [↓reduceIte] at hu
            have hj : j < 5 := (List.getElem?_eq_some_iff.1 hu).1
            refine ⟨hj, ?_⟩
            match j, hj with
            | 0, _ => simp at hu; subst hu; (repeat (rw [List.getElem?_set_ne (by omega)])); rw [show i * 5 + 0 = i * 5 from rfl, List.getElem?_set_self (by first | omega | (simp; omega))]
            | 1, _ => simp at hu; subst hu; (repeat (rw [List.getElem?_set_ne (by omega)])); rw [List.getElem?_set_self (by first | omega | (simp; omega))]
            | 2, _ => simp at hu; subst hu; (repeat (rw [List.getElem?_set_ne (by omega)])); rw [List.getElem?_set_self (by first | omega | (simp; omega))]
            | 3, _ => simp at hu; subst hu; (repeat (rw [List.getElem?_set_ne (by omega)])); rw [List.getElem?_set_self (by first | omega | (simp; omega))]
            | 4, _ => simp at hu; subst hu; rw [List.getElem?_set_self (by first | omega | (simp; omega))]
          · simp only [if_neg hik] at hu
            obtain ⟨hj, h⟩ := HH.out i (by omega) j u hu
            refine ⟨hj, ?_⟩
            rw [List.getElem?_set_ne (by omega), List.getElem?_set_ne (by omega), List.getElem?_set_ne (by omega), List.getElem?_set_ne (by omega), List.getElem?_set_ne (by omega)]
            exact h
        · have hsz : ∀ (W : World) (p : Addr) (u : Value), (W.setCell p u).heap.size = W.heap.size := fun W p u => by simp [World.setCell]
          by_cases hik : i = k
          · subst hik
            simp only [↓reduceIte]
            have e := HXK.out
            rw [hx] at e
            injection e with e
            subst e
            refine TrC.kept (w := w2) (by simp only [hsz]; exact Nat.le_refl _) (fun b hb _ => by rw [Below.heap_setCell _ _ _ b (by simp <;> omega), Below.heap_setCell _ _ _ b (by simp <;> omega), Below.heap_setCell _ _ _ b (by simp <;> omega), Below.heap_setCell _ _ _ b (by simp <;> omega), Below.heap_setCell _ _ _ b (by simp <;> omega)]) ?_
            have h := TrC.shut (lo := wr.heap.size) (t := .mk tag key text ps ks) (c0 := f0) (c1 := f1) HP2.out HPL.out HK2.out
            rw [← HNP.out, ← HNK.out]
            exact h.mono hg2
          · simp only [if_neg hik]
            refine TrC.kept (w := w2) (by simp only [hsz]; exact Nat.le_refl _) (fun b hb _ => by rw [Below.heap_setCell _ _ _ b (by simp <;> omega), Below.heap_setCell _ _ _ b (by simp <;> omega), Below.heap_setCell _ _ _ b (by simp <;> omega), Below.heap_setCell _ _ _ b (by simp <;> omega), Below.heap_setCell _ _ _ b (by simp <;> omega)]) ?_
            exact HT2.out i x (by omega) hx
        · rw [List.getElem?_set_ne (by omega), List.getElem?_set_ne (by omega), List.getElem?_set_ne (by omega), List.getElem?_set_ne (by omega), List.getElem?_set_ne (by omega)]
          exact HU.out i (by omega) j hj
      case measure => simp [intOf]; omega
    · obtain rfl : k = n := by omega
      clear hown
      go_wp2_with fail
      go_ret
      refine ⟨some ⟨g, 0, none⟩, c', rfl, ⟨hdr, fun h0 => ⟨g, 0, rfl, hg1, hg2, fun i hi j u hu => ?_⟩, fun i x hx => (HT.out i x (by rw [← HN.out]; exact (List.getElem?_eq_some_iff.1 hx).1) hx).mono (Nat.le_succ_of_le hg1)⟩, hB⟩
      obtain ⟨hj, h⟩ := HH.out i (by rw [← HN.out]; exact hi) j u hu
      have hi2 : i < k := by rw [← HN.out]; exact hi
      rw [show 0 + i * 5 + j = i * 5 + j by omega, HO2.out.cellAt (i * 5 + j) (by omega)]
      exact h
end Go.Proofs.YtpkhpaioddommaaDoor

namespace Go.Proofs.YtpkhpaioddommaaDoor
open Go.Joins Go.ChangeShapes Go.WideShapes Go.ChangeAt Go.RowKit Go.Deep
set_option linter.unusedVariables false
set_option linter.unusedSimpArgs false

/-- No row is longer than a million. -/
inductive MiT : Tr → Prop
  | mk {tag key : Int} {text : ByteArray} {ps : List Pr} {ks : List Tr} (h1 : ps.length ≤ 1000000) (h3 : ks.length ≤ 1000000) (h4 : ∀ x ∈ ks, MiT x) : MiT (.mk tag key text ps ks)
theorem MiT.open_ {t : Tr} (h : MiT t) : t.ps.length ≤ 1000000 ∧ t.ks.length ≤ 1000000 ∧ ∀ x ∈ t.ks, MiT x := by
  cases h with
  | mk h1 h3 h4 => exact ⟨h1, h3, h4⟩
theorem kids_le_size : ∀ ks : List Tr, ks.length ≤ sizeL ks
  | [] => by simp
  | x :: xs => by
    have := kids_le_size xs
    have := sizeT_pos x
    simp only [sizeL, List.length_cons]
    omega
theorem MiT.of_ok : ∀ t, treeOkB t = true → MiT t := Tr.by_kids fun t ih h => by
  have hs := (treeB_yes (show treeB shownB t = true from h)).2.2
  have hk := fun x hx => ih x hx (kid_valid h hx)
  have hn := node_ok h
  have hp : t.ps.length ≤ 1000000 := by
    rcases hn with ⟨h0, _⟩ | ⟨_, _, _, _, _, h5⟩
    · have h1 := h
      unfold treeOkB at h1
      rw [Bool.and_eq_true, vpT_eq, Bool.and_eq_true] at h1
      have h2 := h1.2.1
      rw [partB_text h0] at h2
      simp only [Bool.and_eq_true] at h2
      have := List.isEmpty_iff.1 h2.2.2.1
      rw [this]
      exact Nat.zero_le _
    · have := runP_len4 h5
      omega
  rw [sizeT_eq] at hs
  have hl := kids_le_size t.ks
  obtain ⟨tag, key, text, ps, ks⟩ := t
  exact .mk hp (by simp only [Tr.ks] at hs hl; omega) hk
set_option maxRecDepth 100000 in
set_option maxHeartbeats 2000000 in
theorem copyTree_any (t : Tr) : MiT t → CpT t := by
  induction t using Tr.by_kids with
  | h t ih =>
  intro hmi A0 A1 c0 c1 w hp hk
  obtain ⟨s1, s3, s4⟩ := hmi.open_
  have HIK := Lib.hid (fun w hw => copyAll_of A1 c1 t.ks.length t.ks (fun x hx => ih x hx (s4 x hx)) w hw rfl s3)
  have HIP := Lib.hid (fun w hw => cloneProps_any A0 c0 t.ps.length t.ps w hw rfl s1)
  have HP := Lib.hid (fun W (hb : Below w.heap.size w W) => hp.below hb)
  have HK := Lib.hid (fun W (hb : Below w.heap.size w W) => hk.below hb)
  have hT : ∀ e w', (∃ B0 f0 B1 f1, e = .returned (.agg #[.int .i64 t.tag, .int .i64 t.key, .string t.text, .slice B0 t.ps.length f0, .slice B1 t.ks.length f1]) ∧ PrL w' B0 t.ps ∧ (∀ b o, B0 = some ⟨b, o, none⟩ → w.heap.size ≤ b) ∧ TrL w' w.heap.size B1 t.ks ∧ Below w.heap.size w w') → CpX t w e w' := fun e w' h => h
  obtain ⟨Q, hQ⟩ : ∃ Q, CpX t w = Q := ⟨_, rfl⟩
  rw [hQ] at hT ⊢
  have HQ := Lib.hid hT
  clear hp hk ih s1 s3 s4 hmi hT hQ
  obtain ⟨tag, key, text, ps, ks⟩ := t
  dsimp only [Tr.tag, Tr.key, Tr.text, Tr.ps, Tr.ks] at *
  have hcs : ∀ n xs w e w', CpsX n xs w e w' → ∃ A' c', e = .returned (.slice A' n c') ∧ TrL w' w.heap.size A' xs ∧ Below w.heap.size w w' := fun _ _ _ _ _ h => h
  obtain ⟨np, hnp⟩ : ∃ q, ps.length = q := ⟨_, rfl⟩
  obtain ⟨nk, hnk⟩ : ∃ q, ks.length = q := ⟨_, rfl⟩
  rw [hnp] at HIP HQ ⊢
  rw [hnk] at HIK HQ ⊢
  clear hnp hnk
  have hb0 : Below w.heap.size w ((w.alloc (.cells #[.int .i64 tag, .int .i64 key, .string text, .slice A0 np c0, .slice A1 nk c1] 26)).alloc (.cells #[.int .i64 0, .int .i64 0, .string ⟨#[]⟩, .slice none 0 0, .slice none 0 0] 26)) := (Below.alloc (Below.refl w.heap.size w) (Nat.le_refl _) _).alloc (by simp) _
  have a0 : ((w.alloc (.cells #[.int .i64 tag, .int .i64 key, .string text, .slice A0 np c0, .slice A1 nk c1] 26)).alloc (.cells #[.int .i64 0, .int .i64 0, .string ⟨#[]⟩, .slice none 0 0, .slice none 0 0] 26)).cell? ⟨w.heap.size, 0, none⟩ = some (.int .i64 tag) := by go_simp
  have a1 : ((w.alloc (.cells #[.int .i64 tag, .int .i64 key, .string text, .slice A0 np c0, .slice A1 nk c1] 26)).alloc (.cells #[.int .i64 0, .int .i64 0, .string ⟨#[]⟩, .slice none 0 0, .slice none 0 0] 26)).cell? ⟨w.heap.size, 1, none⟩ = some (.int .i64 key) := by go_simp
  have a2 : ((w.alloc (.cells #[.int .i64 tag, .int .i64 key, .string text, .slice A0 np c0, .slice A1 nk c1] 26)).alloc (.cells #[.int .i64 0, .int .i64 0, .string ⟨#[]⟩, .slice none 0 0, .slice none 0 0] 26)).cell? ⟨w.heap.size, 2, none⟩ = some (.string text) := by go_simp
  have a3 : ((w.alloc (.cells #[.int .i64 tag, .int .i64 key, .string text, .slice A0 np c0, .slice A1 nk c1] 26)).alloc (.cells #[.int .i64 0, .int .i64 0, .string ⟨#[]⟩, .slice none 0 0, .slice none 0 0] 26)).cell? ⟨w.heap.size, 3, none⟩ = some (.slice A0 np c0) := by go_simp
  have a4 : ((w.alloc (.cells #[.int .i64 tag, .int .i64 key, .string text, .slice A0 np c0, .slice A1 nk c1] 26)).alloc (.cells #[.int .i64 0, .int .i64 0, .string ⟨#[]⟩, .slice none 0 0, .slice none 0 0] 26)).cell? ⟨w.heap.size, 4, none⟩ = some (.slice A1 nk c1) := by go_simp
  have z0 : ((w.alloc (.cells #[.int .i64 tag, .int .i64 key, .string text, .slice A0 np c0, .slice A1 nk c1] 26)).alloc (.cells #[.int .i64 0, .int .i64 0, .string ⟨#[]⟩, .slice none 0 0, .slice none 0 0] 26)).cell? ⟨w.heap.size + 1, 0, none⟩ = some (.int .i64 0) := by go_simp
  have z1 : ((w.alloc (.cells #[.int .i64 tag, .int .i64 key, .string text, .slice A0 np c0, .slice A1 nk c1] 26)).alloc (.cells #[.int .i64 0, .int .i64 0, .string ⟨#[]⟩, .slice none 0 0, .slice none 0 0] 26)).cell? ⟨w.heap.size + 1, 1, none⟩ = some (.int .i64 0) := by go_simp
  have z2 : ((w.alloc (.cells #[.int .i64 tag, .int .i64 key, .string text, .slice A0 np c0, .slice A1 nk c1] 26)).alloc (.cells #[.int .i64 0, .int .i64 0, .string ⟨#[]⟩, .slice none 0 0, .slice none 0 0] 26)).cell? ⟨w.heap.size + 1, 2, none⟩ = some (.string ⟨#[]⟩) := by go_simp
  have z3 : ((w.alloc (.cells #[.int .i64 tag, .int .i64 key, .string text, .slice A0 np c0, .slice A1 nk c1] 26)).alloc (.cells #[.int .i64 0, .int .i64 0, .string ⟨#[]⟩, .slice none 0 0, .slice none 0 0] 26)).cell? ⟨w.heap.size + 1, 3, none⟩ = some (.slice none 0 0) := by go_simp
  have z4 : ((w.alloc (.cells #[.int .i64 tag, .int .i64 key, .string text, .slice A0 np c0, .slice A1 nk c1] 26)).alloc (.cells #[.int .i64 0, .int .i64 0, .string ⟨#[]⟩, .slice none 0 0, .slice none 0 0] 26)).cell? ⟨w.heap.size + 1, 4, none⟩ = some (.slice none 0 0) := by go_simp
  have af : ∀ o, ((w.alloc (.cells #[.int .i64 tag, .int .i64 key, .string text, .slice A0 np c0, .slice A1 nk c1] 26)).alloc (.cells #[.int .i64 0, .int .i64 0, .string ⟨#[]⟩, .slice none 0 0, .slice none 0 0] 26)).frozen? ⟨w.heap.size, o, none⟩ = false := fun o => by go_simp
  have zf : ∀ o, ((w.alloc (.cells #[.int .i64 tag, .int .i64 key, .string text, .slice A0 np c0, .slice A1 nk c1] 26)).alloc (.cells #[.int .i64 0, .int .i64 0, .string ⟨#[]⟩, .slice none 0 0, .slice none 0 0] 26)).frozen? ⟨w.heap.size + 1, o, none⟩ = false := fun o => by go_simp
  have hlt : w.heap.size + 1 < ((w.alloc (.cells #[.int .i64 tag, .int .i64 key, .string text, .slice A0 np c0, .slice A1 nk c1] 26)).alloc (.cells #[.int .i64 0, .int .i64 0, .string ⟨#[]⟩, .slice none 0 0, .slice none 0 0] 26)).heap.size := by simp
  have HB0 := Lib.hid hb0
  obtain ⟨wb, hwb⟩ : ∃ v, ((w.alloc (.cells #[.int .i64 tag, .int .i64 key, .string text, .slice A0 np c0, .slice A1 nk c1] 26)).alloc (.cells #[.int .i64 0, .int .i64 0, .string ⟨#[]⟩, .slice none 0 0, .slice none 0 0] 26)) = v := ⟨_, rfl⟩
  rw [hwb] at a0 a1 a2 a3 a4 z0 z1 z2 z3 z4 af zf hlt HB0
  clear hb0
  go_enter Tryd.func52, Tryd.ntmps52
  go_wp2_with fail
  refine (HIP.out _ (HP.out _ HB0.out)).mono ?_
  rintro e w1 ⟨B0, f0, rfl, hb, hpp, hplo⟩
  replace a0 := (hb.cell (p := ⟨w.heap.size, 0, none⟩) (by first | omega | (simp; omega))).trans a0
  replace a1 := (hb.cell (p := ⟨w.heap.size, 1, none⟩) (by first | omega | (simp; omega))).trans a1
  replace a2 := (hb.cell (p := ⟨w.heap.size, 2, none⟩) (by first | omega | (simp; omega))).trans a2
  replace a3 := (hb.cell (p := ⟨w.heap.size, 3, none⟩) (by first | omega | (simp; omega))).trans a3
  replace a4 := (hb.cell (p := ⟨w.heap.size, 4, none⟩) (by first | omega | (simp; omega))).trans a4
  replace af := fun o => (hb.frozen (p := ⟨w.heap.size, o, none⟩) (by first | omega | (simp; omega))).trans (af o)
  replace z0 := (hb.cell (p := ⟨w.heap.size + 1, 0, none⟩) (by first | omega | (simp; omega))).trans z0
  replace z1 := (hb.cell (p := ⟨w.heap.size + 1, 1, none⟩) (by first | omega | (simp; omega))).trans z1
  replace z2 := (hb.cell (p := ⟨w.heap.size + 1, 2, none⟩) (by first | omega | (simp; omega))).trans z2
  replace z3 := (hb.cell (p := ⟨w.heap.size + 1, 3, none⟩) (by first | omega | (simp; omega))).trans z3
  replace z4 := (hb.cell (p := ⟨w.heap.size + 1, 4, none⟩) (by first | omega | (simp; omega))).trans z4
  replace zf := fun o => (hb.frozen (p := ⟨w.heap.size + 1, o, none⟩) (by first | omega | (simp; omega))).trans (zf o)
  have HB1 := Lib.hid (more HB0.out (Nat.le_refl _) hb)
  have HPP := Lib.hid hpp
  have HPL := Lib.hid (fun b o e => Nat.lt_of_lt_of_le hlt (hplo b o e))
  have hlt1 := Nat.lt_of_lt_of_le hlt hb.size
  clear hb hpp hplo hwb hlt HIP HP
  go_wp2_with fail
  have y0 : (w1.setCell ⟨w.heap.size, 3, none⟩ (.slice B0 np f0)).cell? ⟨w.heap.size, 0, none⟩ = some (.int .i64 tag) := by go_simp
  have y1 : (w1.setCell ⟨w.heap.size, 3, none⟩ (.slice B0 np f0)).cell? ⟨w.heap.size, 1, none⟩ = some (.int .i64 key) := by go_simp
  have y2 : (w1.setCell ⟨w.heap.size, 3, none⟩ (.slice B0 np f0)).cell? ⟨w.heap.size, 2, none⟩ = some (.string text) := by go_simp
  have y3 : (w1.setCell ⟨w.heap.size, 3, none⟩ (.slice B0 np f0)).cell? ⟨w.heap.size, 3, none⟩ = some (.slice B0 np f0) := by go_simp
  have y4 : (w1.setCell ⟨w.heap.size, 3, none⟩ (.slice B0 np f0)).cell? ⟨w.heap.size, 4, none⟩ = some (.slice A1 nk c1) := by go_simp
  replace z0 : (w1.setCell ⟨w.heap.size, 3, none⟩ (.slice B0 np f0)).cell? ⟨w.heap.size + 1, 0, none⟩ = some (.int .i64 0) := by go_simp
  replace z1 : (w1.setCell ⟨w.heap.size, 3, none⟩ (.slice B0 np f0)).cell? ⟨w.heap.size + 1, 1, none⟩ = some (.int .i64 0) := by go_simp
  replace z2 : (w1.setCell ⟨w.heap.size, 3, none⟩ (.slice B0 np f0)).cell? ⟨w.heap.size + 1, 2, none⟩ = some (.string ⟨#[]⟩) := by go_simp
  replace z3 : (w1.setCell ⟨w.heap.size, 3, none⟩ (.slice B0 np f0)).cell? ⟨w.heap.size + 1, 3, none⟩ = some (.slice none 0 0) := by go_simp
  replace z4 : (w1.setCell ⟨w.heap.size, 3, none⟩ (.slice B0 np f0)).cell? ⟨w.heap.size + 1, 4, none⟩ = some (.slice none 0 0) := by go_simp
  replace af : ∀ o, (w1.setCell ⟨w.heap.size, 3, none⟩ (.slice B0 np f0)).frozen? ⟨w.heap.size, o, none⟩ = false := fun o => by simp only [World.frozen?_setCell]; exact af o
  replace zf : ∀ o, (w1.setCell ⟨w.heap.size, 3, none⟩ (.slice B0 np f0)).frozen? ⟨w.heap.size + 1, o, none⟩ = false := fun o => by simp only [World.frozen?_setCell]; exact zf o
  have HB2 := Lib.hid (HB1.out.setCell (p := ⟨w.heap.size, 3, none⟩) (Nat.le_refl _) (.slice B0 np f0))
  have HPP2 := Lib.hid (PrL.kept (lo := w.heap.size + 1 + 1) (w' := (w1.setCell ⟨w.heap.size, 3, none⟩ (.slice B0 np f0))) (by simp [World.setCell]) (fun b hb _ => Below.heap_setCell _ _ _ b (by simp <;> omega)) HPP.out (fun b o e => HPL.out b o e))
  have hlt2 : w.heap.size + 1 < (w1.setCell ⟨w.heap.size, 3, none⟩ (.slice B0 np f0)).heap.size := by simp [World.setCell]; omega
  clear a0 a1 a2 a3 a4 HPP HB1
  have a0 := y0
  have a1 := y1
  have a2 := y2
  have a3 := y3
  have a4 := y4
  clear y0 y1 y2 y3 y4
  obtain ⟨ws, hws⟩ : ∃ ws, (w1.setCell ⟨w.heap.size, 3, none⟩ (.slice B0 np f0)) = ws := ⟨_, rfl⟩
  rw [hws] at a0 a1 a2 a3 a4 z0 z1 z2 z3 z4 af zf HB2 HPP2 hlt2 ⊢
  clear hws
  refine (HIK.out _ (HK.out _ HB2.out)).mono ?_
  intro e w2 hq
  obtain ⟨B1, f1, rfl, hkk, hb⟩ := hcs _ _ _ _ _ hq
  replace a0 := (hb.cell (p := ⟨w.heap.size, 0, none⟩) (by first | omega | (simp; omega))).trans a0
  replace a1 := (hb.cell (p := ⟨w.heap.size, 1, none⟩) (by first | omega | (simp; omega))).trans a1
  replace a2 := (hb.cell (p := ⟨w.heap.size, 2, none⟩) (by first | omega | (simp; omega))).trans a2
  replace a3 := (hb.cell (p := ⟨w.heap.size, 3, none⟩) (by first | omega | (simp; omega))).trans a3
  replace a4 := (hb.cell (p := ⟨w.heap.size, 4, none⟩) (by first | omega | (simp; omega))).trans a4
  replace af := fun o => (hb.frozen (p := ⟨w.heap.size, o, none⟩) (by first | omega | (simp; omega))).trans (af o)
  replace z0 := (hb.cell (p := ⟨w.heap.size + 1, 0, none⟩) (by first | omega | (simp; omega))).trans z0
  replace z1 := (hb.cell (p := ⟨w.heap.size + 1, 1, none⟩) (by first | omega | (simp; omega))).trans z1
  replace z2 := (hb.cell (p := ⟨w.heap.size + 1, 2, none⟩) (by first | omega | (simp; omega))).trans z2
  replace z3 := (hb.cell (p := ⟨w.heap.size + 1, 3, none⟩) (by first | omega | (simp; omega))).trans z3
  replace z4 := (hb.cell (p := ⟨w.heap.size + 1, 4, none⟩) (by first | omega | (simp; omega))).trans z4
  replace zf := fun o => (hb.frozen (p := ⟨w.heap.size + 1, o, none⟩) (by first | omega | (simp; omega))).trans (zf o)
  have HB3 := Lib.hid (more HB2.out (Nat.le_refl _) hb)
  have HPP3 := Lib.hid (HPP2.out.below hb)
  have HKK := Lib.hid hkk
  have hlt3 := Nat.lt_of_lt_of_le hlt2 hb.size
  clear hkk hb HB2 HPP2 hq HIK HK
  go_wp2_with fail
  refine bodyPost_ret (v := .agg #[.int .i64 tag, .int .i64 key, .string text, .slice B0 np f0, .slice B1 nk f1]) (by simp [results, Tryd.results52, go_sem, a0, a1, a2, a3, a4, z0, z1, z2, z3, z4, af, zf]) rfl (HQ.out _ _ ⟨B0, f0, B1, f1, rfl, ?_, fun b o e => Nat.le_of_lt (Nat.lt_trans (Nat.lt_succ_self _) (HPL.out b o e)), ?_, ?_⟩)
  · refine PrL.kept (w := w2) (lo := w.heap.size + 1 + 1) (by simp [World.setCell]) (fun b hb _ => ?_) HPP3.out (fun b o e => HPL.out b o e)
    rw [Below.heap_setCell _ _ _ b (by first | omega | (simp; omega) | (simp <;> omega)), Below.heap_setCell _ _ _ b (by first | omega | (simp; omega) | (simp <;> omega)), Below.heap_setCell _ _ _ b (by first | omega | (simp; omega) | (simp <;> omega)), Below.heap_setCell _ _ _ b (by first | omega | (simp; omega) | (simp <;> omega)), Below.heap_setCell _ _ _ b (by first | omega | (simp; omega) | (simp <;> omega)), Below.heap_setCell _ _ _ b (by first | omega | (simp; omega) | (simp <;> omega))]
  · refine TrL.mono (lo := ws.heap.size) (by omega) (TrL.kept (w := w2) (by simp [World.setCell]) (fun b hb _ => ?_) HKK.out)
    rw [Below.heap_setCell _ _ _ b (by first | omega | (simp; omega) | (simp <;> omega)), Below.heap_setCell _ _ _ b (by first | omega | (simp; omega) | (simp <;> omega)), Below.heap_setCell _ _ _ b (by first | omega | (simp; omega) | (simp <;> omega)), Below.heap_setCell _ _ _ b (by first | omega | (simp; omega) | (simp <;> omega)), Below.heap_setCell _ _ _ b (by first | omega | (simp; omega) | (simp <;> omega)), Below.heap_setCell _ _ _ b (by first | omega | (simp; omega) | (simp <;> omega))]
  · exact ((((((HB3.out.setCell (by first | omega | (simp <;> omega)) _).setCell (by first | omega | (simp <;> omega)) _).setCell (by first | omega | (simp <;> omega)) _).setCell (by first | omega | (simp <;> omega)) _).setCell (by first | omega | (simp <;> omega)) _).setCell (by first | omega | (simp <;> omega)) _)
end Go.Proofs.YtpkhpaioddommaaDoor
