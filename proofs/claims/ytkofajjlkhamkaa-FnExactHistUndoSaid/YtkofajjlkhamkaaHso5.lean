/- The program's own copies of rows, and of a cell. -/
import Derived.Test.YtkofajjlkhamkaaHso4
import Derived.Lib.SliceRun
import Derived.Maps.AppendAt
import Derived.RangeFuncRecord
import Derived.Deep.RegionHeld3
namespace Go.Proofs.Ytkofajjlkhamkaa
open Go.Joins Go.ChangeShapes Go.WideShapes Go.ChangeAt Go.RowKit Go.Deep
set_option linter.unusedVariables false
set_option linter.unusedSimpArgs false

theorem wp_cloneC {w : World} {ops : Array Oper} {rest : List Oper} {o : Oper} {a : Act} {Q : Exit → Act → World → Prop} (hgd : o.guard = none) (s x : Operand)
    (ho : o.op = .call { callee := .builtin .append, args := #[s, x], argTypes := #[27, 27] }) (base b n c : Nat) (hs : a.eval s = .slice (some ⟨b, 0, none⟩) 0 0) (hown : w.ownsRow base 60 2 (.slice (some ⟨b, 0, none⟩) 0 0) 0 [])
    (ad : Addr) (L : List Value) (hx : a.eval x = .slice (some ad) n c) (hl : L.length = n * 2) (hc : ∀ j u, L[j]? = some u → w.cell? (ad.add j) = some u) (h1 : ∀ u ∈ L, u.oneCell' = true) (hn : n ≤ 1000000) (hbase : base ≤ w.heap.size)
    (h : ∀ b' c' w', w'.ownsRow base 60 2 (.slice (some ⟨b', 0, none⟩) n c') n L → w.grownBy w' (some b) → wpList Try.prog ops Q rest (a.put o.dst (.slice (some ⟨b', 0, none⟩) n c')) w') :
    wpList Try.prog ops Q (o :: rest) a w := by
  obtain ⟨i0, hi0, hz0, hz1, hz2⟩ := info_parts infoCe
  refine wpList_append_own_at w hgd s x _ ho base 60 i0 _ 2 48 Try.underlying27 hi0 hz0 hz1 hz2 rfl (by omega) _ 0 [] hs hown ad n c L hx hl hc h1 (by simp only [maxLen]; omega) (by omega) hbase ?_
  intro v' w' hown' hg hnil hat
  rw [Nat.zero_add, List.nil_append] at hown'
  have hform : ∃ b' c', v' = .slice (some ⟨b', 0, none⟩) n c' := by
    rcases hown'.2 with ⟨rfl, _⟩ | ⟨g', cap', cur, rfl, _⟩
    · simp [Value.ownBlock] at hat
    · exact ⟨g', cap', rfl⟩
  obtain ⟨b', c', rfl⟩ := hform
  exact h b' c' w' hown' hg
set_option maxHeartbeats 1000000 in
theorem cloneC_any (A : Option Addr) (n c : Nat) (L : List Value) (w : World) (hl : L.length = n * 2) (h1 : ∀ u ∈ L, u.oneCell' = true) (hc : 0 < n → ∃ ad, A = some ad ∧ ∀ w', Below w.heap.size w w' → ∀ j u, L[j]? = some u → w'.cell? (ad.add j) = some u) (hn : n ≤ 1000000) :
    Calls Try.prog 75 #[.slice A n c] w fun e w' => ∃ A' c', e = .returned (.slice A' n c') ∧ Below w.heap.size w w' ∧ (∀ b o, A' = some ⟨b, o, none⟩ → w.heap.size ≤ b) ∧ (0 < n → ∃ g, A' = some ⟨g, 0, none⟩ ∧ w'.ownsRow w.heap.size 60 2 (.slice (some ⟨g, 0, none⟩) n c') n L) := by
  have HL := Lib.hid hl
  have H1 := Lib.hid h1
  have HN := Lib.hid hn
  have kn := fun (w : World) => Lib.run_eql_slice_nil (P := Try.prog) w 27 60 A n c 0 0 Try.underlying27
  cases A with
  | none =>
    have hn0 : n = 0 := by
      rcases Nat.eq_zero_or_pos n with h | h
      · exact h
      · obtain ⟨ad, e, _⟩ := hc h
        cases e
    subst hn0
    clear hl h1 hc hn
    go_enter Try.func75, Try.ntmps75
    go_wp2_with fail
    go_ret
    exact ⟨none, 0, rfl, Below.refl _ _, fun b o e => (by cases e), fun h => absurd h (by omega)⟩
  | some ad =>
    have hcell : ∀ w', Below w.heap.size w w' → ∀ j u, L[j]? = some u → w'.cell? (ad.add j) = some u := by
      rcases Nat.eq_zero_or_pos n with h | h
      · subst h
        obtain rfl : L = [] := List.eq_nil_of_length_eq_zero (by simpa using hl)
        intro w' _ j u hu
        simp at hu
      · obtain ⟨ad', e, h⟩ := hc h
        cases e
        exact h
    have hb0 := Below.alloc (Below.refl w.heap.size w) (Nat.le_refl _) (.cells #[] 60)
    have HC := Lib.hid (hcell _ hb0)
    have HB := Lib.hid hb0
    have HO := Lib.hid (show (w.alloc (.cells #[] 60)).ownsRow w.heap.size 60 2 (.slice (some ⟨w.heap.size, 0, none⟩) 0 0) 0 [] from ⟨rfl, .inr ⟨w.heap.size, 0, #[], rfl, Nat.le_refl _, World.alloc_heap_new w _, Nat.le_refl _, Nat.zero_le _, rfl, rfl⟩⟩)
    clear hl h1 hc hn hcell hb0
    go_enter Try.func75, Try.ntmps75
    go_wp2_with (at_builtin; refine wp_cloneC rfl (.tmp 5) (.tmp 6) rfl w.heap.size w.heap.size n c rfl HO.out ad L rfl HL.out HC.out H1.out HN.out (by simp) ?_; intro b3 c3 w5 ho hgr; have HO5 := Lib.hid ho; have HB5 := Lib.hid (HB.out.grown hgr (by simp) (fun k hk => by injection hk with hk; omega)); clear ho hgr)
    go_ret
    exact ⟨some ⟨b3, 0, none⟩, c3, rfl, HB5.out, fun b o e => (by cases e; exact (HO5.out.lt _ rfl).1), fun _ => ⟨b3, rfl, HO5.out⟩⟩
theorem wp_cloneS {w : World} {ops : Array Oper} {rest : List Oper} {o : Oper} {a : Act} {Q : Exit → Act → World → Prop} (hgd : o.guard = none) (s x : Operand)
    (ho : o.op = .call { callee := .builtin .append, args := #[s, x], argTypes := #[28, 28] }) (base b n c : Nat) (hs : a.eval s = .slice (some ⟨b, 0, none⟩) 0 0) (hown : w.ownsRow base 27 1 (.slice (some ⟨b, 0, none⟩) 0 0) 0 [])
    (ad : Addr) (L : List Value) (hx : a.eval x = .slice (some ad) n c) (hl : L.length = n * 1) (hc : ∀ j u, L[j]? = some u → w.cell? (ad.add j) = some u) (h1 : ∀ u ∈ L, u.oneCell' = true) (hn : n ≤ 1000000) (hbase : base ≤ w.heap.size)
    (h : ∀ b' c' w', w'.ownsRow base 27 1 (.slice (some ⟨b', 0, none⟩) n c') n L → w.grownBy w' (some b) → wpList Try.prog ops Q rest (a.put o.dst (.slice (some ⟨b', 0, none⟩) n c')) w') :
    wpList Try.prog ops Q (o :: rest) a w := by
  obtain ⟨i0, hi0, hz0, hz1, hz2⟩ := info_parts infoSt
  refine wpList_append_own_at w hgd s x _ ho base 27 i0 _ 1 24 Try.underlying28 hi0 hz0 hz1 hz2 rfl (by omega) _ 0 [] hs hown ad n c L hx hl hc h1 (by simp only [maxLen]; omega) (by omega) hbase ?_
  intro v' w' hown' hg hnil hat
  rw [Nat.zero_add, List.nil_append] at hown'
  have hform : ∃ b' c', v' = .slice (some ⟨b', 0, none⟩) n c' := by
    rcases hown'.2 with ⟨rfl, _⟩ | ⟨g', cap', cur, rfl, _⟩
    · simp [Value.ownBlock] at hat
    · exact ⟨g', cap', rfl⟩
  obtain ⟨b', c', rfl⟩ := hform
  exact h b' c' w' hown' hg
set_option maxHeartbeats 1000000 in
theorem cloneS_any (A : Option Addr) (n c : Nat) (L : List Value) (w : World) (hl : L.length = n * 1) (h1 : ∀ u ∈ L, u.oneCell' = true) (hc : 0 < n → ∃ ad, A = some ad ∧ ∀ w', Below w.heap.size w w' → ∀ j u, L[j]? = some u → w'.cell? (ad.add j) = some u) (hn : n ≤ 1000000) :
    Calls Try.prog 60 #[.slice A n c] w fun e w' => ∃ A' c', e = .returned (.slice A' n c') ∧ Below w.heap.size w w' ∧ (∀ b o, A' = some ⟨b, o, none⟩ → w.heap.size ≤ b) ∧ (0 < n → ∃ g, A' = some ⟨g, 0, none⟩ ∧ w'.ownsRow w.heap.size 27 1 (.slice (some ⟨g, 0, none⟩) n c') n L) := by
  have HL := Lib.hid hl
  have H1 := Lib.hid h1
  have HN := Lib.hid hn
  have kn := fun (w : World) => Lib.run_eql_slice_nil (P := Try.prog) w 28 27 A n c 0 0 Try.underlying28
  cases A with
  | none =>
    have hn0 : n = 0 := by
      rcases Nat.eq_zero_or_pos n with h | h
      · exact h
      · obtain ⟨ad, e, _⟩ := hc h
        cases e
    subst hn0
    clear hl h1 hc hn
    go_enter Try.func60, Try.ntmps60
    go_wp2_with fail
    go_ret
    exact ⟨none, 0, rfl, Below.refl _ _, fun b o e => (by cases e), fun h => absurd h (by omega)⟩
  | some ad =>
    have hcell : ∀ w', Below w.heap.size w w' → ∀ j u, L[j]? = some u → w'.cell? (ad.add j) = some u := by
      rcases Nat.eq_zero_or_pos n with h | h
      · subst h
        obtain rfl : L = [] := List.eq_nil_of_length_eq_zero (by simpa using hl)
        intro w' _ j u hu
        simp at hu
      · obtain ⟨ad', e, h⟩ := hc h
        cases e
        exact h
    have hb0 := Below.alloc (Below.refl w.heap.size w) (Nat.le_refl _) (.cells #[] 27)
    have HC := Lib.hid (hcell _ hb0)
    have HB := Lib.hid hb0
    have HO := Lib.hid (show (w.alloc (.cells #[] 27)).ownsRow w.heap.size 27 1 (.slice (some ⟨w.heap.size, 0, none⟩) 0 0) 0 [] from ⟨rfl, .inr ⟨w.heap.size, 0, #[], rfl, Nat.le_refl _, World.alloc_heap_new w _, Nat.le_refl _, Nat.zero_le _, rfl, rfl⟩⟩)
    clear hl h1 hc hn hcell hb0
    go_enter Try.func60, Try.ntmps60
    go_wp2_with (at_builtin; refine wp_cloneS rfl (.tmp 5) (.tmp 6) rfl w.heap.size w.heap.size n c rfl HO.out ad L rfl HL.out HC.out H1.out HN.out (by simp) ?_; intro b3 c3 w5 ho hgr; have HO5 := Lib.hid ho; have HB5 := Lib.hid (HB.out.grown hgr (by simp) (fun k hk => by injection hk with hk; omega)); clear ho hgr)
    go_ret
    exact ⟨some ⟨b3, 0, none⟩, c3, rfl, HB5.out, fun b o e => (by cases e; exact (HO5.out.lt _ rfl).1), fun _ => ⟨b3, rfl, HO5.out⟩⟩
theorem wp_cloneSl {w : World} {ops : Array Oper} {rest : List Oper} {o : Oper} {a : Act} {Q : Exit → Act → World → Prop} (hgd : o.guard = none) (s x : Operand)
    (ho : o.op = .call { callee := .builtin .append, args := #[s, x], argTypes := #[57, 57] }) (base b n c : Nat) (hs : a.eval s = .slice (some ⟨b, 0, none⟩) 0 0) (hown : w.ownsRow base 80 2 (.slice (some ⟨b, 0, none⟩) 0 0) 0 [])
    (ad : Addr) (L : List Value) (hx : a.eval x = .slice (some ad) n c) (hl : L.length = n * 2) (hc : ∀ j u, L[j]? = some u → w.cell? (ad.add j) = some u) (h1 : ∀ u ∈ L, u.oneCell' = true) (hn : n ≤ 1000000) (hbase : base ≤ w.heap.size)
    (h : ∀ b' c' w', w'.ownsRow base 80 2 (.slice (some ⟨b', 0, none⟩) n c') n L → w.grownBy w' (some b) → wpList Try.prog ops Q rest (a.put o.dst (.slice (some ⟨b', 0, none⟩) n c')) w') :
    wpList Try.prog ops Q (o :: rest) a w := by
  obtain ⟨i0, hi0, hz0, hz1, hz2⟩ := info_parts infoSl
  refine wpList_append_own_at w hgd s x _ ho base 80 i0 _ 2 16 Try.underlying57 hi0 hz0 hz1 hz2 rfl (by omega) _ 0 [] hs hown ad n c L hx hl hc h1 (by simp only [maxLen]; omega) (by omega) hbase ?_
  intro v' w' hown' hg hnil hat
  rw [Nat.zero_add, List.nil_append] at hown'
  have hform : ∃ b' c', v' = .slice (some ⟨b', 0, none⟩) n c' := by
    rcases hown'.2 with ⟨rfl, _⟩ | ⟨g', cap', cur, rfl, _⟩
    · simp [Value.ownBlock] at hat
    · exact ⟨g', cap', rfl⟩
  obtain ⟨b', c', rfl⟩ := hform
  exact h b' c' w' hown' hg
set_option maxHeartbeats 1000000 in
theorem cloneSl_any (A : Option Addr) (n c : Nat) (L : List Value) (w : World) (hl : L.length = n * 2) (h1 : ∀ u ∈ L, u.oneCell' = true) (hc : 0 < n → ∃ ad, A = some ad ∧ ∀ w', Below w.heap.size w w' → ∀ j u, L[j]? = some u → w'.cell? (ad.add j) = some u) (hn : n ≤ 1000000) :
    Calls Try.prog 76 #[.slice A n c] w fun e w' => ∃ A' c', e = .returned (.slice A' n c') ∧ Below w.heap.size w w' ∧ (∀ b o, A' = some ⟨b, o, none⟩ → w.heap.size ≤ b) ∧ (0 < n → ∃ g, A' = some ⟨g, 0, none⟩ ∧ w'.ownsRow w.heap.size 80 2 (.slice (some ⟨g, 0, none⟩) n c') n L) := by
  have HL := Lib.hid hl
  have H1 := Lib.hid h1
  have HN := Lib.hid hn
  have kn := fun (w : World) => Lib.run_eql_slice_nil (P := Try.prog) w 57 80 A n c 0 0 Try.underlying57
  cases A with
  | none =>
    have hn0 : n = 0 := by
      rcases Nat.eq_zero_or_pos n with h | h
      · exact h
      · obtain ⟨ad, e, _⟩ := hc h
        cases e
    subst hn0
    clear hl h1 hc hn
    go_enter Try.func76, Try.ntmps76
    go_wp2_with fail
    go_ret
    exact ⟨none, 0, rfl, Below.refl _ _, fun b o e => (by cases e), fun h => absurd h (by omega)⟩
  | some ad =>
    have hcell : ∀ w', Below w.heap.size w w' → ∀ j u, L[j]? = some u → w'.cell? (ad.add j) = some u := by
      rcases Nat.eq_zero_or_pos n with h | h
      · subst h
        obtain rfl : L = [] := List.eq_nil_of_length_eq_zero (by simpa using hl)
        intro w' _ j u hu
        simp at hu
      · obtain ⟨ad', e, h⟩ := hc h
        cases e
        exact h
    have hb0 := Below.alloc (Below.refl w.heap.size w) (Nat.le_refl _) (.cells #[] 80)
    have HC := Lib.hid (hcell _ hb0)
    have HB := Lib.hid hb0
    have HO := Lib.hid (show (w.alloc (.cells #[] 80)).ownsRow w.heap.size 80 2 (.slice (some ⟨w.heap.size, 0, none⟩) 0 0) 0 [] from ⟨rfl, .inr ⟨w.heap.size, 0, #[], rfl, Nat.le_refl _, World.alloc_heap_new w _, Nat.le_refl _, Nat.zero_le _, rfl, rfl⟩⟩)
    clear hl h1 hc hn hcell hb0
    go_enter Try.func76, Try.ntmps76
    go_wp2_with (at_builtin; refine wp_cloneSl rfl (.tmp 5) (.tmp 6) rfl w.heap.size w.heap.size n c rfl HO.out ad L rfl HL.out HC.out H1.out HN.out (by simp) ?_; intro b3 c3 w5 ho hgr; have HO5 := Lib.hid ho; have HB5 := Lib.hid (HB.out.grown hgr (by simp) (fun k hk => by injection hk with hk; omega)); clear ho hgr)
    go_ret
    exact ⟨some ⟨b3, 0, none⟩, c3, rfl, HB5.out, fun b o e => (by cases e; exact (HO5.out.lt _ rfl).1), fun _ => ⟨b3, rfl, HO5.out⟩⟩
theorem wp_cloneVa {w : World} {ops : Array Oper} {rest : List Oper} {o : Oper} {a : Act} {Q : Exit → Act → World → Prop} (hgd : o.guard = none) (s x : Operand)
    (ho : o.op = .call { callee := .builtin .append, args := #[s, x], argTypes := #[58, 58] }) (base b n c : Nat) (hs : a.eval s = .slice (some ⟨b, 0, none⟩) 0 0) (hown : w.ownsRow base 82 3 (.slice (some ⟨b, 0, none⟩) 0 0) 0 [])
    (ad : Addr) (L : List Value) (hx : a.eval x = .slice (some ad) n c) (hl : L.length = n * 3) (hc : ∀ j u, L[j]? = some u → w.cell? (ad.add j) = some u) (h1 : ∀ u ∈ L, u.oneCell' = true) (hn : n ≤ 1000000) (hbase : base ≤ w.heap.size)
    (h : ∀ b' c' w', w'.ownsRow base 82 3 (.slice (some ⟨b', 0, none⟩) n c') n L → w.grownBy w' (some b) → wpList Try.prog ops Q rest (a.put o.dst (.slice (some ⟨b', 0, none⟩) n c')) w') :
    wpList Try.prog ops Q (o :: rest) a w := by
  obtain ⟨i0, hi0, hz0, hz1, hz2⟩ := info_parts infoVa
  refine wpList_append_own_at w hgd s x _ ho base 82 i0 _ 3 32 Try.underlying58 hi0 hz0 hz1 hz2 rfl (by omega) _ 0 [] hs hown ad n c L hx hl hc h1 (by simp only [maxLen]; omega) (by omega) hbase ?_
  intro v' w' hown' hg hnil hat
  rw [Nat.zero_add, List.nil_append] at hown'
  have hform : ∃ b' c', v' = .slice (some ⟨b', 0, none⟩) n c' := by
    rcases hown'.2 with ⟨rfl, _⟩ | ⟨g', cap', cur, rfl, _⟩
    · simp [Value.ownBlock] at hat
    · exact ⟨g', cap', rfl⟩
  obtain ⟨b', c', rfl⟩ := hform
  exact h b' c' w' hown' hg
set_option maxHeartbeats 1000000 in
theorem cloneVa_any (A : Option Addr) (n c : Nat) (L : List Value) (w : World) (hl : L.length = n * 3) (h1 : ∀ u ∈ L, u.oneCell' = true) (hc : 0 < n → ∃ ad, A = some ad ∧ ∀ w', Below w.heap.size w w' → ∀ j u, L[j]? = some u → w'.cell? (ad.add j) = some u) (hn : n ≤ 1000000) :
    Calls Try.prog 77 #[.slice A n c] w fun e w' => ∃ A' c', e = .returned (.slice A' n c') ∧ Below w.heap.size w w' ∧ (∀ b o, A' = some ⟨b, o, none⟩ → w.heap.size ≤ b) ∧ (0 < n → ∃ g, A' = some ⟨g, 0, none⟩ ∧ w'.ownsRow w.heap.size 82 3 (.slice (some ⟨g, 0, none⟩) n c') n L) := by
  have HL := Lib.hid hl
  have H1 := Lib.hid h1
  have HN := Lib.hid hn
  have kn := fun (w : World) => Lib.run_eql_slice_nil (P := Try.prog) w 58 82 A n c 0 0 Try.underlying58
  cases A with
  | none =>
    have hn0 : n = 0 := by
      rcases Nat.eq_zero_or_pos n with h | h
      · exact h
      · obtain ⟨ad, e, _⟩ := hc h
        cases e
    subst hn0
    clear hl h1 hc hn
    go_enter Try.func77, Try.ntmps77
    go_wp2_with fail
    go_ret
    exact ⟨none, 0, rfl, Below.refl _ _, fun b o e => (by cases e), fun h => absurd h (by omega)⟩
  | some ad =>
    have hcell : ∀ w', Below w.heap.size w w' → ∀ j u, L[j]? = some u → w'.cell? (ad.add j) = some u := by
      rcases Nat.eq_zero_or_pos n with h | h
      · subst h
        obtain rfl : L = [] := List.eq_nil_of_length_eq_zero (by simpa using hl)
        intro w' _ j u hu
        simp at hu
      · obtain ⟨ad', e, h⟩ := hc h
        cases e
        exact h
    have hb0 := Below.alloc (Below.refl w.heap.size w) (Nat.le_refl _) (.cells #[] 82)
    have HC := Lib.hid (hcell _ hb0)
    have HB := Lib.hid hb0
    have HO := Lib.hid (show (w.alloc (.cells #[] 82)).ownsRow w.heap.size 82 3 (.slice (some ⟨w.heap.size, 0, none⟩) 0 0) 0 [] from ⟨rfl, .inr ⟨w.heap.size, 0, #[], rfl, Nat.le_refl _, World.alloc_heap_new w _, Nat.le_refl _, Nat.zero_le _, rfl, rfl⟩⟩)
    clear hl h1 hc hn hcell hb0
    go_enter Try.func77, Try.ntmps77
    go_wp2_with (at_builtin; refine wp_cloneVa rfl (.tmp 5) (.tmp 6) rfl w.heap.size w.heap.size n c rfl HO.out ad L rfl HL.out HC.out H1.out HN.out (by simp) ?_; intro b3 c3 w5 ho hgr; have HO5 := Lib.hid ho; have HB5 := Lib.hid (HB.out.grown hgr (by simp) (fun k hk => by injection hk with hk; omega)); clear ho hgr)
    go_ret
    exact ⟨some ⟨b3, 0, none⟩, c3, rfl, HB5.out, fun b o e => (by cases e; exact (HO5.out.lt _ rfl).1), fun _ => ⟨b3, rfl, HO5.out⟩⟩
theorem flat_lenG {α : Type} {c : α → List Value} {m : Nat} (hc : ∀ x, (c x).length = m) : ∀ ys : List α, (ys.flatMap c).length = ys.length * m
  | [] => by simp
  | y :: ys => by rw [List.flatMap_cons, List.length_append, flat_lenG hc ys, hc, List.length_cons, Nat.add_mul]; omega
theorem flat_atG {α : Type} {c : α → List Value} {m : Nat} (hc : ∀ x, (c x).length = m) {x : α} : ∀ (ys : List α) (i r : Nat), ys[i]? = some x → r < m → (ys.flatMap c)[i * m + r]? = (c x)[r]?
  | [], i, r, h, _ => by simp at h
  | y :: ys, 0, r, h, hr => by
    simp at h
    subst h
    rw [List.flatMap_cons, Nat.zero_mul, Nat.zero_add, List.getElem?_append_left (by rw [hc]; exact hr)]
  | y :: ys, i + 1, r, h, hr => by
    simp at h
    rw [List.flatMap_cons, List.getElem?_append_right (by rw [hc, Nat.add_mul]; omega), hc, show (i + 1) * m + r - m = i * m + r by rw [Nat.add_mul]; omega]
    exact flat_atG hc ys i r h hr
/-- What lies in memory may be copied. -/
theorem lie_cells {α : Type} {c : α → List Value} {m : Nat} (hm : 0 < m) (hc : ∀ x, (c x).length = m) {w : World} {A : Option Addr} {ps : List α} (h : Lie c m w A ps) : 0 < ps.length → ∃ ad, A = some ad ∧ ∀ w', Below w.heap.size w w' → ∀ j u, (ps.flatMap c)[j]? = some u → w'.cell? (ad.add j) = some u := fun h0 => by
  obtain ⟨b, off, rfl, hlt, hcl⟩ := h h0
  refine ⟨_, rfl, fun w' hb j u hu => ?_⟩
  have hj : j < ps.length * m := by rw [← flat_lenG hc]; exact (List.getElem?_eq_some_iff.1 hu).1
  have hjm : j / m < ps.length := (Nat.div_lt_iff_lt_mul hm).2 hj
  obtain ⟨x, hx⟩ := at_some hjm
  have hu2 := flat_atG hc ps (j / m) (j % m) hx (Nat.mod_lt _ hm)
  have hdm : j / m * m + j % m = j := Nat.div_add_mod' j m
  rw [hdm, hu] at hu2
  have := hcl (j / m) x hx (j % m) u hu2.symm
  rw [show off + j / m * m + j % m = off + j by omega] at this
  have ha : ((⟨b, off, none⟩ : Addr).add j) = ⟨b, off + j, none⟩ := by simp [Addr.add] <;> (intros; omega)
  rw [ha]
  exact (hb.cell (p := ⟨b, off + j, none⟩) hlt).trans this
theorem sl_one (ys : List Sl) : ∀ u ∈ ys.flatMap Sl.cells, u.oneCell' = true := by
  intro u hu
  obtain ⟨y, _, hy⟩ := List.mem_flatMap.1 hu
  simp only [Sl.cells, List.mem_cons, List.not_mem_nil, or_false] at hy
  rcases hy with rfl | rfl <;> rfl
theorem va_one (ys : List Va) : ∀ u ∈ ys.flatMap Va.cells, u.oneCell' = true := by
  intro u hu
  obtain ⟨y, _, hy⟩ := List.mem_flatMap.1 hu
  simp only [Va.cells, List.mem_cons, List.not_mem_nil, or_false] at hy
  rcases hy with rfl | rfl | rfl <;> rfl
theorem cloneSlots_any (A : Option Addr) (c n : Nat) (xs : List Sl) (w : World) (hp : SlL w A xs) (hn : xs.length = n) (hl : n ≤ 1000000) :
    Calls Try.prog 76 #[.slice A n c] w fun e w' => ∃ A' c', e = .returned (.slice A' n c') ∧ Below w.heap.size w w' ∧ FlR Sl.cells 2 80 w' w.heap.size w'.heap.size A' c' xs := by
  refine (cloneSl_any A n c (xs.flatMap Sl.cells) w (by rw [flat_lenG (m := 2) (fun x => rfl), hn]) (sl_one xs) (fun h => lie_cells (c := Sl.cells) (m := 2) (ps := xs) (by decide) (fun x => rfl) hp (by rw [hn]; exact h)) hl).mono ?_
  rintro e w' ⟨A', c', rfl, hb, hlo, h⟩
  refine ⟨A', c', rfl, hb, fun h0 => ?_⟩
  obtain ⟨g, rfl, ho⟩ := h (by omega)
  have hg := ho.lt _ rfl
  rw [← hn] at ho
  exact ⟨g, rfl, hg.1, hg.2, World.ownsRow.mono ho (Nat.zero_le _)⟩
theorem cloneVals_any (A : Option Addr) (c n : Nat) (xs : List Va) (w : World) (hp : VaL w A xs) (hn : xs.length = n) (hl : n ≤ 1000000) :
    Calls Try.prog 77 #[.slice A n c] w fun e w' => ∃ A' c', e = .returned (.slice A' n c') ∧ Below w.heap.size w w' ∧ FlR Va.cells 3 82 w' w.heap.size w'.heap.size A' c' xs := by
  refine (cloneVa_any A n c (xs.flatMap Va.cells) w (by rw [flat_lenG (m := 3) (fun x => rfl), hn]) (va_one xs) (fun h => lie_cells (c := Va.cells) (m := 3) (ps := xs) (by decide) (fun x => rfl) hp (by rw [hn]; exact h)) hl).mono ?_
  rintro e w' ⟨A', c', rfl, hb, hlo, h⟩
  refine ⟨A', c', rfl, hb, fun h0 => ?_⟩
  obtain ⟨g, rfl, ho⟩ := h (by omega)
  have hg := ho.lt _ rfl
  rw [← hn] at ho
  exact ⟨g, rfl, hg.1, hg.2, World.ownsRow.mono ho (Nat.zero_le _)⟩
def CcX (x : Ce) (u v : Nat) (w : World) (e : Ending) (w' : World) : Prop :=
  ∃ B0 f0 B1 f1 m, e = .returned (.agg #[.slice B0 u f0, .slice B1 v f1]) ∧ w.heap.size ≤ m ∧ m ≤ w'.heap.size ∧ FlR Sl.cells 2 80 w' w.heap.size m B0 f0 x.pl ∧ FlR Va.cells 3 82 w' m w'.heap.size B1 f1 x.st ∧ Below w.heap.size w w'
theorem FlR.mono {α : Type} {c : α → List Value} {m : Nat} {e : TypeId} {w : World} {lo hi lo' hi' cap : Nat} {A : Option Addr} {xs : List α} (h : FlR c m e w lo hi A cap xs) (h1 : lo' ≤ lo) (h2 : hi ≤ hi') : FlR c m e w lo' hi' A cap xs := fun h0 => by
  obtain ⟨g, rfl, a, b, ho⟩ := h h0
  exact ⟨g, rfl, by omega, by omega, ho⟩
theorem FlR.below {α : Type} {c : α → List Value} {m : Nat} {e : TypeId} {w w' : World} {lo hi cap : Nat} {A : Option Addr} {xs : List α} (h : FlR c m e w lo hi A cap xs) (hb : Below w.heap.size w w') : FlR c m e w' lo hi A cap xs := h.turn (Turn.of_below (lo := hi) (hi := hi) hb) (.inl (Nat.le_refl _))
theorem CcX.front {x : Ce} {u v : Nat} {w W w' : World} {e : Ending} (h : CcX x u v W e w') (hb : Below w.heap.size w W) : CcX x u v w e w' := by
  obtain ⟨B0, f0, B1, f1, m, rfl, h1, h2, h3, h4, h5⟩ := h
  exact ⟨B0, f0, B1, f1, m, rfl, Nat.le_trans hb.size h1, h2, h3.mono hb.size (Nat.le_refl _), h4, hb.trans (h5.mono hb.size)⟩
set_option maxRecDepth 100000 in
set_option maxHeartbeats 2000000 in
theorem icopyCell_any (A0 A1 : Option Addr) (c0 c1 u v : Nat) (x : Ce) (w : World) (hx : SlL w A0 x.pl) (hy : VaL w A1 x.st) (hu : x.pl.length = u) (hv : x.st.length = v) (hl0 : u ≤ 1000000) (hl1 : v ≤ 1000000) :
    Calls Try.prog 59 #[.agg #[.slice A0 u c0, .slice A1 v c1]] w (CcX x u v w) := by
  have hb0 : Below w.heap.size w ((w.alloc (.cells #[.slice A0 u c0, .slice A1 v c1] 60)).alloc (.cells #[.slice none 0 0, .slice none 0 0] 60)) := by go_grown
  have a0 : ((w.alloc (.cells #[.slice A0 u c0, .slice A1 v c1] 60)).alloc (.cells #[.slice none 0 0, .slice none 0 0] 60)).cell? ⟨w.heap.size, 0, none⟩ = some (.slice A0 u c0) := by go_simp
  have z0 : ((w.alloc (.cells #[.slice A0 u c0, .slice A1 v c1] 60)).alloc (.cells #[.slice none 0 0, .slice none 0 0] 60)).cell? ⟨w.heap.size + 1, 0, none⟩ = some (.slice none 0 0) := by go_simp
  have a1 : ((w.alloc (.cells #[.slice A0 u c0, .slice A1 v c1] 60)).alloc (.cells #[.slice none 0 0, .slice none 0 0] 60)).cell? ⟨w.heap.size, 1, none⟩ = some (.slice A1 v c1) := by go_simp
  have z1 : ((w.alloc (.cells #[.slice A0 u c0, .slice A1 v c1] 60)).alloc (.cells #[.slice none 0 0, .slice none 0 0] 60)).cell? ⟨w.heap.size + 1, 1, none⟩ = some (.slice none 0 0) := by go_simp
  have zf : ∀ o, ((w.alloc (.cells #[.slice A0 u c0, .slice A1 v c1] 60)).alloc (.cells #[.slice none 0 0, .slice none 0 0] 60)).frozen? ⟨w.heap.size + 1, o, none⟩ = false := fun o => by go_simp
  have hz : ((w.alloc (.cells #[.slice A0 u c0, .slice A1 v c1] 60)).alloc (.cells #[.slice none 0 0, .slice none 0 0] 60)).heap.size = w.heap.size + 2 := by simp
  have K1 := Lib.hid (fun w h => cloneSlots_any A0 c0 u x.pl w h hu hl0)
  have K2 := Lib.hid (fun w h => cloneVals_any A1 c1 v x.st w h hv hl1)
  have hbd : Below ((w.alloc (.cells #[.slice A0 u c0, .slice A1 v c1] 60)).alloc (.cells #[.slice none 0 0, .slice none 0 0] 60)).heap.size ((w.alloc (.cells #[.slice A0 u c0, .slice A1 v c1] 60)).alloc (.cells #[.slice none 0 0, .slice none 0 0] 60)) ((w.alloc (.cells #[.slice A0 u c0, .slice A1 v c1] 60)).alloc (.cells #[.slice none 0 0, .slice none 0 0] 60)).drew := Below.drew (Below.refl _ _)
  have hHeld0 : (fun w' : World => w'.cell? ⟨w.heap.size, 0, none⟩ = some (.slice A0 u c0) ∧ w'.cell? ⟨w.heap.size, 1, none⟩ = some (.slice A1 v c1)) ((w.alloc (.cells #[.slice A0 u c0, .slice A1 v c1] 60)).alloc (.cells #[.slice none 0 0, .slice none 0 0] 60)).drew := ⟨a0, a1⟩
  have HX := Lib.hid ((hx.below hb0).below hbd)
  have HY := Lib.hid ((hy.below hb0).below hbd)
  have HB := Lib.hid (more hb0 (Nat.le_refl _) hbd)
  go_enter Try.func59, Try.ntmps59
  go_wp2_with fail
  refine wp_region_held_drew (S := fun w' : World => w'.cell? ⟨w.heap.size, 0, none⟩ = some (.slice A0 u c0) ∧ w'.cell? ⟨w.heap.size, 1, none⟩ = some (.slice A1 v c1)) (by kernel_rfl) hHeld0 (fun hHeld => ?_)
  clear hHeld0 hx hy hu hv
  replace z0 := (hbd.cell (p := ⟨w.heap.size + 1, 0, none⟩) (by show w.heap.size + 1 < _; omega)).trans z0
  replace z1 := (hbd.cell (p := ⟨w.heap.size + 1, 1, none⟩) (by show w.heap.size + 1 < _; omega)).trans z1
  replace zf := fun o => (hbd.frozen (p := ⟨w.heap.size + 1, o, none⟩) (by show w.heap.size + 1 < _; omega)).trans (zf o)
  have hzd : ((w.alloc (.cells #[.slice A0 u c0, .slice A1 v c1] 60)).alloc (.cells #[.slice none 0 0, .slice none 0 0] 60)).drew.heap.size = w.heap.size + 2 := hz
  clear hbd hb0 hz a0 a1
  obtain ⟨wd, hwd⟩ : ∃ q, ((w.alloc (.cells #[.slice A0 u c0, .slice A1 v c1] 60)).alloc (.cells #[.slice none 0 0, .slice none 0 0] 60)).drew = q := ⟨_, rfl⟩
  rw [hwd] at HX HY HB hHeld z0 z1 zf hzd ⊢
  have HZD := Lib.hid hzd
  have hlt0 : w.heap.size + 1 < wd.heap.size := by omega
  clear hwd hzd
  refine wpAnyH_take (i := 0) (oi := _) (v := ?_) rfl (by kernel_rfl) (by kernel_rfl) (by kernel_rfl) (fun _ _ _ h => h) (Or.inl ⟨by kernel_rfl, ?_⟩) (by assumption) ?_
  rotate_left
  · (intro w hSw; (try dsimp only at hSw); go_simp)
    try with_reducible rfl
  (try simp only [Act.put, List.getElem_toArray, List.getElem_cons_zero, List.getElem_cons_succ, List.setIfInBounds_toArray, List.set_cons_zero, List.set_cons_succ])
  refine wpAnyH_take (i := 1) (oi := _) (v := ?_) rfl (by kernel_rfl) (by kernel_rfl) (by kernel_rfl) (fun _ _ _ h => h) (Or.inl ⟨by kernel_rfl, ?_⟩) (by assumption) ?_
  rotate_left
  · (intro w hSw; (try dsimp only at hSw); go_simp)
    try with_reducible rfl
  (try simp only [Act.put, List.getElem_toArray, List.getElem_cons_zero, List.getElem_cons_succ, List.setIfInBounds_toArray, List.set_cons_zero, List.set_cons_succ])
  refine wpAnyH_take (i := 3) (oi := _) (v := ?_) rfl (by kernel_rfl) (by kernel_rfl) (by kernel_rfl) (fun _ _ _ h => h) (Or.inl ⟨by kernel_rfl, ?_⟩) (by assumption) ?_
  rotate_left
  · (intro w hSw; (try dsimp only at hSw); go_simp)
    try with_reducible rfl
  (try simp only [Act.put, List.getElem_toArray, List.getElem_cons_zero, List.getElem_cons_succ, List.setIfInBounds_toArray, List.set_cons_zero, List.set_cons_succ])
  refine wpAnyH_take (i := 4) (oi := _) (v := ?_) rfl (by kernel_rfl) (by kernel_rfl) (by kernel_rfl) (fun _ _ _ h => h) (Or.inl ⟨by kernel_rfl, ?_⟩) (by assumption) ?_
  rotate_left
  · (intro w hSw; (try dsimp only at hSw); go_simp)
    try with_reducible rfl
  (try simp only [Act.put, List.getElem_toArray, List.getElem_cons_zero, List.getElem_cons_succ, List.setIfInBounds_toArray, List.set_cons_zero, List.set_cons_succ])
  refine wpAnyH_ready (rs := [2]) (by kernel_rfl) (by simp) ?_
  refine AllReadyH.cons (o := _) rfl (fun K hK => ?_) AllReadyH.nil
  go_simp
  refine (K1.out _ HX.out).mono ?_
  rintro e w1 ⟨B0, f0, rfl, hb, hf⟩
  have HF := Lib.hid hf
  have HY1 := Lib.hid (HY.out.below hb)
  have HB1 := Lib.hid (more HB.out (Nat.le_refl _) hb)
  replace z0 := (hb.cell (p := ⟨w.heap.size + 1, 0, none⟩) hlt0).trans z0
  replace z1 := (hb.cell (p := ⟨w.heap.size + 1, 1, none⟩) hlt0).trans z1
  replace zf := fun o => (hb.frozen (p := ⟨w.heap.size + 1, o, none⟩) hlt0).trans (zf o)
  have hHeld3 : (fun w' : World => w'.cell? ⟨w.heap.size, 0, none⟩ = some (.slice A0 u c0) ∧ w'.cell? ⟨w.heap.size, 1, none⟩ = some (.slice A1 v c1)) w1 := ⟨(hb.cell (p := ⟨w.heap.size, 0, none⟩) (by show w.heap.size < _; omega)).trans hHeld.1, (hb.cell (p := ⟨w.heap.size, 1, none⟩) (by show w.heap.size < _; omega)).trans hHeld.2⟩
  refine hK.out _ _ hHeld3 (fun hHeld2 => ?_)
  have hlt1 := Nat.lt_of_lt_of_le hlt0 hb.size
  have HL1 := Lib.hid hb.size
  clear hHeld2 hHeld hK K hb hf HX HY HB
  have hHeld := hHeld3
  clear hHeld3
  (try simp only [Act.put, List.getElem_toArray, List.getElem_cons_zero, List.getElem_cons_succ, List.setIfInBounds_toArray, List.set_cons_zero, List.set_cons_succ])
  refine wpAnyH_ready (rs := [5]) (by kernel_rfl) (by simp) ?_
  refine AllReadyH.cons (o := _) rfl (fun K hK => ?_) AllReadyH.nil
  go_simp
  refine (K2.out _ HY1.out).mono ?_
  rintro e w2 ⟨B1, f1, rfl, hb, hf⟩
  have HF2 := Lib.hid (HF.out.below hb)
  have HG := Lib.hid hf
  have HB2 := Lib.hid (more HB1.out (Nat.le_refl _) hb)
  replace z0 := (hb.cell (p := ⟨w.heap.size + 1, 0, none⟩) hlt1).trans z0
  replace z1 := (hb.cell (p := ⟨w.heap.size + 1, 1, none⟩) hlt1).trans z1
  replace zf := fun o => (hb.frozen (p := ⟨w.heap.size + 1, o, none⟩) hlt1).trans (zf o)
  have hHeld3 : (fun w' : World => w'.cell? ⟨w.heap.size, 0, none⟩ = some (.slice A0 u c0) ∧ w'.cell? ⟨w.heap.size, 1, none⟩ = some (.slice A1 v c1)) w2 := ⟨(hb.cell (p := ⟨w.heap.size, 0, none⟩) (by show w.heap.size < _; omega)).trans hHeld.1, (hb.cell (p := ⟨w.heap.size, 1, none⟩) (by show w.heap.size < _; omega)).trans hHeld.2⟩
  refine hK.out _ _ hHeld3 (fun hHeld2 => ?_)
  have hlt2 := Nat.lt_of_lt_of_le hlt1 hb.size
  have HL2 := Lib.hid hb.size
  clear hHeld2 hHeld hK K hb hf HF HB1 HY1
  have hHeld := hHeld3
  clear hHeld3
  (try simp only [Act.put, List.getElem_toArray, List.getElem_cons_zero, List.getElem_cons_succ, List.setIfInBounds_toArray, List.set_cons_zero, List.set_cons_succ])
  refine wpAnyH_take (i := 6) (oi := _) (v := ?_) rfl (by kernel_rfl) (by kernel_rfl) (by kernel_rfl) (fun _ _ _ h => h) (Or.inl ⟨by kernel_rfl, ?_⟩) (by assumption) ?_
  rotate_left
  · (intro w hSw; (try dsimp only at hSw); go_simp)
    try with_reducible rfl
  (try simp only [Act.put, List.getElem_toArray, List.getElem_cons_zero, List.getElem_cons_succ, List.setIfInBounds_toArray, List.set_cons_zero, List.set_cons_succ])
  refine wpAnyH_ready (rs := [7]) (by kernel_rfl) (by simp) ?_
  refine AllReadyH.cons (o := _) rfl (fun K hK => ?_) AllReadyH.nil
  have hSS : ∀ p q, (fun w' : World => w'.cell? ⟨w.heap.size, 0, none⟩ = some (.slice A0 u c0) ∧ w'.cell? ⟨w.heap.size, 1, none⟩ = some (.slice A1 v c1)) ((w2.setCell ⟨w.heap.size + 1, 0, none⟩ p).setCell ⟨w.heap.size + 1, 1, none⟩ q) := fun p q => by
    have k : ∀ (y : World) (j i : Nat) (u : Value), (y.setCell ⟨w.heap.size + 1, j, none⟩ u).cell? ⟨w.heap.size, i, none⟩ = y.cell? ⟨w.heap.size, i, none⟩ := fun y j i u => World.cell?_setCell_other _ _ _ _ (by intro e; injection e with e1 e2; omega)
    exact ⟨by rw [k, k]; exact hHeld.1, by rw [k, k]; exact hHeld.2⟩
  go_simp
  refine hK.out _ _ (hSS _ _) (fun hHeld2 => ?_)
  clear hK K hHeld hHeld2 hSS
  (try simp only [Act.put, List.getElem_toArray, List.getElem_cons_zero, List.getElem_cons_succ, List.setIfInBounds_toArray, List.set_cons_zero, List.set_cons_succ])
  refine wpAnyH_done (by kernel_rfl) ?_ _
  go_wp2_with fail
  have hl1 := HL1.out
  have hl2 := HL2.out
  have hzd := HZD.out
  have ht : ∀ p q, Turn (w.heap.size + 1) (w.heap.size + 2) w2 ((w2.setCell ⟨w.heap.size + 1, 0, none⟩ p).setCell ⟨w.heap.size + 1, 1, none⟩ q) := fun p q => (turn_set w2 ⟨w.heap.size + 1, 0, none⟩ p).trans (turn_set _ ⟨w.heap.size + 1, 1, none⟩ q)
  have hsz : ∀ p q, ((w2.setCell ⟨w.heap.size + 1, 0, none⟩ p).setCell ⟨w.heap.size + 1, 1, none⟩ q).heap.size = w2.heap.size := fun p q => by simp [World.setCell]
  refine bodyPost_ret (v := .agg #[.slice B0 u f0, .slice B1 v f1]) (by simp [results, Try.results59, go_sem, *]) rfl ⟨B0, f0, B1, f1, w1.heap.size, rfl, by omega, by rw [hsz]; omega, (HF2.out.turn (ht _ _) (.inr (by omega))).mono (by omega) (Nat.le_refl _), (HG.out.turn (ht _ _) (.inr (by omega))).mono (Nat.le_refl _) (by rw [hsz]; exact Nat.le_refl _), ?_⟩
  exact (HB2.out.setCell (p := ⟨w.heap.size + 1, 0, none⟩) (by simp) _).setCell (p := ⟨w.heap.size + 1, 1, none⟩) (by simp) _
end Go.Proofs.Ytkofajjlkhamkaa
