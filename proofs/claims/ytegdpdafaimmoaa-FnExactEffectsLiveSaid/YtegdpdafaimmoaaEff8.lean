/- The program's copies of rows of places. -/
import Derived.Test.YtegdpdafaimmoaaEff7
import Derived.Lib.SliceRun
import Derived.RangeFuncRecord
namespace Go.Proofs.Ytegdpdafaimmoaa
open Go.Joins Go.ChangeShapes Go.WideShapes Go.ChangeAt Go.RowKit Go.Deep
set_option linter.unusedVariables false
set_option linter.unusedSimpArgs false

set_option maxHeartbeats 1000000 in
theorem cloneSl_any (A : Option Addr) (n c : Nat) (L : List Value) (w : World) (hl : L.length = n * 2) (h1 : ∀ u ∈ L, u.oneCell' = true) (hc : 0 < n → ∃ ad, A = some ad ∧ ∀ w', Below w.heap.size w w' → ∀ j u, L[j]? = some u → w'.cell? (ad.add j) = some u) (hn : n ≤ 1000000) :
    Calls Try.prog 38 #[.slice A n c] w fun e w' => ∃ A' c', e = .returned (.slice A' n c') ∧ Below w.heap.size w w' ∧ (∀ b o, A' = some ⟨b, o, none⟩ → w.heap.size ≤ b) ∧ (0 < n → ∃ g, A' = some ⟨g, 0, none⟩ ∧ w'.ownsRow w.heap.size 65 2 (.slice (some ⟨g, 0, none⟩) n c') n L) := by
  have HL := Lib.hid hl
  have H1 := Lib.hid h1
  have HN := Lib.hid hn
  have kn := fun (w : World) => Lib.run_eql_slice_nil (P := Try.prog) w 37 65 A n c 0 0 Try.underlying37
  cases A with
  | none =>
    have hn0 : n = 0 := by
      rcases Nat.eq_zero_or_pos n with h | h
      · exact h
      · obtain ⟨ad, e, _⟩ := hc h
        cases e
    subst hn0
    clear hl h1 hc hn
    go_enter Try.func38, Try.ntmps38
    go_wp2_with fail
    go_ret
    exact ⟨none, 0, rfl, Below.refl _ _, fun b o e => (by cases e), fun h => absurd h (by omega)⟩
  | some ad =>
    have hcell : ∀ w', Below w.heap.size w w' → ∀ j u, L[j]? = some u → w'.cell? (ad.add j) = some u := by
      rcases Nat.eq_zero_or_pos n with h | h
      · subst h
        obtain rfl : L = [] := List.eq_nil_of_length_eq_zero (by simpa using hl)
        intro w' _ j u hu
        simp at hu
      · obtain ⟨ad', e, h⟩ := hc h
        cases e
        exact h
    have hb0 := Below.alloc (Below.refl w.heap.size w) (Nat.le_refl _) (.cells #[] 65)
    have HC := Lib.hid (hcell _ hb0)
    have HB := Lib.hid hb0
    have HO := Lib.hid (show (w.alloc (.cells #[] 65)).ownsRow w.heap.size 65 2 (.slice (some ⟨w.heap.size, 0, none⟩) 0 0) 0 [] from ⟨rfl, .inr ⟨w.heap.size, 0, #[], rfl, Nat.le_refl _, World.alloc_heap_new w _, Nat.le_refl _, Nat.zero_le _, rfl, rfl⟩⟩)
    clear hl h1 hc hn hcell hb0
    go_enter Try.func38, Try.ntmps38
    go_wp2_with (at_builtin; refine wp_cloneSl rfl (.tmp 5) (.tmp 6) rfl w.heap.size w.heap.size n c rfl HO.out ad L rfl HL.out HC.out H1.out HN.out (by simp) ?_; intro b3 c3 w5 ho hgr; have HO5 := Lib.hid ho; have HB5 := Lib.hid (HB.out.grown hgr (by simp) (fun k hk => by injection hk with hk; omega)); clear ho hgr)
    go_ret
    exact ⟨some ⟨b3, 0, none⟩, c3, rfl, HB5.out, fun b o e => (by cases e; exact (HO5.out.lt _ rfl).1), fun _ => ⟨b3, rfl, HO5.out⟩⟩
theorem cloneSlots_any (A : Option Addr) (c n : Nat) (xs : List Sl) (w : World) (hp : SlL w A xs) (hn : xs.length = n) (hl : n ≤ 1000000) :
    Calls Try.prog 38 #[.slice A n c] w fun e w' => ∃ A' c', e = .returned (.slice A' n c') ∧ Below w.heap.size w w' ∧ FlR Sl.cells 2 65 w' w.heap.size w'.heap.size A' c' xs := by
  refine (cloneSl_any A n c (xs.flatMap Sl.cells) w (by rw [flat_lenG (m := 2) (fun x => rfl), hn]) (sl_one xs) (fun h => lie_cells (c := Sl.cells) (m := 2) (ps := xs) (by decide) (fun x => rfl) hp (by rw [hn]; exact h)) hl).mono ?_
  rintro e w' ⟨A', c', rfl, hb, hlo, h⟩
  refine ⟨A', c', rfl, hb, fun h0 => ?_⟩
  obtain ⟨g, rfl, ho⟩ := h (by omega)
  have hg := ho.lt _ rfl
  rw [← hn] at ho
  exact ⟨g, rfl, hg.1, hg.2, World.ownsRow.mono ho (Nat.zero_le _)⟩
theorem wp_clonePs {w : World} {ops : Array Oper} {rest : List Oper} {o : Oper} {a : Act} {Q : Exit → Act → World → Prop} (hgd : o.guard = none) (s x : Operand)
    (ho : o.op = .call { callee := .builtin .append, args := #[s, x], argTypes := #[24, 24] }) (base b n c : Nat) (hs : a.eval s = .slice (some ⟨b, 0, none⟩) 0 0) (hown : w.ownsRow base 37 1 (.slice (some ⟨b, 0, none⟩) 0 0) 0 [])
    (ad : Addr) (L : List Value) (hx : a.eval x = .slice (some ad) n c) (hl : L.length = n * 1) (hc : ∀ j u, L[j]? = some u → w.cell? (ad.add j) = some u) (h1 : ∀ u ∈ L, u.oneCell' = true) (hn : n ≤ 1000000) (hbase : base ≤ w.heap.size)
    (h : ∀ b' c' w', w'.ownsRow base 37 1 (.slice (some ⟨b', 0, none⟩) n c') n L → w.grownBy w' (some b) → wpList Try.prog ops Q rest (a.put o.dst (.slice (some ⟨b', 0, none⟩) n c')) w') :
    wpList Try.prog ops Q (o :: rest) a w := by
  obtain ⟨i0, hi0, hz0, hz1, hz2⟩ := info_parts infoPl
  refine wpList_append_own_at w hgd s x _ ho base 37 i0 _ 1 24 Try.underlying24 hi0 hz0 hz1 hz2 rfl (by omega) _ 0 [] hs hown ad n c L hx hl hc h1 (by simp only [maxLen]; omega) (by omega) hbase ?_
  intro v' w' hown' hg hnil hat
  rw [Nat.zero_add, List.nil_append] at hown'
  have hform : ∃ b' c', v' = .slice (some ⟨b', 0, none⟩) n c' := by
    rcases hown'.2 with ⟨rfl, _⟩ | ⟨g', cap', cur, rfl, _⟩
    · simp [Value.ownBlock] at hat
    · exact ⟨g', cap', rfl⟩
  obtain ⟨b', c', rfl⟩ := hform
  exact h b' c' w' hown' hg
set_option maxHeartbeats 1000000 in
theorem clonePs_any (A : Option Addr) (n c : Nat) (L : List Value) (w : World) (hl : L.length = n * 1) (h1 : ∀ u ∈ L, u.oneCell' = true) (hc : 0 < n → ∃ ad, A = some ad ∧ ∀ w', Below w.heap.size w w' → ∀ j u, L[j]? = some u → w'.cell? (ad.add j) = some u) (hn : n ≤ 1000000) :
    Calls Try.prog 59 #[.slice A n c] w fun e w' => ∃ A' c', e = .returned (.slice A' n c') ∧ Below w.heap.size w w' ∧ (∀ b o, A' = some ⟨b, o, none⟩ → w.heap.size ≤ b) ∧ (0 < n → ∃ g, A' = some ⟨g, 0, none⟩ ∧ w'.ownsRow w.heap.size 37 1 (.slice (some ⟨g, 0, none⟩) n c') n L) := by
  have HL := Lib.hid hl
  have H1 := Lib.hid h1
  have HN := Lib.hid hn
  have kn := fun (w : World) => Lib.run_eql_slice_nil (P := Try.prog) w 24 37 A n c 0 0 Try.underlying24
  cases A with
  | none =>
    have hn0 : n = 0 := by
      rcases Nat.eq_zero_or_pos n with h | h
      · exact h
      · obtain ⟨ad, e, _⟩ := hc h
        cases e
    subst hn0
    clear hl h1 hc hn
    go_enter Try.func59, Try.ntmps59
    go_wp2_with fail
    go_ret
    exact ⟨none, 0, rfl, Below.refl _ _, fun b o e => (by cases e), fun h => absurd h (by omega)⟩
  | some ad =>
    have hcell : ∀ w', Below w.heap.size w w' → ∀ j u, L[j]? = some u → w'.cell? (ad.add j) = some u := by
      rcases Nat.eq_zero_or_pos n with h | h
      · subst h
        obtain rfl : L = [] := List.eq_nil_of_length_eq_zero (by simpa using hl)
        intro w' _ j u hu
        simp at hu
      · obtain ⟨ad', e, h⟩ := hc h
        cases e
        exact h
    have hb0 := Below.alloc (Below.refl w.heap.size w) (Nat.le_refl _) (.cells #[] 37)
    have HC := Lib.hid (hcell _ hb0)
    have HB := Lib.hid hb0
    have HO := Lib.hid (show (w.alloc (.cells #[] 37)).ownsRow w.heap.size 37 1 (.slice (some ⟨w.heap.size, 0, none⟩) 0 0) 0 [] from ⟨rfl, .inr ⟨w.heap.size, 0, #[], rfl, Nat.le_refl _, World.alloc_heap_new w _, Nat.le_refl _, Nat.zero_le _, rfl, rfl⟩⟩)
    clear hl h1 hc hn hcell hb0
    go_enter Try.func59, Try.ntmps59
    go_wp2_with (at_builtin; refine wp_clonePs rfl (.tmp 5) (.tmp 6) rfl w.heap.size w.heap.size n c rfl HO.out ad L rfl HL.out HC.out H1.out HN.out (by simp) ?_; intro b3 c3 w5 ho hgr; have HO5 := Lib.hid ho; have HB5 := Lib.hid (HB.out.grown hgr (by simp) (fun k hk => by injection hk with hk; omega)); clear ho hgr)
    go_ret
    exact ⟨some ⟨b3, 0, none⟩, c3, rfl, HB5.out, fun b o e => (by cases e; exact (HO5.out.lt _ rfl).1), fun _ => ⟨b3, rfl, HO5.out⟩⟩
/-- What stands in a block, as a list. -/
theorem mem_list {w : World} {b off N : Nat} (h : ∀ j, j < N → ∃ u, w.cell? ⟨b, off + j, none⟩ = some u) : ∃ L : List Value, L.length = N ∧ ∀ j, j < N → L[j]? = w.cell? ⟨b, off + j, none⟩ := by
  refine ⟨(List.range N).map fun j => (w.cell? ⟨b, off + j, none⟩).getD default, by simp, fun j hj => ?_⟩
  obtain ⟨u, hu⟩ := h j hj
  rw [List.getElem?_map, List.getElem?_range hj, Option.map_some, hu]
  rfl
theorem add_at (b off j : Nat) : ((⟨b, off, none⟩ : Addr).add j) = ⟨b, off + j, none⟩ := by simp [Addr.add] <;> (intros; omega)
theorem PsL.cells {w : World} {A : Option Addr} {xs : List (List Sl)} (h : PsL w A xs) : ∃ L0 : List Value, L0.length = xs.length * 1 ∧ (∀ u ∈ L0, u.oneCell' = true) ∧ (0 < xs.length → ∃ ad, A = some ad ∧ ∀ w', Below w.heap.size w w' → ∀ j u, L0[j]? = some u → w'.cell? (ad.add j) = some u) ∧
    ∀ i x, xs[i]? = some x → ∃ A0 c0, L0[i * 1]? = some (.slice A0 x.length c0) ∧ SlL w A0 x := by
  rcases Nat.eq_zero_or_pos xs.length with h0 | h0
  · exact ⟨[], by simp [h0], by simp, fun h => absurd h (by omega), fun i x hx => absurd (List.getElem?_eq_some_iff.1 hx).1 (by omega)⟩
  · obtain ⟨b, off, rfl, hlt, hc⟩ := h h0
    have key : ∀ j, j < xs.length * 1 → ∃ A n c, w.cell? ⟨b, off + j, none⟩ = some (.slice A n c) := fun j hj => by
      obtain ⟨x, hx⟩ := at_some (show j < xs.length by omega)
      obtain ⟨A0, c0, h1, _⟩ := hc _ x hx
      exact ⟨_, _, _, h1⟩
    obtain ⟨L0, hl, hL⟩ := mem_list (w := w) (b := b) (off := off) (N := xs.length * 1) (fun j hj => by obtain ⟨A, n, c, e⟩ := key j hj; exact ⟨_, e⟩)
    refine ⟨L0, hl, fun u hu => ?_, fun _ => ⟨_, rfl, fun w' hb j u hu => ?_⟩, fun i x hx => ?_⟩
    · obtain ⟨j, hj⟩ := List.mem_iff_getElem?.1 hu
      have hjl : j < xs.length * 1 := by rw [← hl]; exact (List.getElem?_eq_some_iff.1 hj).1
      obtain ⟨A, n, c, e⟩ := key j hjl
      rw [hL j hjl, e] at hj
      injection hj with hj
      subst hj
      rfl
    · have hjl : j < xs.length * 1 := by rw [← hl]; exact (List.getElem?_eq_some_iff.1 hu).1
      rw [hL j hjl] at hu
      rw [add_at]
      exact (hb.cell (p := ⟨b, off + j, none⟩) hlt).trans hu
    · have hi := (List.getElem?_eq_some_iff.1 hx).1
      obtain ⟨A0, c0, h1, h2⟩ := hc _ x hx
      rw [Nat.mul_one]
      exact ⟨A0, c0, (hL _ (by omega)).trans h1, h2⟩
/-- A clone, in blocks of its own. -/
def ClX (n : Nat) (xs : List Sl) (w : World) (e : Ending) (w' : World) : Prop :=
  ∃ A' c', e = .returned (.slice A' n c') ∧ Below w.heap.size w w' ∧ FlR Sl.cells 2 65 w' w.heap.size w'.heap.size A' c' xs
theorem ClX.front {n : Nat} {xs : List Sl} {w W w' : World} {e : Ending} (h : ClX n xs W e w') (hb : Below w.heap.size w W) : ClX n xs w e w' := by
  obtain ⟨A, c, e1, h1, h2⟩ := h
  exact ⟨A, c, e1, more hb (Nat.le_refl _) h1, h2.mono hb.size (Nat.le_refl _)⟩
/-- A copy of places, in blocks of its own. -/
def CpsX (n : Nat) (xs : List (List Sl)) (w : World) (e : Ending) (w' : World) : Prop :=
  ∃ A' c', e = .returned (.slice A' n c') ∧ n ≤ c' ∧ PssO w' w.heap.size w'.heap.size A' c' xs ∧ Below w.heap.size w w'
set_option maxHeartbeats 2000000 in
set_option maxRecDepth 100000 in
theorem icopyPlaces_any (A : Option Addr) (c n : Nat) (xs : List (List Sl)) (w : World) (hx : PsL w A xs) (hn : xs.length = n) (hl : n ≤ 1000000) (hs : ∀ x ∈ xs, x.length ≤ 1000000) :
    Calls Try.prog 37 #[.slice A n c, .func (.func 38) #[] #[]] w (CpsX n xs w) := by
  obtain ⟨L0, hL0, hL1, hLc, hLk⟩ := hx.cells
  rw [hn] at hL0 hLc
  have KC := Lib.hid (clonePs_any A n c L0 w hL0 hL1 hLc hl)
  have HN := Lib.hid hn
  have HS := Lib.hid hs
  have HLK := Lib.hid hLk
  have HL0 := Lib.hid hL0
  clear hx hn hs hL0 hL1 hLc hLk
  go_enter Try.func37, Try.ntmps37
  go_wp2_with fail
  refine KC.out.mono ?_
  rintro e w1 ⟨A', c', rfl, hb, hlo, hrow⟩
  have HB1 := Lib.hid hb
  rcases Nat.eq_zero_or_pos n with hn0 | hn0
  · subst hn0
    clear hb hrow hlo
    obtain rfl : xs = [] := List.eq_nil_of_length_eq_zero HN.out
    go_wp2_with fail
    go_loopw [11] (fun i wr => i = .int .i64 0 ∧ Hid (Below w.heap.size w wr)) (fun _ _ => 0)
    case atStart => exact ⟨rfl, HB1⟩
    case round =>
      obtain ⟨rfl, HB⟩ := hrel
      go_wp2_with fail
      go_ret
      exact ⟨A', c', rfl, Nat.zero_le _, fun h0 => absurd h0 (by simp), HB.out⟩
  obtain ⟨g, rfl, ho⟩ := hrow hn0
  have HO := Lib.hid ho
  clear hb hrow hlo ho KC
  go_wp2_with fail
  go_loopw [11] (fun i wr => ∃ (k : Nat) (L : List Value) (P Q : Nat → Nat), k ≤ n ∧ i = .int .i64 k ∧ wr.ownsRow w.heap.size 37 1 (.slice (some ⟨g, 0, none⟩) n c') n L ∧ Hid (ApD PlV 1 wr (g + 1) wr.heap.size g L P Q (xs.take k)) ∧ Hid (∀ i, k * 1 ≤ i → L[i]? = L0[i]?) ∧ Below w.heap.size w wr) (fun i _ => n - (intOf i).toNat)
  case atStart => exact ⟨0, L0, _, _, by omega, rfl, HO.out, Lib.hid ApD.zero, Lib.hid (fun i h => rfl), HB1.out⟩
  case round =>
    clear HO
    obtain ⟨k, L, P, Q, hk, rfl, hown, HD, HU, hB⟩ := hrel
    have HO2 := Lib.hid hown
    have hgl := hown.lt _ rfl
    have hg1 := hgl.1
    have hg2 := hgl.2
    have hLn : L.length = n * 1 := hown.1
    clear hgl
    by_cases hlt : k < n
    · obtain ⟨x, hx⟩ := at_some (show k < xs.length by rw [HN.out]; exact hlt)
      obtain ⟨A0, d0, l0, hp⟩ := HLK.out k x hx
      have hxl := HS.out x (List.mem_of_getElem? hx)
      have e0 : wr.cell? ⟨g, k, none⟩ = some (.slice A0 x.length d0) := (hown.cellAt k (by omega)).trans ((HU.out _ (by omega)).trans (by rw [← Nat.mul_one k]; exact l0))
      obtain ⟨u, hu⟩ : ∃ u, x.length = u := ⟨_, rfl⟩
      have HUU := Lib.hid hu
      rw [hu] at e0
      have HSS := Lib.hid (fun W (hb : Below wr.heap.size wr W) => (cloneSlots_any A0 d0 u x W (hp.below (more hB (Nat.le_refl _) hb)) hu (by omega)).mono fun e w' h => ClX.front h hb)
      clear l0 hp hxl hu
      have HXK := Lib.hid hx
      clear hx hown
      have hi1 : (0 : Int) ≤ (k : Int) := by omega
      have hi2 : (k : Int) < (n : Int) := by omega
      go_wp2_with fail
      refine (HSS.out _ (by go_grown)).mono ?_
      intro e w2 hq
      obtain ⟨B0, f0, rfl, hb, h3⟩ := hq
      have G3 := Lib.hid h3
      have hO3 := ownsRow_below HO2.out hb
      obtain ⟨uu0, dd0⟩ : ∃ u, w2.cell? ⟨g, k, none⟩ = some u := ⟨_, (hO3.cellAt (k) (by omega)).trans (List.getElem?_eq_getElem (show k < L.length by omega))⟩
      have qq0 := hO3.frozenAt (k)
      have HO3 := Lib.hid hO3
      have HB2 := Lib.hid (more hB (Nat.le_refl _) hb)
      have HBB := Lib.hid hb
      have HLN := Lib.hid hLn
      clear hO3 hb hLn h3 e0 HSS
      go_wp2_with fail
      obtain ⟨s2, zz2⟩ := HO3.out.stored k (.slice B0 u f0)
      go_roundw
      case rel =>
        have hsb := HBB.out.size
        have hln := HLN.out
        have ht3 : Turn g (g + 1) w2 (w2.setCell ⟨g, k, none⟩ (.slice B0 u f0)) := turn_set w2 ⟨g, k, none⟩ _
        have hsz3 : (w2.setCell ⟨g, k, none⟩ (.slice B0 u f0)).heap.size = w2.heap.size := by simp [World.setCell]
        refine ⟨k + 1, _, _, _, by omega, by go_num, s2, Lib.hid (ApD.more PlV.turn HD.out HXK.out (cs := [.slice B0 u f0]) rfl (fun i hi => ?_) (fun i u hu => ?_) hg2 hg2 ((Turn.of_below HBB.out).trans ht3) ⟨B0, f0, by rw [HUU.out], G3.out.turn ht3 (.inr (by omega))⟩ hsb (by rw [hsz3]; exact Nat.le_refl _)), Lib.hid (fun i hi => ?_), HB2.out.setCell hg1 _⟩
        · rw [List.getElem?_set_ne (by omega)]
        · match i, hu with
          | 0, hu =>
            simp at hu
            subst hu
            rw [show k * 1 + 0 = k by omega, List.getElem?_set_self (by omega)]
          | i + 1, hu => simp at hu
        · rw [List.getElem?_set_ne (by omega)]
          exact HU.out i (by omega)
      case measure => simp [intOf]; omega
    · obtain rfl : k = n := by omega
      clear hown
      go_wp2_with fail
      go_ret
      refine ⟨some ⟨g, 0, none⟩, c', rfl, row_capG HO2.out, fun h0 => ⟨g, L, P, Q, rfl, hg1, hg2, ?_, ?_⟩, hB⟩
      · rw [HN.out]; exact World.ownsRow.mono HO2.out (Nat.zero_le _)
      · have hd := HD.out
        rw [List.take_of_length_le (by rw [HN.out]; exact Nat.le_refl _)] at hd
        exact ⟨hd.row, fun i hi => by have := hd.inn i hi; omega, hd.apart⟩

end Go.Proofs.Ytegdpdafaimmoaa
