/- The program's own copies of stores. -/
import Derived.Test.YtkofajjlkhamkaaHso5
namespace Go.Proofs.Ytkofajjlkhamkaa
open Go.Joins Go.ChangeShapes Go.WideShapes Go.ChangeAt Go.RowKit Go.Deep
set_option linter.unusedVariables false
set_option linter.unusedSimpArgs false

/-- What stands in a block, as a list. -/
theorem mem_list {w : World} {b off N : Nat} (h : ∀ j, j < N → ∃ u, w.cell? ⟨b, off + j, none⟩ = some u) : ∃ L : List Value, L.length = N ∧ ∀ j, j < N → L[j]? = w.cell? ⟨b, off + j, none⟩ := by
  refine ⟨(List.range N).map fun j => (w.cell? ⟨b, off + j, none⟩).getD default, by simp, fun j hj => ?_⟩
  obtain ⟨u, hu⟩ := h j hj
  rw [List.getElem?_map, List.getElem?_range hj, Option.map_some, hu]
  rfl
theorem add_at (b off j : Nat) : ((⟨b, off, none⟩ : Addr).add j) = ⟨b, off + j, none⟩ := by simp [Addr.add] <;> (intros; omega)
theorem CeL.cells {w : World} {A : Option Addr} {xs : List Ce} (h : CeL w A xs) : ∃ L0 : List Value, L0.length = xs.length * 2 ∧ (∀ u ∈ L0, u.oneCell' = true) ∧ (0 < xs.length → ∃ ad, A = some ad ∧ ∀ w', Below w.heap.size w w' → ∀ j u, L0[j]? = some u → w'.cell? (ad.add j) = some u) ∧
    ∀ i x, xs[i]? = some x → ∃ A0 c0 A1 c1, L0[i * 2]? = some (.slice A0 x.pl.length c0) ∧ L0[i * 2 + 1]? = some (.slice A1 x.st.length c1) ∧ SlL w A0 x.pl ∧ VaL w A1 x.st := by
  rcases Nat.eq_zero_or_pos xs.length with h0 | h0
  · exact ⟨[], by simp [h0], by simp, fun h => absurd h (by omega), fun i x hx => absurd (List.getElem?_eq_some_iff.1 hx).1 (by omega)⟩
  · obtain ⟨b, off, rfl, hlt, hc⟩ := h h0
    have key : ∀ j, j < xs.length * 2 → ∃ A n c, w.cell? ⟨b, off + j, none⟩ = some (.slice A n c) := fun j hj => by
      obtain ⟨x, hx⟩ := at_some (show j / 2 < xs.length by omega)
      obtain ⟨A0, c0, A1, c1, hce⟩ := hc _ x hx
      rcases (by omega : j = j / 2 * 2 ∨ j = j / 2 * 2 + 1) with e | e
      · rw [e]; exact ⟨_, _, _, hce.e0⟩
      · rw [e]; exact ⟨_, _, _, hce.e1⟩
    obtain ⟨L0, hl, hL⟩ := mem_list (w := w) (b := b) (off := off) (N := xs.length * 2) (fun j hj => by obtain ⟨A, n, c, e⟩ := key j hj; exact ⟨_, e⟩)
    refine ⟨L0, hl, fun u hu => ?_, fun _ => ⟨_, rfl, fun w' hb j u hu => ?_⟩, fun i x hx => ?_⟩
    · obtain ⟨j, hj⟩ := List.mem_iff_getElem?.1 hu
      have hjl : j < xs.length * 2 := by rw [← hl]; exact (List.getElem?_eq_some_iff.1 hj).1
      obtain ⟨A, n, c, e⟩ := key j hjl
      rw [hL j hjl, e] at hj
      injection hj with hj
      subst hj
      rfl
    · have hjl : j < xs.length * 2 := by rw [← hl]; exact (List.getElem?_eq_some_iff.1 hu).1
      rw [hL j hjl] at hu
      rw [add_at]
      exact (hb.cell (p := ⟨b, off + j, none⟩) hlt).trans hu
    · have hi := (List.getElem?_eq_some_iff.1 hx).1
      obtain ⟨A0, c0, A1, c1, hce⟩ := hc _ x hx
      exact ⟨A0, c0, A1, c1, (hL _ (by omega)).trans hce.e0, (hL _ (by omega)).trans hce.e1, hce.pl, hce.st⟩
theorem StL.cells {w : World} {A : Option Addr} {xs : List (List Ce)} (h : StL w A xs) : ∃ L0 : List Value, L0.length = xs.length * 1 ∧ (∀ u ∈ L0, u.oneCell' = true) ∧ (0 < xs.length → ∃ ad, A = some ad ∧ ∀ w', Below w.heap.size w w' → ∀ j u, L0[j]? = some u → w'.cell? (ad.add j) = some u) ∧
    ∀ i x, xs[i]? = some x → ∃ A0 c0, L0[i * 1]? = some (.slice A0 x.length c0) ∧ CeL w A0 x ∧ x.length ≤ maxLen ∧ x.length ≤ c0 := by
  rcases Nat.eq_zero_or_pos xs.length with h0 | h0
  · exact ⟨[], by simp [h0], by simp, fun h => absurd h (by omega), fun i x hx => absurd (List.getElem?_eq_some_iff.1 hx).1 (by omega)⟩
  · obtain ⟨b, off, rfl, hlt, hc⟩ := h h0
    have key : ∀ j, j < xs.length * 1 → ∃ A n c, w.cell? ⟨b, off + j, none⟩ = some (.slice A n c) := fun j hj => by
      obtain ⟨x, hx⟩ := at_some (show j < xs.length by omega)
      obtain ⟨A0, c0, h1, _⟩ := hc _ x hx
      exact ⟨_, _, _, h1⟩
    obtain ⟨L0, hl, hL⟩ := mem_list (w := w) (b := b) (off := off) (N := xs.length * 1) (fun j hj => by obtain ⟨A, n, c, e⟩ := key j hj; exact ⟨_, e⟩)
    refine ⟨L0, hl, fun u hu => ?_, fun _ => ⟨_, rfl, fun w' hb j u hu => ?_⟩, fun i x hx => ?_⟩
    · obtain ⟨j, hj⟩ := List.mem_iff_getElem?.1 hu
      have hjl : j < xs.length * 1 := by rw [← hl]; exact (List.getElem?_eq_some_iff.1 hj).1
      obtain ⟨A, n, c, e⟩ := key j hjl
      rw [hL j hjl, e] at hj
      injection hj with hj
      subst hj
      rfl
    · have hjl : j < xs.length * 1 := by rw [← hl]; exact (List.getElem?_eq_some_iff.1 hu).1
      rw [hL j hjl] at hu
      rw [add_at]
      exact (hb.cell (p := ⟨b, off + j, none⟩) hlt).trans hu
    · have hi := (List.getElem?_eq_some_iff.1 hx).1
      obtain ⟨A0, c0, h1, h2⟩ := hc _ x hx
      rw [Nat.mul_one]
      exact ⟨A0, c0, (hL _ (by omega)).trans h1, h2⟩
/-- A copy of a store, in blocks of its own. -/
def CsX (n : Nat) (xs : List Ce) (w : World) (e : Ending) (w' : World) : Prop :=
  ∃ A' c', e = .returned (.slice A' n c') ∧ n ≤ c' ∧ StO w' w.heap.size w'.heap.size A' c' xs ∧ Below w.heap.size w w'
theorem CsX.front {n : Nat} {xs : List Ce} {w W w' : World} {e : Ending} (h : CsX n xs W e w') (hb : Below w.heap.size w W) : CsX n xs w e w' := by
  obtain ⟨A, c, rfl, h1, h2, h3⟩ := h
  exact ⟨A, c, rfl, h1, h2.mono hb.size (Nat.le_refl _), hb.trans (h3.mono hb.size)⟩
def CssX (n : Nat) (xss : List (List Ce)) (w : World) (e : Ending) (w' : World) : Prop :=
  ∃ A' c', e = .returned (.slice A' n c') ∧ n ≤ c' ∧ SsO w' w.heap.size w'.heap.size A' c' xss ∧ Below w.heap.size w w'
/-- Nothing of a store is longer than a million. -/
def SmM (xs : List Ce) : Prop := xs.length ≤ 1000000 ∧ ∀ x ∈ xs, x.pl.length ≤ 1000000 ∧ x.st.length ≤ 1000000
set_option maxHeartbeats 2000000 in
set_option maxRecDepth 100000 in
theorem icopyCells_any (A : Option Addr) (c n : Nat) (xs : List Ce) (w : World) (hx : CeL w A xs) (hn : xs.length = n) (hl : n ≤ 1000000) (hs : ∀ x ∈ xs, x.pl.length ≤ 1000000 ∧ x.st.length ≤ 1000000) :
    Calls Try.prog 58 #[.slice A n c, .func (.func 59) #[] #[]] w (CsX n xs w) := by
  obtain ⟨L0, hL0, hL1, hLc, hLk⟩ := hx.cells
  rw [hn] at hL0 hLc
  have KC := Lib.hid (cloneC_any A n c L0 w hL0 hL1 hLc hl)
  have HN := Lib.hid hn
  have HS := Lib.hid hs
  have HLK := Lib.hid hLk
  have HL0 := Lib.hid hL0
  clear hx hn hs hL0 hL1 hLc hLk
  go_enter Try.func58, Try.ntmps58
  go_wp2_with fail
  refine KC.out.mono ?_
  rintro e w1 ⟨A', c', rfl, hb, hlo, hrow⟩
  have HB1 := Lib.hid hb
  rcases Nat.eq_zero_or_pos n with hn0 | hn0
  · subst hn0
    clear hb hrow hlo
    obtain rfl : xs = [] := List.eq_nil_of_length_eq_zero HN.out
    go_wp2_with fail
    go_loopw [11] (fun i wr => i = .int .i64 0 ∧ Hid (Below w.heap.size w wr)) (fun _ _ => 0)
    case atStart => exact ⟨rfl, HB1⟩
    case round =>
      obtain ⟨rfl, HB⟩ := hrel
      go_wp2_with fail
      go_ret
      exact ⟨A', c', rfl, Nat.zero_le _, fun h0 => absurd h0 (by simp), HB.out⟩
  obtain ⟨g, rfl, ho⟩ := hrow hn0
  have HO := Lib.hid ho
  clear hb hrow hlo ho KC
  go_wp2_with fail
  go_loopw [11] (fun i wr => ∃ (k : Nat) (L : List Value) (P Q : Nat → Nat), k ≤ n ∧ i = .int .i64 k ∧ wr.ownsRow w.heap.size 60 2 (.slice (some ⟨g, 0, none⟩) n c') n L ∧ Hid (ApD CeO 2 wr (g + 1) wr.heap.size g L P Q (xs.take k)) ∧ Hid (∀ i, k * 2 ≤ i → L[i]? = L0[i]?) ∧ Below w.heap.size w wr) (fun i _ => n - (intOf i).toNat)
  case atStart => exact ⟨0, L0, _, _, by omega, rfl, HO.out, Lib.hid ApD.zero, Lib.hid (fun i h => rfl), HB1.out⟩
  case round =>
    clear HO
    obtain ⟨k, L, P, Q, hk, rfl, hown, HD, HU, hB⟩ := hrel
    have HO2 := Lib.hid hown
    have hgl := hown.lt _ rfl
    have hg1 := hgl.1
    have hg2 := hgl.2
    have hLn : L.length = n * 2 := hown.1
    clear hgl
    by_cases hlt : k < n
    · obtain ⟨x, hx⟩ := at_some (show k < xs.length by rw [HN.out]; exact hlt)
      obtain ⟨A0, d0, A1, d1, l0, l1, hp, hks⟩ := HLK.out k x hx
      have hxl := HS.out x (List.mem_of_getElem? hx)
      have e0 : wr.cell? ⟨g, k * 2, none⟩ = some (.slice A0 x.pl.length d0) := (hown.cellAt (k * 2) (by omega)).trans ((HU.out _ (Nat.le_refl _)).trans l0)
      have e1 : wr.cell? ⟨g, k * 2 + 1, none⟩ = some (.slice A1 x.st.length d1) := (hown.cellAt (k * 2 + 1) (by omega)).trans ((HU.out _ (by omega)).trans l1)
      obtain ⟨u, hu⟩ : ∃ u, x.pl.length = u := ⟨_, rfl⟩
      obtain ⟨v, hv⟩ : ∃ v, x.st.length = v := ⟨_, rfl⟩
      have HUU := Lib.hid hu
      have HVV := Lib.hid hv
      rw [hu] at e0 hxl
      rw [hv] at e1 hxl
      have HSS := Lib.hid (fun W (hb : Below wr.heap.size wr W) => (icopyCell_any A0 A1 d0 d1 u v x W (hp.below (more hB (Nat.le_refl _) hb)) (hks.below (more hB (Nat.le_refl _) hb)) hu hv hxl.1 hxl.2).mono fun e w' h => h.front hb)
      clear l0 l1 hp hks hxl hu hv
      have HXK := Lib.hid hx
      clear hx hown
      have hi1 : (0 : Int) ≤ (k : Int) := by omega
      have hi2 : (k : Int) < (n : Int) := by omega
      go_wp2_with fail
      refine (HSS.out _ (by go_grown)).mono ?_
      intro e w2 hq
      obtain ⟨B0, f0, B1, f1, mm, rfl, h1, h2, h3, h4, hb⟩ := hq
      have G3 := Lib.hid h3
      have G4 := Lib.hid h4
      have HMM := Lib.hid (And.intro h1 h2)
      have hO3 := ownsRow_below HO2.out hb
      obtain ⟨uu0, dd0⟩ : ∃ u, w2.cell? ⟨g, k * 2, none⟩ = some u := ⟨_, (hO3.cellAt (k * 2) (by omega)).trans (List.getElem?_eq_getElem (show k * 2 < L.length by omega))⟩
      have qq0 := hO3.frozenAt (k * 2)
      obtain ⟨uu1, dd1⟩ : ∃ u, w2.cell? ⟨g, k * 2 + 1, none⟩ = some u := ⟨_, (hO3.cellAt (k * 2 + 1) (by omega)).trans (List.getElem?_eq_getElem (show k * 2 + 1 < L.length by omega))⟩
      have qq1 := hO3.frozenAt (k * 2 + 1)
      have HO3 := Lib.hid hO3
      have HB2 := Lib.hid (more hB (Nat.le_refl _) hb)
      have HBB := Lib.hid hb
      have HLN := Lib.hid hLn
      clear hO3 hb hLn h1 h2 h3 h4 e0 e1 HSS
      go_wp2_with fail
      obtain ⟨s1, zz1⟩ := HO3.out.stored (k * 2) (.slice B0 u f0)
      obtain ⟨s2, zz2⟩ := s1.stored (k * 2 + 1) (.slice B1 v f1)
      go_roundw
      case rel =>
        have hsb := HBB.out.size
        have hln := HLN.out
        have ht3 : Turn g (g + 1) w2 ((w2.setCell ⟨g, k * 2, none⟩ (.slice B0 u f0)).setCell ⟨g, k * 2 + 1, none⟩ (.slice B1 v f1)) := (turn_set w2 ⟨g, k * 2, none⟩ _).trans (turn_set _ ⟨g, k * 2 + 1, none⟩ _)
        have hsz3 : ((w2.setCell ⟨g, k * 2, none⟩ (.slice B0 u f0)).setCell ⟨g, k * 2 + 1, none⟩ (.slice B1 v f1)).heap.size = w2.heap.size := by simp [World.setCell]
        refine ⟨k + 1, _, _, _, by omega, by go_num, s2, Lib.hid (ApD.more CeO.turn HD.out HXK.out (cs := [.slice B0 u f0, .slice B1 v f1]) rfl (fun i hi => ?_) (fun i u hu => ?_) hg2 hg2 ((Turn.of_below HBB.out).trans ht3) ⟨B0, f0, B1, f1, mm, by rw [HUU.out, HVV.out], HMM.out.1, HMM.out.2, G3.out.turn ht3 (.inr (by omega)), G4.out.turn ht3 (.inr (by have := HMM.out.1; omega))⟩ hsb (by rw [hsz3]; exact Nat.le_refl _)), Lib.hid (fun i hi => ?_), (HB2.out.setCell hg1 _).setCell hg1 _⟩
        · rw [List.getElem?_set_ne (by omega), List.getElem?_set_ne (by omega)]
        · match i, hu with
          | 0, hu =>
            simp at hu
            subst hu
            rw [show k * 2 + 0 = k * 2 from rfl, List.getElem?_set_ne (by omega), List.getElem?_set_self (by omega)]
          | 1, hu =>
            simp at hu
            subst hu
            rw [List.getElem?_set_self (by rw [List.length_set]; omega)]
          | i + 2, hu => simp at hu
        · rw [List.getElem?_set_ne (by omega), List.getElem?_set_ne (by omega)]
          exact HU.out i (by omega)
      case measure => simp [intOf]; omega
    · obtain rfl : k = n := by omega
      clear hown
      go_wp2_with fail
      go_ret
      refine ⟨some ⟨g, 0, none⟩, c', rfl, row_capG HO2.out, fun h0 => ⟨g, L, P, Q, rfl, hg1, hg2, ?_, ?_⟩, hB⟩
      · rw [HN.out]; exact World.ownsRow.mono HO2.out (Nat.zero_le _)
      · have hd := HD.out
        rw [List.take_of_length_le (by rw [HN.out]; exact Nat.le_refl _)] at hd
        exact ⟨hd.row, fun i hi => by have := hd.inn i hi; omega, hd.apart⟩
set_option maxHeartbeats 1000000 in
theorem icopyStore_any (A : Option Addr) (c n : Nat) (xs : List Ce) (w : World) (hx : CeL w A xs) (hn : xs.length = n) (hs : SmM xs) :
    Calls Try.prog 38 #[.slice A n c] w (CsX n xs w) := by
  have K := Lib.hid (icopyCells_any A c n xs w hx hn (by have := hs.1; omega) hs.2)
  clear hx hn hs
  go_enter Try.func38, Try.ntmps38
  go_wp2_with fail
  refine K.out.mono ?_
  rintro e w' ⟨A', c', rfl, h1, h2, h3⟩
  have G1 := Lib.hid h1
  have G2 := Lib.hid h2
  have G3 := Lib.hid h3
  clear h1 h2 h3 K
  go_wp2_with fail
  go_ret
  exact ⟨A', c', rfl, G1.out, G2.out, G3.out⟩
set_option maxHeartbeats 2000000 in
set_option maxRecDepth 100000 in
theorem icopyStores_any (A : Option Addr) (c n : Nat) (xs : List (List Ce)) (w : World) (hx : StL w A xs) (hn : xs.length = n) (hl : n ≤ 1000000) (hs : ∀ x ∈ xs, SmM x) :
    Calls Try.prog 39 #[.slice A n c, .func (.func 38) #[] #[]] w (CssX n xs w) := by
  obtain ⟨L0, hL0, hL1, hLc, hLk⟩ := hx.cells
  rw [hn] at hL0 hLc
  have KC := Lib.hid (cloneS_any A n c L0 w hL0 hL1 hLc hl)
  have HN := Lib.hid hn
  have HS := Lib.hid hs
  have HLK := Lib.hid hLk
  have HL0 := Lib.hid hL0
  clear hx hn hs hL0 hL1 hLc hLk
  go_enter Try.func39, Try.ntmps39
  go_wp2_with fail
  refine KC.out.mono ?_
  rintro e w1 ⟨A', c', rfl, hb, hlo, hrow⟩
  have HB1 := Lib.hid hb
  rcases Nat.eq_zero_or_pos n with hn0 | hn0
  · subst hn0
    clear hb hrow hlo
    obtain rfl : xs = [] := List.eq_nil_of_length_eq_zero HN.out
    go_wp2_with fail
    go_loopw [11] (fun i wr => i = .int .i64 0 ∧ Hid (Below w.heap.size w wr)) (fun _ _ => 0)
    case atStart => exact ⟨rfl, HB1⟩
    case round =>
      obtain ⟨rfl, HB⟩ := hrel
      go_wp2_with fail
      go_ret
      exact ⟨A', c', rfl, Nat.zero_le _, fun h0 => absurd h0 (by simp), HB.out⟩
  obtain ⟨g, rfl, ho⟩ := hrow hn0
  have HO := Lib.hid ho
  clear hb hrow hlo ho KC
  go_wp2_with fail
  go_loopw [11] (fun i wr => ∃ (k : Nat) (L : List Value) (P Q : Nat → Nat), k ≤ n ∧ i = .int .i64 k ∧ wr.ownsRow w.heap.size 27 1 (.slice (some ⟨g, 0, none⟩) n c') n L ∧ Hid (ApD StV 1 wr (g + 1) wr.heap.size g L P Q (xs.take k)) ∧ Hid (∀ i, k * 1 ≤ i → L[i]? = L0[i]?) ∧ Below w.heap.size w wr) (fun i _ => n - (intOf i).toNat)
  case atStart => exact ⟨0, L0, _, _, by omega, rfl, HO.out, Lib.hid ApD.zero, Lib.hid (fun i h => rfl), HB1.out⟩
  case round =>
    clear HO
    obtain ⟨k, L, P, Q, hk, rfl, hown, HD, HU, hB⟩ := hrel
    have HO2 := Lib.hid hown
    have hgl := hown.lt _ rfl
    have hg1 := hgl.1
    have hg2 := hgl.2
    have hLn : L.length = n * 1 := hown.1
    clear hgl
    by_cases hlt : k < n
    · obtain ⟨x, hx⟩ := at_some (show k < xs.length by rw [HN.out]; exact hlt)
      obtain ⟨A0, d0, l0, hp, _⟩ := HLK.out k x hx
      have hxl := HS.out x (List.mem_of_getElem? hx)
      have e0 : wr.cell? ⟨g, k, none⟩ = some (.slice A0 x.length d0) := (hown.cellAt k (by omega)).trans ((HU.out _ (by omega)).trans (by rw [← Nat.mul_one k]; exact l0))
      obtain ⟨u, hu⟩ : ∃ u, x.length = u := ⟨_, rfl⟩
      have HUU := Lib.hid hu
      rw [hu] at e0
      have HSS := Lib.hid (fun W (hb : Below wr.heap.size wr W) => (icopyStore_any A0 d0 u x W (hp.below (more hB (Nat.le_refl _) hb)) hu hxl).mono fun e w' h => h.front hb)
      clear l0 hp hxl hu
      have HXK := Lib.hid hx
      clear hx hown
      have hi1 : (0 : Int) ≤ (k : Int) := by omega
      have hi2 : (k : Int) < (n : Int) := by omega
      go_wp2_with fail
      refine (HSS.out _ (by go_grown)).mono ?_
      intro e w2 hq
      obtain ⟨B0, f0, rfl, h1, h3, hb⟩ := hq
      have G3 := Lib.hid h3
      have HMM := Lib.hid h1
      have hO3 := ownsRow_below HO2.out hb
      obtain ⟨uu0, dd0⟩ : ∃ u, w2.cell? ⟨g, k, none⟩ = some u := ⟨_, (hO3.cellAt (k) (by omega)).trans (List.getElem?_eq_getElem (show k < L.length by omega))⟩
      have qq0 := hO3.frozenAt (k)
      have HO3 := Lib.hid hO3
      have HB2 := Lib.hid (more hB (Nat.le_refl _) hb)
      have HBB := Lib.hid hb
      have HLN := Lib.hid hLn
      clear hO3 hb hLn h1 h3 e0 HSS
      go_wp2_with fail
      obtain ⟨s2, zz2⟩ := HO3.out.stored k (.slice B0 u f0)
      go_roundw
      case rel =>
        have hsb := HBB.out.size
        have hln := HLN.out
        have ht3 : Turn g (g + 1) w2 (w2.setCell ⟨g, k, none⟩ (.slice B0 u f0)) := turn_set w2 ⟨g, k, none⟩ _
        have hsz3 : (w2.setCell ⟨g, k, none⟩ (.slice B0 u f0)).heap.size = w2.heap.size := by simp [World.setCell]
        refine ⟨k + 1, _, _, _, by omega, by go_num, s2, Lib.hid (ApD.more StV.turn HD.out HXK.out (cs := [.slice B0 u f0]) rfl (fun i hi => ?_) (fun i u hu => ?_) hg2 hg2 ((Turn.of_below HBB.out).trans ht3) ⟨B0, f0, by rw [HUU.out], by rw [HUU.out]; exact HMM.out, G3.out.turn ht3 (.inr (by omega))⟩ hsb (by rw [hsz3]; exact Nat.le_refl _)), Lib.hid (fun i hi => ?_), HB2.out.setCell hg1 _⟩
        · rw [List.getElem?_set_ne (by omega)]
        · match i, hu with
          | 0, hu =>
            simp at hu
            subst hu
            rw [show k * 1 + 0 = k by omega, List.getElem?_set_self (by omega)]
          | i + 1, hu => simp at hu
        · rw [List.getElem?_set_ne (by omega)]
          exact HU.out i (by omega)
      case measure => simp [intOf]; omega
    · obtain rfl : k = n := by omega
      clear hown
      go_wp2_with fail
      go_ret
      refine ⟨some ⟨g, 0, none⟩, c', rfl, row_capG HO2.out, fun h0 => ⟨g, L, P, Q, rfl, hg1, hg2, ?_, ?_⟩, hB⟩
      · rw [HN.out]; exact World.ownsRow.mono HO2.out (Nat.zero_le _)
      · have hd := HD.out
        rw [List.take_of_length_le (by rw [HN.out]; exact Nat.le_refl _)] at hd
        exact ⟨hd.row, fun i hi => by have := hd.inn i hi; omega, hd.apart⟩
end Go.Proofs.Ytkofajjlkhamkaa
