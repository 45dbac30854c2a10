/- Stores: the copies that the laws make of cells. -/
import Derived.Test.YtkofajjlkhamkaaSto3
import Derived.Deep.Onto
namespace Go.Proofs.Ytkofajjlkhamkaa
open Go.Joins Go.ChangeShapes Go.WideShapes Go.ChangeAt Go.RowKit Go.Deep
set_option linter.unusedVariables false
set_option linter.unusedSimpArgs false

theorem toSlots_n (A : Option Addr) (c n : Nat) (xs : List Sl) (w : World) (hx : SlL w A xs) (hn : xs.length = n) (hl : n ≤ 1048576) :
    Calls Try.prog 51 #[.slice A n c] w fun e w' => e = .returned (.slice (some ⟨w.heap.size, 0, none⟩) n n) ∧
      w'.ownsRow w.heap.size 80 2 (.slice (some ⟨w.heap.size, 0, none⟩) n n) n (xs.flatMap Sl.cells) ∧ Below w.heap.size w w' := by
  subst hn; exact toSlots_any A c xs w hx hl
/-- A cell's two rows are the call's own. -/
structure CeOwn (w : World) (lo : Nat) (x : Ce) (n m g0 g1 : Nat) : Prop where
  l0 : lo ≤ g0
  l1 : g0 < g1
  l2 : g1 < w.heap.size
  pl : w.ownsRow lo 80 2 (.slice (some ⟨g0, 0, none⟩) n n) n (x.pl.flatMap Sl.cells)
  st : w.ownsRow lo 82 3 (.slice (some ⟨g1, 0, none⟩) m m) m (x.st.flatMap Va.cells)
theorem CeOwn.below {w w' : World} {lo : Nat} {x : Ce} {n m g0 g1 : Nat} (h : CeOwn w lo x n m g0 g1) (hb : Below w.heap.size w w') : CeOwn w' lo x n m g0 g1 :=
  ⟨h.l0, h.l1, Nat.lt_of_lt_of_le h.l2 hb.size, ownsRow_below h.pl hb, ownsRow_below h.st hb⟩
theorem CeOwn.stored {w : World} {lo : Nat} {x : Ce} {n m g0 g1 : Nat} (h : CeOwn w lo x n m g0 g1) {p : Addr} (hp : p.block < lo) (u : Value) : CeOwn (w.setCell p u) lo x n m g0 g1 := by
  have hg : w.grownBy (w.setCell p u) (some p.block) := ⟨rfl, rfl, rfl, by simp [World.setCell], fun k _ hk => heap_setCell_other w p k u (fun e => hk (by simp [e]))⟩
  have h0 := h.l0
  have h1 := h.l1
  exact ⟨h.l0, h.l1, by have := h.l2; simpa [World.setCell] using this, h.pl.kept hg (.inr (by simp [Value.ownBlock]; omega)), h.st.kept hg (.inr (by simp [Value.ownBlock]; omega))⟩
theorem CeOwn.mono {w : World} {lo lo' : Nat} {x : Ce} {n m g0 g1 : Nat} (h : CeOwn w lo x n m g0 g1) (hl : lo' ≤ lo) : CeOwn w lo' x n m g0 g1 :=
  ⟨Nat.le_trans hl h.l0, h.l1, h.l2, World.ownsRow.mono h.pl hl, World.ownsRow.mono h.st hl⟩
def CellX (x : Ce) (n m : Nat) (w : World) (e : Ending) (w' : World) : Prop :=
  ∃ g0 g1, e = .returned (.agg #[.slice (some ⟨g0, 0, none⟩) n n, .slice (some ⟨g1, 0, none⟩) m m]) ∧ CeOwn w' w.heap.size x n m g0 g1 ∧ Below w.heap.size w w'

set_option maxHeartbeats 1000000 in
theorem toCell_any (A0 A1 : Option Addr) (c0 c1 n m : Nat) (x : Ce) (w : World) (hx : SlL w A0 x.pl) (hy : VaL w A1 x.st) (hn : x.pl.length = n) (hm : x.st.length = m) (hl0 : n ≤ 1048576) (hl1 : m ≤ 1048576) :
    Calls Try.prog 35 #[.agg #[.slice A0 n c0, .slice A1 m c1]] w (CellX x n m w) := by
  have HN := Lib.hid hn
  have HM := Lib.hid hm
  have hW := ((Below.alloc (Below.refl w.heap.size w) (Nat.le_refl _) (.cells #[.slice A0 n c0, .slice A1 m c1] 54)).alloc (by simp) (.cells #[.slice none 0 0, .slice none 0 0] 60)).alloc (by simp; omega) (.cells #[.slice none 0 0, .slice none 0 0] 60)
  have HX := Lib.hid (hx.below hW)
  have HY := Lib.hid hy
  have HW := Lib.hid hW
  clear hx hy hn hm hW
  go_enter Try.func35, Try.ntmps35
  go_wp2_with fail
  refine (toSlots_n _ _ _ x.pl _ HX.out HN.out hl0).mono ?_
  rintro e w1 ⟨rfl, ho, hb⟩
  obtain ⟨hc, hf⟩ := bcell hb
  simp at hc hf
  have hz := hb.size
  simp at hz
  have HO := Lib.hid (World.ownsRow.mono ho (show w.heap.size + 3 ≤ _ by simp))
  have HB := Lib.hid (HW.out.trans (hb.mono (by simp; omega)))
  clear ho hb
  go_wp2_with fail
  have hB2 := HB.out.setCell (p := ⟨w.heap.size + 2, 0, none⟩) (by simp) (.slice (some ⟨w.heap.size + 3, 0, none⟩) n n)
  have hg2 : w1.grownBy (w1.setCell ⟨w.heap.size + 2, 0, none⟩ (.slice (some ⟨w.heap.size + 3, 0, none⟩) n n)) (some (w.heap.size + 2)) := ⟨rfl, rfl, rfl, by simp [World.setCell], fun k _ hk => heap_setCell_other w1 _ k _ (fun e => hk (by simp [e]))⟩
  have HO2 := Lib.hid (World.ownsRow.kept HO.out hg2 (.inr (by simp [Value.ownBlock])))
  have HB2 := Lib.hid hB2
  clear hB2 hg2
  have hz1 : w.heap.size + 3 ≤ w1.heap.size := hz
  have k0 : (w1.setCell ⟨w.heap.size + 2, 0, none⟩ (.slice (some ⟨w.heap.size + 3, 0, none⟩) n n)).cell? ⟨w.heap.size + 2, 0, none⟩ = some (.slice (some ⟨w.heap.size + 3, 0, none⟩) n n) := World.cell?_setCell_same' _ _ _ (by rw [hc _ _ (by omega)]; go_simp)
  have k1 : (w1.setCell ⟨w.heap.size + 2, 0, none⟩ (.slice (some ⟨w.heap.size + 3, 0, none⟩) n n)).cell? ⟨w.heap.size + 2, 1, none⟩ = some (.slice none 0 0) := by rw [World.cell?_setCell_other _ _ _ _ (by simp), hc _ _ (by omega)]; go_simp
  have k2 : (w1.setCell ⟨w.heap.size + 2, 0, none⟩ (.slice (some ⟨w.heap.size + 3, 0, none⟩) n n)).cell? ⟨w.heap.size + 1, 0, none⟩ = some (.slice none 0 0) := by rw [World.cell?_setCell_other _ _ _ _ (by simp), hc _ _ (by omega)]; go_simp
  have k3 : (w1.setCell ⟨w.heap.size + 2, 0, none⟩ (.slice (some ⟨w.heap.size + 3, 0, none⟩) n n)).cell? ⟨w.heap.size + 1, 1, none⟩ = some (.slice none 0 0) := by rw [World.cell?_setCell_other _ _ _ _ (by simp), hc _ _ (by omega)]; go_simp
  have k4 : ∀ o, (w1.setCell ⟨w.heap.size + 2, 0, none⟩ (.slice (some ⟨w.heap.size + 3, 0, none⟩) n n)).frozen? ⟨w.heap.size + 2, o, none⟩ = false := fun o => by rw [World.frozen?_setCell, hf _ _ (by omega)]; go_simp
  have k5 : ∀ o, (w1.setCell ⟨w.heap.size + 2, 0, none⟩ (.slice (some ⟨w.heap.size + 3, 0, none⟩) n n)).frozen? ⟨w.heap.size + 1, o, none⟩ = false := fun o => by rw [World.frozen?_setCell, hf _ _ (by omega)]; go_simp
  clear hc hf
  obtain ⟨ws, hws⟩ : ∃ ws, w1.setCell ⟨w.heap.size + 2, 0, none⟩ (.slice (some ⟨w.heap.size + 3, 0, none⟩) n n) = ws := ⟨_, rfl⟩
  rw [hws] at k0 k1 k2 k3 k4 k5 HO2 HB2 ⊢
  have hz2 : w.heap.size + 3 < ws.heap.size := by have := (HO2.out.lt _ rfl).2; simp at this; omega
  clear hws HO
  refine (toVals_any _ _ _ x.st _ (HY.out.below HB2.out) HM.out hl1).mono ?_
  rintro e w2 ⟨rfl, ho, hb⟩
  replace k0 := (hb.cell (p := ⟨w.heap.size + 2, 0, none⟩) (by simp; omega)).trans k0
  replace k1 := (hb.cell (p := ⟨w.heap.size + 2, 1, none⟩) (by simp; omega)).trans k1
  replace k2 := (hb.cell (p := ⟨w.heap.size + 1, 0, none⟩) (by simp; omega)).trans k2
  replace k3 := (hb.cell (p := ⟨w.heap.size + 1, 1, none⟩) (by simp; omega)).trans k3
  replace k4 := fun o => (hb.frozen (p := ⟨w.heap.size + 2, o, none⟩) (by simp; omega)).trans (k4 o)
  replace k5 := fun o => (hb.frozen (p := ⟨w.heap.size + 1, o, none⟩) (by simp; omega)).trans (k5 o)
  have HO3 := Lib.hid (ownsRow_below HO2.out hb)
  have HP3 := Lib.hid ho
  have HB3 := Lib.hid (HB2.out.trans (hb.mono (by omega)))
  have hz3 : ws.heap.size < w2.heap.size := (ho.lt _ rfl).2
  have HZ3 := Lib.hid hz3
  have HZ2 := Lib.hid hz2
  clear ho hb hz3 hz1 hz HO2 HB2 HB hz2
  go_wp2_with fail
  have hzw : (((w.alloc (.cells #[.slice A0 n c0, .slice A1 m c1] 54)).alloc (.cells #[.slice none 0 0, .slice none 0 0] 60)).alloc (.cells #[.slice none 0 0, .slice none 0 0] 60)).heap.size = w.heap.size + 3 := by simp
  have HC := CeOwn.mk (w := w2) (lo := w.heap.size + 3) (x := x) (n := n) (m := m) (g0 := w.heap.size + 3) (g1 := ws.heap.size) (Nat.le_refl _) HZ2.out HZ3.out (by rw [hzw] at HO3; exact HO3.out) (World.ownsRow.mono HP3.out (Nat.le_of_lt HZ2.out))
  refine bodyPost_ret (v := .agg #[.slice (some ⟨w.heap.size + 3, 0, none⟩) n n, .slice (some ⟨ws.heap.size, 0, none⟩) m m]) (by simp [results, Try.results35, go_sem, k0, k1, k2, k3, k4, k5]) rfl ⟨w.heap.size + 3, ws.heap.size, rfl, ?_, ?_⟩
  · exact ((((HC.stored (by simp) _).stored (by simp) _).stored (by simp) _)).mono (by omega)
  · exact ((HB3.out.setCell (by simp; omega) _).setCell (by simp) _).setCell (by simp) _

/-- The rows of so many cells are the call's own, each behind the one ahead of it. -/
structure CesOwn (w : World) (lo : Nat) (G : Nat → Nat) (L : List Value) (xs : List Ce) (k : Nat) : Prop where
  asc : ∀ i j, i < j → j < 2 * k → G i < G j
  at_ : ∀ i x, i < k → xs[i]? = some x → L[i * 2]? = some (.slice (some ⟨G (2 * i), 0, none⟩) x.pl.length x.pl.length) ∧ L[i * 2 + 1]? = some (.slice (some ⟨G (2 * i + 1), 0, none⟩) x.st.length x.st.length) ∧
    CeOwn w lo x x.pl.length x.st.length (G (2 * i)) (G (2 * i + 1))
theorem CesOwn.below {w w' : World} {lo : Nat} {G : Nat → Nat} {L : List Value} {xs : List Ce} {k : Nat} (h : CesOwn w lo G L xs k) (hb : Below w.heap.size w w') : CesOwn w' lo G L xs k :=
  ⟨h.asc, fun i x hi hx => ⟨(h.at_ i x hi hx).1, (h.at_ i x hi hx).2.1, (h.at_ i x hi hx).2.2.below hb⟩⟩
theorem CesOwn.stored {w : World} {lo : Nat} {G : Nat → Nat} {L : List Value} {xs : List Ce} {k : Nat} (h : CesOwn w lo G L xs k) {p : Addr} (hp : p.block < lo) (u : Value) : CesOwn (w.setCell p u) lo G L xs k :=
  ⟨h.asc, fun i x hi hx => ⟨(h.at_ i x hi hx).1, (h.at_ i x hi hx).2.1, (h.at_ i x hi hx).2.2.stored hp u⟩⟩
theorem CesOwn.lt {w : World} {lo : Nat} {G : Nat → Nat} {L : List Value} {xs : List Ce} {k : Nat} (h : CesOwn w lo G L xs k) (hk : k ≤ xs.length) {j : Nat} (hj : j < 2 * k) : lo ≤ G j ∧ G j < w.heap.size := by
  obtain ⟨x, hx⟩ := at_some (show j / 2 < xs.length by omega)
  obtain ⟨_, _, hc⟩ := h.at_ (j / 2) x (by omega) hx
  have := hc.l0; have := hc.l1; have := hc.l2
  rcases (by omega : j = 2 * (j / 2) ∨ j = 2 * (j / 2) + 1) with e | e
  · rw [e]; omega
  · rw [e]; omega
theorem CesOwn.more {w : World} {lo : Nat} {G : Nat → Nat} {L : List Value} {xs : List Ce} {k g0 g1 : Nat} {x : Ce} {B : Nat} (h : CesOwn w lo G L xs k) (hx : xs[k]? = some x) (hL : k * 2 + 1 < L.length)
    (hc : CeOwn w lo x x.pl.length x.st.length g0 g1) (hB : ∀ j, j < 2 * k → G j < B) (hg : B ≤ g0) :
    CesOwn w lo (fun j => if j = 2 * k then g0 else if j = 2 * k + 1 then g1 else G j) ((L.set (k * 2) (.slice (some ⟨g0, 0, none⟩) x.pl.length x.pl.length)).set (k * 2 + 1) (.slice (some ⟨g1, 0, none⟩) x.st.length x.st.length)) xs (k + 1) := by
  have h1 := hc.l1
  refine ⟨fun i j hij hj => ?_, fun i y hi hy => ?_⟩
  · rcases (by omega : j < 2 * k ∨ j = 2 * k ∨ j = 2 * k + 1) with hj | rfl | rfl
    · rw [if_neg (by omega), if_neg (by omega), if_neg (by omega), if_neg (by omega)]
      exact h.asc i j hij hj
    · rw [if_neg (by omega), if_neg (by omega), if_pos rfl]
      have := hB i hij
      omega
    · rw [if_neg (show ¬ 2 * k + 1 = 2 * k by omega), if_pos rfl]
      split
      · omega
      · rw [if_neg (by omega)]
        have := hB i (by omega)
        omega
  · rcases (by omega : i < k ∨ i = k) with hik | rfl
    · obtain ⟨a0, a1, a2⟩ := h.at_ i y hik hy
      rw [if_neg (by omega), if_neg (by omega), if_neg (by omega), if_neg (by omega)]
      refine ⟨?_, ?_, a2⟩
      · rw [List.getElem?_set_ne (by omega), List.getElem?_set_ne (by omega)]; exact a0
      · rw [List.getElem?_set_ne (by omega), List.getElem?_set_ne (by omega)]; exact a1
    · rw [hx] at hy
      injection hy with hy
      subst hy
      rw [if_pos rfl, if_neg (by omega), if_pos rfl]
      refine ⟨?_, ?_, hc⟩
      · rw [List.getElem?_set_ne (by omega), List.getElem?_set_self (by omega)]
      · rw [List.getElem?_set_self (by simp; omega)]

theorem infoCe : (Try.prog.info? 60).map (fun i => (i.zero, i.size, i.bytes)) = some (some (.agg #[.slice none 0 0, .slice none 0 0]), 2, 48) := by kernel_rfl
/-- What the laws' copy of cells answers. -/
def CellsX (n : Nat) (xs : List Ce) (w : World) (e : Ending) (w' : World) : Prop :=
  ∃ G L, e = .returned (.slice (some ⟨w.heap.size, 0, none⟩) n n) ∧ w'.ownsRow w.heap.size 60 2 (.slice (some ⟨w.heap.size, 0, none⟩) n n) n L ∧ CesOwn w' (w.heap.size + 1) G L xs n ∧ Below w.heap.size w w'

set_option maxHeartbeats 2000000 in
theorem toCells_any (A : Option Addr) (c n : Nat) (xs : List Ce) (w : World) (hx : CeL w A xs) (hn : xs.length = n) (hl : n ≤ 1048576) (hs : ∀ x ∈ xs, x.pl.length ≤ 1048576 ∧ x.st.length ≤ 1048576) :
    Calls Try.prog 19 #[.slice A n c] w (CellsX n xs w) := by
  have HN := Lib.hid hn
  have HX := Lib.hid hx
  have HS := Lib.hid hs
  clear hx hn hs
  obtain ⟨i0, hi, hz0, hz1, hz2⟩ := info_parts infoCe
  have HZ2 := Lib.hid hz2
  clear hz2
  go_enter Try.func19, Try.ntmps19
  go_wp2_with (at_make; refine wpList_make_full _ rfl _ _ 27 rfl w.heap.size 60 i0 (.agg #[.slice none 0 0, .slice none 0 0]) 2 Try.underlying27 hi hz0 hz1 .i64 .i64 _ _ n rfl rfl rfl rfl (by rw [HZ2.out]; omega) (by unfold maxLen; omega) (Nat.le_refl _) ?_; rintro w1 hown hgrow)
  have hB1 : Below w.heap.size w w1 := grown_below hgrow
  have hg1 : w.heap.size < w1.heap.size := (hown.lt _ rfl).2
  have HO := Lib.hid hown
  clear hown hgrow hi hz0 hz1
  go_loopw [4] (fun i wr => ∃ (k : Nat) (G : Nat → Nat) (L : List Value), k ≤ n ∧ i = .int .i64 k ∧ wr.ownsRow w.heap.size 60 2 (.slice (some ⟨w.heap.size, 0, none⟩) n n) n L ∧ CesOwn wr (w.heap.size + 1) G L xs k ∧ Below w.heap.size w wr) (fun i _ => n - (intOf i).toNat)
  case atStart => exact ⟨0, fun _ => 0, _, by omega, rfl, HO.out, ⟨fun i j _ h => by omega, fun i x h => by omega⟩, hB1⟩
  case round =>
    obtain ⟨k, G, L, hk, rfl, hown, hces, hB⟩ := hrel
    have HC := Lib.hid hces
    have HO2 := Lib.hid hown
    have hgl : w.heap.size < wr.heap.size := (hown.lt _ rfl).2
    have HGL := Lib.hid (fun j (hj : j < 2 * k) => (hces.lt (by rw [HN.out]; exact hk) hj).2)
    clear hces hown
    by_cases hlt : k < n
    · obtain ⟨b, off, rfl, hblt, hcell⟩ := (HX.out.below hB) (by have := HN.out; omega)
      obtain ⟨x, hx⟩ := at_some (show k < xs.length by rw [HN.out]; exact hlt)
      obtain ⟨A0, c0, A1, c1, hat⟩ := hcell k x hx
      have e0 := hat.e0
      have e1 := hat.e1
      have hsz := HS.out x (List.mem_of_getElem? hx)
      have hs := toCell_any A0 A1 c0 c1 x.pl.length x.st.length x wr hat.pl hat.st rfl rfl hsz.1 hsz.2
      have HXK := Lib.hid hx
      clear hcell hx hat hsz
      go_wp2_with fail
      refine hs.mono ?_
      rintro e w2 ⟨g0, g1, rfl, hce, hb⟩
      have hO3 := ownsRow_below HO2.out hb
      have hLl : L.length = n * 2 := hO3.1
      obtain ⟨u0, d0⟩ : ∃ u, w2.cell? ⟨w.heap.size, k * 2, none⟩ = some u := ⟨_, (hO3.cellAt (k * 2) (by omega)).trans (List.getElem?_eq_getElem (show k * 2 < L.length by omega))⟩
      obtain ⟨u1, d1⟩ : ∃ u, w2.cell? ⟨w.heap.size, k * 2 + 1, none⟩ = some u := ⟨_, (hO3.cellAt (k * 2 + 1) (by omega)).trans (List.getElem?_eq_getElem (show k * 2 + 1 < L.length by omega))⟩
      have f0 := hO3.frozenAt (k * 2)
      have f1 := hO3.frozenAt (k * 2 + 1)
      have HO3 := Lib.hid hO3
      have HLl := Lib.hid hLl
      have HB2 := Lib.hid (more hB (Nat.le_refl _) hb)
      have HC2 := Lib.hid (CesOwn.more (HC.out.below hb) HXK.out (by omega) (hce.mono hgl) HGL.out hce.l0)
      clear hO3 hLl hb hs e0 e1 hce
      go_wp2_with fail
      obtain ⟨s1, q1⟩ := HO3.out.stored (k * 2) (.slice (some ⟨g0, 0, none⟩) x.pl.length x.pl.length)
      obtain ⟨s2, q2⟩ := s1.stored (k * 2 + 1) (.slice (some ⟨g1, 0, none⟩) x.st.length x.st.length)
      go_roundw
      case rel => exact ⟨k + 1, _, _, by omega, by go_num, s2, (HC2.out.stored (Nat.lt_succ_self _) _).stored (Nat.lt_succ_self _) _, (HB2.out.setCell (Nat.le_refl _) _).setCell (Nat.le_refl _) _⟩
      case measure => simp [intOf]; omega
    · obtain rfl : k = n := by omega
      go_wp2_with fail
      go_ret
      exact ⟨G, L, rfl, HO2.out, HC.out, hB⟩
theorem CeL.of_own {w : World} {lo h n m : Nat} {G : Nat → Nat} {L : List Value} {xs : List Ce} (ho : w.ownsRow h 60 2 (.slice (some ⟨m, 0, none⟩) n n) n L) (hc : CesOwn w lo G L xs n) (hn : xs.length = n) (hs : ∀ x ∈ xs, x.pl.length ≤ 1048576 ∧ x.st.length ≤ 1048576) : CeL w (some ⟨m, 0, none⟩) xs := fun h0 => by
  refine ⟨m, 0, rfl, (ho.lt m rfl).2, fun i x hx => ?_⟩
  have hi : i < n := by rw [← hn]; exact (List.getElem?_eq_some_iff.1 hx).1
  obtain ⟨a0, a1, a2⟩ := hc.at_ i x hi hx
  have hsz := hs x (List.mem_of_getElem? hx)
  refine ⟨_, x.pl.length, _, x.st.length, ⟨?_, ?_, Lie.of_own (c := Sl.cells) (fun _ => rfl) a2.pl, Lie.of_own (c := Va.cells) (fun _ => rfl) a2.st, Nat.le_refl _, Nat.le_refl _, by unfold maxLen; omega, by unfold maxLen; omega⟩⟩
  · rw [Nat.zero_add, ho.cellAt (i * 2) (by omega)]; exact a0
  · rw [Nat.zero_add, ho.cellAt (i * 2 + 1) (by omega)]; exact a1
end Go.Proofs.Ytkofajjlkhamkaa
