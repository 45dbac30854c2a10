/- Histories in blocks of their own: the laws' copies. -/
import Derived.Test.YtkofajjlkhamkaaHso2
namespace Go.Proofs.Ytkofajjlkhamkaa
open Go.Joins Go.ChangeShapes Go.WideShapes Go.ChangeAt Go.RowKit Go.Deep
set_option linter.unusedVariables false
set_option linter.unusedSimpArgs false

theorem turn_set (w : World) (p : Addr) (u : Value) : Turn p.block (p.block + 1) w (w.setCell p u) := Turn.of_grown (grown_set w rfl u) (Nat.le_refl _) (Nat.lt_succ_self _)
theorem StO.stored {w : World} {lo hi c : Nat} {A : Option Addr} {xs : List Ce} (h : StO w lo hi A c xs) {p : Addr} (hp : p.block < lo) (u : Value) : StO (w.setCell p u) lo hi A c xs := ApR.turn CeO.turn h (turn_set w p u) (.inr hp)
theorem SsO.stored {w : World} {lo hi c : Nat} {A : Option Addr} {xs : List (List Ce)} (h : SsO w lo hi A c xs) {p : Addr} (hp : p.block < lo) (u : Value) : SsO (w.setCell p u) lo hi A c xs := ApR.turn StV.turn h (turn_set w p u) (.inr hp)
theorem StO.below {w w' : World} {lo hi c : Nat} {A : Option Addr} {xs : List Ce} (h : StO w lo hi A c xs) (hb : Below w.heap.size w w') : StO w' lo hi A c xs := ApR.below CeO.turn h hb
theorem SsO.below {w w' : World} {lo hi c : Nat} {A : Option Addr} {xs : List (List Ce)} (h : SsO w lo hi A c xs) (hb : Below w.heap.size w w') : SsO w' lo hi A c xs := ApR.below StV.turn h hb
theorem StO.turn {w w' : World} {lo hi c l2 h2 : Nat} {A : Option Addr} {xs : List Ce} (h : StO w lo hi A c xs) (ht : Turn l2 h2 w w') (hr : hi ≤ l2 ∨ h2 ≤ lo) : StO w' lo hi A c xs := ApR.turn CeO.turn h ht hr
theorem SsO.turn {w w' : World} {lo hi c l2 h2 : Nat} {A : Option Addr} {xs : List (List Ce)} (h : SsO w lo hi A c xs) (ht : Turn l2 h2 w w') (hr : hi ≤ l2 ∨ h2 ≤ lo) : SsO w' lo hi A c xs := ApR.turn StV.turn h ht hr
theorem StO.mono {w : World} {lo hi lo' hi' c : Nat} {A : Option Addr} {xs : List Ce} (h : StO w lo hi A c xs) (h1 : lo' ≤ lo) (h2 : hi ≤ hi') : StO w lo' hi' A c xs := ApR.mono h h1 h2
theorem SsO.mono {w : World} {lo hi lo' hi' c : Nat} {A : Option Addr} {xs : List (List Ce)} (h : SsO w lo hi A c xs) (h1 : lo' ≤ lo) (h2 : hi ≤ hi') : SsO w lo' hi' A c xs := ApR.mono h h1 h2
theorem toSt_own (A : Option Addr) (c n : Nat) (xs : List Ce) (w : World) (hx : CeL w A xs) (hn : xs.length = n) (hs : Sm2 xs) :
    Calls Try.prog 19 #[.slice A n c] w fun e w' => e = .returned (.slice (some ⟨w.heap.size, 0, none⟩) n n) ∧ StO w' w.heap.size w'.heap.size (some ⟨w.heap.size, 0, none⟩) n xs ∧ Below w.heap.size w w' := by
  subst hn
  refine (toCells_any A c xs.length xs w hx rfl hs.1 hs.2).mono ?_
  intro e w' h
  have he : e = .returned (.slice (some ⟨w.heap.size, 0, none⟩) xs.length xs.length) := by obtain ⟨G, L, h, _⟩ := h; exact h
  obtain ⟨A, h1, h2, h3⟩ := h.sto rfl
  rw [he] at h1
  simp only [Ending.returned.injEq, Value.slice.injEq, and_true] at h1
  subst h1
  exact ⟨he, h2, h3⟩
set_option maxHeartbeats 2000000 in
theorem toSs_own (A : Option Addr) (c n : Nat) (xss : List (List Ce)) (w : World) (hx : StL w A xss) (hn : xss.length = n) (hl : n ≤ 1048576) (hs : ∀ xs ∈ xss, Sm2 xs) :
    Calls Try.prog 20 #[.slice A n c] w fun e w' => e = .returned (.slice (some ⟨w.heap.size, 0, none⟩) n n) ∧ SsO w' w.heap.size w'.heap.size (some ⟨w.heap.size, 0, none⟩) n xss ∧ Below w.heap.size w w' := by
  have HN := Lib.hid hn
  have HX := Lib.hid hx
  have HS := Lib.hid hs
  clear hx hn hs
  obtain ⟨i0, hi, hz0, hz1, hz2⟩ := info_parts infoSt
  have HZ2 := Lib.hid hz2
  clear hz2
  go_enter Try.func20, Try.ntmps20
  go_wp2_with (at_make; refine wpList_make_full _ rfl _ _ 28 rfl w.heap.size 27 i0 (.slice none 0 0) 1 Try.underlying28 hi hz0 hz1 .i64 .i64 _ _ n rfl rfl rfl rfl (by rw [HZ2.out]; omega) (by unfold maxLen; omega) (Nat.le_refl _) ?_; rintro w1 hown hgrow)
  have hB1 : Below w.heap.size w w1 := grown_below hgrow
  have hg1 : w.heap.size < w1.heap.size := (hown.lt _ rfl).2
  have HO := Lib.hid hown
  clear hown hgrow hi hz0 hz1
  go_loopw [4] (fun i wr => ∃ (k : Nat) (L : List Value) (P Q : Nat → Nat), k ≤ n ∧ i = .int .i64 k ∧ wr.ownsRow w.heap.size 27 1 (.slice (some ⟨w.heap.size, 0, none⟩) n n) n L ∧ ApD StV 1 wr (w.heap.size + 1) wr.heap.size w.heap.size L P Q (xss.take k) ∧ Below w.heap.size w wr) (fun i _ => n - (intOf i).toNat)
  case atStart => exact ⟨0, _, _, _, by omega, rfl, HO.out, ApD.zero, hB1⟩
  case round =>
    obtain ⟨k, L, P, Q, hk, rfl, hown, hces, hB⟩ := hrel
    have HC := Lib.hid hces
    have HO2 := Lib.hid hown
    have hgl : w.heap.size < wr.heap.size := (hown.lt _ rfl).2
    clear hces hown
    by_cases hlt : k < n
    · obtain ⟨b, off, rfl, hblt, hcell⟩ := (HX.out.below hB) (by have := HN.out; omega)
      obtain ⟨x, hx⟩ := at_some (show k < xss.length by rw [HN.out]; exact hlt)
      obtain ⟨A0, c0, e0, hat, hm0, hc0⟩ := hcell k x hx
      have hsz := HS.out x (List.mem_of_getElem? hx)
      have hs := toSt_own A0 c0 x.length x wr hat rfl hsz
      have HXK := Lib.hid hx
      clear hcell hx hat hsz
      go_wp2_with fail
      refine hs.mono ?_
      rintro e w2 ⟨rfl, hce, hb⟩
      have hO3 := ownsRow_below HO2.out hb
      have hLl : L.length = n * 1 := hO3.1
      obtain ⟨u0, d0⟩ : ∃ u, w2.cell? ⟨w.heap.size, k, none⟩ = some u := ⟨_, (hO3.cellAt k (by omega)).trans (List.getElem?_eq_getElem (show k < L.length by omega))⟩
      have f0 := hO3.frozenAt k
      have HO3 := Lib.hid hO3
      have HLl := Lib.hid hLl
      have HB2 := Lib.hid (more hB (Nat.le_refl _) hb)
      have HC2 := Lib.hid hce
      have hb2 := hb
      have HBB := Lib.hid hb2
      clear hb2
      clear hO3 hLl hb hs e0 hce
      go_wp2_with fail
      obtain ⟨s1, q1⟩ := HO3.out.stored k (.slice (some ⟨wr.heap.size, 0, none⟩) x.length x.length)
      go_roundw
      case rel =>
        have ht3 : Turn w.heap.size (w.heap.size + 1) w2 (w2.setCell ⟨w.heap.size, k, none⟩ (.slice (some ⟨wr.heap.size, 0, none⟩) x.length x.length)) := turn_set w2 ⟨w.heap.size, k, none⟩ _
        have hsz3 : (w2.setCell ⟨w.heap.size, k, none⟩ (.slice (some ⟨wr.heap.size, 0, none⟩) x.length x.length)).heap.size = w2.heap.size := by simp [World.setCell]
        have hsb := HBB.out.size
        refine ⟨k + 1, _, _, _, by omega, by go_num, s1, ApD.more StV.turn HC.out HXK.out (cs := [(.slice (some ⟨wr.heap.size, 0, none⟩) x.length x.length)]) rfl (fun i hi => ?_) (fun i u hu => ?_) hgl hgl ((Turn.of_below HBB.out).trans ht3) ⟨_, _, rfl, Nat.le_refl _, HC2.out.turn ht3 (.inr (by omega))⟩ hsb (by rw [hsz3]; exact Nat.le_refl _), HB2.out.setCell (Nat.le_refl _) _⟩
        · rw [List.getElem?_set_ne (by omega)]
        · match i, hu with
          | 0, hu =>
            simp at hu
            subst hu
            rw [show k * 1 + 0 = k by omega, List.getElem?_set_self (by have := HLl.out; omega)]
          | i + 1, hu => simp at hu
      case measure => simp [intOf]; omega
    · obtain rfl : k = n := by omega
      go_wp2_with fail
      go_ret
      refine ⟨rfl, fun h0 => ⟨w.heap.size, L, P, Q, rfl, Nat.le_refl _, hgl, ?_, ?_⟩, hB⟩
      · rw [HN.out]; exact World.ownsRow.mono HO2.out (Nat.zero_le _)
      · have hd := HC.out
        rw [List.take_of_length_le (by rw [HN.out]; exact Nat.le_refl _)] at hd
        exact ⟨hd.row, fun i hi => by have := hd.inn i hi; omega, hd.apart⟩
/-- A history in blocks of its own. -/
def HiO (w : World) (lo hi : Nat) (x : Hi) (A0 : Option Addr) (c0 : Nat) (A1 : Option Addr) (c1 : Nat) (A2 : Option Addr) (c2 : Nat) : Prop :=
  x.now.length ≤ c0 ∧ x.back.length ≤ c1 ∧ x.ahead.length ≤ c2 ∧ ∃ m1 m2, lo ≤ m1 ∧ m1 ≤ m2 ∧ m2 ≤ hi ∧ StO w lo m1 A0 c0 x.now ∧ SsO w m1 m2 A1 c1 x.back ∧ SsO w m2 hi A2 c2 x.ahead
theorem HiO.turn {w w' : World} {lo hi l2 h2 : Nat} {x : Hi} {A0 A1 A2 : Option Addr} {c0 c1 c2 : Nat} (h : HiO w lo hi x A0 c0 A1 c1 A2 c2) (ht : Turn l2 h2 w w') (hr : hi ≤ l2 ∨ h2 ≤ lo) : HiO w' lo hi x A0 c0 A1 c1 A2 c2 := by
  obtain ⟨a, b, c, m1, m2, d, e, f, h1, h2', h3⟩ := h
  exact ⟨a, b, c, m1, m2, d, e, f, h1.turn ht (by omega), h2'.turn ht (by omega), h3.turn ht (by omega)⟩
theorem HiO.below {w w' : World} {lo hi : Nat} {x : Hi} {A0 A1 A2 : Option Addr} {c0 c1 c2 : Nat} (h : HiO w lo hi x A0 c0 A1 c1 A2 c2) (hb : Below w.heap.size w w') : HiO w' lo hi x A0 c0 A1 c1 A2 c2 :=
  h.turn (Turn.of_below (lo := hi) (hi := hi) hb) (.inl (Nat.le_refl _))
/-- Nothing of it is long. -/
def SmH (x : Hi) : Prop := Sm2 x.now ∧ (x.back.length ≤ 1048576 ∧ ∀ y ∈ x.back, Sm2 y) ∧ (x.ahead.length ≤ 1048576 ∧ ∀ y ∈ x.ahead, Sm2 y)
theorem HiO.lies {w : World} {lo hi : Nat} {x : Hi} {A0 A1 A2 : Option Addr} {c0 c1 c2 : Nat} (h : HiO w lo hi x A0 c0 A1 c1 A2 c2) (hs : SmH x) : CeL w A0 x.now ∧ StL w A1 x.back ∧ StL w A2 x.ahead := by
  obtain ⟨_, _, _, m1, m2, _, _, _, h1, h2, h3⟩ := h
  exact ⟨h1.lies hs.1, h2.lies hs.2.1.2, h3.lies hs.2.2.2⟩
def HistO (x : Hi) (n m q : Nat) (w : World) (e : Ending) (w' : World) : Prop :=
  ∃ A0 A1 A2, e = .returned (.agg #[.slice A0 n n, .slice A1 m m, .slice A2 q q]) ∧ HiO w' w.heap.size w'.heap.size x A0 n A1 m A2 q ∧ Below w.heap.size w w'
set_option maxHeartbeats 2000000 in
theorem toHist_own (A0 A1 A2 : Option Addr) (n m q c0 c1 c2 : Nat) (x : Hi) (w : World) (hx : CeL w A0 x.now) (hy : StL w A1 x.back) (hz : StL w A2 x.ahead) (hn : x.now.length = n) (hm : x.back.length = m) (hq : x.ahead.length = q) (l1 : m ≤ 1048576) (l2 : q ≤ 1048576) (s0 : Sm2 x.now) (s1 : ∀ y ∈ x.back, Sm2 y) (s2 : ∀ y ∈ x.ahead, Sm2 y) :
    Calls Try.prog 7 #[.agg #[.slice A0 n c0, .slice A1 m c1, .slice A2 q c2]] w (HistO x n m q w) := by
  have HX := Lib.hid (hx.below (show Below w.heap.size w (((w.alloc (.cells #[.slice A0 n c0, .slice A1 m c1, .slice A2 q c2] 25)).alloc (.cells #[.slice none 0 0, .slice none 0 0, .slice none 0 0] 30)).alloc (.cells #[.slice none 0 0, .slice none 0 0, .slice none 0 0] 30)) by go_grown))
  have HY := Lib.hid hy
  have HZ := Lib.hid hz
  have K0 := Lib.hid (fun w h => toSt_own A0 c0 n x.now w h hn s0)
  have K1 := Lib.hid (fun w h => toSs_own A1 c1 m x.back w h hm l1 s1)
  have K2 := Lib.hid (fun w h => toSs_own A2 c2 q x.ahead w h hq l2 s2)
  have hzw : (((w.alloc (.cells #[.slice A0 n c0, .slice A1 m c1, .slice A2 q c2] 25)).alloc (.cells #[.slice none 0 0, .slice none 0 0, .slice none 0 0] 30)).alloc (.cells #[.slice none 0 0, .slice none 0 0, .slice none 0 0] 30)).heap.size = (w.heap.size + 1 + 1 + 1) := by simp
  have HN := Lib.hid hn
  have HM := Lib.hid hm
  have HQQ := Lib.hid hq
  clear hx hy hz hn hm hq s0 s1 s2
  go_enter Try.func7, Try.ntmps7
  go_wp2_with fail
  refine (K0.out _ HX.out).mono ?_
  rintro e w1 ⟨rfl, ho, hb⟩
  have HB1 := Lib.hid (front (w := w) (W0 := _) (by go_grown) (by simp <;> omega) hb)
  have c00 : w1.cell? ⟨w.heap.size, 0, none⟩ = some (.slice A0 n c0) := (hb.cell (p := ⟨w.heap.size, 0, none⟩) (by simp <;> omega)).trans (by go_simp)
  have c01 : w1.cell? ⟨w.heap.size, 1, none⟩ = some (.slice A1 m c1) := (hb.cell (p := ⟨w.heap.size, 1, none⟩) (by simp <;> omega)).trans (by go_simp)
  have c02 : w1.cell? ⟨w.heap.size, 2, none⟩ = some (.slice A2 q c2) := (hb.cell (p := ⟨w.heap.size, 2, none⟩) (by simp <;> omega)).trans (by go_simp)
  have f0 : ∀ o, w1.frozen? ⟨w.heap.size, o, none⟩ = false := fun o => (hb.frozen (p := ⟨w.heap.size, o, none⟩) (by simp <;> omega)).trans (by go_simp)
  have c10 : w1.cell? ⟨w.heap.size + 1, 0, none⟩ = some (.slice none 0 0) := (hb.cell (p := ⟨w.heap.size + 1, 0, none⟩) (by simp <;> omega)).trans (by go_simp)
  have c11 : w1.cell? ⟨w.heap.size + 1, 1, none⟩ = some (.slice none 0 0) := (hb.cell (p := ⟨w.heap.size + 1, 1, none⟩) (by simp <;> omega)).trans (by go_simp)
  have c12 : w1.cell? ⟨w.heap.size + 1, 2, none⟩ = some (.slice none 0 0) := (hb.cell (p := ⟨w.heap.size + 1, 2, none⟩) (by simp <;> omega)).trans (by go_simp)
  have f1 : ∀ o, w1.frozen? ⟨w.heap.size + 1, o, none⟩ = false := fun o => (hb.frozen (p := ⟨w.heap.size + 1, o, none⟩) (by simp <;> omega)).trans (by go_simp)
  have c20 : w1.cell? ⟨w.heap.size + 1 + 1, 0, none⟩ = some (.slice none 0 0) := (hb.cell (p := ⟨w.heap.size + 1 + 1, 0, none⟩) (by simp <;> omega)).trans (by go_simp)
  have c21 : w1.cell? ⟨w.heap.size + 1 + 1, 1, none⟩ = some (.slice none 0 0) := (hb.cell (p := ⟨w.heap.size + 1 + 1, 1, none⟩) (by simp <;> omega)).trans (by go_simp)
  have c22 : w1.cell? ⟨w.heap.size + 1 + 1, 2, none⟩ = some (.slice none 0 0) := (hb.cell (p := ⟨w.heap.size + 1 + 1, 2, none⟩) (by simp <;> omega)).trans (by go_simp)
  have f2 : ∀ o, w1.frozen? ⟨w.heap.size + 1 + 1, o, none⟩ = false := fun o => (hb.frozen (p := ⟨w.heap.size + 1 + 1, o, none⟩) (by simp <;> omega)).trans (by go_simp)
  have hz1 : w.heap.size + 1 + 1 < w1.heap.size := by have := hb.size; simp at this; omega
  rw [hzw] at ho
  have HO1 := Lib.hid ho
  have hs1 := hb.size
  simp at hs1
  clear ho hb
  go_wp2_with fail
  replace c00 : (w1.setCell ⟨w.heap.size + 1 + 1, 0, none⟩ (.slice (some ⟨w.heap.size + 1 + 1 + 1, 0, none⟩) n n)).cell? ⟨w.heap.size, 0, none⟩ = some (.slice A0 n c0) := by rw [World.cell?_setCell_other _ _ _ _ (by first | (simp; done) | (simp; omega))]; exact c00
  replace c01 : (w1.setCell ⟨w.heap.size + 1 + 1, 0, none⟩ (.slice (some ⟨w.heap.size + 1 + 1 + 1, 0, none⟩) n n)).cell? ⟨w.heap.size, 1, none⟩ = some (.slice A1 m c1) := by rw [World.cell?_setCell_other _ _ _ _ (by first | (simp; done) | (simp; omega))]; exact c01
  replace c02 : (w1.setCell ⟨w.heap.size + 1 + 1, 0, none⟩ (.slice (some ⟨w.heap.size + 1 + 1 + 1, 0, none⟩) n n)).cell? ⟨w.heap.size, 2, none⟩ = some (.slice A2 q c2) := by rw [World.cell?_setCell_other _ _ _ _ (by first | (simp; done) | (simp; omega))]; exact c02
  replace f0 : ∀ o, (w1.setCell ⟨w.heap.size + 1 + 1, 0, none⟩ (.slice (some ⟨w.heap.size + 1 + 1 + 1, 0, none⟩) n n)).frozen? ⟨w.heap.size, o, none⟩ = false := fun o => by rw [World.frozen?_setCell]; exact f0 o
  replace c10 : (w1.setCell ⟨w.heap.size + 1 + 1, 0, none⟩ (.slice (some ⟨w.heap.size + 1 + 1 + 1, 0, none⟩) n n)).cell? ⟨w.heap.size + 1, 0, none⟩ = some (.slice none 0 0) := by rw [World.cell?_setCell_other _ _ _ _ (by first | (simp; done) | (simp; omega))]; exact c10
  replace c11 : (w1.setCell ⟨w.heap.size + 1 + 1, 0, none⟩ (.slice (some ⟨w.heap.size + 1 + 1 + 1, 0, none⟩) n n)).cell? ⟨w.heap.size + 1, 1, none⟩ = some (.slice none 0 0) := by rw [World.cell?_setCell_other _ _ _ _ (by first | (simp; done) | (simp; omega))]; exact c11
  replace c12 : (w1.setCell ⟨w.heap.size + 1 + 1, 0, none⟩ (.slice (some ⟨w.heap.size + 1 + 1 + 1, 0, none⟩) n n)).cell? ⟨w.heap.size + 1, 2, none⟩ = some (.slice none 0 0) := by rw [World.cell?_setCell_other _ _ _ _ (by first | (simp; done) | (simp; omega))]; exact c12
  replace f1 : ∀ o, (w1.setCell ⟨w.heap.size + 1 + 1, 0, none⟩ (.slice (some ⟨w.heap.size + 1 + 1 + 1, 0, none⟩) n n)).frozen? ⟨w.heap.size + 1, o, none⟩ = false := fun o => by rw [World.frozen?_setCell]; exact f1 o
  replace c20 : (w1.setCell ⟨w.heap.size + 1 + 1, 0, none⟩ (.slice (some ⟨w.heap.size + 1 + 1 + 1, 0, none⟩) n n)).cell? ⟨w.heap.size + 1 + 1, 0, none⟩ = some (.slice (some ⟨w.heap.size + 1 + 1 + 1, 0, none⟩) n n) := World.cell?_setCell_same' _ _ _ (by rw [c20]; rfl)
  replace c21 : (w1.setCell ⟨w.heap.size + 1 + 1, 0, none⟩ (.slice (some ⟨w.heap.size + 1 + 1 + 1, 0, none⟩) n n)).cell? ⟨w.heap.size + 1 + 1, 1, none⟩ = some (.slice none 0 0) := by rw [World.cell?_setCell_other _ _ _ _ (by first | (simp; done) | (simp; omega))]; exact c21
  replace c22 : (w1.setCell ⟨w.heap.size + 1 + 1, 0, none⟩ (.slice (some ⟨w.heap.size + 1 + 1 + 1, 0, none⟩) n n)).cell? ⟨w.heap.size + 1 + 1, 2, none⟩ = some (.slice none 0 0) := by rw [World.cell?_setCell_other _ _ _ _ (by first | (simp; done) | (simp; omega))]; exact c22
  replace f2 : ∀ o, (w1.setCell ⟨w.heap.size + 1 + 1, 0, none⟩ (.slice (some ⟨w.heap.size + 1 + 1 + 1, 0, none⟩) n n)).frozen? ⟨w.heap.size + 1 + 1, o, none⟩ = false := fun o => by rw [World.frozen?_setCell]; exact f2 o
  have HB2 := Lib.hid (HB1.out.setCell (p := ⟨w.heap.size + 1 + 1, 0, none⟩) (by first | omega | (simp; done) | (simp; omega)) (.slice (some ⟨w.heap.size + 1 + 1 + 1, 0, none⟩) n n))
  have HO2 := Lib.hid (HO1.out.stored (p := ⟨w.heap.size + 1 + 1, 0, none⟩) (by first | omega | (simp; done) | (simp; omega)) (.slice (some ⟨w.heap.size + 1 + 1 + 1, 0, none⟩) n n))
  have hz2 : w.heap.size + 1 + 1 < (w1.setCell ⟨w.heap.size + 1 + 1, 0, none⟩ (.slice (some ⟨w.heap.size + 1 + 1 + 1, 0, none⟩) n n)).heap.size := by simpa [World.setCell] using hz1
  have HW2 := Lib.hid (show (w1.setCell ⟨w.heap.size + 1 + 1, 0, none⟩ (.slice (some ⟨w.heap.size + 1 + 1 + 1, 0, none⟩) n n)).heap.size = w1.heap.size by simp [World.setCell])
  obtain ⟨w2, hws⟩ : ∃ ws, (w1.setCell ⟨w.heap.size + 1 + 1, 0, none⟩ (.slice (some ⟨w.heap.size + 1 + 1 + 1, 0, none⟩) n n)) = ws := ⟨_, rfl⟩
  rw [hws] at HB2 HW2 hz2 c00 c01 c02 c10 c11 c12 c20 c21 c22 f0 f1 f2 HO2 ⊢
  clear hws
  go_wp2_with fail
  refine (K1.out _ (HY.out.below HB2.out)).mono ?_
  rintro e w3 ⟨rfl, ho, hb⟩
  have HB3 := Lib.hid (more HB2.out (Nat.le_refl _) hb)
  replace c00 := (hb.cell (p := ⟨w.heap.size, 0, none⟩) (by first | omega | (simp; done) | (simp; omega))).trans c00
  replace c01 := (hb.cell (p := ⟨w.heap.size, 1, none⟩) (by first | omega | (simp; done) | (simp; omega))).trans c01
  replace c02 := (hb.cell (p := ⟨w.heap.size, 2, none⟩) (by first | omega | (simp; done) | (simp; omega))).trans c02
  replace f0 : ∀ o, w3.frozen? ⟨w.heap.size, o, none⟩ = false := fun o => (hb.frozen (p := ⟨w.heap.size, o, none⟩) (by first | omega | (simp; done) | (simp; omega))).trans (f0 o)
  replace c10 := (hb.cell (p := ⟨w.heap.size + 1, 0, none⟩) (by first | omega | (simp; done) | (simp; omega))).trans c10
  replace c11 := (hb.cell (p := ⟨w.heap.size + 1, 1, none⟩) (by first | omega | (simp; done) | (simp; omega))).trans c11
  replace c12 := (hb.cell (p := ⟨w.heap.size + 1, 2, none⟩) (by first | omega | (simp; done) | (simp; omega))).trans c12
  replace f1 : ∀ o, w3.frozen? ⟨w.heap.size + 1, o, none⟩ = false := fun o => (hb.frozen (p := ⟨w.heap.size + 1, o, none⟩) (by first | omega | (simp; done) | (simp; omega))).trans (f1 o)
  replace c20 := (hb.cell (p := ⟨w.heap.size + 1 + 1, 0, none⟩) (by first | omega | (simp; done) | (simp; omega))).trans c20
  replace c21 := (hb.cell (p := ⟨w.heap.size + 1 + 1, 1, none⟩) (by first | omega | (simp; done) | (simp; omega))).trans c21
  replace c22 := (hb.cell (p := ⟨w.heap.size + 1 + 1, 2, none⟩) (by first | omega | (simp; done) | (simp; omega))).trans c22
  replace f2 : ∀ o, w3.frozen? ⟨w.heap.size + 1 + 1, o, none⟩ = false := fun o => (hb.frozen (p := ⟨w.heap.size + 1 + 1, o, none⟩) (by first | omega | (simp; done) | (simp; omega))).trans (f2 o)
  have hz3 : w.heap.size + 1 + 1 < w3.heap.size := by have := hb.size; omega
  have HO3 := Lib.hid (HO2.out.below hb)
  have HP3 := Lib.hid ho
  have hlt3 := (hb.size)
  clear ho hb
  go_wp2_with fail
  replace c00 : (w3.setCell ⟨w.heap.size + 1 + 1, 1, none⟩ (.slice (some ⟨w2.heap.size, 0, none⟩) m m)).cell? ⟨w.heap.size, 0, none⟩ = some (.slice A0 n c0) := by rw [World.cell?_setCell_other _ _ _ _ (by first | (simp; done) | (simp; omega))]; exact c00
  replace c01 : (w3.setCell ⟨w.heap.size + 1 + 1, 1, none⟩ (.slice (some ⟨w2.heap.size, 0, none⟩) m m)).cell? ⟨w.heap.size, 1, none⟩ = some (.slice A1 m c1) := by rw [World.cell?_setCell_other _ _ _ _ (by first | (simp; done) | (simp; omega))]; exact c01
  replace c02 : (w3.setCell ⟨w.heap.size + 1 + 1, 1, none⟩ (.slice (some ⟨w2.heap.size, 0, none⟩) m m)).cell? ⟨w.heap.size, 2, none⟩ = some (.slice A2 q c2) := by rw [World.cell?_setCell_other _ _ _ _ (by first | (simp; done) | (simp; omega))]; exact c02
  replace f0 : ∀ o, (w3.setCell ⟨w.heap.size + 1 + 1, 1, none⟩ (.slice (some ⟨w2.heap.size, 0, none⟩) m m)).frozen? ⟨w.heap.size, o, none⟩ = false := fun o => by rw [World.frozen?_setCell]; exact f0 o
  replace c10 : (w3.setCell ⟨w.heap.size + 1 + 1, 1, none⟩ (.slice (some ⟨w2.heap.size, 0, none⟩) m m)).cell? ⟨w.heap.size + 1, 0, none⟩ = some (.slice none 0 0) := by rw [World.cell?_setCell_other _ _ _ _ (by first | (simp; done) | (simp; omega))]; exact c10
  replace c11 : (w3.setCell ⟨w.heap.size + 1 + 1, 1, none⟩ (.slice (some ⟨w2.heap.size, 0, none⟩) m m)).cell? ⟨w.heap.size + 1, 1, none⟩ = some (.slice none 0 0) := by rw [World.cell?_setCell_other _ _ _ _ (by first | (simp; done) | (simp; omega))]; exact c11
  replace c12 : (w3.setCell ⟨w.heap.size + 1 + 1, 1, none⟩ (.slice (some ⟨w2.heap.size, 0, none⟩) m m)).cell? ⟨w.heap.size + 1, 2, none⟩ = some (.slice none 0 0) := by rw [World.cell?_setCell_other _ _ _ _ (by first | (simp; done) | (simp; omega))]; exact c12
  replace f1 : ∀ o, (w3.setCell ⟨w.heap.size + 1 + 1, 1, none⟩ (.slice (some ⟨w2.heap.size, 0, none⟩) m m)).frozen? ⟨w.heap.size + 1, o, none⟩ = false := fun o => by rw [World.frozen?_setCell]; exact f1 o
  replace c20 : (w3.setCell ⟨w.heap.size + 1 + 1, 1, none⟩ (.slice (some ⟨w2.heap.size, 0, none⟩) m m)).cell? ⟨w.heap.size + 1 + 1, 0, none⟩ = some (.slice (some ⟨w.heap.size + 1 + 1 + 1, 0, none⟩) n n) := by rw [World.cell?_setCell_other _ _ _ _ (by first | (simp; done) | (simp; omega))]; exact c20
  replace c21 : (w3.setCell ⟨w.heap.size + 1 + 1, 1, none⟩ (.slice (some ⟨w2.heap.size, 0, none⟩) m m)).cell? ⟨w.heap.size + 1 + 1, 1, none⟩ = some (.slice (some ⟨w2.heap.size, 0, none⟩) m m) := World.cell?_setCell_same' _ _ _ (by rw [c21]; rfl)
  replace c22 : (w3.setCell ⟨w.heap.size + 1 + 1, 1, none⟩ (.slice (some ⟨w2.heap.size, 0, none⟩) m m)).cell? ⟨w.heap.size + 1 + 1, 2, none⟩ = some (.slice none 0 0) := by rw [World.cell?_setCell_other _ _ _ _ (by first | (simp; done) | (simp; omega))]; exact c22
  replace f2 : ∀ o, (w3.setCell ⟨w.heap.size + 1 + 1, 1, none⟩ (.slice (some ⟨w2.heap.size, 0, none⟩) m m)).frozen? ⟨w.heap.size + 1 + 1, o, none⟩ = false := fun o => by rw [World.frozen?_setCell]; exact f2 o
  have HB4 := Lib.hid (HB3.out.setCell (p := ⟨w.heap.size + 1 + 1, 1, none⟩) (by first | omega | (simp; done) | (simp; omega)) (.slice (some ⟨w2.heap.size, 0, none⟩) m m))
  have HO4 := Lib.hid (HO3.out.stored (p := ⟨w.heap.size + 1 + 1, 1, none⟩) (by first | omega | (simp; done) | (simp; omega)) (.slice (some ⟨w2.heap.size, 0, none⟩) m m))
  have HP4 := Lib.hid (HP3.out.stored (p := ⟨w.heap.size + 1 + 1, 1, none⟩) (by first | omega | (simp; done) | (simp; omega)) (.slice (some ⟨w2.heap.size, 0, none⟩) m m))
  have hz4 : w.heap.size + 1 + 1 < (w3.setCell ⟨w.heap.size + 1 + 1, 1, none⟩ (.slice (some ⟨w2.heap.size, 0, none⟩) m m)).heap.size := by simpa [World.setCell] using hz3
  have HW4 := Lib.hid (show (w3.setCell ⟨w.heap.size + 1 + 1, 1, none⟩ (.slice (some ⟨w2.heap.size, 0, none⟩) m m)).heap.size = w3.heap.size by simp [World.setCell])
  obtain ⟨w4, hws⟩ : ∃ ws, (w3.setCell ⟨w.heap.size + 1 + 1, 1, none⟩ (.slice (some ⟨w2.heap.size, 0, none⟩) m m)) = ws := ⟨_, rfl⟩
  rw [hws] at HB4 HW4 hz4 c00 c01 c02 c10 c11 c12 c20 c21 c22 f0 f1 f2 HO4 HP4 ⊢
  clear hws
  go_wp2_with fail
  refine (K2.out _ (HZ.out.below HB4.out)).mono ?_
  rintro e w5 ⟨rfl, ho, hb⟩
  have HB5 := Lib.hid (more HB4.out (Nat.le_refl _) hb)
  replace c00 := (hb.cell (p := ⟨w.heap.size, 0, none⟩) (by first | omega | (simp; done) | (simp; omega))).trans c00
  replace c01 := (hb.cell (p := ⟨w.heap.size, 1, none⟩) (by first | omega | (simp; done) | (simp; omega))).trans c01
  replace c02 := (hb.cell (p := ⟨w.heap.size, 2, none⟩) (by first | omega | (simp; done) | (simp; omega))).trans c02
  replace f0 : ∀ o, w5.frozen? ⟨w.heap.size, o, none⟩ = false := fun o => (hb.frozen (p := ⟨w.heap.size, o, none⟩) (by first | omega | (simp; done) | (simp; omega))).trans (f0 o)
  replace c10 := (hb.cell (p := ⟨w.heap.size + 1, 0, none⟩) (by first | omega | (simp; done) | (simp; omega))).trans c10
  replace c11 := (hb.cell (p := ⟨w.heap.size + 1, 1, none⟩) (by first | omega | (simp; done) | (simp; omega))).trans c11
  replace c12 := (hb.cell (p := ⟨w.heap.size + 1, 2, none⟩) (by first | omega | (simp; done) | (simp; omega))).trans c12
  replace f1 : ∀ o, w5.frozen? ⟨w.heap.size + 1, o, none⟩ = false := fun o => (hb.frozen (p := ⟨w.heap.size + 1, o, none⟩) (by first | omega | (simp; done) | (simp; omega))).trans (f1 o)
  replace c20 := (hb.cell (p := ⟨w.heap.size + 1 + 1, 0, none⟩) (by first | omega | (simp; done) | (simp; omega))).trans c20
  replace c21 := (hb.cell (p := ⟨w.heap.size + 1 + 1, 1, none⟩) (by first | omega | (simp; done) | (simp; omega))).trans c21
  replace c22 := (hb.cell (p := ⟨w.heap.size + 1 + 1, 2, none⟩) (by first | omega | (simp; done) | (simp; omega))).trans c22
  replace f2 : ∀ o, w5.frozen? ⟨w.heap.size + 1 + 1, o, none⟩ = false := fun o => (hb.frozen (p := ⟨w.heap.size + 1 + 1, o, none⟩) (by first | omega | (simp; done) | (simp; omega))).trans (f2 o)
  have hz5 : w.heap.size + 1 + 1 < w5.heap.size := by have := hb.size; omega
  have HO5 := Lib.hid (HO4.out.below hb)
  have HP5 := Lib.hid (HP4.out.below hb)
  have HQ5 := Lib.hid ho
  have HL5 := Lib.hid hb.size
  clear ho hb
  go_wp2_with fail
  have hy2 := HW2.out
  have hy4 := HW4.out
  have hy5 := HL5.out
  refine bodyPost_ret (v := .agg #[.slice (some ⟨w.heap.size + 1 + 1 + 1, 0, none⟩) n n, .slice (some ⟨w2.heap.size, 0, none⟩) m m, .slice (some ⟨w4.heap.size, 0, none⟩) q q]) (by simp [results, Try.results7, go_sem, *]) rfl ⟨_, _, _, rfl, ⟨Nat.le_of_eq HN.out, Nat.le_of_eq HM.out, Nat.le_of_eq HQQ.out, w1.heap.size, w3.heap.size, by omega, by omega, ?_, ?_, ?_, ?_⟩, ?_⟩
  · simp [World.setCell]; omega
  · refine StO.mono (StO.stored (StO.stored (StO.stored (StO.stored HO5.out ?_ _) ?_ _) ?_ _) ?_ _) ?_ ?_
    all_goals first | omega | (simp; done) | (simp; omega)
  · refine SsO.mono (SsO.stored (SsO.stored (SsO.stored (SsO.stored HP5.out ?_ _) ?_ _) ?_ _) ?_ _) ?_ ?_
    all_goals first | omega | (simp; done) | (simp; omega)
  · refine SsO.mono (SsO.stored (SsO.stored (SsO.stored (SsO.stored HQ5.out ?_ _) ?_ _) ?_ _) ?_ _) ?_ ?_
    all_goals first | omega | (simp; done) | (simp; omega) | (simp [World.setCell]; done)
  · refine Below.setCell (Below.setCell (Below.setCell (Below.setCell HB5.out ?_ _) ?_ _) ?_ _) ?_ _
    all_goals first | omega | (simp; done) | (simp; omega)
end Go.Proofs.Ytkofajjlkhamkaa
