/- Histories: the laws' copy of them. -/
import Derived.Test.YtkofajjlkhamkaaHst3
namespace Go.Proofs.Ytkofajjlkhamkaa
open Go.Joins Go.ChangeShapes Go.WideShapes Go.ChangeAt Go.RowKit Go.Deep
set_option linter.unusedVariables false
set_option linter.unusedSimpArgs false

/-- Stores in a row of the call's own. -/
def RowOwn (w : World) (lo : Nat) (xss : List (List Ce)) (g : Nat) : Prop := ∃ L, w.ownsRow lo 27 1 (.slice (some ⟨g, 0, none⟩) xss.length xss.length) xss.length L ∧ StsOwn w lo L xss xss.length
theorem RowOwn.below {w w' : World} {lo : Nat} {xss : List (List Ce)} {g : Nat} (h : RowOwn w lo xss g) (hb : Below w.heap.size w w') : RowOwn w' lo xss g := by
  obtain ⟨L, h1, h2⟩ := h
  exact ⟨L, ownsRow_below h1 hb, h2.below hb⟩
theorem RowOwn.stored {w : World} {lo : Nat} {xss : List (List Ce)} {g : Nat} (h : RowOwn w lo xss g) {p : Addr} (hp : p.block < lo) (u : Value) : RowOwn (w.setCell p u) lo xss g := by
  obtain ⟨L, h1, h2⟩ := h
  exact ⟨L, ownsRow_stored h1 hp u, h2.stored hp u⟩
theorem RowOwn.mono {w : World} {lo lo' : Nat} {xss : List (List Ce)} {g : Nat} (h : RowOwn w lo xss g) (hl : lo' ≤ lo) : RowOwn w lo' xss g := by
  obtain ⟨L, h1, h2⟩ := h
  exact ⟨L, World.ownsRow.mono h1 hl, h2.mono hl⟩
theorem RowOwn.lies {w : World} {lo : Nat} {xss : List (List Ce)} {g : Nat} (h : RowOwn w lo xss g) (hs : ∀ xs ∈ xss, Sm2 xs) : StL w (some ⟨g, 0, none⟩) xss := by
  obtain ⟨L, h1, h2⟩ := h
  exact StL.of_own h1 h2 rfl hs
def HistX (x : Hi) (n m q : Nat) (w : World) (e : Ending) (w' : World) : Prop :=
  ∃ g0 g1 g2, e = .returned (.agg #[.slice (some ⟨g0, 0, none⟩) n n, .slice (some ⟨g1, 0, none⟩) m m, .slice (some ⟨g2, 0, none⟩) q q]) ∧ StoOwn w' w.heap.size x.now g0 ∧ RowOwn w' w.heap.size x.back g1 ∧ RowOwn w' w.heap.size x.ahead g2 ∧ Below w.heap.size w w'
theorem toStore_own (A : Option Addr) (c n : Nat) (xs : List Ce) (w : World) (hx : CeL w A xs) (hn : xs.length = n) (hs : Sm2 xs) :
    Calls Try.prog 19 #[.slice A n c] w fun e w' => e = .returned (.slice (some ⟨w.heap.size, 0, none⟩) n n) ∧ StoOwn w' w.heap.size xs w.heap.size ∧ Below w.heap.size w w' := by
  subst hn
  refine (toCells_any A c xs.length xs w hx rfl hs.1 hs.2).mono ?_
  rintro e w' ⟨G, L, rfl, hr, hce, hb⟩
  exact ⟨rfl, ⟨G, L, hr, hce.mono (by omega)⟩, hb⟩
theorem toRow_own (A : Option Addr) (c n : Nat) (xss : List (List Ce)) (w : World) (hx : StL w A xss) (hn : xss.length = n) (hl : n ≤ 1048576) (hs : ∀ xs ∈ xss, Sm2 xs) :
    Calls Try.prog 20 #[.slice A n c] w fun e w' => e = .returned (.slice (some ⟨w.heap.size, 0, none⟩) n n) ∧ RowOwn w' w.heap.size xss w.heap.size ∧ Below w.heap.size w w' := by
  subst hn
  refine (toStores_any A c xss.length xss w hx rfl hl hs).mono ?_
  rintro e w' ⟨L, rfl, hr, hce, hb⟩
  exact ⟨rfl, ⟨L, hr, hce.mono (by omega)⟩, hb⟩
set_option maxHeartbeats 2000000 in
theorem toHist_any (A0 A1 A2 : Option Addr) (n m q c0 c1 c2 : Nat) (x : Hi) (w : World) (hx : CeL w A0 x.now) (hy : StL w A1 x.back) (hz : StL w A2 x.ahead) (hn : x.now.length = n) (hm : x.back.length = m) (hq : x.ahead.length = q) (l1 : m ≤ 1048576) (l2 : q ≤ 1048576) (s0 : Sm2 x.now) (s1 : ∀ y ∈ x.back, Sm2 y) (s2 : ∀ y ∈ x.ahead, Sm2 y) :
    Calls Try.prog 7 #[.agg #[.slice A0 n c0, .slice A1 m c1, .slice A2 q c2]] w (HistX x n m q w) := by
  have HX := Lib.hid (hx.below (show Below w.heap.size w (((w.alloc (.cells #[.slice A0 n c0, .slice A1 m c1, .slice A2 q c2] 25)).alloc (.cells #[.slice none 0 0, .slice none 0 0, .slice none 0 0] 30)).alloc (.cells #[.slice none 0 0, .slice none 0 0, .slice none 0 0] 30)) by go_grown))
  have HY := Lib.hid hy
  have HZ := Lib.hid hz
  have K0 := Lib.hid (fun w h => toStore_own A0 c0 n x.now w h hn s0)
  have K1 := Lib.hid (fun w h => toRow_own A1 c1 m x.back w h hm l1 s1)
  have K2 := Lib.hid (fun w h => toRow_own A2 c2 q x.ahead w h hq l2 s2)
  have hzw : (((w.alloc (.cells #[.slice A0 n c0, .slice A1 m c1, .slice A2 q c2] 25)).alloc (.cells #[.slice none 0 0, .slice none 0 0, .slice none 0 0] 30)).alloc (.cells #[.slice none 0 0, .slice none 0 0, .slice none 0 0] 30)).heap.size = (w.heap.size + 1 + 1 + 1) := by simp
  clear hx hy hz hn hm hq s0 s1 s2
  go_enter Try.func7, Try.ntmps7
  go_wp2_with fail
  refine (K0.out _ HX.out).mono ?_
  rintro e w1 ⟨rfl, ho, hb⟩
  have HB1 := Lib.hid (front (w := w) (W0 := _) (by go_grown) (by simp <;> omega) hb)
  have c00 : w1.cell? ⟨w.heap.size, 0, none⟩ = some (.slice A0 n c0) := (hb.cell (p := ⟨w.heap.size, 0, none⟩) (by simp <;> omega)).trans (by go_simp)
  have c01 : w1.cell? ⟨w.heap.size, 1, none⟩ = some (.slice A1 m c1) := (hb.cell (p := ⟨w.heap.size, 1, none⟩) (by simp <;> omega)).trans (by go_simp)
  have c02 : w1.cell? ⟨w.heap.size, 2, none⟩ = some (.slice A2 q c2) := (hb.cell (p := ⟨w.heap.size, 2, none⟩) (by simp <;> omega)).trans (by go_simp)
  have f0 : ∀ o, w1.frozen? ⟨w.heap.size, o, none⟩ = false := fun o => (hb.frozen (p := ⟨w.heap.size, o, none⟩) (by simp <;> omega)).trans (by go_simp)
  have c10 : w1.cell? ⟨w.heap.size + 1, 0, none⟩ = some (.slice none 0 0) := (hb.cell (p := ⟨w.heap.size + 1, 0, none⟩) (by simp <;> omega)).trans (by go_simp)
  have c11 : w1.cell? ⟨w.heap.size + 1, 1, none⟩ = some (.slice none 0 0) := (hb.cell (p := ⟨w.heap.size + 1, 1, none⟩) (by simp <;> omega)).trans (by go_simp)
  have c12 : w1.cell? ⟨w.heap.size + 1, 2, none⟩ = some (.slice none 0 0) := (hb.cell (p := ⟨w.heap.size + 1, 2, none⟩) (by simp <;> omega)).trans (by go_simp)
  have f1 : ∀ o, w1.frozen? ⟨w.heap.size + 1, o, none⟩ = false := fun o => (hb.frozen (p := ⟨w.heap.size + 1, o, none⟩) (by simp <;> omega)).trans (by go_simp)
  have c20 : w1.cell? ⟨w.heap.size + 1 + 1, 0, none⟩ = some (.slice none 0 0) := (hb.cell (p := ⟨w.heap.size + 1 + 1, 0, none⟩) (by simp <;> omega)).trans (by go_simp)
  have c21 : w1.cell? ⟨w.heap.size + 1 + 1, 1, none⟩ = some (.slice none 0 0) := (hb.cell (p := ⟨w.heap.size + 1 + 1, 1, none⟩) (by simp <;> omega)).trans (by go_simp)
  have c22 : w1.cell? ⟨w.heap.size + 1 + 1, 2, none⟩ = some (.slice none 0 0) := (hb.cell (p := ⟨w.heap.size + 1 + 1, 2, none⟩) (by simp <;> omega)).trans (by go_simp)
  have f2 : ∀ o, w1.frozen? ⟨w.heap.size + 1 + 1, o, none⟩ = false := fun o => (hb.frozen (p := ⟨w.heap.size + 1 + 1, o, none⟩) (by simp <;> omega)).trans (by go_simp)
  have hz1 : w.heap.size + 1 + 1 < w1.heap.size := by have := hb.size; simp at this; omega
  rw [hzw] at ho
  have HO1 := Lib.hid ho
  have hs1 := hb.size
  simp at hs1
  clear ho hb
  go_wp2_with fail
  replace c00 : (w1.setCell ⟨w.heap.size + 1 + 1, 0, none⟩ (.slice (some ⟨w.heap.size + 1 + 1 + 1, 0, none⟩) n n)).cell? ⟨w.heap.size, 0, none⟩ = some (.slice A0 n c0) := by rw [World.cell?_setCell_other _ _ _ _ (by first | (simp; done) | (simp; omega))]; exact c00
  replace c01 : (w1.setCell ⟨w.heap.size + 1 + 1, 0, none⟩ (.slice (some ⟨w.heap.size + 1 + 1 + 1, 0, none⟩) n n)).cell? ⟨w.heap.size, 1, none⟩ = some (.slice A1 m c1) := by rw [World.cell?_setCell_other _ _ _ _ (by first | (simp; done) | (simp; omega))]; exact c01
  replace c02 : (w1.setCell ⟨w.heap.size + 1 + 1, 0, none⟩ (.slice (some ⟨w.heap.size + 1 + 1 + 1, 0, none⟩) n n)).cell? ⟨w.heap.size, 2, none⟩ = some (.slice A2 q c2) := by rw [World.cell?_setCell_other _ _ _ _ (by first | (simp; done) | (simp; omega))]; exact c02
  replace f0 : ∀ o, (w1.setCell ⟨w.heap.size + 1 + 1, 0, none⟩ (.slice (some ⟨w.heap.size + 1 + 1 + 1, 0, none⟩) n n)).frozen? ⟨w.heap.size, o, none⟩ = false := fun o => by rw [World.frozen?_setCell]; exact f0 o
  replace c10 : (w1.setCell ⟨w.heap.size + 1 + 1, 0, none⟩ (.slice (some ⟨w.heap.size + 1 + 1 + 1, 0, none⟩) n n)).cell? ⟨w.heap.size + 1, 0, none⟩ = some (.slice none 0 0) := by rw [World.cell?_setCell_other _ _ _ _ (by first | (simp; done) | (simp; omega))]; exact c10
  replace c11 : (w1.setCell ⟨w.heap.size + 1 + 1, 0, none⟩ (.slice (some ⟨w.heap.size + 1 + 1 + 1, 0, none⟩) n n)).cell? ⟨w.heap.size + 1, 1, none⟩ = some (.slice none 0 0) := by rw [World.cell?_setCell_other _ _ _ _ (by first | (simp; done) | (simp; omega))]; exact c11
  replace c12 : (w1.setCell ⟨w.heap.size + 1 + 1, 0, none⟩ (.slice (some ⟨w.heap.size + 1 + 1 + 1, 0, none⟩) n n)).cell? ⟨w.heap.size + 1, 2, none⟩ = some (.slice none 0 0) := by rw [World.cell?_setCell_other _ _ _ _ (by first | (simp; done) | (simp; omega))]; exact c12
  replace f1 : ∀ o, (w1.setCell ⟨w.heap.size + 1 + 1, 0, none⟩ (.slice (some ⟨w.heap.size + 1 + 1 + 1, 0, none⟩) n n)).frozen? ⟨w.heap.size + 1, o, none⟩ = false := fun o => by rw [World.frozen?_setCell]; exact f1 o
  replace c20 : (w1.setCell ⟨w.heap.size + 1 + 1, 0, none⟩ (.slice (some ⟨w.heap.size + 1 + 1 + 1, 0, none⟩) n n)).cell? ⟨w.heap.size + 1 + 1, 0, none⟩ = some (.slice (some ⟨w.heap.size + 1 + 1 + 1, 0, none⟩) n n) := World.cell?_setCell_same' _ _ _ (by rw [c20]; rfl)
  replace c21 : (w1.setCell ⟨w.heap.size + 1 + 1, 0, none⟩ (.slice (some ⟨w.heap.size + 1 + 1 + 1, 0, none⟩) n n)).cell? ⟨w.heap.size + 1 + 1, 1, none⟩ = some (.slice none 0 0) := by rw [World.cell?_setCell_other _ _ _ _ (by first | (simp; done) | (simp; omega))]; exact c21
  replace c22 : (w1.setCell ⟨w.heap.size + 1 + 1, 0, none⟩ (.slice (some ⟨w.heap.size + 1 + 1 + 1, 0, none⟩) n n)).cell? ⟨w.heap.size + 1 + 1, 2, none⟩ = some (.slice none 0 0) := by rw [World.cell?_setCell_other _ _ _ _ (by first | (simp; done) | (simp; omega))]; exact c22
  replace f2 : ∀ o, (w1.setCell ⟨w.heap.size + 1 + 1, 0, none⟩ (.slice (some ⟨w.heap.size + 1 + 1 + 1, 0, none⟩) n n)).frozen? ⟨w.heap.size + 1 + 1, o, none⟩ = false := fun o => by rw [World.frozen?_setCell]; exact f2 o
  have HB2 := Lib.hid (HB1.out.setCell (p := ⟨w.heap.size + 1 + 1, 0, none⟩) (by first | omega | (simp; done) | (simp; omega)) (.slice (some ⟨w.heap.size + 1 + 1 + 1, 0, none⟩) n n))
  have HO2 := Lib.hid (HO1.out.stored (p := ⟨w.heap.size + 1 + 1, 0, none⟩) (by first | omega | (simp; done) | (simp; omega)) (.slice (some ⟨w.heap.size + 1 + 1 + 1, 0, none⟩) n n))
  have hz2 : w.heap.size + 1 + 1 < (w1.setCell ⟨w.heap.size + 1 + 1, 0, none⟩ (.slice (some ⟨w.heap.size + 1 + 1 + 1, 0, none⟩) n n)).heap.size := by simpa [World.setCell] using hz1
  obtain ⟨w2, hws⟩ : ∃ ws, (w1.setCell ⟨w.heap.size + 1 + 1, 0, none⟩ (.slice (some ⟨w.heap.size + 1 + 1 + 1, 0, none⟩) n n)) = ws := ⟨_, rfl⟩
  rw [hws] at HB2 hz2 c00 c01 c02 c10 c11 c12 c20 c21 c22 f0 f1 f2 HO2 ⊢
  clear hws
  go_wp2_with fail
  refine (K1.out _ (HY.out.below HB2.out)).mono ?_
  rintro e w3 ⟨rfl, ho, hb⟩
  have HB3 := Lib.hid (more HB2.out (Nat.le_refl _) hb)
  replace c00 := (hb.cell (p := ⟨w.heap.size, 0, none⟩) (by first | omega | (simp; done) | (simp; omega))).trans c00
  replace c01 := (hb.cell (p := ⟨w.heap.size, 1, none⟩) (by first | omega | (simp; done) | (simp; omega))).trans c01
  replace c02 := (hb.cell (p := ⟨w.heap.size, 2, none⟩) (by first | omega | (simp; done) | (simp; omega))).trans c02
  replace f0 : ∀ o, w3.frozen? ⟨w.heap.size, o, none⟩ = false := fun o => (hb.frozen (p := ⟨w.heap.size, o, none⟩) (by first | omega | (simp; done) | (simp; omega))).trans (f0 o)
  replace c10 := (hb.cell (p := ⟨w.heap.size + 1, 0, none⟩) (by first | omega | (simp; done) | (simp; omega))).trans c10
  replace c11 := (hb.cell (p := ⟨w.heap.size + 1, 1, none⟩) (by first | omega | (simp; done) | (simp; omega))).trans c11
  replace c12 := (hb.cell (p := ⟨w.heap.size + 1, 2, none⟩) (by first | omega | (simp; done) | (simp; omega))).trans c12
  replace f1 : ∀ o, w3.frozen? ⟨w.heap.size + 1, o, none⟩ = false := fun o => (hb.frozen (p := ⟨w.heap.size + 1, o, none⟩) (by first | omega | (simp; done) | (simp; omega))).trans (f1 o)
  replace c20 := (hb.cell (p := ⟨w.heap.size + 1 + 1, 0, none⟩) (by first | omega | (simp; done) | (simp; omega))).trans c20
  replace c21 := (hb.cell (p := ⟨w.heap.size + 1 + 1, 1, none⟩) (by first | omega | (simp; done) | (simp; omega))).trans c21
  replace c22 := (hb.cell (p := ⟨w.heap.size + 1 + 1, 2, none⟩) (by first | omega | (simp; done) | (simp; omega))).trans c22
  replace f2 : ∀ o, w3.frozen? ⟨w.heap.size + 1 + 1, o, none⟩ = false := fun o => (hb.frozen (p := ⟨w.heap.size + 1 + 1, o, none⟩) (by first | omega | (simp; done) | (simp; omega))).trans (f2 o)
  have hz3 : w.heap.size + 1 + 1 < w3.heap.size := by have := hb.size; omega
  have HO3 := Lib.hid (HO2.out.below hb)
  have HP3 := Lib.hid (ho.mono (show (w.heap.size + 1 + 1 + 1) ≤ _ by omega))
  have hlt3 := (hb.size)
  clear ho hb
  go_wp2_with fail
  replace c00 : (w3.setCell ⟨w.heap.size + 1 + 1, 1, none⟩ (.slice (some ⟨w2.heap.size, 0, none⟩) m m)).cell? ⟨w.heap.size, 0, none⟩ = some (.slice A0 n c0) := by rw [World.cell?_setCell_other _ _ _ _ (by first | (simp; done) | (simp; omega))]; exact c00
  replace c01 : (w3.setCell ⟨w.heap.size + 1 + 1, 1, none⟩ (.slice (some ⟨w2.heap.size, 0, none⟩) m m)).cell? ⟨w.heap.size, 1, none⟩ = some (.slice A1 m c1) := by rw [World.cell?_setCell_other _ _ _ _ (by first | (simp; done) | (simp; omega))]; exact c01
  replace c02 : (w3.setCell ⟨w.heap.size + 1 + 1, 1, none⟩ (.slice (some ⟨w2.heap.size, 0, none⟩) m m)).cell? ⟨w.heap.size, 2, none⟩ = some (.slice A2 q c2) := by rw [World.cell?_setCell_other _ _ _ _ (by first | (simp; done) | (simp; omega))]; exact c02
  replace f0 : ∀ o, (w3.setCell ⟨w.heap.size + 1 + 1, 1, none⟩ (.slice (some ⟨w2.heap.size, 0, none⟩) m m)).frozen? ⟨w.heap.size, o, none⟩ = false := fun o => by rw [World.frozen?_setCell]; exact f0 o
  replace c10 : (w3.setCell ⟨w.heap.size + 1 + 1, 1, none⟩ (.slice (some ⟨w2.heap.size, 0, none⟩) m m)).cell? ⟨w.heap.size + 1, 0, none⟩ = some (.slice none 0 0) := by rw [World.cell?_setCell_other _ _ _ _ (by first | (simp; done) | (simp; omega))]; exact c10
  replace c11 : (w3.setCell ⟨w.heap.size + 1 + 1, 1, none⟩ (.slice (some ⟨w2.heap.size, 0, none⟩) m m)).cell? ⟨w.heap.size + 1, 1, none⟩ = some (.slice none 0 0) := by rw [World.cell?_setCell_other _ _ _ _ (by first | (simp; done) | (simp; omega))]; exact c11
  replace c12 : (w3.setCell ⟨w.heap.size + 1 + 1, 1, none⟩ (.slice (some ⟨w2.heap.size, 0, none⟩) m m)).cell? ⟨w.heap.size + 1, 2, none⟩ = some (.slice none 0 0) := by rw [World.cell?_setCell_other _ _ _ _ (by first | (simp; done) | (simp; omega))]; exact c12
  replace f1 : ∀ o, (w3.setCell ⟨w.heap.size + 1 + 1, 1, none⟩ (.slice (some ⟨w2.heap.size, 0, none⟩) m m)).frozen? ⟨w.heap.size + 1, o, none⟩ = false := fun o => by rw [World.frozen?_setCell]; exact f1 o
  replace c20 : (w3.setCell ⟨w.heap.size + 1 + 1, 1, none⟩ (.slice (some ⟨w2.heap.size, 0, none⟩) m m)).cell? ⟨w.heap.size + 1 + 1, 0, none⟩ = some (.slice (some ⟨w.heap.size + 1 + 1 + 1, 0, none⟩) n n) := by rw [World.cell?_setCell_other _ _ _ _ (by first | (simp; done) | (simp; omega))]; exact c20
  replace c21 : (w3.setCell ⟨w.heap.size + 1 + 1, 1, none⟩ (.slice (some ⟨w2.heap.size, 0, none⟩) m m)).cell? ⟨w.heap.size + 1 + 1, 1, none⟩ = some (.slice (some ⟨w2.heap.size, 0, none⟩) m m) := World.cell?_setCell_same' _ _ _ (by rw [c21]; rfl)
  replace c22 : (w3.setCell ⟨w.heap.size + 1 + 1, 1, none⟩ (.slice (some ⟨w2.heap.size, 0, none⟩) m m)).cell? ⟨w.heap.size + 1 + 1, 2, none⟩ = some (.slice none 0 0) := by rw [World.cell?_setCell_other _ _ _ _ (by first | (simp; done) | (simp; omega))]; exact c22
  replace f2 : ∀ o, (w3.setCell ⟨w.heap.size + 1 + 1, 1, none⟩ (.slice (some ⟨w2.heap.size, 0, none⟩) m m)).frozen? ⟨w.heap.size + 1 + 1, o, none⟩ = false := fun o => by rw [World.frozen?_setCell]; exact f2 o
  have HB4 := Lib.hid (HB3.out.setCell (p := ⟨w.heap.size + 1 + 1, 1, none⟩) (by first | omega | (simp; done) | (simp; omega)) (.slice (some ⟨w2.heap.size, 0, none⟩) m m))
  have HO4 := Lib.hid (HO3.out.stored (p := ⟨w.heap.size + 1 + 1, 1, none⟩) (by first | omega | (simp; done) | (simp; omega)) (.slice (some ⟨w2.heap.size, 0, none⟩) m m))
  have HP4 := Lib.hid (HP3.out.stored (p := ⟨w.heap.size + 1 + 1, 1, none⟩) (by first | omega | (simp; done) | (simp; omega)) (.slice (some ⟨w2.heap.size, 0, none⟩) m m))
  have hz4 : w.heap.size + 1 + 1 < (w3.setCell ⟨w.heap.size + 1 + 1, 1, none⟩ (.slice (some ⟨w2.heap.size, 0, none⟩) m m)).heap.size := by simpa [World.setCell] using hz3
  obtain ⟨w4, hws⟩ : ∃ ws, (w3.setCell ⟨w.heap.size + 1 + 1, 1, none⟩ (.slice (some ⟨w2.heap.size, 0, none⟩) m m)) = ws := ⟨_, rfl⟩
  rw [hws] at HB4 hz4 c00 c01 c02 c10 c11 c12 c20 c21 c22 f0 f1 f2 HO4 HP4 ⊢
  clear hws
  go_wp2_with fail
  refine (K2.out _ (HZ.out.below HB4.out)).mono ?_
  rintro e w5 ⟨rfl, ho, hb⟩
  have HB5 := Lib.hid (more HB4.out (Nat.le_refl _) hb)
  replace c00 := (hb.cell (p := ⟨w.heap.size, 0, none⟩) (by first | omega | (simp; done) | (simp; omega))).trans c00
  replace c01 := (hb.cell (p := ⟨w.heap.size, 1, none⟩) (by first | omega | (simp; done) | (simp; omega))).trans c01
  replace c02 := (hb.cell (p := ⟨w.heap.size, 2, none⟩) (by first | omega | (simp; done) | (simp; omega))).trans c02
  replace f0 : ∀ o, w5.frozen? ⟨w.heap.size, o, none⟩ = false := fun o => (hb.frozen (p := ⟨w.heap.size, o, none⟩) (by first | omega | (simp; done) | (simp; omega))).trans (f0 o)
  replace c10 := (hb.cell (p := ⟨w.heap.size + 1, 0, none⟩) (by first | omega | (simp; done) | (simp; omega))).trans c10
  replace c11 := (hb.cell (p := ⟨w.heap.size + 1, 1, none⟩) (by first | omega | (simp; done) | (simp; omega))).trans c11
  replace c12 := (hb.cell (p := ⟨w.heap.size + 1, 2, none⟩) (by first | omega | (simp; done) | (simp; omega))).trans c12
  replace f1 : ∀ o, w5.frozen? ⟨w.heap.size + 1, o, none⟩ = false := fun o => (hb.frozen (p := ⟨w.heap.size + 1, o, none⟩) (by first | omega | (simp; done) | (simp; omega))).trans (f1 o)
  replace c20 := (hb.cell (p := ⟨w.heap.size + 1 + 1, 0, none⟩) (by first | omega | (simp; done) | (simp; omega))).trans c20
  replace c21 := (hb.cell (p := ⟨w.heap.size + 1 + 1, 1, none⟩) (by first | omega | (simp; done) | (simp; omega))).trans c21
  replace c22 := (hb.cell (p := ⟨w.heap.size + 1 + 1, 2, none⟩) (by first | omega | (simp; done) | (simp; omega))).trans c22
  replace f2 : ∀ o, w5.frozen? ⟨w.heap.size + 1 + 1, o, none⟩ = false := fun o => (hb.frozen (p := ⟨w.heap.size + 1 + 1, o, none⟩) (by first | omega | (simp; done) | (simp; omega))).trans (f2 o)
  have hz5 : w.heap.size + 1 + 1 < w5.heap.size := by have := hb.size; omega
  have HO5 := Lib.hid (HO4.out.below hb)
  have HP5 := Lib.hid (HP4.out.below hb)
  have HQ5 := Lib.hid (ho.mono (show (w.heap.size + 1 + 1 + 1) ≤ _ by omega))
  clear ho hb
  go_wp2_with fail
  refine bodyPost_ret (v := .agg #[.slice (some ⟨w.heap.size + 1 + 1 + 1, 0, none⟩) n n, .slice (some ⟨w2.heap.size, 0, none⟩) m m, .slice (some ⟨w4.heap.size, 0, none⟩) q q]) (by simp [results, Try.results7, go_sem, *]) rfl ⟨_, _, _, rfl, ?_, ?_, ?_, ?_⟩
  · refine StoOwn.mono (lo := (w.heap.size + 1 + 1 + 1)) (StoOwn.stored (StoOwn.stored (StoOwn.stored (StoOwn.stored HO5.out ?_ _) ?_ _) ?_ _) ?_ _) ?_
    all_goals first | omega | (simp; done) | (simp; omega)
  · refine RowOwn.mono (lo := (w.heap.size + 1 + 1 + 1)) (RowOwn.stored (RowOwn.stored (RowOwn.stored (RowOwn.stored HP5.out ?_ _) ?_ _) ?_ _) ?_ _) ?_
    all_goals first | omega | (simp; done) | (simp; omega)
  · refine RowOwn.mono (lo := (w.heap.size + 1 + 1 + 1)) (RowOwn.stored (RowOwn.stored (RowOwn.stored (RowOwn.stored HQ5.out ?_ _) ?_ _) ?_ _) ?_ _) ?_
    all_goals first | omega | (simp; done) | (simp; omega)
  · refine Below.setCell (Below.setCell (Below.setCell (Below.setCell HB5.out ?_ _) ?_ _) ?_ _) ?_ _
    all_goals first | omega | (simp; done) | (simp; omega)
end Go.Proofs.Ytkofajjlkhamkaa
