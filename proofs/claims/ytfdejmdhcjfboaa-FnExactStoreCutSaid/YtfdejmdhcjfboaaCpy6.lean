/- A store drawn out of bytes. -/
import Derived.Test.YtfdejmdhcjfboaaCpy5
import Derived.Test.YtfdejmdhcjfboaaBytes
namespace Go.Proofs.Ytfdejmdhcjfboaa
open Go.Joins Go.ChangeShapes Go.WideShapes Go.ChangeAt Go.RowKit Go.Deep
set_option linter.unusedVariables false
set_option linter.unusedSimpArgs false

theorem CeW.set {w : World} {lo n m g0 c0 g1 c1 base b c k : Nat} {x : Ce} {M : List Value} (h : CeW w lo x n m g0 c0 g1 c1) (ho : OwnC w base b c k M) (j : Nat) (u : Value) : CeW (w.setCell ⟨b, j, none⟩ u) lo x n m g0 c0 g1 c1 :=
  ⟨set_own h.pl (p := ⟨b, j, none⟩) (row_ne h.pl ho (by decide)).symm u, set_own h.st (p := ⟨b, j, none⟩) (row_ne h.st ho (by decide)).symm u⟩
theorem set4 (L : List Value) (u0 u1 u2 u3 : Value) (h : 3 < L.length) : ((((L.set 0 u2).set 1 u3).set 2 u0).set 3 u1)[0]? = some u2 ∧ ((((L.set 0 u2).set 1 u3).set 2 u0).set 3 u1)[1]? = some u3 ∧ ((((L.set 0 u2).set 1 u3).set 2 u0).set 3 u1)[2]? = some u0 ∧ ((((L.set 0 u2).set 1 u3).set 2 u0).set 3 u1)[3]? = some u1 ∧ ∀ j, 4 ≤ j → ((((L.set 0 u2).set 1 u3).set 2 u0).set 3 u1)[j]? = L[j]? := by
  match L, h with
  | a :: b :: c :: d :: r, _ =>
    refine ⟨rfl, rfl, rfl, rfl, fun j hj => ?_⟩
    obtain ⟨k, rfl⟩ : ∃ k, j = k + 4 := ⟨j - 4, by omega⟩
    rfl
/-- The first two cells of a row, changed about. -/
theorem swap_two {w : World} {base b c n : Nat} {L : List Value} {x y : Ce} {r : List Ce} {u0 u1 u2 u3 : Value} (ho : OwnC w base b c n L) (hs : StoW w base L (x :: y :: r)) (h0 : L[0]? = some u0) (h1 : L[1]? = some u1) (h2 : L[2]? = some u2) (h3 : L[3]? = some u3) :
    ∃ L', OwnC ((((w.setCell ⟨b, 0, none⟩ u2).setCell ⟨b, 1, none⟩ u3).setCell ⟨b, 2, none⟩ u0).setCell ⟨b, 3, none⟩ u1) base b c n L' ∧ StoW ((((w.setCell ⟨b, 0, none⟩ u2).setCell ⟨b, 1, none⟩ u3).setCell ⟨b, 2, none⟩ u0).setCell ⟨b, 3, none⟩ u1) base L' (y :: x :: r) := by
  have o1 := (World.ownsRow.stored ho 0 u2).1
  have o2 := (World.ownsRow.stored o1 1 u3).1
  have o3 := (World.ownsRow.stored o2 2 u0).1
  have o4 := (World.ownsRow.stored o3 3 u1).1
  have hc : ∀ {z : Ce} {n m g0 c0 g1 c1 : Nat}, CeW w base z n m g0 c0 g1 c1 → CeW ((((w.setCell ⟨b, 0, none⟩ u2).setCell ⟨b, 1, none⟩ u3).setCell ⟨b, 2, none⟩ u0).setCell ⟨b, 3, none⟩ u1) base z n m g0 c0 g1 c1 :=
    fun h => (((h.set ho 0 u2).set o1 1 u3).set o2 2 u0).set o3 3 u1
  have l3 : 3 < L.length := (List.getElem?_eq_some_iff.1 h3).1
  obtain ⟨k0, k1, k2, k3, k4⟩ := set4 L u0 u1 u2 u3 l3
  refine ⟨_, o4, fun i z hz => ?_⟩
  match i, hz with
  | 0, hz =>
    simp at hz
    subst hz
    obtain ⟨g0, c0, g1, c1, a0, a1, a2⟩ := hs 1 y rfl
    exact ⟨g0, c0, g1, c1, k0.trans (h2.symm.trans a0), k1.trans (h3.symm.trans a1), hc a2⟩
  | 1, hz =>
    simp at hz
    subst hz
    obtain ⟨g0, c0, g1, c1, a0, a1, a2⟩ := hs 0 x rfl
    exact ⟨g0, c0, g1, c1, k2.trans (h0.symm.trans a0), k3.trans (h1.symm.trans a1), hc a2⟩
  | i + 2, hz =>
    obtain ⟨g0, c0, g1, c1, a0, a1, a2⟩ := hs (i + 2) z hz
    exact ⟨g0, c0, g1, c1, (k4 _ (by omega)).trans a0, (k4 _ (by omega)).trans a1, hc a2⟩
theorem GoodC.swap {x y : Ce} {r : List Ce} (h : GoodC (x :: y :: r)) : GoodC (y :: x :: r) := fun z hz => h z (by simp at hz ⊢; rcases hz with h | h | h <;> simp [h])
/-- What is drawn of stores. -/
def DrawStX (w : World) (e : Ending) (w' : World) : Prop :=
  ∃ b c xs, e = .returned (.slice (some ⟨b, 0, none⟩) xs.length c) ∧ CeN w' (some ⟨b, 0, none⟩) xs ∧ xs.length ≤ 4 ∧ xs.length ≤ c ∧ GoodC xs ∧ Below w.heap.size w w'

set_option maxHeartbeats 2000000 in
theorem DrawStoreOk_any (A : Option Addr) (len cap : Nat) (w : World) (hc : Code w w.heap.size A len) (hl : len ≤ maxLen) :
    Calls Try.prog 48 #[.slice A len cap] w (DrawStX w) := by
  have HS := Lib.hid (St.new (cap := cap) hc hl)
  clear hc
  go_enter Try.func48, Try.ntmps48
  go_wp2_with fail
  refine (newSource_any A len cap w).mono ?_
  rintro e w1 ⟨rfl, rfl⟩
  go_wp2_with fail
  refine (cells_any w.heap.size A len cap _ HS.out).mono ?_
  rintro e w2 ⟨b, c, L, xs, rfl, hx4, ho, hw, hg, hs, hk⟩
  obtain ⟨n, hn⟩ : ∃ n, xs.length = n := ⟨_, rfl⟩
  rw [hn] at hx4 ho ⊢
  have hz2 := hk.size
  simp at hz2
  have HK := Lib.hid (show Keep w.heap.size w.heap.size w w2 from ((Keep.refl w.heap.size w.heap.size w).alloc (Nat.le_refl _) _).trans (hk.mono (by simp)))
  have HO := Lib.hid (World.ownsRow.mono ho (show w.heap.size + 1 ≤ _ by simp))
  have HW := Lib.hid (hw.mono (show w.heap.size + 1 ≤ _ by simp))
  have HG := Lib.hid hg
  have HS2 := Lib.hid hs
  have HN := Lib.hid hn
  clear ho hw hg hs hk hn
  go_wp2_with fail
  refine (pick_any w.heap.size A len cap 6 _ HS2.out (by omega)).mono ?_
  rintro e w3 ⟨r, rfl, r0, r1, hs, hk⟩
  have HO3 := Lib.hid (row_keep HO.out hk (by omega))
  have HW3 := Lib.hid (HW.out.keep hk (by omega))
  have HK3 := Lib.hid (HK.out.trans (hk.mono (by omega)))
  have hz3 := hk.size
  clear hs hk HO HW HK r1
  rcases (by omega : (r = 0 ∧ 1 < n) ∨ ¬ r = 0 ∨ (r = 0 ∧ n ≤ 1)) with ⟨rfl, hn1⟩ | hr | ⟨rfl, hn1⟩
  · obtain ⟨x, y, rest, rfl⟩ : ∃ x y rest, xs = x :: y :: rest := by
      have h := HN.out
      match xs, h with
      | [], h => simp at h; omega
      | [_], h => simp at h; omega
      | x :: y :: rest, _ => exact ⟨x, y, rest, rfl⟩
    obtain ⟨g0, c0, g1, c1, a0, a1, _⟩ := HW3.out 0 x rfl
    obtain ⟨g2, c2, g3, c3, a2, a3, _⟩ := HW3.out 1 y rfl
    have e0 : w3.cell? ⟨b, 0, none⟩ = some _ := (World.ownsRow.cellAt HO3.out 0 (by omega)).trans a0
    have e1 : w3.cell? ⟨b, 1, none⟩ = some _ := (World.ownsRow.cellAt HO3.out 1 (by omega)).trans a1
    have e2 : w3.cell? ⟨b, 2, none⟩ = some _ := (World.ownsRow.cellAt HO3.out 2 (by omega)).trans a2
    have e3 : w3.cell? ⟨b, 3, none⟩ = some _ := (World.ownsRow.cellAt HO3.out 3 (by omega)).trans a3
    have f0 := fun j => World.ownsRow.frozenAt HO3.out j
    have hbl := (World.ownsRow.lt HO3.out b rfl)
    have HA := Lib.hid (And.intro a0 (And.intro a1 (And.intro a2 a3)))
    obtain ⟨hb0, hb1⟩ := hbl
    clear a0 a1 a2 a3
    go_wp2_with fail
    obtain ⟨L', ho', hw'⟩ := swap_two HO3.out HW3.out HA.out.1 HA.out.2.1 HA.out.2.2.1 HA.out.2.2.2
    go_ret
    have hba := fun (v : World) (o : Obj) => Below.alloc (Below.refl v.heap.size v) (Nat.le_refl _) o
    refine ⟨b, c, y :: x :: rest, by rw [show (y :: x :: rest).length = n from HN.out]; rfl, CeN.of_sto (ownsRow_below ho' (hba _ _)) (hw'.below (hba _ _)) HN.out HG.out.swap.small, ?_, ?_, HG.out.swap, ?_⟩
    · rw [show (y :: x :: rest).length = n from HN.out]; exact hx4
    · rw [show (y :: x :: rest).length = n from HN.out]; exact row_cap HO3.out
    · have hp : ∀ j : Nat, (⟨b, j, none⟩ : Addr).block = w.heap.size ∨ w.heap.size ≤ (⟨b, j, none⟩ : Addr).block := fun j => .inr (by show w.heap.size ≤ b; omega)
      exact (((((HK3.out.set_ (hp 0) _).set_ (hp 1) _).set_ (hp 2) _).set_ (hp 3) _).alloc (by simp; omega) _).below (Nat.le_refl _)
  · go_wp2_with fail
    go_ret
    exact ⟨b, c, xs, by rw [HN.out]; rfl, CeN.of_sto HO3.out HW3.out HN.out HG.out.small, by rw [HN.out]; exact hx4, by rw [HN.out]; exact row_cap HO3.out, HG.out, HK3.out.below (Nat.le_refl _)⟩
  · go_wp2_with fail
    go_ret
    exact ⟨b, c, xs, by rw [HN.out]; rfl, CeN.of_sto HO3.out HW3.out HN.out HG.out.small, by rw [HN.out]; exact hx4, by rw [HN.out]; exact row_cap HO3.out, HG.out, HK3.out.below (Nat.le_refl _)⟩
end Go.Proofs.Ytfdejmdhcjfboaa
