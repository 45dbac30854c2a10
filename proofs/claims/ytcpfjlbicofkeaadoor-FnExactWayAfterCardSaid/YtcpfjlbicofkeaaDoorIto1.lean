/- Numbers in a row of the call's own. -/
import Derived.Test.YtcpfjlbicofkeaaDoorMktM
import Derived.Test.YtcpfjlbicofkeaaDoorMkt1
namespace Go.Proofs.YtcpfjlbicofkeaaDoor
open Go.Joins Go.ChangeShapes Go.WideShapes Go.ChangeAt Go.RowKit Go.Deep
set_option linter.unusedVariables false
set_option linter.unusedSimpArgs false

/-- Whole numbers in a row of the call's own, from block lo up to hi. -/
def IntO (w : World) (lo hi : Nat) (A : Option Addr) (c : Nat) (zs : List Int) : Prop := 0 < zs.length → ∃ g, A = some ⟨g, 0, none⟩ ∧ lo ≤ g ∧ g < hi ∧ w.ownsRow 0 3 1 (.slice (some ⟨g, 0, none⟩) zs.length c) zs.length (zV zs)
theorem IntO.lies {w : World} {lo hi c : Nat} {A : Option Addr} {zs : List Int} (h : IntO w lo hi A c zs) : IntL w A zs := fun h0 => by
  obtain ⟨g, rfl, _, _, ho⟩ := h h0
  exact IntL.of_own ho h0
theorem IntO.below {w w' : World} {lo hi c : Nat} {A : Option Addr} {zs : List Int} (h : IntO w lo hi A c zs) (hb : Below w.heap.size w w') : IntO w' lo hi A c zs := fun h0 => by
  obtain ⟨g, rfl, a, b, ho⟩ := h h0
  exact ⟨g, rfl, a, b, own_moved ho (hb.block g (ho.lt g rfl).2)⟩
theorem IntO.turn {w w' : World} {lo hi l2 h2 c : Nat} {A : Option Addr} {zs : List Int} (h : IntO w lo hi A c zs) (ht : Turn l2 h2 w w') (hr : hi ≤ l2 ∨ h2 ≤ lo) : IntO w' lo hi A c zs := fun h0 => by
  obtain ⟨g, rfl, a, b, ho⟩ := h h0
  exact ⟨g, rfl, a, b, own_moved ho (ht.block g (ho.lt g rfl).2 (by omega))⟩
/-- Numbers marked, in a row of their own. -/
theorem markInts_own (lo hi k n c : Nat) (A : Option Addr) (zs : List Int) (w : World) (hp : IntO w lo hi A c zs) (hn : zs.length = n) (hl : n ≤ 1048576) (hk : k ≤ 50000000) :
    Calls Tryd.prog 13 #[.slice A n c, .int .i64 k] w fun e w' => e = .returned (.int .i64 (k + n : Nat)) ∧ IntO w' lo hi A c (markI n k) ∧ Turn lo hi w w' := by
  rcases Nat.eq_zero_or_pos n with rfl | h0
  · refine (markInts_nil A c k w).mono ?_
    rintro e w' ⟨rfl, rfl⟩
    exact ⟨by simp, fun h => absurd h (by simp [markI]), Turn.refl _ _ _⟩
  · obtain ⟨g, rfl, a, b, ho⟩ := hp (by omega)
    rw [hn] at ho
    refine (markInts_any g c 0 k n _ w ho hl hk).mono ?_
    rintro e w' ⟨rfl, ho, hg⟩
    exact ⟨rfl, fun _ => ⟨g, rfl, a, b, by rw [markI_len]; exact ho⟩, Turn.of_grown hg a b⟩
end Go.Proofs.YtcpfjlbicofkeaaDoor
