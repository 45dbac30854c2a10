/- The laws' own marks: the same, with each number under one name; nothing in nil. -/
import Derived.Test.YtkofajjlkhamkaaMrk4
namespace Go.Proofs.Ytkofajjlkhamkaa
open Go.Joins Go.ChangeShapes Go.WideShapes Go.ChangeAt Go.RowKit Go.Deep
set_option linter.unusedVariables false
set_option linter.unusedSimpArgs false

theorem markSlots_r (g c base k n r : Nat) (xs : List Sl) (w : World) (ho : w.ownsRow base 80 2 (.slice (some ⟨g, 0, none⟩) n c) n (xs.flatMap Sl.cells)) (hn : xs.length = n) (hl : n ≤ 1048576) (hk : k ≤ 50000000) (hr : k + 2 * n = r) :
    Calls Try.prog 42 #[.slice (some ⟨g, 0, none⟩) n c, .int .i64 k] w (MarkX g base 80 2 n c ((markSl xs k).flatMap Sl.cells) r w) := by
  subst hr; exact markSlots_any g c base k n xs w ho hn hl hk
theorem markVals_r (g c base k n r : Nat) (xs : List Va) (w : World) (ho : w.ownsRow base 82 3 (.slice (some ⟨g, 0, none⟩) n c) n (xs.flatMap Va.cells)) (hn : xs.length = n) (hl : n ≤ 1048576) (hk : k ≤ 50000000) (hk0 : 0 < k) (hr : k + 3 * n = r) :
    Calls Try.prog 43 #[.slice (some ⟨g, 0, none⟩) n c, .int .i64 k] w (MarkX g base 82 3 n c ((markVa xs k).flatMap Va.cells) r w) := by
  subst hr; exact markVals_any g c base k n xs w ho hn hl hk hk0
theorem heldVals_r (A : Option Addr) (c k n r : Nat) (xs : List Va) (w : World) (hx : VaL w A (markVa xs k)) (hn : xs.length = n) (hl : n ≤ 1048576) (hk : k ≤ 50000000) (hk0 : 0 < k) (hr : k + 3 * n = r) :
    Calls Try.prog 45 #[.slice A n c, .int .i64 k] w fun e w' => e = .returned (.int .i64 r) ∧ Below w.heap.size w w' := by
  subst hr; exact heldVals_any A c k n xs w hx hn hl hk hk0
theorem heldSlots_r (A : Option Addr) (c k n r : Nat) (xs : List Sl) (w : World) (hx : SlL w A (markSl xs k)) (hn : xs.length = n) (hl : n ≤ 1048576) (hk : k ≤ 50000000) (hr : k + 2 * n = r) :
    Calls Try.prog 44 #[.slice A n c, .int .i64 k] w fun e w' => e = .returned (.int .i64 r) ∧ w = w' := by
  subst hr; exact heldSlots_any A c k n xs w hx hn hl hk
def MarksR (h base c lo hi n k r : Nat) (G : Nat → Nat) (L : List Value) (xs : List Ce) (w : World) (x : Ending) (w' : World) : Prop :=
  x = .returned (.int .i64 r) ∧ w'.ownsRow base 60 2 (.slice (some ⟨h, 0, none⟩) n c) n L ∧ CesOwn w' lo G L (markCs xs k) n ∧ Turn lo hi w w'
theorem markCells_r (h c base k n lo hi r : Nat) (G : Nat → Nat) (L : List Value) (xs : List Ce) (w : World) (ho : w.ownsRow base 60 2 (.slice (some ⟨h, 0, none⟩) n c) n L) (hc : CesOwn w lo G L xs n) (hn : xs.length = n) (hl : n ≤ 1048576)
    (hh : h < lo) (hG : ∀ j, j < 2 * n → G j < hi) (hs : ∀ x ∈ xs, x.pl.length ≤ 1048576 ∧ x.st.length ≤ 1048576) (hk : k + totC xs ≤ 50000000) (hk0 : 0 < k) (hr : k + totC xs = r) :
    Calls Try.prog 26 #[.slice (some ⟨h, 0, none⟩) n c, .int .i64 k] w (MarksR h base c lo hi n k r G L xs w) := by
  subst hr; exact markCells_any h c base k n lo hi G L xs w ho hc hn hl hh hG hs hk hk0
set_option maxHeartbeats 400000 in
theorem markVals_nil (k : Int) (w : World) : Calls Try.prog 43 #[.slice none 0 0, .int .i64 k] w fun e w' => e = .returned (.int .i64 k) ∧ w = w' := by
  go_enter Try.func43, Try.ntmps43
  go_wp2_with fail
  refine wp_loop_rounds 1 ?_
  rw [rounds_succ]
  go_wp2_with fail
  go_ret
  exact ⟨rfl, rfl⟩
set_option maxHeartbeats 400000 in
theorem heldVals_nil (k : Int) (w : World) : Calls Try.prog 45 #[.slice none 0 0, .int .i64 k] w fun e w' => e = .returned (.int .i64 k) ∧ w = w' := by
  go_enter Try.func45, Try.ntmps45
  go_wp2_with fail
  refine wp_loop_rounds 1 ?_
  rw [rounds_succ]
  go_wp2_with fail
  go_ret
  exact ⟨rfl, rfl⟩
theorem totC_le : ∀ xs : List Ce, (totC xs : Int) ≤ 3 * szCs xs
  | [] => by decide
  | x :: xs => by
    have := totC_le xs
    have := szVs_pos x.st
    simp only [totC, szCs, wC, szCe]
    omega
end Go.Proofs.Ytkofajjlkhamkaa
