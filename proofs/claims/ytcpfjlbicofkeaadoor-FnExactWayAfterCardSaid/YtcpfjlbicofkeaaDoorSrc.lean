/- The laws' own source of numbers is made. -/
import Derived.Test.YtcpfjlbicofkeaaDoorDraw
namespace Go.Proofs.YtcpfjlbicofkeaaDoor
open Go.Joins Go.ChangeShapes Go.WideShapes Go.ChangeAt Go.RowKit Go.Deep
set_option linter.unusedVariables false

theorem Code.more {w w' : World} {A : Option Addr} {len : Nat} (h : Code w w.heap.size A len) (hb : Below w.heap.size w w') : Code w' w'.heap.size A len := fun h0 => by
  obtain ⟨b, off, rfl, hbg, hc⟩ := h h0
  refine ⟨b, off, rfl, Nat.lt_of_lt_of_le hbg hb.size, fun i hi => ?_⟩
  obtain ⟨c, h1, h2, h3⟩ := hc i hi
  exact ⟨c, h1, h2, (hb.cell (p := ⟨b, off + i, none⟩) hbg).trans h3⟩
theorem St.new {w : World} {A : Option Addr} {len cap : Nat} (h : Code w w.heap.size A len) (hl : len ≤ maxLen) : St w.heap.size A len cap (w.alloc (.cells #[.slice A len cap, .int .i64 0, .int .i64 4000] 83)) :=
  ⟨⟨0, 4000, heap_alloc_new w _, by omega, by omega, by omega⟩, h.of_block fun k hk => Below.heap_alloc _ _ _ hk, hl⟩

set_option maxHeartbeats 400000 in
theorem newSource_any (A : Option Addr) (len cap : Nat) (w : World) :
    Calls Tryd.prog 32 #[.slice A len cap] w fun e w' => e = .returned (.pointer (some ⟨w.heap.size, 0, none⟩)) ∧ w' = w.alloc (.cells #[.slice A len cap, .int .i64 0, .int .i64 4000] 83) := by
  go_enter Tryd.func32, Tryd.ntmps32
  go_wp2_with fail
  go_ret
  exact ⟨rfl, rfl⟩

end Go.Proofs.YtcpfjlbicofkeaaDoor
