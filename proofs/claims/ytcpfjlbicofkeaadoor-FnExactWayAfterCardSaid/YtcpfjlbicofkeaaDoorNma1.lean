/- Numbers appended to a row of the call's own. -/
import Derived.Test.YtcpfjlbicofkeaaDoorPat1
import Derived.Test.YtcpfjlbicofkeaaDoorWpa1
import Derived.Lib.SliceRun
import Derived.Maps.AppendAt
import Derived.Deep.RegionHeld3
namespace Go.Proofs.YtcpfjlbicofkeaaDoor
open Go.Joins Go.ChangeShapes Go.WideShapes Go.ChangeAt Go.RowKit Go.Deep
set_option linter.unusedVariables false
set_option linter.unusedSimpArgs false

theorem own_at {w w' : World} {base n m : Nat} {e : TypeId} {v : Value} {xs : List Value} (h : w.ownsRow base e n v m xs) (hb : ∀ g cur, v.ownBlock = some g → w.heap[g]? = some (.cells cur e (0, 0)) → w'.heap[g]? = w.heap[g]?) : w'.ownsRow base e n v m xs := by
  refine ⟨h.1, ?_⟩
  rcases h.2 with hn | ⟨g, cap, cur, rfl, hbg, hgg, rest⟩
  · exact .inl hn
  · exact .inr ⟨g, cap, cur, rfl, hbg, (hb g cur rfl hgg).trans hgg, rest⟩
theorem own_cells {w : World} {base n m g : Nat} {e : TypeId} {v : Value} {xs : List Value} (h : w.ownsRow base e n v m xs) (hg : v.ownBlock = some g) : ∃ cur, w.heap[g]? = some (.cells cur e (0, 0)) := by
  rcases h.2 with ⟨rfl, _⟩ | ⟨g', cap, cur, rfl, hbg, hgg, rest⟩
  · cases hg
  · simp [Value.ownBlock] at hg
    subst hg
    exact ⟨cur, hgg⟩
theorem zV_append (zs : List Int) (z : Int) : zV zs ++ [.int .i64 z] = zV (zs ++ [z]) := by simp [zV]
/-- A number more, in a list of operations. -/
theorem wp_add_num {w : World} {ops : Array Oper} {rest : List Oper} {o : Oper} {a : Act} {Q : Exit → Act → World → Prop} (hgd : o.guard = none) (s x : Operand) (ho : o.op = .call { callee := .builtin .append, args := #[s, x], argTypes := #[26, 26] }) (base n : Nat) (R : Option Addr) (c : Nat) (zs : List Int) (hs : a.eval s = .slice R n c) (hn : zs.length = n) (hown : w.ownsRow base 3 1 (.slice R n c) n (zV zs)) (ad : Addr) (c3 : Nat) (z : Int) (hx : a.eval x = .slice (some ad) 1 c3) (hc : w.cell? ad = some (.int .i64 z)) (hl : n ≤ 2000000) (hbase : base ≤ w.heap.size)
    (h : ∀ g2 c2 w2, w2.ownsRow base 3 1 (.slice (some ⟨g2, 0, none⟩) (n + 1) c2) (n + 1) (zV (zs ++ [z])) → w.grownBy w2 (Value.slice R n c).ownBlock → (some g2 = (Value.slice R n c).ownBlock ∨ g2 = w.heap.size) → wpList Tryd.prog ops Q rest (a.put o.dst (.slice (some ⟨g2, 0, none⟩) (n + 1) c2)) w2) : wpList Tryd.prog ops Q (o :: rest) a w := by
  obtain ⟨i0, hi0, hz0, hz1, hz2⟩ := info_parts infoInt
  refine wpList_append_own_at w hgd s x _ ho base 3 i0 _ 1 8 Tryd.underlying26 hi0 hz0 hz1 hz2 rfl (by omega) (.slice R n c) n (zV zs) hs hown ad 1 c3 [.int .i64 z] hx rfl (fun j u hu => by
    match j with
    | 0 => simp at hu; subst hu; simpa [Addr.add] using hc
    | j + 1 => simp at hu) (fun u hu => by simp at hu; subst hu; rfl) (by simp only [maxLen]; omega) (by omega) hbase ?_
  intro v' w' hown' hg _ hat
  rw [zV_append] at hown'
  rcases hown'.2 with ⟨rfl, h0⟩ | ⟨g, cap, cur, rfl, _⟩
  · omega
  · exact h g cap w' hown' hg (hat.imp (fun e => by simpa [Value.ownBlock] using e) (fun e => by simpa [Value.ownBlock] using e))
end Go.Proofs.YtcpfjlbicofkeaaDoor
