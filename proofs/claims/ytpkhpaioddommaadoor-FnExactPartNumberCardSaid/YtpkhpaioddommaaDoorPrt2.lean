/- Trees: the program's iterator over the parts: a way with one number more; what it hands over, in order. -/
import Derived.Test.YtpkhpaioddommaaDoorPrt1
import Derived.ArgAppend
import Derived.Deep.AppendLies
import Derived.TacticsInMore
import Derived.OwnWalkIn
import Derived.LoopNIn
import Derived.LoopIn
import Derived.Shelf.Abstract
namespace Go.Proofs.YtpkhpaioddommaaDoor
open Go.Joins Go.ChangeShapes Go.WideShapes Go.ChangeAt Go.RowKit Go.Deep
set_option linter.unusedVariables false
set_option linter.unusedSimpArgs false

theorem infoInt : (Tryd.prog.info? 3).map (fun i => (i.zero, i.size, i.bytes)) = some (some (.int .i64 0), 1, 8) := by kernel_rfl
set_option maxHeartbeats 1000000 in
theorem clip_any (A : Option Addr) (n c : Nat) (hn : n ≤ c) (hc : c ≤ maxLen) (hA : A = none ∧ n = 0 ∧ c = 0 ∨ ∃ g, A = some ⟨g, 0, none⟩) (w : World) :
    Calls Tryd.prog 124 #[.slice A n c] w fun e w' => e = .returned (.slice A n n) ∧ w = w' := by
  unfold maxLen at hc
  have h0 : (0 : Int) ≤ (n : Int) := by omega
  have h1 : (n : Int) ≤ (c : Int) := by omega
  have h2 : ¬ ((c : Int) < (n : Int)) := by omega
  rcases hA with ⟨rfl, rfl, rfl⟩ | ⟨g, rfl⟩
  all_goals
    go_enter Tryd.func124, Tryd.ntmps124
    go_wp2_with fail
    go_ret
    exact ⟨rfl, rfl⟩
theorem row_mono {w : World} {lo lo' : Nat} {e : TypeId} {sz : Nat} {v : Value} {n : Nat} {xs : List Value} (h : w.ownsRow lo e sz v n xs) (hl : lo' ≤ lo) : w.ownsRow lo' e sz v n xs := by
  obtain ⟨a, b | ⟨g, cap, cur, e1, e2, r⟩⟩ := h
  · exact ⟨a, .inl b⟩
  · exact ⟨a, .inr ⟨g, cap, cur, e1, Nat.le_trans hl e2, r⟩⟩
set_option maxRecDepth 100000 in
set_option maxHeartbeats 1000000 in
theorem with_any (lo : Nat) (A : Option Addr) (c : Nat) (ns : List Nat) (k : Nat) (w : World) (h : WayR lo w A c ns) (hl : ns.length ≤ 1000) :
    Calls Tryd.prog 109 #[.slice A ns.length c, .int .i64 k] w fun e w' => ∃ g c', e = .returned (.slice (some ⟨g, 0, none⟩) (ns.length + 1) c') ∧ WayR w.heap.size w' (some ⟨g, 0, none⟩) c' (ns ++ [k]) ∧ Below w.heap.size w w' := by
  obtain ⟨i0, hi, hz0, hz1, hz2⟩ := info_parts infoInt
  obtain ⟨hlen, hrow⟩ := h
  have hnc : ns.length ≤ c ∧ c ≤ maxLen := by
    rcases hrow with ⟨e, hn⟩ | ⟨g, cap, cur, e, _, _, h1, h2, _⟩
    · injection e with _ _ e; omega
    · injection e with _ _ e; subst e; exact ⟨h1, h2⟩
  have hA : A = none ∧ ns.length = 0 ∧ c = 0 ∨ ∃ g, A = some ⟨g, 0, none⟩ := by
    rcases hrow with ⟨e, hn⟩ | ⟨g, cap, cur, e, _⟩
    · injection e with e1 e2 e3; exact .inl ⟨e1, hn, e3⟩
    · injection e with e; exact .inr ⟨g, e⟩
  have hcell : ∀ a, A = some a → ∀ j u, (intV ns)[j]? = some u → w.cell? (a.add j) = some u := by
    intro a ha j u hu
    subst ha
    have hw : w.ownsRow lo 3 1 (.slice (some a) ns.length c) ns.length (intV ns) := ⟨hlen, hrow⟩
    rcases hA with ⟨e, _⟩ | ⟨g, e⟩
    · cases e
    · injection e with e
      subst e
      rw [Addr.add_lit, Nat.zero_add, World.ownsRow.cellAt hw j (by rw [← hlen]; exact (List.getElem?_eq_some_iff.1 hu).1)]
      exact hu
  have HC := Lib.hid hcell
  have HK := Lib.hid (clip_any A ns.length c hnc.1 hnc.2 hA w)
  have HL := Lib.hid hlen
  have HA := Lib.hid hA
  obtain ⟨n, hn⟩ : ∃ n, ns.length = n := ⟨_, rfl⟩
  have HN := Lib.hid hn
  rw [hn] at hl HK HL HA ⊢
  clear hcell hlen hrow hnc hA hn
  have HNW := Lib.hid (World.news_of_block (cs := #[.int .i64 k]) (t := 3) (fr := (0, 0)) (heap_alloc_new w _))
  have HB0 := Lib.hid (Below.alloc (Below.refl w.heap.size w) (Nat.le_refl _) (.cells #[.int .i64 k] 3))
  go_enter Tryd.func109, Tryd.ntmps109
  go_wp2_with (first
    | (go_at_call 124; ((with_reducible refine HK.out.mono ?_); rintro e w' ⟨rfl, rfl⟩))
    | (at_builtin; refine wpList_append_grows _ rfl _ _ 30 rfl 3 i0 (.int .i64 0) 1 8 Tryd.underlying30 hi hz0 hz1 hz2 rfl (by decide) A n n (intV ns) rfl (by intro e; rcases HA.out with ⟨_, h1, h2⟩ | ⟨g, h1⟩; exact ⟨h1, h1⟩; rw [e] at h1; cases h1) (by rw [HL.out]) (by intro a ha j u hu; exact (HB0.out.cell (World.block_lt_of_cell? w _ (HC.out a ha j u hu))).trans (HC.out a ha j u hu)) ⟨w.heap.size, 0, none⟩ 1 1 [.int .i64 k] rfl rfl HNW.out (by intro u hu; simp at hu; subst hu; rfl) (by omega) (by unfold maxLen; omega) (by omega) ?_))
  intro v' w2 hown hgrow
  obtain ⟨g, cap, rfl⟩ : ∃ g cap, v' = .slice (some ⟨g, 0, none⟩) (n + 1) cap := by
    rcases hown.2 with ⟨_, h0⟩ | ⟨g, cap, cur, hv, _⟩
    · omega
    · exact ⟨g, cap, hv⟩
  have HB2 := Lib.hid (HB0.out.grown hgrow (by simp) (fun k e => by cases e))
  have HO := Lib.hid hown
  clear hown hgrow
  go_wp2_with fail
  go_ret
  have hll : (ns ++ [k]).length = n + 1 := by rw [List.length_append, HN.out]; rfl
  refine ⟨g, cap, rfl, ?_, HB2.out⟩
  unfold WayR
  rw [hll, ← intV_append]
  exact row_mono HO.out (by simp)
end Go.Proofs.YtpkhpaioddommaaDoor
