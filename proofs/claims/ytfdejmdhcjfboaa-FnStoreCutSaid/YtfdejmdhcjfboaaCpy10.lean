/- A store and a place cut, drawn out of bytes. -/
import Derived.Test.YtfdejmdhcjfboaaCpy9
import Derived.Deep.RegionHeld3
namespace Go.Proofs.Ytfdejmdhcjfboaa
open Go.Joins Go.ChangeShapes Go.WideShapes Go.ChangeAt Go.RowKit Go.Deep
set_option linter.unusedVariables false
set_option linter.unusedSimpArgs false

theorem flat_take (xs : List Sl) : ∀ k, (xs.flatMap Sl.cells).take (k * 2) = (xs.take k).flatMap Sl.cells := by
  induction xs with
  | nil => intro k; simp
  | cons x xs ih =>
    intro k
    cases k with
    | zero => simp
    | succ k =>
      rw [List.take_succ_cons, List.flatMap_cons, List.flatMap_cons, ← ih k, show (k + 1) * 2 = k * 2 + 1 + 1 by omega]
      rfl
/-- A row's beginning, where it is. -/
theorem OwnS.take {w : World} {base b c : Nat} {xs : List Sl} (h : OwnS w base b c xs) (k : Nat) (hk : k ≤ xs.length) : OwnS w base b c (xs.take k) := by
  have hl : (xs.take k).length = k := by rw [List.length_take]; omega
  unfold OwnS
  rw [hl]
  refine ⟨by rw [len_cells, hl], ?_⟩
  rcases h.2 with ⟨h', _⟩ | ⟨g', cap', cur, h', hb, hg, hnc, hcm, hcs, htake⟩
  · simp at h'
  · simp only [Value.slice.injEq, Option.some.injEq, Addr.mk.injEq, and_true, true_and] at h'
    obtain ⟨rfl, rfl⟩ := h'
    refine .inr ⟨b, c, cur, rfl, hb, hg, by omega, hcm, hcs, ?_⟩
    rw [← flat_take, ← htake, List.take_take]
    congr 1
    omega

set_option maxHeartbeats 2000000 in
theorem DrawStoreCut_any (A : Option Addr) (len cap : Nat) (w : World) (hc : Code w w.heap.size A len) (hl : len ≤ maxLen) :
    Calls Try.prog 54 #[.slice A len cap] w (DrawGX w) := by
  have HS := Lib.hid (St.new (cap := cap) hc hl)
  have HC := Lib.hid (hc.more (Below.alloc (Below.refl w.heap.size w) (Nat.le_refl _) (.cells #[.slice A len cap, .int .i64 0, .int .i64 4000] 112)))
  have HL := Lib.hid hl
  clear hc hl
  go_enter Try.func54, Try.ntmps54
  go_wp2_with fail
  refine (newSource_any A len cap w).mono ?_
  rintro e w1 ⟨rfl, rfl⟩
  go_wp2_with fail
  refine (DrawStoreGet_any A len cap _ HC.out HL.out).mono ?_
  rintro e w2 ⟨b, c, L, xs, b', c', p, rfl, ho, hw, hx4, hg, hp, hp22, hB⟩
  obtain ⟨n, hn⟩ : ∃ n, xs.length = n := ⟨_, rfl⟩
  obtain ⟨m, hm⟩ : ∃ m, p.length = m := ⟨_, rfl⟩
  rw [hn] at hx4 ho ⊢
  rw [hm] at hp22 ⊢
  have hz2 := hB.size
  simp at hz2
  have HK2 := Lib.hid (show Keep w.heap.size w.heap.size w w2 from ((Keep.refl w.heap.size w.heap.size w).alloc (Nat.le_refl _) _).trans ((Keep.of_below hB).mono (by simp)))
  have HO2 := Lib.hid (World.ownsRow.mono ho (show w.heap.size + 1 ≤ _ by simp))
  have HW2 := Lib.hid (hw.mono (show w.heap.size + 1 ≤ _ by simp))
  have HP2 := Lib.hid (OwnS.mono hp (show w.heap.size + 1 ≤ _ by simp))
  have hpc := hp.cap
  rw [hm] at hpc
  have HG := Lib.hid hg
  have HS2 := Lib.hid (HS.out.below hB)
  have HN := Lib.hid hn
  have HM := Lib.hid hm
  clear ho hw hg hp hB hn hm HS
  go_wp2_with fail
  refine wp_region_held_drew (S := fun w' => Keep w.heap.size w2.heap.size w2 w' ∧ St w.heap.size A len cap w') (by kernel_rfl) ?_ (fun hHeld => ?_)
  · exact ⟨Keep.drew (Keep.refl _ _ _), HS2.out.drew⟩
  refine wpAnyH_take (i := 0) (oi := _) (v := ?_) rfl (by kernel_rfl) (by kernel_rfl) (by kernel_rfl) (fun _ _ _ h => h) (Or.inl ⟨by kernel_rfl, ?_⟩) (by assumption) ?_
  rotate_left
  · (intro w hSw; (try dsimp only at hSw); go_simp)
    try with_reducible rfl
  (try simp only [Act.put, List.getElem_toArray, List.getElem_cons_zero, List.getElem_cons_succ, List.setIfInBounds_toArray, List.set_cons_zero, List.set_cons_succ])
  refine wpAnyH_take (i := 1) (oi := _) (v := ?_) rfl (by kernel_rfl) (by kernel_rfl) (by kernel_rfl) (fun _ _ _ h => h) (Or.inl ⟨by kernel_rfl, ?_⟩) (by assumption) ?_
  rotate_left
  · (intro w hSw; (try dsimp only at hSw); go_simp)
    try with_reducible rfl
  (try simp only [Act.put, List.getElem_toArray, List.getElem_cons_zero, List.getElem_cons_succ, List.setIfInBounds_toArray, List.set_cons_zero, List.set_cons_succ])
  refine wpAnyH_take (i := 2) (oi := _) (v := ?_) rfl (by kernel_rfl) (by kernel_rfl) (by kernel_rfl) (fun _ _ _ h => h) (Or.inl ⟨by kernel_rfl, ?_⟩) (by assumption) ?_
  rotate_left
  · (intro w hSw; (try dsimp only at hSw); go_simp)
    try with_reducible rfl
  (try simp only [Act.put, List.getElem_toArray, List.getElem_cons_zero, List.getElem_cons_succ, List.setIfInBounds_toArray, List.set_cons_zero, List.set_cons_succ])
  refine wpAnyH_take (i := 3) (oi := _) (v := ?_) rfl (by kernel_rfl) (by kernel_rfl) (by kernel_rfl) (fun _ _ _ h => h) (Or.inl ⟨by kernel_rfl, ?_⟩) (by assumption) ?_
  rotate_left
  · (intro w hSw; (try dsimp only at hSw); go_simp)
    try with_reducible rfl
  (try simp only [Act.put, List.getElem_toArray, List.getElem_cons_zero, List.getElem_cons_succ, List.setIfInBounds_toArray, List.set_cons_zero, List.set_cons_succ])
  refine wpAnyH_take (i := 4) (oi := _) (v := ?_) rfl (by kernel_rfl) (by kernel_rfl) (by kernel_rfl) (fun _ _ _ h => h) (Or.inl ⟨by kernel_rfl, ?_⟩) (by assumption) ?_
  rotate_left
  · (intro w hSw; (try dsimp only at hSw); go_simp)
    try with_reducible rfl
  (try simp only [Act.put, List.getElem_toArray, List.getElem_cons_zero, List.getElem_cons_succ, List.setIfInBounds_toArray, List.set_cons_zero, List.set_cons_succ])
  refine wpAnyH_take (i := 5) (oi := _) (v := ?_) rfl (by kernel_rfl) (by kernel_rfl) (by kernel_rfl) (fun _ _ _ h => h) (Or.inl ⟨by kernel_rfl, ?_⟩) (by assumption) ?_
  rotate_left
  · (intro w hSw; (try dsimp only at hSw); go_simp)
    try with_reducible rfl
  (try simp only [Act.put, List.getElem_toArray, List.getElem_cons_zero, List.getElem_cons_succ, List.setIfInBounds_toArray, List.set_cons_zero, List.set_cons_succ])
  refine wpAnyH_ready (rs := [6]) (by kernel_rfl) (by simp) ?_
  refine AllReadyH.cons (o := _) rfl (fun K hK => ?_) AllReadyH.nil
  go_simp
  have hwr : IntKind.i64.wrap ((m : Int) + 1) = (m : Int) + 1 := IntWalk.i64_in _ (by omega)
  rw [hwr]
  have hK0 := hHeld.1
  refine (pick_any w.heap.size A len cap ((m : Int) + 1) _ hHeld.2 (by omega)).mono ?_
  rintro e w' ⟨r, rfl, r0, r1, hs, hk⟩
  obtain ⟨j, rfl⟩ : ∃ j : Nat, r = (j : Int) := ⟨r.toNat, by omega⟩
  have hjm : j ≤ m := by omega
  have hjc : j ≤ c' := by omega
  refine hK.out _ _ ?_ (fun hHeld2 => ?_)
  · exact ⟨hK0.more (Nat.le_refl _) hk, hs⟩
  clear hK K hk hs hK0 hHeld r0 r1
  (try simp only [Act.put, List.getElem_toArray, List.getElem_cons_zero, List.getElem_cons_succ, List.setIfInBounds_toArray, List.set_cons_zero, List.set_cons_succ])
  refine wpAnyH_take (i := 7) (oi := _) (v := ?_) rfl (by kernel_rfl) (by kernel_rfl) (by kernel_rfl) (fun _ _ _ h => h) (Or.inl ⟨by kernel_rfl, ?_⟩) (by assumption) ?_
  rotate_left
  · (intro w hSw; (try dsimp only at hSw); go_simp)
    try with_reducible rfl
  (try simp only [Act.put, List.getElem_toArray, List.getElem_cons_zero, List.getElem_cons_succ, List.setIfInBounds_toArray, List.set_cons_zero, List.set_cons_succ])
  refine wpAnyH_take (i := 8) (oi := _) (v := ?_) rfl (by kernel_rfl) (by kernel_rfl) (by kernel_rfl) (fun _ _ _ h => h) (Or.inl ⟨by kernel_rfl, ?_⟩) (by assumption) ?_
  rotate_left
  · (intro w hSw; (try dsimp only at hSw); go_simp)
    try with_reducible rfl
  (try simp only [Act.put, List.getElem_toArray, List.getElem_cons_zero, List.getElem_cons_succ, List.setIfInBounds_toArray, List.set_cons_zero, List.set_cons_succ])
  refine wpAnyH_take (i := 9) (oi := _) (v := ?_) rfl (by kernel_rfl) (by kernel_rfl) (by kernel_rfl) (fun _ _ _ h => h) (Or.inl ⟨by kernel_rfl, ?_⟩) (by assumption) ?_
  rotate_left
  · (intro w hSw; (try dsimp only at hSw); go_simp)
    try with_reducible rfl
  (try simp only [Act.put, List.getElem_toArray, List.getElem_cons_zero, List.getElem_cons_succ, List.setIfInBounds_toArray, List.set_cons_zero, List.set_cons_succ])
  refine wpAnyH_done (by kernel_rfl) ?_ _
  go_wp2_with fail
  go_ret2
  have hjl : (p.take j).length = j := by rw [List.length_take, HM.out]; omega
  obtain ⟨hk, _⟩ := hHeld2
  exact ⟨b, c, L, xs, b', c', p.take j, by rw [HN.out, hjl]; rfl, by rw [HN.out]; exact World.ownsRow.mono (row_keep HO2.out hk (by omega)) (by omega), (HW2.out.keep hk (by omega)).mono (by omega), by rw [HN.out]; exact hx4, HG.out, ((HP2.out.keep hk (by omega)).take j (by rw [HM.out]; exact hjm)).mono (by omega), by rw [hjl]; omega, (HK2.out.trans (hk.mono (by omega))).below (Nat.le_refl _)⟩
end Go.Proofs.Ytfdejmdhcjfboaa
