/- Trees: whether no two of them have the same key, by the document's own text. -/
import Derived.Test.YtcpfjlbicofkeaaDoorTre6
namespace Go.Proofs.YtcpfjlbicofkeaaDoor
open Go.Joins Go.ChangeShapes Go.WideShapes Go.ChangeAt Go.RowKit Go.Deep
set_option linter.unusedVariables false
set_option linter.unusedSimpArgs false

theorem drewN_below {B : Nat} {a b : World} (h : Below B a b) (n : Nat) : Below B a (b.drewN n) := ⟨h.os, h.tape, h.output, h.size, h.block⟩
theorem apartK_step {ks : List Int} {i : Nat} {x : Int} (hx : ks[i]? = some x) : apartK (ks.take i) (ks.drop i) = ((decide (x = -1) || !(ks.take i).contains x) && apartK (ks.take (i + 1)) (ks.drop (i + 1))) := by
  obtain ⟨hi, e⟩ := List.getElem?_eq_some_iff.1 hx
  rw [List.drop_eq_getElem_cons hi, e]
  simp only [apartK]
  rw [List.take_succ_eq_append_getElem hi, e]
theorem keys_at {xs : List Tr} {i : Nat} {x : Tr} (hx : xs[i]? = some x) : (keysOf xs)[i]? = some x.key := by
  unfold keysOf; rw [List.getElem?_map, hx]; rfl
set_option maxHeartbeats 1000000 in
theorem skeys_any (A : Option Addr) (c n : Nat) (xs : List Tr) (w : World) (hx : TrL w 0 A xs) (hn : xs.length = n) (hl : n ≤ maxLen) :
    Calls Tryd.prog 59 #[.slice A n c] w fun e w' => e = .returned (.bool (apartK [] (keysOf xs))) ∧ Below w.heap.size w w' := by
  unfold maxLen at hl
  have HN := Lib.hid hn
  have HX := Lib.hid hx
  clear hn hx
  go_enter Tryd.func59, Tryd.ntmps59
  go_wp2_with fail
  go_loopw [3] (fun v w2 => ∃ i : Nat, i ≤ n ∧ v = .int .i64 i ∧ Below w.heap.size w w2 ∧ Hid (apartK [] (keysOf xs) = apartK ((keysOf xs).take i) ((keysOf xs).drop i))) (fun v _ => n - (intOf v).toNat)
  case atStart => exact ⟨0, by omega, rfl, by go_grown, Lib.hid rfl⟩
  case round =>
    obtain ⟨i, hi, rfl, hB, HQ⟩ := hrel
    by_cases hlt : i < n
    · obtain ⟨x, hx⟩ := at_some (show i < xs.length by rw [HN.out]; exact hlt)
      have HS := Lib.hid (apartK_step (keys_at hx))
      have HXI := Lib.hid hx
      obtain ⟨b, off, _, _, _, _, rfl, _, _, _, _, _⟩ := (HX.out.below hB).at_ hx
      obtain ⟨y, hy⟩ : ∃ y, x.key = y := ⟨_, rfl⟩
      rw [hy] at HS
      have HY := Lib.hid hy
      clear hx hy
      go_wp2_with fail
      go_loopw [4] (fun v w2 => ∃ j : Nat, j ≤ i ∧ v = .int .i64 j ∧ Below w.heap.size w w2 ∧ Hid (y = -1 ∨ ∀ k, k < j → (keysOf xs)[k]? ≠ some y)) (fun v _ => i - (intOf v).toNat)
      case atStart => exact ⟨0, by omega, rfl, hB, Lib.hid (.inr fun k hk => by omega)⟩
      case round =>
        clear hB
        obtain ⟨j, hj, rfl, hB, HJ⟩ := hrel
        by_cases hjl : j < i
        · obtain ⟨z, hz⟩ := at_some (show j < xs.length by rw [HN.out]; omega)
          have HZ := Lib.hid (keys_at hz)
          obtain ⟨b', off', _, _, _, _, he, hblt, _, _, f1, _⟩ := (HX.out.below hB).at_ hz
          injection he with he
          injection he with he1 he2
          subst he1 he2
          obtain ⟨b', off', _, _, _, _, he, _, _, _, e1, _⟩ := (HX.out.below hB).at_ HXI.out
          injection he with he
          injection he with he1 he2
          subst he1 he2
          rw [HY.out] at e1
          generalize z.key = u at HZ f1
          clear hz
          have hi1 : (0 : Int) ≤ (i : Int) := by omega
          have hi2 : (i : Int) < (n : Int) := by omega
          have hj1 : (0 : Int) ≤ (j : Int) := by omega
          have hj2 : (j : Int) < (n : Int) := by omega
          by_cases hm : y = -1
          · have hd : (y != -1) = false := by rw [hm]; rfl
            have HJ2 := Lib.hid (.inl hm : y = -1 ∨ ∀ k, k < j + 1 → (keysOf xs)[k]? ≠ some y)
            clear hm
            go_wp2_with fail
            go_quiet (fail)
            go_wp2_with fail
            go_round
            case rel => exact ⟨j + 1, by omega, by go_num, drewN_below hB _, HJ2⟩
            case measure => simp [intOf]; omega
          · have hd : (y != -1) = true := by simpa using hm
            by_cases hu : y = u
            · have hd2 : (y == u) = true := by simpa using hu
              have HF := Lib.hid (show apartK [] (keysOf xs) = false by
                rw [HQ.out, HS.out]
                have h1 : ((keysOf xs).take i).contains y = true := by
                  rw [List.contains_iff_mem]
                  exact List.mem_of_getElem? (i := j) (by rw [List.getElem?_take, if_pos hjl, HZ.out, hu])
                rw [h1, decide_eq_false hm]; rfl)
              clear hm hu
              go_wp2_with fail
              go_quiet (fail)
              go_wp2_with fail
              go_ret
              exact ⟨by rw [HF.out]; rfl, drewN_below hB _⟩
            · have hd2 : (y == u) = false := by simpa using hu
              have HJ2 := Lib.hid (.inr (fun k hk => by
                rcases Nat.lt_or_ge k j with h | h
                · exact (HJ.out.resolve_left hm) k h
                · obtain rfl : k = j := by omega
                  rw [HZ.out]; intro h; injection h with h; exact hu h.symm) : y = -1 ∨ ∀ k, k < j + 1 → (keysOf xs)[k]? ≠ some y)
              clear hm hu
              go_wp2_with fail
              go_quiet (fail)
              go_wp2_with fail
              go_round
              case rel => exact ⟨j + 1, by omega, by go_num, drewN_below hB _, HJ2⟩
              case measure => simp [intOf]; omega
        · obtain rfl : j = i := by omega
          have HQ2 := Lib.hid (show apartK [] (keysOf xs) = apartK ((keysOf xs).take (j + 1)) ((keysOf xs).drop (j + 1)) by
            rw [HQ.out, HS.out]
            have h1 : (decide (y = -1) || !((keysOf xs).take j).contains y) = true := by
              rcases HJ.out with h | h
              · rw [decide_eq_true h]; rfl
              · have h2 : ((keysOf xs).take j).contains y = false := by
                  rw [← Bool.not_eq_true, List.contains_iff_mem]
                  intro hm
                  obtain ⟨k, hk⟩ := List.getElem?_of_mem hm
                  rw [List.getElem?_take] at hk
                  split at hk
                  · exact h k (by assumption) hk
                  · cases hk
                rw [h2]; simp
            rw [h1, Bool.true_and])
          go_wp2_with fail
          go_round
          case rel => exact ⟨j + 1, by omega, by go_num, hB, HQ2⟩
          case measure => simp [intOf]; omega
    · have HF := Lib.hid (show apartK [] (keysOf xs) = true by
        rw [HQ.out, List.drop_of_length_le (by unfold keysOf; rw [List.length_map, HN.out]; omega)]; simp only [apartK])
      go_wp2_with fail
      go_ret
      exact ⟨by rw [HF.out]; rfl, hB⟩
end Go.Proofs.YtcpfjlbicofkeaaDoor
