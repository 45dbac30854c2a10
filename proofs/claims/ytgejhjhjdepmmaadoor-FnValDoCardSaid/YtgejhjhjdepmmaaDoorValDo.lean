/- The law FnValDo answers true at every input, and leaves it as it was. No conditions; the library's table as its text lays it. -/
import Derived.Test.YtgejhjhjdepmmaaDoorDoLaws
import Derived.Test.YtgejhjhjdepmmaaDoorDrawDo
import Derived.Test.YtgejhjhjdepmmaaDoorTab
import Derived.Test.YtgejhjhjdepmmaaDoorBytes
import Derived.Deep.RegionHeld3
namespace Go.Proofs.YtgejhjhjdepmmaaDoor.fnValDo
open Go.Joins Go.ChangeShapes Go.WideShapes Go.ChangeAt Go.RowKit Go.Deep
set_option linter.unusedVariables false
set_option linter.unusedSimpArgs false

set_option maxHeartbeats 8000000 in
theorem walk (A : Option Addr) (len cap : Nat) (w : World) (hc0 : Code w w.heap.size A len) (hl : len ≤ maxLen) (hT : Tab w) :
    Calls Tryd.prog 6 #[.slice A len cap] w fun e w' => e = .returned (.bool true) ∧ Below w.heap.size w w' := by
  have HT := Lib.hid hT
  have HC := Lib.hid hc0
  have HL := Lib.hid hl
  unfold maxLen at hl
  clear hT hc0
  by_cases l1 : 1048576 < len
  · go_enter Tryd.func6, Tryd.ntmps6
    go_wp2_with fail
    go_ret
    exact ⟨rfl, Below.refl _ _⟩
  · go_enter Tryd.func6, Tryd.ntmps6
    go_wp2_with fail
    refine (DrawValDo_any A len cap w HC.out HL.out).mono ?_
    rintro e w1 ⟨op, k1, n1, s1, k2, n2, s2, rfl, o0, o1, hd1, hd2, hG1⟩
    have HT1 := Lib.hid (HT.out.next hG1)
    have HG1 := Lib.hid hG1
    have HSZ := Lib.hid hG1.size
    have hG := Below.refl w1.heap.size w1
    clear hG1 hd1 hd2
    have g1 := valDo_spec op k1 n1 s1 k2 n2 s2
    have g2 := valDo_impl op k1 n1 s1 k2 n2 s2
    have h1 := valid_impl k1 n1 s1
    have h2 := valid_impl k2 n2 s2
    cases hv1 : validB k1 n1 s1
    · generalize valDoV op k1 n1 s1 k2 n2 s2 = x at g1 g2
      rw [hv1] at h1
      have G1 := Lib.hid g1
      have G2 := Lib.hid g2
      have H1 := Lib.hid h1
      clear g1 g2 h1 h2 hv1
      go_wp2_with (first
        | (go_at_call 13; refine (G2.out _ ?_).mono ?_; (exact HT1.out.next (by go_grown; all_goals first | omega | (simp; omega))); rintro e w2 ⟨rfl, hb⟩; have hz2 := hb.size; (try simp at hz2); have hG := Below.trans (B := w1.heap.size) (a := w1) (by go_grown; all_goals first | omega | (simp; omega)) (hb.mono (by first | omega | (simp; done) | (simp; omega))); obtain ⟨hc2, hf2⟩ := bcell hb; (try simp at hc2); (try simp at hf2); clear hb; have z0 : w1.heap.size < w2.heap.size := (by omega); have z1 : w1.heap.size + 1 < w2.heap.size := (by omega); have y0 : w1.heap.size ≤ w2.heap.size := (by omega); have y1 : w1.heap.size + 1 ≤ w2.heap.size := (by omega))
        | (go_at_call 20; refine (G1.out _).mono ?_; rintro e w3 ⟨rfl, hb⟩; have hz3 := hb.size; (try simp at hz3); have hG := Below.trans (B := w1.heap.size) (a := w1) (by go_grown; all_goals first | omega | (simp; omega)) (hb.mono (by first | omega | (simp; done) | (simp; omega))); obtain ⟨hc3, hf3⟩ := bcell hb; (try simp at hc3); (try simp at hf3); clear hb; have z0 : w1.heap.size < w3.heap.size := (by omega); have z1 : w1.heap.size + 1 < w3.heap.size := (by omega); have y0 : w1.heap.size ≤ w3.heap.size := (by omega); have y1 : w1.heap.size + 1 ≤ w3.heap.size := (by omega); (try have : w2.heap.size < w3.heap.size := (by omega)); (try have : w2.heap.size ≤ w3.heap.size := (by omega)))
        | (go_at_call_of 10 (Value.agg #[.int .i64 k1, .int .i64 n1, .string s1]); refine (H1.out _).mono ?_; rintro e w4 ⟨rfl, hb⟩; have hz4 := hb.size; (try simp at hz4); have hG := Below.trans (B := w1.heap.size) (a := w1) (by go_grown; all_goals first | omega | (simp; omega)) (hb.mono (by first | omega | (simp; done) | (simp; omega))); obtain ⟨hc4, hf4⟩ := bcell hb; (try simp at hc4); (try simp at hf4); clear hb; have z0 : w1.heap.size < w4.heap.size := (by omega); have z1 : w1.heap.size + 1 < w4.heap.size := (by omega); have y0 : w1.heap.size ≤ w4.heap.size := (by omega); have y1 : w1.heap.size + 1 ≤ w4.heap.size := (by omega); (try have : w2.heap.size < w4.heap.size := (by omega)); (try have : w2.heap.size ≤ w4.heap.size := (by omega)); (try have : w3.heap.size < w4.heap.size := (by omega)); (try have : w3.heap.size ≤ w4.heap.size := (by omega))))
      go_ret
      exact ⟨rfl, HG1.out.trans ((by go_grown; all_goals first | omega | (simp; omega) : Below w1.heap.size w1 _).mono HSZ.out)⟩
    cases hv2 : validB k2 n2 s2
    · generalize valDoV op k1 n1 s1 k2 n2 s2 = x at g1 g2
      rw [hv1] at h1
      rw [hv2] at h2
      have G1 := Lib.hid g1
      have G2 := Lib.hid g2
      have H1 := Lib.hid h1
      have H2 := Lib.hid h2
      clear g1 g2 h1 h2 hv1 hv2
      go_wp2_with (first
        | (go_at_call 13; refine (G2.out _ ?_).mono ?_; (exact HT1.out.next (by go_grown; all_goals first | omega | (simp; omega))); rintro e w2 ⟨rfl, hb⟩; have hz2 := hb.size; (try simp at hz2); have hG := Below.trans (B := w1.heap.size) (a := w1) (by go_grown; all_goals first | omega | (simp; omega)) (hb.mono (by first | omega | (simp; done) | (simp; omega))); obtain ⟨hc2, hf2⟩ := bcell hb; (try simp at hc2); (try simp at hf2); clear hb; have z0 : w1.heap.size < w2.heap.size := (by omega); have z1 : w1.heap.size + 1 < w2.heap.size := (by omega); have y0 : w1.heap.size ≤ w2.heap.size := (by omega); have y1 : w1.heap.size + 1 ≤ w2.heap.size := (by omega))
        | (go_at_call 20; refine (G1.out _).mono ?_; rintro e w3 ⟨rfl, hb⟩; have hz3 := hb.size; (try simp at hz3); have hG := Below.trans (B := w1.heap.size) (a := w1) (by go_grown; all_goals first | omega | (simp; omega)) (hb.mono (by first | omega | (simp; done) | (simp; omega))); obtain ⟨hc3, hf3⟩ := bcell hb; (try simp at hc3); (try simp at hf3); clear hb; have z0 : w1.heap.size < w3.heap.size := (by omega); have z1 : w1.heap.size + 1 < w3.heap.size := (by omega); have y0 : w1.heap.size ≤ w3.heap.size := (by omega); have y1 : w1.heap.size + 1 ≤ w3.heap.size := (by omega); (try have : w2.heap.size < w3.heap.size := (by omega)); (try have : w2.heap.size ≤ w3.heap.size := (by omega)))
        | (go_at_call_of 10 (Value.agg #[.int .i64 k1, .int .i64 n1, .string s1]); refine (H1.out _).mono ?_; rintro e w4 ⟨rfl, hb⟩; have hz4 := hb.size; (try simp at hz4); have hG := Below.trans (B := w1.heap.size) (a := w1) (by go_grown; all_goals first | omega | (simp; omega)) (hb.mono (by first | omega | (simp; done) | (simp; omega))); obtain ⟨hc4, hf4⟩ := bcell hb; (try simp at hc4); (try simp at hf4); clear hb; have z0 : w1.heap.size < w4.heap.size := (by omega); have z1 : w1.heap.size + 1 < w4.heap.size := (by omega); have y0 : w1.heap.size ≤ w4.heap.size := (by omega); have y1 : w1.heap.size + 1 ≤ w4.heap.size := (by omega); (try have : w2.heap.size < w4.heap.size := (by omega)); (try have : w2.heap.size ≤ w4.heap.size := (by omega)); (try have : w3.heap.size < w4.heap.size := (by omega)); (try have : w3.heap.size ≤ w4.heap.size := (by omega)))
        | (go_at_call_of 10 (Value.agg #[.int .i64 k2, .int .i64 n2, .string s2]); refine (H2.out _).mono ?_; rintro e w5 ⟨rfl, hb⟩; have hz5 := hb.size; (try simp at hz5); have hG := Below.trans (B := w1.heap.size) (a := w1) (by go_grown; all_goals first | omega | (simp; omega)) (hb.mono (by first | omega | (simp; done) | (simp; omega))); obtain ⟨hc5, hf5⟩ := bcell hb; (try simp at hc5); (try simp at hf5); clear hb; have z0 : w1.heap.size < w5.heap.size := (by omega); have z1 : w1.heap.size + 1 < w5.heap.size := (by omega); have y0 : w1.heap.size ≤ w5.heap.size := (by omega); have y1 : w1.heap.size + 1 ≤ w5.heap.size := (by omega); (try have : w2.heap.size < w5.heap.size := (by omega)); (try have : w2.heap.size ≤ w5.heap.size := (by omega)); (try have : w3.heap.size < w5.heap.size := (by omega)); (try have : w3.heap.size ≤ w5.heap.size := (by omega)); (try have : w4.heap.size < w5.heap.size := (by omega)); (try have : w4.heap.size ≤ w5.heap.size := (by omega))))
      go_ret
      exact ⟨rfl, HG1.out.trans ((by go_grown; all_goals first | omega | (simp; omega) : Below w1.heap.size w1 _).mono HSZ.out)⟩
    by_cases ho : 0 ≤ op ∧ op ≤ 6
    · obtain ⟨p0, p6⟩ := ho
      rw [valDo_in p0 p6 hv1 hv2] at g1 g2
      have h3 := doV_valid (op := op) hv1 hv2
      by_cases hop : op = 0 ∨ op = 2 ∨ op = 4
      · have g3 := valDo_impl op k2 n2 s2 k1 n1 s1
        rw [valDo_in p0 p6 hv2 hv1, doV_comm hop] at g3
        rw [hv1] at h1
        rw [hv2] at h2
        generalize doV op k1 n1 s1 k2 n2 s2 = x at g1 g2 g3 h3
        have h4 := valid_impl x.k x.n x.s
        rw [h3] at h4
        have G1 := Lib.hid g1
        have G2 := Lib.hid g2
        have G3 := Lib.hid g3
        have H1 := Lib.hid h1
        have H2 := Lib.hid h2
        have H3 := Lib.hid h4
        clear g1 g2 g3 h1 h2 h3 h4 hv1 hv2
        rcases hop with rfl | rfl | rfl
        · go_wp2_with (first
            | (go_at_call 13; refine (G2.out _ ?_).mono ?_; (exact HT1.out.next (by go_grown; all_goals first | omega | (simp; omega))); rintro e w2 ⟨rfl, hb⟩; have hz2 := hb.size; (try simp at hz2); have hG := Below.trans (B := w1.heap.size) (a := w1) (by go_grown; all_goals first | omega | (simp; omega)) (hb.mono (by first | omega | (simp; done) | (simp; omega))); obtain ⟨hc2, hf2⟩ := bcell hb; (try simp at hc2); (try simp at hf2); clear hb; have z0 : w1.heap.size < w2.heap.size := (by omega); have z1 : w1.heap.size + 1 < w2.heap.size := (by omega); have y0 : w1.heap.size ≤ w2.heap.size := (by omega); have y1 : w1.heap.size + 1 ≤ w2.heap.size := (by omega))
            | (go_at_call 20; refine (G1.out _).mono ?_; rintro e w3 ⟨rfl, hb⟩; have hz3 := hb.size; (try simp at hz3); have hG := Below.trans (B := w1.heap.size) (a := w1) (by go_grown; all_goals first | omega | (simp; omega)) (hb.mono (by first | omega | (simp; done) | (simp; omega))); obtain ⟨hc3, hf3⟩ := bcell hb; (try simp at hc3); (try simp at hf3); clear hb; have z0 : w1.heap.size < w3.heap.size := (by omega); have z1 : w1.heap.size + 1 < w3.heap.size := (by omega); have y0 : w1.heap.size ≤ w3.heap.size := (by omega); have y1 : w1.heap.size + 1 ≤ w3.heap.size := (by omega); (try have : w2.heap.size < w3.heap.size := (by omega)); (try have : w2.heap.size ≤ w3.heap.size := (by omega)))
            | (go_at_call_of 10 (Value.agg #[.int .i64 k1, .int .i64 n1, .string s1]); refine (H1.out _).mono ?_; rintro e w4 ⟨rfl, hb⟩; have hz4 := hb.size; (try simp at hz4); have hG := Below.trans (B := w1.heap.size) (a := w1) (by go_grown; all_goals first | omega | (simp; omega)) (hb.mono (by first | omega | (simp; done) | (simp; omega))); obtain ⟨hc4, hf4⟩ := bcell hb; (try simp at hc4); (try simp at hf4); clear hb; have z0 : w1.heap.size < w4.heap.size := (by omega); have z1 : w1.heap.size + 1 < w4.heap.size := (by omega); have y0 : w1.heap.size ≤ w4.heap.size := (by omega); have y1 : w1.heap.size + 1 ≤ w4.heap.size := (by omega); (try have : w2.heap.size < w4.heap.size := (by omega)); (try have : w2.heap.size ≤ w4.heap.size := (by omega)); (try have : w3.heap.size < w4.heap.size := (by omega)); (try have : w3.heap.size ≤ w4.heap.size := (by omega)))
            | (go_at_call_of 10 (Value.agg #[.int .i64 k2, .int .i64 n2, .string s2]); refine (H2.out _).mono ?_; rintro e w5 ⟨rfl, hb⟩; have hz5 := hb.size; (try simp at hz5); have hG := Below.trans (B := w1.heap.size) (a := w1) (by go_grown; all_goals first | omega | (simp; omega)) (hb.mono (by first | omega | (simp; done) | (simp; omega))); obtain ⟨hc5, hf5⟩ := bcell hb; (try simp at hc5); (try simp at hf5); clear hb; have z0 : w1.heap.size < w5.heap.size := (by omega); have z1 : w1.heap.size + 1 < w5.heap.size := (by omega); have y0 : w1.heap.size ≤ w5.heap.size := (by omega); have y1 : w1.heap.size + 1 ≤ w5.heap.size := (by omega); (try have : w2.heap.size < w5.heap.size := (by omega)); (try have : w2.heap.size ≤ w5.heap.size := (by omega)); (try have : w3.heap.size < w5.heap.size := (by omega)); (try have : w3.heap.size ≤ w5.heap.size := (by omega)); (try have : w4.heap.size < w5.heap.size := (by omega)); (try have : w4.heap.size ≤ w5.heap.size := (by omega))))
          have ca0 : w5.cell? ⟨w1.heap.size, 0, none⟩ = some (.int .i64 k1) := by go_simp
          have ca1 : w5.cell? ⟨w1.heap.size, 1, none⟩ = some (.int .i64 n1) := by go_simp
          have ca2 : w5.cell? ⟨w1.heap.size, 2, none⟩ = some (.string s1) := by go_simp
          have cb0 : w5.cell? ⟨w1.heap.size + 1, 0, none⟩ = some (.int .i64 k2) := by go_simp
          have cb1 : w5.cell? ⟨w1.heap.size + 1, 1, none⟩ = some (.int .i64 n2) := by go_simp
          have cb2 : w5.cell? ⟨w1.heap.size + 1, 2, none⟩ = some (.string s2) := by go_simp
          have cx0 : w5.cell? ⟨w2.heap.size, 0, none⟩ = some (.int .i64 x.k) := by go_simp
          have cx1 : w5.cell? ⟨w2.heap.size, 1, none⟩ = some (.int .i64 x.n) := by go_simp
          have cx2 : w5.cell? ⟨w2.heap.size, 2, none⟩ = some (.string x.s) := by go_simp
          have HT5 := Lib.hid (HT1.out.next hG)
          have HG5 := Lib.hid hG
          have hK := Below.refl w5.heap.size w5
          clear hc2 hf2 hc3 hf3 hc4 hf4 hc5 hf5 hz2 hz3 hz4 hz5 hG
          have hKd : Below w5.heap.size w5 w5.drew := by go_grown
          have l1 : w1.heap.size < w5.heap.size := by omega
          have l2 : w1.heap.size + 1 < w5.heap.size := by omega
          have l3 : w2.heap.size < w5.heap.size := by omega
          refine wp_region_held_drew (S := fun w' => Below w5.heap.size w5 w' ∧ w'.cell? ⟨w1.heap.size, 0, none⟩ = some (.int .i64 k1) ∧ w'.cell? ⟨w1.heap.size, 1, none⟩ = some (.int .i64 n1) ∧ w'.cell? ⟨w1.heap.size, 2, none⟩ = some (.string s1) ∧
              w'.cell? ⟨w1.heap.size + 1, 0, none⟩ = some (.int .i64 k2) ∧ w'.cell? ⟨w1.heap.size + 1, 1, none⟩ = some (.int .i64 n2) ∧ w'.cell? ⟨w1.heap.size + 1, 2, none⟩ = some (.string s2) ∧
              w'.cell? ⟨w2.heap.size, 0, none⟩ = some (.int .i64 x.k) ∧ w'.cell? ⟨w2.heap.size, 1, none⟩ = some (.int .i64 x.n) ∧ w'.cell? ⟨w2.heap.size, 2, none⟩ = some (.string x.s)) (by kernel_rfl) ?_ (fun hHeld => ?_)
          · exact ⟨hKd, ca0, ca1, ca2, cb0, cb1, cb2, cx0, cx1, cx2⟩
          refine wpAnyH_take (i := 0) (oi := _) (v := ?_) rfl (by kernel_rfl) (by kernel_rfl) (by kernel_rfl) (fun _ _ _ h => h) (Or.inl ⟨by kernel_rfl, ?_⟩) (by assumption) ?_
          rotate_left
          · (intro w hSw; (try dsimp only at hSw); go_simp)
            try with_reducible rfl
          (try simp only [Act.put, List.getElem_toArray, List.getElem_cons_zero, List.getElem_cons_succ, List.setIfInBounds_toArray, List.set_cons_zero, List.set_cons_succ])
          refine wpAnyH_ready (rs := [1]) (by kernel_rfl) (by simp) ?_
          refine AllReadyH.cons (o := _) rfl (fun K hK => ?_) AllReadyH.nil
          go_simp
          have hB0 := hHeld.1
          refine (H3.out _).mono ?_
          rintro e w' ⟨rfl, hb⟩
          refine hK.out _ _ ?_ (fun hHeld2 => ?_)
          · obtain ⟨_, d0, d1, d2, d3, d4, d5, d6, d7, d8⟩ := hHeld
            exact ⟨hB0.trans (hb.mono hB0.size), (hb.cell (p := ⟨w1.heap.size, 0, none⟩) (Nat.lt_of_lt_of_le l1 hB0.size)).trans d0, (hb.cell (p := ⟨w1.heap.size, 1, none⟩) (Nat.lt_of_lt_of_le l1 hB0.size)).trans d1, (hb.cell (p := ⟨w1.heap.size, 2, none⟩) (Nat.lt_of_lt_of_le l1 hB0.size)).trans d2, (hb.cell (p := ⟨w1.heap.size + 1, 0, none⟩) (Nat.lt_of_lt_of_le l2 hB0.size)).trans d3, (hb.cell (p := ⟨w1.heap.size + 1, 1, none⟩) (Nat.lt_of_lt_of_le l2 hB0.size)).trans d4, (hb.cell (p := ⟨w1.heap.size + 1, 2, none⟩) (Nat.lt_of_lt_of_le l2 hB0.size)).trans d5, (hb.cell (p := ⟨w2.heap.size, 0, none⟩) (Nat.lt_of_lt_of_le l3 hB0.size)).trans d6, (hb.cell (p := ⟨w2.heap.size, 1, none⟩) (Nat.lt_of_lt_of_le l3 hB0.size)).trans d7, (hb.cell (p := ⟨w2.heap.size, 2, none⟩) (Nat.lt_of_lt_of_le l3 hB0.size)).trans d8⟩
          clear hK K hb hB0 hHeld
          (try simp only [Act.put, List.getElem_toArray, List.getElem_cons_zero, List.getElem_cons_succ, List.setIfInBounds_toArray, List.set_cons_zero, List.set_cons_succ])
          refine wpAnyH_take (i := 2) (oi := _) (v := ?_) rfl (by kernel_rfl) (by kernel_rfl) (by kernel_rfl) (fun _ _ _ h => h) (Or.inl ⟨by kernel_rfl, ?_⟩) (by assumption) ?_
          rotate_left
          · (intro w hSw; (try dsimp only at hSw); go_simp)
            try with_reducible rfl
          (try simp only [Act.put, List.getElem_toArray, List.getElem_cons_zero, List.getElem_cons_succ, List.setIfInBounds_toArray, List.set_cons_zero, List.set_cons_succ])
          refine wpAnyH_take (i := 3) (oi := _) (v := ?_) rfl (by kernel_rfl) (by kernel_rfl) (by kernel_rfl) (fun _ _ _ h => h) (Or.inl ⟨by kernel_rfl, ?_⟩) (by assumption) ?_
          rotate_left
          · (intro w hSw; (try dsimp only at hSw); go_simp)
            try with_reducible rfl
          (try simp only [Act.put, List.getElem_toArray, List.getElem_cons_zero, List.getElem_cons_succ, List.setIfInBounds_toArray, List.set_cons_zero, List.set_cons_succ])
          refine wpAnyH_take (i := 4) (oi := _) (v := ?_) rfl (by kernel_rfl) (by kernel_rfl) (by kernel_rfl) (fun _ _ _ h => h) (Or.inl ⟨by kernel_rfl, ?_⟩) (by assumption) ?_
          rotate_left
          · (intro w hSw; (try dsimp only at hSw); go_simp)
            try with_reducible rfl
          (try simp only [Act.put, List.getElem_toArray, List.getElem_cons_zero, List.getElem_cons_succ, List.setIfInBounds_toArray, List.set_cons_zero, List.set_cons_succ])
          refine wpAnyH_take (i := 5) (oi := _) (v := ?_) rfl (by kernel_rfl) (by kernel_rfl) (by kernel_rfl) (fun _ _ _ h => h) (Or.inl ⟨by kernel_rfl, ?_⟩) (by assumption) ?_
          rotate_left
          · (intro w hSw; (try dsimp only at hSw); go_simp)
            try with_reducible rfl
          (try simp only [Act.put, List.getElem_toArray, List.getElem_cons_zero, List.getElem_cons_succ, List.setIfInBounds_toArray, List.set_cons_zero, List.set_cons_succ])
          refine wpAnyH_take (i := 6) (oi := _) (v := undef) rfl (by kernel_rfl) (by kernel_rfl) (by kernel_rfl) (fun _ _ _ h => h) (Or.inr ⟨by kernel_rfl, rfl⟩) (by assumption) ?_
          (try simp only [Act.put, List.getElem_toArray, List.getElem_cons_zero, List.getElem_cons_succ, List.setIfInBounds_toArray, List.set_cons_zero, List.set_cons_succ])
          refine wpAnyH_take (i := 7) (oi := _) (v := undef) rfl (by kernel_rfl) (by kernel_rfl) (by kernel_rfl) (fun _ _ _ h => h) (Or.inr ⟨by kernel_rfl, rfl⟩) (by assumption) ?_
          (try simp only [Act.put, List.getElem_toArray, List.getElem_cons_zero, List.getElem_cons_succ, List.setIfInBounds_toArray, List.set_cons_zero, List.set_cons_succ])
          refine wpAnyH_take (i := 8) (oi := _) (v := ?_) rfl (by kernel_rfl) (by kernel_rfl) (by kernel_rfl) (fun _ _ _ h => h) (Or.inl ⟨by kernel_rfl, ?_⟩) (by assumption) ?_
          rotate_left
          · (intro w hSw; (try dsimp only at hSw); go_simp)
            try with_reducible rfl
          (try simp only [Act.put, List.getElem_toArray, List.getElem_cons_zero, List.getElem_cons_succ, List.setIfInBounds_toArray, List.set_cons_zero, List.set_cons_succ])
          refine wpAnyH_take (i := 9) (oi := _) (v := ?_) rfl (by kernel_rfl) (by kernel_rfl) (by kernel_rfl) (fun _ _ _ h => h) (Or.inl ⟨by kernel_rfl, ?_⟩) (by assumption) ?_
          rotate_left
          · (intro w hSw; (try dsimp only at hSw); go_simp)
            try with_reducible rfl
          (try simp only [Act.put, List.getElem_toArray, List.getElem_cons_zero, List.getElem_cons_succ, List.setIfInBounds_toArray, List.set_cons_zero, List.set_cons_succ])
          refine wpAnyH_take (i := 10) (oi := _) (v := undef) rfl (by kernel_rfl) (by kernel_rfl) (by kernel_rfl) (fun _ _ _ h => h) (Or.inr ⟨by kernel_rfl, rfl⟩) (by assumption) ?_
          (try simp only [Act.put, List.getElem_toArray, List.getElem_cons_zero, List.getElem_cons_succ, List.setIfInBounds_toArray, List.set_cons_zero, List.set_cons_succ])
          refine wpAnyH_take (i := 11) (oi := _) (v := undef) rfl (by kernel_rfl) (by kernel_rfl) (by kernel_rfl) (fun _ _ _ h => h) (Or.inr ⟨by kernel_rfl, rfl⟩) (by assumption) ?_
          (try simp only [Act.put, List.getElem_toArray, List.getElem_cons_zero, List.getElem_cons_succ, List.setIfInBounds_toArray, List.set_cons_zero, List.set_cons_succ])
          refine wpAnyH_take (i := 12) (oi := _) (v := ?_) rfl (by kernel_rfl) (by kernel_rfl) (by kernel_rfl) (fun _ _ _ h => h) (Or.inl ⟨by kernel_rfl, ?_⟩) (by assumption) ?_
          rotate_left
          · (intro w hSw; (try dsimp only at hSw); go_simp)
            try with_reducible rfl
          (try simp only [Act.put, List.getElem_toArray, List.getElem_cons_zero, List.getElem_cons_succ, List.setIfInBounds_toArray, List.set_cons_zero, List.set_cons_succ])
          refine wpAnyH_take (i := 13) (oi := _) (v := ?_) rfl (by kernel_rfl) (by kernel_rfl) (by kernel_rfl) (fun _ _ _ h => h) (Or.inl ⟨by kernel_rfl, ?_⟩) (by assumption) ?_
          rotate_left
          · (intro w hSw; (try dsimp only at hSw); go_simp)
            try with_reducible rfl
          (try simp only [Act.put, List.getElem_toArray, List.getElem_cons_zero, List.getElem_cons_succ, List.setIfInBounds_toArray, List.set_cons_zero, List.set_cons_succ])
          refine wpAnyH_take (i := 14) (oi := _) (v := ?_) rfl (by kernel_rfl) (by kernel_rfl) (by kernel_rfl) (fun _ _ _ h => h) (Or.inl ⟨by kernel_rfl, ?_⟩) (by assumption) ?_
          rotate_left
          · (intro w hSw; (try dsimp only at hSw); go_simp)
            try with_reducible rfl
          (try simp only [Act.put, List.getElem_toArray, List.getElem_cons_zero, List.getElem_cons_succ, List.setIfInBounds_toArray, List.set_cons_zero, List.set_cons_succ])
          refine wpAnyH_take (i := 15) (oi := _) (v := ?_) rfl (by kernel_rfl) (by kernel_rfl) (by kernel_rfl) (fun _ _ _ h => h) (Or.inl ⟨by kernel_rfl, ?_⟩) (by assumption) ?_
          rotate_left
          · (intro w hSw; (try dsimp only at hSw); go_simp)
            try with_reducible rfl
          (try simp only [Act.put, List.getElem_toArray, List.getElem_cons_zero, List.getElem_cons_succ, List.setIfInBounds_toArray, List.set_cons_zero, List.set_cons_succ])
          refine wpAnyH_take (i := 16) (oi := _) (v := ?_) rfl (by kernel_rfl) (by kernel_rfl) (by kernel_rfl) (fun _ _ _ h => h) (Or.inl ⟨by kernel_rfl, ?_⟩) (by assumption) ?_
          rotate_left
          · (intro w hSw; (try dsimp only at hSw); go_simp)
            try with_reducible rfl
          (try simp only [Act.put, List.getElem_toArray, List.getElem_cons_zero, List.getElem_cons_succ, List.setIfInBounds_toArray, List.set_cons_zero, List.set_cons_succ])
          refine wpAnyH_take (i := 18) (oi := _) (v := ?_) rfl (by kernel_rfl) (by kernel_rfl) (by kernel_rfl) (fun _ _ _ h => h) (Or.inl ⟨by kernel_rfl, ?_⟩) (by assumption) ?_
          rotate_left
          · (intro w hSw; (try dsimp only at hSw); go_simp)
            try with_reducible rfl
          (try simp only [Act.put, List.getElem_toArray, List.getElem_cons_zero, List.getElem_cons_succ, List.setIfInBounds_toArray, List.set_cons_zero, List.set_cons_succ])
          refine wpAnyH_ready (rs := [17]) (by kernel_rfl) (by simp) ?_
          refine AllReadyH.cons (o := _) rfl (fun K hK => ?_) AllReadyH.nil
          go_simp
          have hB0 := hHeld2.1
          refine (G3.out _ (HT5.out.next hB0)).mono ?_
          rintro e w' ⟨rfl, hb⟩
          refine hK.out _ _ ?_ (fun hHeld3 => ?_)
          · obtain ⟨_, d0, d1, d2, d3, d4, d5, d6, d7, d8⟩ := hHeld2
            exact ⟨hB0.trans (hb.mono hB0.size), (hb.cell (p := ⟨w1.heap.size, 0, none⟩) (Nat.lt_of_lt_of_le l1 hB0.size)).trans d0, (hb.cell (p := ⟨w1.heap.size, 1, none⟩) (Nat.lt_of_lt_of_le l1 hB0.size)).trans d1, (hb.cell (p := ⟨w1.heap.size, 2, none⟩) (Nat.lt_of_lt_of_le l1 hB0.size)).trans d2, (hb.cell (p := ⟨w1.heap.size + 1, 0, none⟩) (Nat.lt_of_lt_of_le l2 hB0.size)).trans d3, (hb.cell (p := ⟨w1.heap.size + 1, 1, none⟩) (Nat.lt_of_lt_of_le l2 hB0.size)).trans d4, (hb.cell (p := ⟨w1.heap.size + 1, 2, none⟩) (Nat.lt_of_lt_of_le l2 hB0.size)).trans d5, (hb.cell (p := ⟨w2.heap.size, 0, none⟩) (Nat.lt_of_lt_of_le l3 hB0.size)).trans d6, (hb.cell (p := ⟨w2.heap.size, 1, none⟩) (Nat.lt_of_lt_of_le l3 hB0.size)).trans d7, (hb.cell (p := ⟨w2.heap.size, 2, none⟩) (Nat.lt_of_lt_of_le l3 hB0.size)).trans d8⟩
          clear hK K hb hB0 hHeld2
          (try simp only [Act.put, List.getElem_toArray, List.getElem_cons_zero, List.getElem_cons_succ, List.setIfInBounds_toArray, List.set_cons_zero, List.set_cons_succ])
          refine wpAnyH_take (i := 19) (oi := _) (v := ?_) rfl (by kernel_rfl) (by kernel_rfl) (by kernel_rfl) (fun _ _ _ h => h) (Or.inl ⟨by kernel_rfl, ?_⟩) (by assumption) ?_
          rotate_left
          · (intro w hSw; (try dsimp only at hSw); go_simp)
            try with_reducible rfl
          (try simp only [Act.put, List.getElem_toArray, List.getElem_cons_zero, List.getElem_cons_succ, List.setIfInBounds_toArray, List.set_cons_zero, List.set_cons_succ])
          refine wpAnyH_take (i := 20) (oi := _) (v := ?_) rfl (by kernel_rfl) (by kernel_rfl) (by kernel_rfl) (fun _ _ _ h => h) (Or.inl ⟨by kernel_rfl, ?_⟩) (by assumption) ?_
          rotate_left
          · (intro w hSw; (try dsimp only at hSw); go_simp)
            try with_reducible rfl
          (try simp only [Act.put, List.getElem_toArray, List.getElem_cons_zero, List.getElem_cons_succ, List.setIfInBounds_toArray, List.set_cons_zero, List.set_cons_succ])
          refine wpAnyH_take (i := 21) (oi := _) (v := ?_) rfl (by kernel_rfl) (by kernel_rfl) (by kernel_rfl) (fun _ _ _ h => h) (Or.inl ⟨by kernel_rfl, ?_⟩) (by assumption) ?_
          rotate_left
          · (intro w hSw; (try dsimp only at hSw); go_simp)
            try with_reducible rfl
          (try simp only [Act.put, List.getElem_toArray, List.getElem_cons_zero, List.getElem_cons_succ, List.setIfInBounds_toArray, List.set_cons_zero, List.set_cons_succ])
          refine wpAnyH_take (i := 22) (oi := _) (v := ?_) rfl (by kernel_rfl) (by kernel_rfl) (by kernel_rfl) (fun _ _ _ h => h) (Or.inl ⟨by kernel_rfl, ?_⟩) (by assumption) ?_
          rotate_left
          · (intro w hSw; (try dsimp only at hSw); go_simp)
            try with_reducible rfl
          (try simp only [Act.put, List.getElem_toArray, List.getElem_cons_zero, List.getElem_cons_succ, List.setIfInBounds_toArray, List.set_cons_zero, List.set_cons_succ])
          refine wpAnyH_done (by kernel_rfl) ?_ _
          obtain ⟨hK3, _⟩ := hHeld3
          go_wp2_with fail
          go_ret
          exact ⟨by first | kernel_rfl | simp, HG1.out.trans ((HG5.out.trans (hK3.mono (by omega))).mono HSZ.out)⟩
        · go_wp2_with (first
            | (go_at_call 13; refine (G2.out _ ?_).mono ?_; (exact HT1.out.next (by go_grown; all_goals first | omega | (simp; omega))); rintro e w2 ⟨rfl, hb⟩; have hz2 := hb.size; (try simp at hz2); have hG := Below.trans (B := w1.heap.size) (a := w1) (by go_grown; all_goals first | omega | (simp; omega)) (hb.mono (by first | omega | (simp; done) | (simp; omega))); obtain ⟨hc2, hf2⟩ := bcell hb; (try simp at hc2); (try simp at hf2); clear hb; have z0 : w1.heap.size < w2.heap.size := (by omega); have z1 : w1.heap.size + 1 < w2.heap.size := (by omega); have y0 : w1.heap.size ≤ w2.heap.size := (by omega); have y1 : w1.heap.size + 1 ≤ w2.heap.size := (by omega))
            | (go_at_call 20; refine (G1.out _).mono ?_; rintro e w3 ⟨rfl, hb⟩; have hz3 := hb.size; (try simp at hz3); have hG := Below.trans (B := w1.heap.size) (a := w1) (by go_grown; all_goals first | omega | (simp; omega)) (hb.mono (by first | omega | (simp; done) | (simp; omega))); obtain ⟨hc3, hf3⟩ := bcell hb; (try simp at hc3); (try simp at hf3); clear hb; have z0 : w1.heap.size < w3.heap.size := (by omega); have z1 : w1.heap.size + 1 < w3.heap.size := (by omega); have y0 : w1.heap.size ≤ w3.heap.size := (by omega); have y1 : w1.heap.size + 1 ≤ w3.heap.size := (by omega); (try have : w2.heap.size < w3.heap.size := (by omega)); (try have : w2.heap.size ≤ w3.heap.size := (by omega)))
            | (go_at_call_of 10 (Value.agg #[.int .i64 k1, .int .i64 n1, .string s1]); refine (H1.out _).mono ?_; rintro e w4 ⟨rfl, hb⟩; have hz4 := hb.size; (try simp at hz4); have hG := Below.trans (B := w1.heap.size) (a := w1) (by go_grown; all_goals first | omega | (simp; omega)) (hb.mono (by first | omega | (simp; done) | (simp; omega))); obtain ⟨hc4, hf4⟩ := bcell hb; (try simp at hc4); (try simp at hf4); clear hb; have z0 : w1.heap.size < w4.heap.size := (by omega); have z1 : w1.heap.size + 1 < w4.heap.size := (by omega); have y0 : w1.heap.size ≤ w4.heap.size := (by omega); have y1 : w1.heap.size + 1 ≤ w4.heap.size := (by omega); (try have : w2.heap.size < w4.heap.size := (by omega)); (try have : w2.heap.size ≤ w4.heap.size := (by omega)); (try have : w3.heap.size < w4.heap.size := (by omega)); (try have : w3.heap.size ≤ w4.heap.size := (by omega)))
            | (go_at_call_of 10 (Value.agg #[.int .i64 k2, .int .i64 n2, .string s2]); refine (H2.out _).mono ?_; rintro e w5 ⟨rfl, hb⟩; have hz5 := hb.size; (try simp at hz5); have hG := Below.trans (B := w1.heap.size) (a := w1) (by go_grown; all_goals first | omega | (simp; omega)) (hb.mono (by first | omega | (simp; done) | (simp; omega))); obtain ⟨hc5, hf5⟩ := bcell hb; (try simp at hc5); (try simp at hf5); clear hb; have z0 : w1.heap.size < w5.heap.size := (by omega); have z1 : w1.heap.size + 1 < w5.heap.size := (by omega); have y0 : w1.heap.size ≤ w5.heap.size := (by omega); have y1 : w1.heap.size + 1 ≤ w5.heap.size := (by omega); (try have : w2.heap.size < w5.heap.size := (by omega)); (try have : w2.heap.size ≤ w5.heap.size := (by omega)); (try have : w3.heap.size < w5.heap.size := (by omega)); (try have : w3.heap.size ≤ w5.heap.size := (by omega)); (try have : w4.heap.size < w5.heap.size := (by omega)); (try have : w4.heap.size ≤ w5.heap.size := (by omega))))
          have ca0 : w5.cell? ⟨w1.heap.size, 0, none⟩ = some (.int .i64 k1) := by go_simp
          have ca1 : w5.cell? ⟨w1.heap.size, 1, none⟩ = some (.int .i64 n1) := by go_simp
          have ca2 : w5.cell? ⟨w1.heap.size, 2, none⟩ = some (.string s1) := by go_simp
          have cb0 : w5.cell? ⟨w1.heap.size + 1, 0, none⟩ = some (.int .i64 k2) := by go_simp
          have cb1 : w5.cell? ⟨w1.heap.size + 1, 1, none⟩ = some (.int .i64 n2) := by go_simp
          have cb2 : w5.cell? ⟨w1.heap.size + 1, 2, none⟩ = some (.string s2) := by go_simp
          have cx0 : w5.cell? ⟨w2.heap.size, 0, none⟩ = some (.int .i64 x.k) := by go_simp
          have cx1 : w5.cell? ⟨w2.heap.size, 1, none⟩ = some (.int .i64 x.n) := by go_simp
          have cx2 : w5.cell? ⟨w2.heap.size, 2, none⟩ = some (.string x.s) := by go_simp
          have HT5 := Lib.hid (HT1.out.next hG)
          have HG5 := Lib.hid hG
          have hK := Below.refl w5.heap.size w5
          clear hc2 hf2 hc3 hf3 hc4 hf4 hc5 hf5 hz2 hz3 hz4 hz5 hG
          have hKd : Below w5.heap.size w5 w5.drew := by go_grown
          have l1 : w1.heap.size < w5.heap.size := by omega
          have l2 : w1.heap.size + 1 < w5.heap.size := by omega
          have l3 : w2.heap.size < w5.heap.size := by omega
          refine wp_region_held_drew (S := fun w' => Below w5.heap.size w5 w' ∧ w'.cell? ⟨w1.heap.size, 0, none⟩ = some (.int .i64 k1) ∧ w'.cell? ⟨w1.heap.size, 1, none⟩ = some (.int .i64 n1) ∧ w'.cell? ⟨w1.heap.size, 2, none⟩ = some (.string s1) ∧
              w'.cell? ⟨w1.heap.size + 1, 0, none⟩ = some (.int .i64 k2) ∧ w'.cell? ⟨w1.heap.size + 1, 1, none⟩ = some (.int .i64 n2) ∧ w'.cell? ⟨w1.heap.size + 1, 2, none⟩ = some (.string s2) ∧
              w'.cell? ⟨w2.heap.size, 0, none⟩ = some (.int .i64 x.k) ∧ w'.cell? ⟨w2.heap.size, 1, none⟩ = some (.int .i64 x.n) ∧ w'.cell? ⟨w2.heap.size, 2, none⟩ = some (.string x.s)) (by kernel_rfl) ?_ (fun hHeld => ?_)
          · exact ⟨hKd, ca0, ca1, ca2, cb0, cb1, cb2, cx0, cx1, cx2⟩
          refine wpAnyH_take (i := 0) (oi := _) (v := ?_) rfl (by kernel_rfl) (by kernel_rfl) (by kernel_rfl) (fun _ _ _ h => h) (Or.inl ⟨by kernel_rfl, ?_⟩) (by assumption) ?_
          rotate_left
          · (intro w hSw; (try dsimp only at hSw); go_simp)
            try with_reducible rfl
          (try simp only [Act.put, List.getElem_toArray, List.getElem_cons_zero, List.getElem_cons_succ, List.setIfInBounds_toArray, List.set_cons_zero, List.set_cons_succ])
          refine wpAnyH_ready (rs := [1]) (by kernel_rfl) (by simp) ?_
          refine AllReadyH.cons (o := _) rfl (fun K hK => ?_) AllReadyH.nil
          go_simp
          have hB0 := hHeld.1
          refine (H3.out _).mono ?_
          rintro e w' ⟨rfl, hb⟩
          refine hK.out _ _ ?_ (fun hHeld2 => ?_)
          · obtain ⟨_, d0, d1, d2, d3, d4, d5, d6, d7, d8⟩ := hHeld
            exact ⟨hB0.trans (hb.mono hB0.size), (hb.cell (p := ⟨w1.heap.size, 0, none⟩) (Nat.lt_of_lt_of_le l1 hB0.size)).trans d0, (hb.cell (p := ⟨w1.heap.size, 1, none⟩) (Nat.lt_of_lt_of_le l1 hB0.size)).trans d1, (hb.cell (p := ⟨w1.heap.size, 2, none⟩) (Nat.lt_of_lt_of_le l1 hB0.size)).trans d2, (hb.cell (p := ⟨w1.heap.size + 1, 0, none⟩) (Nat.lt_of_lt_of_le l2 hB0.size)).trans d3, (hb.cell (p := ⟨w1.heap.size + 1, 1, none⟩) (Nat.lt_of_lt_of_le l2 hB0.size)).trans d4, (hb.cell (p := ⟨w1.heap.size + 1, 2, none⟩) (Nat.lt_of_lt_of_le l2 hB0.size)).trans d5, (hb.cell (p := ⟨w2.heap.size, 0, none⟩) (Nat.lt_of_lt_of_le l3 hB0.size)).trans d6, (hb.cell (p := ⟨w2.heap.size, 1, none⟩) (Nat.lt_of_lt_of_le l3 hB0.size)).trans d7, (hb.cell (p := ⟨w2.heap.size, 2, none⟩) (Nat.lt_of_lt_of_le l3 hB0.size)).trans d8⟩
          clear hK K hb hB0 hHeld
          (try simp only [Act.put, List.getElem_toArray, List.getElem_cons_zero, List.getElem_cons_succ, List.setIfInBounds_toArray, List.set_cons_zero, List.set_cons_succ])
          refine wpAnyH_take (i := 2) (oi := _) (v := ?_) rfl (by kernel_rfl) (by kernel_rfl) (by kernel_rfl) (fun _ _ _ h => h) (Or.inl ⟨by kernel_rfl, ?_⟩) (by assumption) ?_
          rotate_left
          · (intro w hSw; (try dsimp only at hSw); go_simp)
            try with_reducible rfl
          (try simp only [Act.put, List.getElem_toArray, List.getElem_cons_zero, List.getElem_cons_succ, List.setIfInBounds_toArray, List.set_cons_zero, List.set_cons_succ])
          refine wpAnyH_take (i := 3) (oi := _) (v := ?_) rfl (by kernel_rfl) (by kernel_rfl) (by kernel_rfl) (fun _ _ _ h => h) (Or.inl ⟨by kernel_rfl, ?_⟩) (by assumption) ?_
          rotate_left
          · (intro w hSw; (try dsimp only at hSw); go_simp)
            try with_reducible rfl
          (try simp only [Act.put, List.getElem_toArray, List.getElem_cons_zero, List.getElem_cons_succ, List.setIfInBounds_toArray, List.set_cons_zero, List.set_cons_succ])
          refine wpAnyH_take (i := 4) (oi := _) (v := ?_) rfl (by kernel_rfl) (by kernel_rfl) (by kernel_rfl) (fun _ _ _ h => h) (Or.inl ⟨by kernel_rfl, ?_⟩) (by assumption) ?_
          rotate_left
          · (intro w hSw; (try dsimp only at hSw); go_simp)
            try with_reducible rfl
          (try simp only [Act.put, List.getElem_toArray, List.getElem_cons_zero, List.getElem_cons_succ, List.setIfInBounds_toArray, List.set_cons_zero, List.set_cons_succ])
          refine wpAnyH_take (i := 5) (oi := _) (v := ?_) rfl (by kernel_rfl) (by kernel_rfl) (by kernel_rfl) (fun _ _ _ h => h) (Or.inl ⟨by kernel_rfl, ?_⟩) (by assumption) ?_
          rotate_left
          · (intro w hSw; (try dsimp only at hSw); go_simp)
            try with_reducible rfl
          (try simp only [Act.put, List.getElem_toArray, List.getElem_cons_zero, List.getElem_cons_succ, List.setIfInBounds_toArray, List.set_cons_zero, List.set_cons_succ])
          refine wpAnyH_take (i := 6) (oi := _) (v := ?_) rfl (by kernel_rfl) (by kernel_rfl) (by kernel_rfl) (fun _ _ _ h => h) (Or.inl ⟨by kernel_rfl, ?_⟩) (by assumption) ?_
          rotate_left
          · (intro w hSw; (try dsimp only at hSw); go_simp)
            try with_reducible rfl
          (try simp only [Act.put, List.getElem_toArray, List.getElem_cons_zero, List.getElem_cons_succ, List.setIfInBounds_toArray, List.set_cons_zero, List.set_cons_succ])
          refine wpAnyH_take (i := 7) (oi := _) (v := ?_) rfl (by kernel_rfl) (by kernel_rfl) (by kernel_rfl) (fun _ _ _ h => h) (Or.inl ⟨by kernel_rfl, ?_⟩) (by assumption) ?_
          rotate_left
          · (intro w hSw; (try dsimp only at hSw); go_simp)
            try with_reducible rfl
          (try simp only [Act.put, List.getElem_toArray, List.getElem_cons_zero, List.getElem_cons_succ, List.setIfInBounds_toArray, List.set_cons_zero, List.set_cons_succ])
          refine wpAnyH_take (i := 8) (oi := _) (v := ?_) rfl (by kernel_rfl) (by kernel_rfl) (by kernel_rfl) (fun _ _ _ h => h) (Or.inl ⟨by kernel_rfl, ?_⟩) (by assumption) ?_
          rotate_left
          · (intro w hSw; (try dsimp only at hSw); go_simp)
            try with_reducible rfl
          (try simp only [Act.put, List.getElem_toArray, List.getElem_cons_zero, List.getElem_cons_succ, List.setIfInBounds_toArray, List.set_cons_zero, List.set_cons_succ])
          refine wpAnyH_take (i := 9) (oi := _) (v := ?_) rfl (by kernel_rfl) (by kernel_rfl) (by kernel_rfl) (fun _ _ _ h => h) (Or.inl ⟨by kernel_rfl, ?_⟩) (by assumption) ?_
          rotate_left
          · (intro w hSw; (try dsimp only at hSw); go_simp)
            try with_reducible rfl
          (try simp only [Act.put, List.getElem_toArray, List.getElem_cons_zero, List.getElem_cons_succ, List.setIfInBounds_toArray, List.set_cons_zero, List.set_cons_succ])
          refine wpAnyH_take (i := 10) (oi := _) (v := undef) rfl (by kernel_rfl) (by kernel_rfl) (by kernel_rfl) (fun _ _ _ h => h) (Or.inr ⟨by kernel_rfl, rfl⟩) (by assumption) ?_
          (try simp only [Act.put, List.getElem_toArray, List.getElem_cons_zero, List.getElem_cons_succ, List.setIfInBounds_toArray, List.set_cons_zero, List.set_cons_succ])
          refine wpAnyH_take (i := 11) (oi := _) (v := undef) rfl (by kernel_rfl) (by kernel_rfl) (by kernel_rfl) (fun _ _ _ h => h) (Or.inr ⟨by kernel_rfl, rfl⟩) (by assumption) ?_
          (try simp only [Act.put, List.getElem_toArray, List.getElem_cons_zero, List.getElem_cons_succ, List.setIfInBounds_toArray, List.set_cons_zero, List.set_cons_succ])
          refine wpAnyH_take (i := 12) (oi := _) (v := ?_) rfl (by kernel_rfl) (by kernel_rfl) (by kernel_rfl) (fun _ _ _ h => h) (Or.inl ⟨by kernel_rfl, ?_⟩) (by assumption) ?_
          rotate_left
          · (intro w hSw; (try dsimp only at hSw); go_simp)
            try with_reducible rfl
          (try simp only [Act.put, List.getElem_toArray, List.getElem_cons_zero, List.getElem_cons_succ, List.setIfInBounds_toArray, List.set_cons_zero, List.set_cons_succ])
          refine wpAnyH_take (i := 13) (oi := _) (v := ?_) rfl (by kernel_rfl) (by kernel_rfl) (by kernel_rfl) (fun _ _ _ h => h) (Or.inl ⟨by kernel_rfl, ?_⟩) (by assumption) ?_
          rotate_left
          · (intro w hSw; (try dsimp only at hSw); go_simp)
            try with_reducible rfl
          (try simp only [Act.put, List.getElem_toArray, List.getElem_cons_zero, List.getElem_cons_succ, List.setIfInBounds_toArray, List.set_cons_zero, List.set_cons_succ])
          refine wpAnyH_take (i := 14) (oi := _) (v := ?_) rfl (by kernel_rfl) (by kernel_rfl) (by kernel_rfl) (fun _ _ _ h => h) (Or.inl ⟨by kernel_rfl, ?_⟩) (by assumption) ?_
          rotate_left
          · (intro w hSw; (try dsimp only at hSw); go_simp)
            try with_reducible rfl
          (try simp only [Act.put, List.getElem_toArray, List.getElem_cons_zero, List.getElem_cons_succ, List.setIfInBounds_toArray, List.set_cons_zero, List.set_cons_succ])
          refine wpAnyH_take (i := 15) (oi := _) (v := ?_) rfl (by kernel_rfl) (by kernel_rfl) (by kernel_rfl) (fun _ _ _ h => h) (Or.inl ⟨by kernel_rfl, ?_⟩) (by assumption) ?_
          rotate_left
          · (intro w hSw; (try dsimp only at hSw); go_simp)
            try with_reducible rfl
          (try simp only [Act.put, List.getElem_toArray, List.getElem_cons_zero, List.getElem_cons_succ, List.setIfInBounds_toArray, List.set_cons_zero, List.set_cons_succ])
          refine wpAnyH_take (i := 16) (oi := _) (v := ?_) rfl (by kernel_rfl) (by kernel_rfl) (by kernel_rfl) (fun _ _ _ h => h) (Or.inl ⟨by kernel_rfl, ?_⟩) (by assumption) ?_
          rotate_left
          · (intro w hSw; (try dsimp only at hSw); go_simp)
            try with_reducible rfl
          (try simp only [Act.put, List.getElem_toArray, List.getElem_cons_zero, List.getElem_cons_succ, List.setIfInBounds_toArray, List.set_cons_zero, List.set_cons_succ])
          refine wpAnyH_take (i := 18) (oi := _) (v := ?_) rfl (by kernel_rfl) (by kernel_rfl) (by kernel_rfl) (fun _ _ _ h => h) (Or.inl ⟨by kernel_rfl, ?_⟩) (by assumption) ?_
          rotate_left
          · (intro w hSw; (try dsimp only at hSw); go_simp)
            try with_reducible rfl
          (try simp only [Act.put, List.getElem_toArray, List.getElem_cons_zero, List.getElem_cons_succ, List.setIfInBounds_toArray, List.set_cons_zero, List.set_cons_succ])
          refine wpAnyH_ready (rs := [17]) (by kernel_rfl) (by simp) ?_
          refine AllReadyH.cons (o := _) rfl (fun K hK => ?_) AllReadyH.nil
          go_simp
          have hB0 := hHeld2.1
          refine (G3.out _ (HT5.out.next hB0)).mono ?_
          rintro e w' ⟨rfl, hb⟩
          refine hK.out _ _ ?_ (fun hHeld3 => ?_)
          · obtain ⟨_, d0, d1, d2, d3, d4, d5, d6, d7, d8⟩ := hHeld2
            exact ⟨hB0.trans (hb.mono hB0.size), (hb.cell (p := ⟨w1.heap.size, 0, none⟩) (Nat.lt_of_lt_of_le l1 hB0.size)).trans d0, (hb.cell (p := ⟨w1.heap.size, 1, none⟩) (Nat.lt_of_lt_of_le l1 hB0.size)).trans d1, (hb.cell (p := ⟨w1.heap.size, 2, none⟩) (Nat.lt_of_lt_of_le l1 hB0.size)).trans d2, (hb.cell (p := ⟨w1.heap.size + 1, 0, none⟩) (Nat.lt_of_lt_of_le l2 hB0.size)).trans d3, (hb.cell (p := ⟨w1.heap.size + 1, 1, none⟩) (Nat.lt_of_lt_of_le l2 hB0.size)).trans d4, (hb.cell (p := ⟨w1.heap.size + 1, 2, none⟩) (Nat.lt_of_lt_of_le l2 hB0.size)).trans d5, (hb.cell (p := ⟨w2.heap.size, 0, none⟩) (Nat.lt_of_lt_of_le l3 hB0.size)).trans d6, (hb.cell (p := ⟨w2.heap.size, 1, none⟩) (Nat.lt_of_lt_of_le l3 hB0.size)).trans d7, (hb.cell (p := ⟨w2.heap.size, 2, none⟩) (Nat.lt_of_lt_of_le l3 hB0.size)).trans d8⟩
          clear hK K hb hB0 hHeld2
          (try simp only [Act.put, List.getElem_toArray, List.getElem_cons_zero, List.getElem_cons_succ, List.setIfInBounds_toArray, List.set_cons_zero, List.set_cons_succ])
          refine wpAnyH_take (i := 19) (oi := _) (v := ?_) rfl (by kernel_rfl) (by kernel_rfl) (by kernel_rfl) (fun _ _ _ h => h) (Or.inl ⟨by kernel_rfl, ?_⟩) (by assumption) ?_
          rotate_left
          · (intro w hSw; (try dsimp only at hSw); go_simp)
            try with_reducible rfl
          (try simp only [Act.put, List.getElem_toArray, List.getElem_cons_zero, List.getElem_cons_succ, List.setIfInBounds_toArray, List.set_cons_zero, List.set_cons_succ])
          refine wpAnyH_take (i := 20) (oi := _) (v := ?_) rfl (by kernel_rfl) (by kernel_rfl) (by kernel_rfl) (fun _ _ _ h => h) (Or.inl ⟨by kernel_rfl, ?_⟩) (by assumption) ?_
          rotate_left
          · (intro w hSw; (try dsimp only at hSw); go_simp)
            try with_reducible rfl
          (try simp only [Act.put, List.getElem_toArray, List.getElem_cons_zero, List.getElem_cons_succ, List.setIfInBounds_toArray, List.set_cons_zero, List.set_cons_succ])
          refine wpAnyH_take (i := 21) (oi := _) (v := ?_) rfl (by kernel_rfl) (by kernel_rfl) (by kernel_rfl) (fun _ _ _ h => h) (Or.inl ⟨by kernel_rfl, ?_⟩) (by assumption) ?_
          rotate_left
          · (intro w hSw; (try dsimp only at hSw); go_simp)
            try with_reducible rfl
          (try simp only [Act.put, List.getElem_toArray, List.getElem_cons_zero, List.getElem_cons_succ, List.setIfInBounds_toArray, List.set_cons_zero, List.set_cons_succ])
          refine wpAnyH_take (i := 22) (oi := _) (v := ?_) rfl (by kernel_rfl) (by kernel_rfl) (by kernel_rfl) (fun _ _ _ h => h) (Or.inl ⟨by kernel_rfl, ?_⟩) (by assumption) ?_
          rotate_left
          · (intro w hSw; (try dsimp only at hSw); go_simp)
            try with_reducible rfl
          (try simp only [Act.put, List.getElem_toArray, List.getElem_cons_zero, List.getElem_cons_succ, List.setIfInBounds_toArray, List.set_cons_zero, List.set_cons_succ])
          refine wpAnyH_done (by kernel_rfl) ?_ _
          obtain ⟨hK3, _⟩ := hHeld3
          go_wp2_with fail
          go_ret
          exact ⟨by first | kernel_rfl | simp, HG1.out.trans ((HG5.out.trans (hK3.mono (by omega))).mono HSZ.out)⟩
        · go_wp2_with (first
            | (go_at_call 13; refine (G2.out _ ?_).mono ?_; (exact HT1.out.next (by go_grown; all_goals first | omega | (simp; omega))); rintro e w2 ⟨rfl, hb⟩; have hz2 := hb.size; (try simp at hz2); have hG := Below.trans (B := w1.heap.size) (a := w1) (by go_grown; all_goals first | omega | (simp; omega)) (hb.mono (by first | omega | (simp; done) | (simp; omega))); obtain ⟨hc2, hf2⟩ := bcell hb; (try simp at hc2); (try simp at hf2); clear hb; have z0 : w1.heap.size < w2.heap.size := (by omega); have z1 : w1.heap.size + 1 < w2.heap.size := (by omega); have y0 : w1.heap.size ≤ w2.heap.size := (by omega); have y1 : w1.heap.size + 1 ≤ w2.heap.size := (by omega))
            | (go_at_call 20; refine (G1.out _).mono ?_; rintro e w3 ⟨rfl, hb⟩; have hz3 := hb.size; (try simp at hz3); have hG := Below.trans (B := w1.heap.size) (a := w1) (by go_grown; all_goals first | omega | (simp; omega)) (hb.mono (by first | omega | (simp; done) | (simp; omega))); obtain ⟨hc3, hf3⟩ := bcell hb; (try simp at hc3); (try simp at hf3); clear hb; have z0 : w1.heap.size < w3.heap.size := (by omega); have z1 : w1.heap.size + 1 < w3.heap.size := (by omega); have y0 : w1.heap.size ≤ w3.heap.size := (by omega); have y1 : w1.heap.size + 1 ≤ w3.heap.size := (by omega); (try have : w2.heap.size < w3.heap.size := (by omega)); (try have : w2.heap.size ≤ w3.heap.size := (by omega)))
            | (go_at_call_of 10 (Value.agg #[.int .i64 k1, .int .i64 n1, .string s1]); refine (H1.out _).mono ?_; rintro e w4 ⟨rfl, hb⟩; have hz4 := hb.size; (try simp at hz4); have hG := Below.trans (B := w1.heap.size) (a := w1) (by go_grown; all_goals first | omega | (simp; omega)) (hb.mono (by first | omega | (simp; done) | (simp; omega))); obtain ⟨hc4, hf4⟩ := bcell hb; (try simp at hc4); (try simp at hf4); clear hb; have z0 : w1.heap.size < w4.heap.size := (by omega); have z1 : w1.heap.size + 1 < w4.heap.size := (by omega); have y0 : w1.heap.size ≤ w4.heap.size := (by omega); have y1 : w1.heap.size + 1 ≤ w4.heap.size := (by omega); (try have : w2.heap.size < w4.heap.size := (by omega)); (try have : w2.heap.size ≤ w4.heap.size := (by omega)); (try have : w3.heap.size < w4.heap.size := (by omega)); (try have : w3.heap.size ≤ w4.heap.size := (by omega)))
            | (go_at_call_of 10 (Value.agg #[.int .i64 k2, .int .i64 n2, .string s2]); refine (H2.out _).mono ?_; rintro e w5 ⟨rfl, hb⟩; have hz5 := hb.size; (try simp at hz5); have hG := Below.trans (B := w1.heap.size) (a := w1) (by go_grown; all_goals first | omega | (simp; omega)) (hb.mono (by first | omega | (simp; done) | (simp; omega))); obtain ⟨hc5, hf5⟩ := bcell hb; (try simp at hc5); (try simp at hf5); clear hb; have z0 : w1.heap.size < w5.heap.size := (by omega); have z1 : w1.heap.size + 1 < w5.heap.size := (by omega); have y0 : w1.heap.size ≤ w5.heap.size := (by omega); have y1 : w1.heap.size + 1 ≤ w5.heap.size := (by omega); (try have : w2.heap.size < w5.heap.size := (by omega)); (try have : w2.heap.size ≤ w5.heap.size := (by omega)); (try have : w3.heap.size < w5.heap.size := (by omega)); (try have : w3.heap.size ≤ w5.heap.size := (by omega)); (try have : w4.heap.size < w5.heap.size := (by omega)); (try have : w4.heap.size ≤ w5.heap.size := (by omega))))
          have ca0 : w5.cell? ⟨w1.heap.size, 0, none⟩ = some (.int .i64 k1) := by go_simp
          have ca1 : w5.cell? ⟨w1.heap.size, 1, none⟩ = some (.int .i64 n1) := by go_simp
          have ca2 : w5.cell? ⟨w1.heap.size, 2, none⟩ = some (.string s1) := by go_simp
          have cb0 : w5.cell? ⟨w1.heap.size + 1, 0, none⟩ = some (.int .i64 k2) := by go_simp
          have cb1 : w5.cell? ⟨w1.heap.size + 1, 1, none⟩ = some (.int .i64 n2) := by go_simp
          have cb2 : w5.cell? ⟨w1.heap.size + 1, 2, none⟩ = some (.string s2) := by go_simp
          have cx0 : w5.cell? ⟨w2.heap.size, 0, none⟩ = some (.int .i64 x.k) := by go_simp
          have cx1 : w5.cell? ⟨w2.heap.size, 1, none⟩ = some (.int .i64 x.n) := by go_simp
          have cx2 : w5.cell? ⟨w2.heap.size, 2, none⟩ = some (.string x.s) := by go_simp
          have HT5 := Lib.hid (HT1.out.next hG)
          have HG5 := Lib.hid hG
          have hK := Below.refl w5.heap.size w5
          clear hc2 hf2 hc3 hf3 hc4 hf4 hc5 hf5 hz2 hz3 hz4 hz5 hG
          have hKd : Below w5.heap.size w5 w5.drew := by go_grown
          have l1 : w1.heap.size < w5.heap.size := by omega
          have l2 : w1.heap.size + 1 < w5.heap.size := by omega
          have l3 : w2.heap.size < w5.heap.size := by omega
          refine wp_region_held_drew (S := fun w' => Below w5.heap.size w5 w' ∧ w'.cell? ⟨w1.heap.size, 0, none⟩ = some (.int .i64 k1) ∧ w'.cell? ⟨w1.heap.size, 1, none⟩ = some (.int .i64 n1) ∧ w'.cell? ⟨w1.heap.size, 2, none⟩ = some (.string s1) ∧
              w'.cell? ⟨w1.heap.size + 1, 0, none⟩ = some (.int .i64 k2) ∧ w'.cell? ⟨w1.heap.size + 1, 1, none⟩ = some (.int .i64 n2) ∧ w'.cell? ⟨w1.heap.size + 1, 2, none⟩ = some (.string s2) ∧
              w'.cell? ⟨w2.heap.size, 0, none⟩ = some (.int .i64 x.k) ∧ w'.cell? ⟨w2.heap.size, 1, none⟩ = some (.int .i64 x.n) ∧ w'.cell? ⟨w2.heap.size, 2, none⟩ = some (.string x.s)) (by kernel_rfl) ?_ (fun hHeld => ?_)
          · exact ⟨hKd, ca0, ca1, ca2, cb0, cb1, cb2, cx0, cx1, cx2⟩
          refine wpAnyH_take (i := 0) (oi := _) (v := ?_) rfl (by kernel_rfl) (by kernel_rfl) (by kernel_rfl) (fun _ _ _ h => h) (Or.inl ⟨by kernel_rfl, ?_⟩) (by assumption) ?_
          rotate_left
          · (intro w hSw; (try dsimp only at hSw); go_simp)
            try with_reducible rfl
          (try simp only [Act.put, List.getElem_toArray, List.getElem_cons_zero, List.getElem_cons_succ, List.setIfInBounds_toArray, List.set_cons_zero, List.set_cons_succ])
          refine wpAnyH_ready (rs := [1]) (by kernel_rfl) (by simp) ?_
          refine AllReadyH.cons (o := _) rfl (fun K hK => ?_) AllReadyH.nil
          go_simp
          have hB0 := hHeld.1
          refine (H3.out _).mono ?_
          rintro e w' ⟨rfl, hb⟩
          refine hK.out _ _ ?_ (fun hHeld2 => ?_)
          · obtain ⟨_, d0, d1, d2, d3, d4, d5, d6, d7, d8⟩ := hHeld
            exact ⟨hB0.trans (hb.mono hB0.size), (hb.cell (p := ⟨w1.heap.size, 0, none⟩) (Nat.lt_of_lt_of_le l1 hB0.size)).trans d0, (hb.cell (p := ⟨w1.heap.size, 1, none⟩) (Nat.lt_of_lt_of_le l1 hB0.size)).trans d1, (hb.cell (p := ⟨w1.heap.size, 2, none⟩) (Nat.lt_of_lt_of_le l1 hB0.size)).trans d2, (hb.cell (p := ⟨w1.heap.size + 1, 0, none⟩) (Nat.lt_of_lt_of_le l2 hB0.size)).trans d3, (hb.cell (p := ⟨w1.heap.size + 1, 1, none⟩) (Nat.lt_of_lt_of_le l2 hB0.size)).trans d4, (hb.cell (p := ⟨w1.heap.size + 1, 2, none⟩) (Nat.lt_of_lt_of_le l2 hB0.size)).trans d5, (hb.cell (p := ⟨w2.heap.size, 0, none⟩) (Nat.lt_of_lt_of_le l3 hB0.size)).trans d6, (hb.cell (p := ⟨w2.heap.size, 1, none⟩) (Nat.lt_of_lt_of_le l3 hB0.size)).trans d7, (hb.cell (p := ⟨w2.heap.size, 2, none⟩) (Nat.lt_of_lt_of_le l3 hB0.size)).trans d8⟩
          clear hK K hb hB0 hHeld
          (try simp only [Act.put, List.getElem_toArray, List.getElem_cons_zero, List.getElem_cons_succ, List.setIfInBounds_toArray, List.set_cons_zero, List.set_cons_succ])
          refine wpAnyH_take (i := 2) (oi := _) (v := ?_) rfl (by kernel_rfl) (by kernel_rfl) (by kernel_rfl) (fun _ _ _ h => h) (Or.inl ⟨by kernel_rfl, ?_⟩) (by assumption) ?_
          rotate_left
          · (intro w hSw; (try dsimp only at hSw); go_simp)
            try with_reducible rfl
          (try simp only [Act.put, List.getElem_toArray, List.getElem_cons_zero, List.getElem_cons_succ, List.setIfInBounds_toArray, List.set_cons_zero, List.set_cons_succ])
          refine wpAnyH_take (i := 3) (oi := _) (v := ?_) rfl (by kernel_rfl) (by kernel_rfl) (by kernel_rfl) (fun _ _ _ h => h) (Or.inl ⟨by kernel_rfl, ?_⟩) (by assumption) ?_
          rotate_left
          · (intro w hSw; (try dsimp only at hSw); go_simp)
            try with_reducible rfl
          (try simp only [Act.put, List.getElem_toArray, List.getElem_cons_zero, List.getElem_cons_succ, List.setIfInBounds_toArray, List.set_cons_zero, List.set_cons_succ])
          refine wpAnyH_take (i := 4) (oi := _) (v := ?_) rfl (by kernel_rfl) (by kernel_rfl) (by kernel_rfl) (fun _ _ _ h => h) (Or.inl ⟨by kernel_rfl, ?_⟩) (by assumption) ?_
          rotate_left
          · (intro w hSw; (try dsimp only at hSw); go_simp)
            try with_reducible rfl
          (try simp only [Act.put, List.getElem_toArray, List.getElem_cons_zero, List.getElem_cons_succ, List.setIfInBounds_toArray, List.set_cons_zero, List.set_cons_succ])
          refine wpAnyH_take (i := 5) (oi := _) (v := ?_) rfl (by kernel_rfl) (by kernel_rfl) (by kernel_rfl) (fun _ _ _ h => h) (Or.inl ⟨by kernel_rfl, ?_⟩) (by assumption) ?_
          rotate_left
          · (intro w hSw; (try dsimp only at hSw); go_simp)
            try with_reducible rfl
          (try simp only [Act.put, List.getElem_toArray, List.getElem_cons_zero, List.getElem_cons_succ, List.setIfInBounds_toArray, List.set_cons_zero, List.set_cons_succ])
          refine wpAnyH_take (i := 6) (oi := _) (v := ?_) rfl (by kernel_rfl) (by kernel_rfl) (by kernel_rfl) (fun _ _ _ h => h) (Or.inl ⟨by kernel_rfl, ?_⟩) (by assumption) ?_
          rotate_left
          · (intro w hSw; (try dsimp only at hSw); go_simp)
            try with_reducible rfl
          (try simp only [Act.put, List.getElem_toArray, List.getElem_cons_zero, List.getElem_cons_succ, List.setIfInBounds_toArray, List.set_cons_zero, List.set_cons_succ])
          refine wpAnyH_take (i := 7) (oi := _) (v := ?_) rfl (by kernel_rfl) (by kernel_rfl) (by kernel_rfl) (fun _ _ _ h => h) (Or.inl ⟨by kernel_rfl, ?_⟩) (by assumption) ?_
          rotate_left
          · (intro w hSw; (try dsimp only at hSw); go_simp)
            try with_reducible rfl
          (try simp only [Act.put, List.getElem_toArray, List.getElem_cons_zero, List.getElem_cons_succ, List.setIfInBounds_toArray, List.set_cons_zero, List.set_cons_succ])
          refine wpAnyH_take (i := 8) (oi := _) (v := ?_) rfl (by kernel_rfl) (by kernel_rfl) (by kernel_rfl) (fun _ _ _ h => h) (Or.inl ⟨by kernel_rfl, ?_⟩) (by assumption) ?_
          rotate_left
          · (intro w hSw; (try dsimp only at hSw); go_simp)
            try with_reducible rfl
          (try simp only [Act.put, List.getElem_toArray, List.getElem_cons_zero, List.getElem_cons_succ, List.setIfInBounds_toArray, List.set_cons_zero, List.set_cons_succ])
          refine wpAnyH_take (i := 9) (oi := _) (v := ?_) rfl (by kernel_rfl) (by kernel_rfl) (by kernel_rfl) (fun _ _ _ h => h) (Or.inl ⟨by kernel_rfl, ?_⟩) (by assumption) ?_
          rotate_left
          · (intro w hSw; (try dsimp only at hSw); go_simp)
            try with_reducible rfl
          (try simp only [Act.put, List.getElem_toArray, List.getElem_cons_zero, List.getElem_cons_succ, List.setIfInBounds_toArray, List.set_cons_zero, List.set_cons_succ])
          refine wpAnyH_take (i := 10) (oi := _) (v := ?_) rfl (by kernel_rfl) (by kernel_rfl) (by kernel_rfl) (fun _ _ _ h => h) (Or.inl ⟨by kernel_rfl, ?_⟩) (by assumption) ?_
          rotate_left
          · (intro w hSw; (try dsimp only at hSw); go_simp)
            try with_reducible rfl
          (try simp only [Act.put, List.getElem_toArray, List.getElem_cons_zero, List.getElem_cons_succ, List.setIfInBounds_toArray, List.set_cons_zero, List.set_cons_succ])
          refine wpAnyH_take (i := 11) (oi := _) (v := ?_) rfl (by kernel_rfl) (by kernel_rfl) (by kernel_rfl) (fun _ _ _ h => h) (Or.inl ⟨by kernel_rfl, ?_⟩) (by assumption) ?_
          rotate_left
          · (intro w hSw; (try dsimp only at hSw); go_simp)
            try with_reducible rfl
          (try simp only [Act.put, List.getElem_toArray, List.getElem_cons_zero, List.getElem_cons_succ, List.setIfInBounds_toArray, List.set_cons_zero, List.set_cons_succ])
          refine wpAnyH_take (i := 12) (oi := _) (v := ?_) rfl (by kernel_rfl) (by kernel_rfl) (by kernel_rfl) (fun _ _ _ h => h) (Or.inl ⟨by kernel_rfl, ?_⟩) (by assumption) ?_
          rotate_left
          · (intro w hSw; (try dsimp only at hSw); go_simp)
            try with_reducible rfl
          (try simp only [Act.put, List.getElem_toArray, List.getElem_cons_zero, List.getElem_cons_succ, List.setIfInBounds_toArray, List.set_cons_zero, List.set_cons_succ])
          refine wpAnyH_take (i := 13) (oi := _) (v := ?_) rfl (by kernel_rfl) (by kernel_rfl) (by kernel_rfl) (fun _ _ _ h => h) (Or.inl ⟨by kernel_rfl, ?_⟩) (by assumption) ?_
          rotate_left
          · (intro w hSw; (try dsimp only at hSw); go_simp)
            try with_reducible rfl
          (try simp only [Act.put, List.getElem_toArray, List.getElem_cons_zero, List.getElem_cons_succ, List.setIfInBounds_toArray, List.set_cons_zero, List.set_cons_succ])
          refine wpAnyH_take (i := 14) (oi := _) (v := ?_) rfl (by kernel_rfl) (by kernel_rfl) (by kernel_rfl) (fun _ _ _ h => h) (Or.inl ⟨by kernel_rfl, ?_⟩) (by assumption) ?_
          rotate_left
          · (intro w hSw; (try dsimp only at hSw); go_simp)
            try with_reducible rfl
          (try simp only [Act.put, List.getElem_toArray, List.getElem_cons_zero, List.getElem_cons_succ, List.setIfInBounds_toArray, List.set_cons_zero, List.set_cons_succ])
          refine wpAnyH_take (i := 15) (oi := _) (v := ?_) rfl (by kernel_rfl) (by kernel_rfl) (by kernel_rfl) (fun _ _ _ h => h) (Or.inl ⟨by kernel_rfl, ?_⟩) (by assumption) ?_
          rotate_left
          · (intro w hSw; (try dsimp only at hSw); go_simp)
            try with_reducible rfl
          (try simp only [Act.put, List.getElem_toArray, List.getElem_cons_zero, List.getElem_cons_succ, List.setIfInBounds_toArray, List.set_cons_zero, List.set_cons_succ])
          refine wpAnyH_take (i := 16) (oi := _) (v := ?_) rfl (by kernel_rfl) (by kernel_rfl) (by kernel_rfl) (fun _ _ _ h => h) (Or.inl ⟨by kernel_rfl, ?_⟩) (by assumption) ?_
          rotate_left
          · (intro w hSw; (try dsimp only at hSw); go_simp)
            try with_reducible rfl
          (try simp only [Act.put, List.getElem_toArray, List.getElem_cons_zero, List.getElem_cons_succ, List.setIfInBounds_toArray, List.set_cons_zero, List.set_cons_succ])
          refine wpAnyH_take (i := 18) (oi := _) (v := ?_) rfl (by kernel_rfl) (by kernel_rfl) (by kernel_rfl) (fun _ _ _ h => h) (Or.inl ⟨by kernel_rfl, ?_⟩) (by assumption) ?_
          rotate_left
          · (intro w hSw; (try dsimp only at hSw); go_simp)
            try with_reducible rfl
          (try simp only [Act.put, List.getElem_toArray, List.getElem_cons_zero, List.getElem_cons_succ, List.setIfInBounds_toArray, List.set_cons_zero, List.set_cons_succ])
          refine wpAnyH_ready (rs := [17]) (by kernel_rfl) (by simp) ?_
          refine AllReadyH.cons (o := _) rfl (fun K hK => ?_) AllReadyH.nil
          go_simp
          have hB0 := hHeld2.1
          refine (G3.out _ (HT5.out.next hB0)).mono ?_
          rintro e w' ⟨rfl, hb⟩
          refine hK.out _ _ ?_ (fun hHeld3 => ?_)
          · obtain ⟨_, d0, d1, d2, d3, d4, d5, d6, d7, d8⟩ := hHeld2
            exact ⟨hB0.trans (hb.mono hB0.size), (hb.cell (p := ⟨w1.heap.size, 0, none⟩) (Nat.lt_of_lt_of_le l1 hB0.size)).trans d0, (hb.cell (p := ⟨w1.heap.size, 1, none⟩) (Nat.lt_of_lt_of_le l1 hB0.size)).trans d1, (hb.cell (p := ⟨w1.heap.size, 2, none⟩) (Nat.lt_of_lt_of_le l1 hB0.size)).trans d2, (hb.cell (p := ⟨w1.heap.size + 1, 0, none⟩) (Nat.lt_of_lt_of_le l2 hB0.size)).trans d3, (hb.cell (p := ⟨w1.heap.size + 1, 1, none⟩) (Nat.lt_of_lt_of_le l2 hB0.size)).trans d4, (hb.cell (p := ⟨w1.heap.size + 1, 2, none⟩) (Nat.lt_of_lt_of_le l2 hB0.size)).trans d5, (hb.cell (p := ⟨w2.heap.size, 0, none⟩) (Nat.lt_of_lt_of_le l3 hB0.size)).trans d6, (hb.cell (p := ⟨w2.heap.size, 1, none⟩) (Nat.lt_of_lt_of_le l3 hB0.size)).trans d7, (hb.cell (p := ⟨w2.heap.size, 2, none⟩) (Nat.lt_of_lt_of_le l3 hB0.size)).trans d8⟩
          clear hK K hb hB0 hHeld2
          (try simp only [Act.put, List.getElem_toArray, List.getElem_cons_zero, List.getElem_cons_succ, List.setIfInBounds_toArray, List.set_cons_zero, List.set_cons_succ])
          refine wpAnyH_take (i := 19) (oi := _) (v := ?_) rfl (by kernel_rfl) (by kernel_rfl) (by kernel_rfl) (fun _ _ _ h => h) (Or.inl ⟨by kernel_rfl, ?_⟩) (by assumption) ?_
          rotate_left
          · (intro w hSw; (try dsimp only at hSw); go_simp)
            try with_reducible rfl
          (try simp only [Act.put, List.getElem_toArray, List.getElem_cons_zero, List.getElem_cons_succ, List.setIfInBounds_toArray, List.set_cons_zero, List.set_cons_succ])
          refine wpAnyH_take (i := 20) (oi := _) (v := ?_) rfl (by kernel_rfl) (by kernel_rfl) (by kernel_rfl) (fun _ _ _ h => h) (Or.inl ⟨by kernel_rfl, ?_⟩) (by assumption) ?_
          rotate_left
          · (intro w hSw; (try dsimp only at hSw); go_simp)
            try with_reducible rfl
          (try simp only [Act.put, List.getElem_toArray, List.getElem_cons_zero, List.getElem_cons_succ, List.setIfInBounds_toArray, List.set_cons_zero, List.set_cons_succ])
          refine wpAnyH_take (i := 21) (oi := _) (v := ?_) rfl (by kernel_rfl) (by kernel_rfl) (by kernel_rfl) (fun _ _ _ h => h) (Or.inl ⟨by kernel_rfl, ?_⟩) (by assumption) ?_
          rotate_left
          · (intro w hSw; (try dsimp only at hSw); go_simp)
            try with_reducible rfl
          (try simp only [Act.put, List.getElem_toArray, List.getElem_cons_zero, List.getElem_cons_succ, List.setIfInBounds_toArray, List.set_cons_zero, List.set_cons_succ])
          refine wpAnyH_take (i := 22) (oi := _) (v := ?_) rfl (by kernel_rfl) (by kernel_rfl) (by kernel_rfl) (fun _ _ _ h => h) (Or.inl ⟨by kernel_rfl, ?_⟩) (by assumption) ?_
          rotate_left
          · (intro w hSw; (try dsimp only at hSw); go_simp)
            try with_reducible rfl
          (try simp only [Act.put, List.getElem_toArray, List.getElem_cons_zero, List.getElem_cons_succ, List.setIfInBounds_toArray, List.set_cons_zero, List.set_cons_succ])
          refine wpAnyH_done (by kernel_rfl) ?_ _
          obtain ⟨hK3, _⟩ := hHeld3
          go_wp2_with fail
          go_ret
          exact ⟨by first | kernel_rfl | simp, HG1.out.trans ((HG5.out.trans (hK3.mono (by omega))).mono HSZ.out)⟩
      · rw [hv1] at h1
        rw [hv2] at h2
        generalize doV op k1 n1 s1 k2 n2 s2 = x at g1 g2 h3
        have h4 := valid_impl x.k x.n x.s
        rw [h3] at h4
        have G1 := Lib.hid g1
        have G2 := Lib.hid g2
        have H1 := Lib.hid h1
        have H2 := Lib.hid h2
        have H3 := Lib.hid h4
        clear g1 g2 h1 h2 h3 h4 hv1 hv2
        have e0 : (op != 0) = true := by simp; omega
        have e2 : (op != 2) = true := by simp; omega
        have e4 : (op != 4) = true := by simp; omega
        clear hop
        go_wp2_with (first
          | (go_at_call 13; refine (G2.out _ ?_).mono ?_; (exact HT1.out.next (by go_grown; all_goals first | omega | (simp; omega))); rintro e w2 ⟨rfl, hb⟩; have hz2 := hb.size; (try simp at hz2); have hG := Below.trans (B := w1.heap.size) (a := w1) (by go_grown; all_goals first | omega | (simp; omega)) (hb.mono (by first | omega | (simp; done) | (simp; omega))); obtain ⟨hc2, hf2⟩ := bcell hb; (try simp at hc2); (try simp at hf2); clear hb; have z0 : w1.heap.size < w2.heap.size := (by omega); have z1 : w1.heap.size + 1 < w2.heap.size := (by omega); have y0 : w1.heap.size ≤ w2.heap.size := (by omega); have y1 : w1.heap.size + 1 ≤ w2.heap.size := (by omega))
          | (go_at_call 20; refine (G1.out _).mono ?_; rintro e w3 ⟨rfl, hb⟩; have hz3 := hb.size; (try simp at hz3); have hG := Below.trans (B := w1.heap.size) (a := w1) (by go_grown; all_goals first | omega | (simp; omega)) (hb.mono (by first | omega | (simp; done) | (simp; omega))); obtain ⟨hc3, hf3⟩ := bcell hb; (try simp at hc3); (try simp at hf3); clear hb; have z0 : w1.heap.size < w3.heap.size := (by omega); have z1 : w1.heap.size + 1 < w3.heap.size := (by omega); have y0 : w1.heap.size ≤ w3.heap.size := (by omega); have y1 : w1.heap.size + 1 ≤ w3.heap.size := (by omega); (try have : w2.heap.size < w3.heap.size := (by omega)); (try have : w2.heap.size ≤ w3.heap.size := (by omega)))
          | (go_at_call_of 10 (Value.agg #[.int .i64 k1, .int .i64 n1, .string s1]); refine (H1.out _).mono ?_; rintro e w4 ⟨rfl, hb⟩; have hz4 := hb.size; (try simp at hz4); have hG := Below.trans (B := w1.heap.size) (a := w1) (by go_grown; all_goals first | omega | (simp; omega)) (hb.mono (by first | omega | (simp; done) | (simp; omega))); obtain ⟨hc4, hf4⟩ := bcell hb; (try simp at hc4); (try simp at hf4); clear hb; have z0 : w1.heap.size < w4.heap.size := (by omega); have z1 : w1.heap.size + 1 < w4.heap.size := (by omega); have y0 : w1.heap.size ≤ w4.heap.size := (by omega); have y1 : w1.heap.size + 1 ≤ w4.heap.size := (by omega); (try have : w2.heap.size < w4.heap.size := (by omega)); (try have : w2.heap.size ≤ w4.heap.size := (by omega)); (try have : w3.heap.size < w4.heap.size := (by omega)); (try have : w3.heap.size ≤ w4.heap.size := (by omega)))
          | (go_at_call_of 10 (Value.agg #[.int .i64 k2, .int .i64 n2, .string s2]); refine (H2.out _).mono ?_; rintro e w5 ⟨rfl, hb⟩; have hz5 := hb.size; (try simp at hz5); have hG := Below.trans (B := w1.heap.size) (a := w1) (by go_grown; all_goals first | omega | (simp; omega)) (hb.mono (by first | omega | (simp; done) | (simp; omega))); obtain ⟨hc5, hf5⟩ := bcell hb; (try simp at hc5); (try simp at hf5); clear hb; have z0 : w1.heap.size < w5.heap.size := (by omega); have z1 : w1.heap.size + 1 < w5.heap.size := (by omega); have y0 : w1.heap.size ≤ w5.heap.size := (by omega); have y1 : w1.heap.size + 1 ≤ w5.heap.size := (by omega); (try have : w2.heap.size < w5.heap.size := (by omega)); (try have : w2.heap.size ≤ w5.heap.size := (by omega)); (try have : w3.heap.size < w5.heap.size := (by omega)); (try have : w3.heap.size ≤ w5.heap.size := (by omega)); (try have : w4.heap.size < w5.heap.size := (by omega)); (try have : w4.heap.size ≤ w5.heap.size := (by omega))))
        have ca0 : w5.cell? ⟨w1.heap.size, 0, none⟩ = some (.int .i64 k1) := by go_simp
        have ca1 : w5.cell? ⟨w1.heap.size, 1, none⟩ = some (.int .i64 n1) := by go_simp
        have ca2 : w5.cell? ⟨w1.heap.size, 2, none⟩ = some (.string s1) := by go_simp
        have cb0 : w5.cell? ⟨w1.heap.size + 1, 0, none⟩ = some (.int .i64 k2) := by go_simp
        have cb1 : w5.cell? ⟨w1.heap.size + 1, 1, none⟩ = some (.int .i64 n2) := by go_simp
        have cb2 : w5.cell? ⟨w1.heap.size + 1, 2, none⟩ = some (.string s2) := by go_simp
        have cx0 : w5.cell? ⟨w2.heap.size, 0, none⟩ = some (.int .i64 x.k) := by go_simp
        have cx1 : w5.cell? ⟨w2.heap.size, 1, none⟩ = some (.int .i64 x.n) := by go_simp
        have cx2 : w5.cell? ⟨w2.heap.size, 2, none⟩ = some (.string x.s) := by go_simp
        have HT5 := Lib.hid (HT1.out.next hG)
        have HG5 := Lib.hid hG
        have hK := Below.refl w5.heap.size w5
        clear hc2 hf2 hc3 hf3 hc4 hf4 hc5 hf5 hz2 hz3 hz4 hz5 hG
        have hKd : Below w5.heap.size w5 w5.drew := by go_grown
        have l1 : w1.heap.size < w5.heap.size := by omega
        have l2 : w1.heap.size + 1 < w5.heap.size := by omega
        have l3 : w2.heap.size < w5.heap.size := by omega
        refine wp_region_held_drew (S := fun w' => Below w5.heap.size w5 w' ∧ w'.cell? ⟨w1.heap.size, 0, none⟩ = some (.int .i64 k1) ∧ w'.cell? ⟨w1.heap.size, 1, none⟩ = some (.int .i64 n1) ∧ w'.cell? ⟨w1.heap.size, 2, none⟩ = some (.string s1) ∧
            w'.cell? ⟨w1.heap.size + 1, 0, none⟩ = some (.int .i64 k2) ∧ w'.cell? ⟨w1.heap.size + 1, 1, none⟩ = some (.int .i64 n2) ∧ w'.cell? ⟨w1.heap.size + 1, 2, none⟩ = some (.string s2) ∧
            w'.cell? ⟨w2.heap.size, 0, none⟩ = some (.int .i64 x.k) ∧ w'.cell? ⟨w2.heap.size, 1, none⟩ = some (.int .i64 x.n) ∧ w'.cell? ⟨w2.heap.size, 2, none⟩ = some (.string x.s)) (by kernel_rfl) ?_ (fun hHeld => ?_)
        · exact ⟨hKd, ca0, ca1, ca2, cb0, cb1, cb2, cx0, cx1, cx2⟩
        refine wpAnyH_take (i := 0) (oi := _) (v := ?_) rfl (by kernel_rfl) (by kernel_rfl) (by kernel_rfl) (fun _ _ _ h => h) (Or.inl ⟨by kernel_rfl, ?_⟩) (by assumption) ?_
        rotate_left
        · (intro w hSw; (try dsimp only at hSw); go_simp)
          try with_reducible rfl
        (try simp only [Act.put, List.getElem_toArray, List.getElem_cons_zero, List.getElem_cons_succ, List.setIfInBounds_toArray, List.set_cons_zero, List.set_cons_succ])
        refine wpAnyH_ready (rs := [1]) (by kernel_rfl) (by simp) ?_
        refine AllReadyH.cons (o := _) rfl (fun K hK => ?_) AllReadyH.nil
        go_simp
        have hB0 := hHeld.1
        refine (H3.out _).mono ?_
        rintro e w' ⟨rfl, hb⟩
        refine hK.out _ _ ?_ (fun hHeld2 => ?_)
        · obtain ⟨_, d0, d1, d2, d3, d4, d5, d6, d7, d8⟩ := hHeld
          exact ⟨hB0.trans (hb.mono hB0.size), (hb.cell (p := ⟨w1.heap.size, 0, none⟩) (Nat.lt_of_lt_of_le l1 hB0.size)).trans d0, (hb.cell (p := ⟨w1.heap.size, 1, none⟩) (Nat.lt_of_lt_of_le l1 hB0.size)).trans d1, (hb.cell (p := ⟨w1.heap.size, 2, none⟩) (Nat.lt_of_lt_of_le l1 hB0.size)).trans d2, (hb.cell (p := ⟨w1.heap.size + 1, 0, none⟩) (Nat.lt_of_lt_of_le l2 hB0.size)).trans d3, (hb.cell (p := ⟨w1.heap.size + 1, 1, none⟩) (Nat.lt_of_lt_of_le l2 hB0.size)).trans d4, (hb.cell (p := ⟨w1.heap.size + 1, 2, none⟩) (Nat.lt_of_lt_of_le l2 hB0.size)).trans d5, (hb.cell (p := ⟨w2.heap.size, 0, none⟩) (Nat.lt_of_lt_of_le l3 hB0.size)).trans d6, (hb.cell (p := ⟨w2.heap.size, 1, none⟩) (Nat.lt_of_lt_of_le l3 hB0.size)).trans d7, (hb.cell (p := ⟨w2.heap.size, 2, none⟩) (Nat.lt_of_lt_of_le l3 hB0.size)).trans d8⟩
        clear hK K hb hB0 hHeld
        (try simp only [Act.put, List.getElem_toArray, List.getElem_cons_zero, List.getElem_cons_succ, List.setIfInBounds_toArray, List.set_cons_zero, List.set_cons_succ])
        refine wpAnyH_take (i := 2) (oi := _) (v := ?_) rfl (by kernel_rfl) (by kernel_rfl) (by kernel_rfl) (fun _ _ _ h => h) (Or.inl ⟨by kernel_rfl, ?_⟩) (by assumption) ?_
        rotate_left
        · (intro w hSw; (try dsimp only at hSw); go_simp)
          try with_reducible rfl
        (try simp only [Act.put, List.getElem_toArray, List.getElem_cons_zero, List.getElem_cons_succ, List.setIfInBounds_toArray, List.set_cons_zero, List.set_cons_succ])
        refine wpAnyH_take (i := 3) (oi := _) (v := ?_) rfl (by kernel_rfl) (by kernel_rfl) (by kernel_rfl) (fun _ _ _ h => h) (Or.inl ⟨by kernel_rfl, ?_⟩) (by assumption) ?_
        rotate_left
        · (intro w hSw; (try dsimp only at hSw); go_simp)
          try with_reducible rfl
        (try simp only [Act.put, List.getElem_toArray, List.getElem_cons_zero, List.getElem_cons_succ, List.setIfInBounds_toArray, List.set_cons_zero, List.set_cons_succ])
        refine wpAnyH_take (i := 4) (oi := _) (v := ?_) rfl (by kernel_rfl) (by kernel_rfl) (by kernel_rfl) (fun _ _ _ h => h) (Or.inl ⟨by kernel_rfl, ?_⟩) (by assumption) ?_
        rotate_left
        · (intro w hSw; (try dsimp only at hSw); go_simp)
          try with_reducible rfl
        (try simp only [Act.put, List.getElem_toArray, List.getElem_cons_zero, List.getElem_cons_succ, List.setIfInBounds_toArray, List.set_cons_zero, List.set_cons_succ])
        refine wpAnyH_take (i := 5) (oi := _) (v := ?_) rfl (by kernel_rfl) (by kernel_rfl) (by kernel_rfl) (fun _ _ _ h => h) (Or.inl ⟨by kernel_rfl, ?_⟩) (by assumption) ?_
        rotate_left
        · (intro w hSw; (try dsimp only at hSw); go_simp)
          try with_reducible rfl
        (try simp only [Act.put, List.getElem_toArray, List.getElem_cons_zero, List.getElem_cons_succ, List.setIfInBounds_toArray, List.set_cons_zero, List.set_cons_succ])
        refine wpAnyH_take (i := 6) (oi := _) (v := ?_) rfl (by kernel_rfl) (by kernel_rfl) (by kernel_rfl) (fun _ _ _ h => h) (Or.inl ⟨by kernel_rfl, ?_⟩) (by assumption) ?_
        rotate_left
        · (intro w hSw; (try dsimp only at hSw); go_simp)
          try with_reducible rfl
        (try simp only [Act.put, List.getElem_toArray, List.getElem_cons_zero, List.getElem_cons_succ, List.setIfInBounds_toArray, List.set_cons_zero, List.set_cons_succ])
        refine wpAnyH_take (i := 7) (oi := _) (v := ?_) rfl (by kernel_rfl) (by kernel_rfl) (by kernel_rfl) (fun _ _ _ h => h) (Or.inl ⟨by kernel_rfl, ?_⟩) (by assumption) ?_
        rotate_left
        · (intro w hSw; (try dsimp only at hSw); go_simp)
          try with_reducible rfl
        (try simp only [Act.put, List.getElem_toArray, List.getElem_cons_zero, List.getElem_cons_succ, List.setIfInBounds_toArray, List.set_cons_zero, List.set_cons_succ])
        refine wpAnyH_take (i := 8) (oi := _) (v := ?_) rfl (by kernel_rfl) (by kernel_rfl) (by kernel_rfl) (fun _ _ _ h => h) (Or.inl ⟨by kernel_rfl, ?_⟩) (by assumption) ?_
        rotate_left
        · (intro w hSw; (try dsimp only at hSw); go_simp)
          try with_reducible rfl
        (try simp only [Act.put, List.getElem_toArray, List.getElem_cons_zero, List.getElem_cons_succ, List.setIfInBounds_toArray, List.set_cons_zero, List.set_cons_succ])
        refine wpAnyH_take (i := 9) (oi := _) (v := ?_) rfl (by kernel_rfl) (by kernel_rfl) (by kernel_rfl) (fun _ _ _ h => h) (Or.inl ⟨by kernel_rfl, ?_⟩) (by assumption) ?_
        rotate_left
        · (intro w hSw; (try dsimp only at hSw); go_simp)
          try with_reducible rfl
        (try simp only [Act.put, List.getElem_toArray, List.getElem_cons_zero, List.getElem_cons_succ, List.setIfInBounds_toArray, List.set_cons_zero, List.set_cons_succ])
        refine wpAnyH_take (i := 10) (oi := _) (v := ?_) rfl (by kernel_rfl) (by kernel_rfl) (by kernel_rfl) (fun _ _ _ h => h) (Or.inl ⟨by kernel_rfl, ?_⟩) (by assumption) ?_
        rotate_left
        · (intro w hSw; (try dsimp only at hSw); go_simp)
          try with_reducible rfl
        (try simp only [Act.put, List.getElem_toArray, List.getElem_cons_zero, List.getElem_cons_succ, List.setIfInBounds_toArray, List.set_cons_zero, List.set_cons_succ])
        refine wpAnyH_take (i := 11) (oi := _) (v := ?_) rfl (by kernel_rfl) (by kernel_rfl) (by kernel_rfl) (fun _ _ _ h => h) (Or.inl ⟨by kernel_rfl, ?_⟩) (by assumption) ?_
        rotate_left
        · (intro w hSw; (try dsimp only at hSw); go_simp)
          try with_reducible rfl
        (try simp only [Act.put, List.getElem_toArray, List.getElem_cons_zero, List.getElem_cons_succ, List.setIfInBounds_toArray, List.set_cons_zero, List.set_cons_succ])
        refine wpAnyH_take (i := 12) (oi := _) (v := ?_) rfl (by kernel_rfl) (by kernel_rfl) (by kernel_rfl) (fun _ _ _ h => h) (Or.inl ⟨by kernel_rfl, ?_⟩) (by assumption) ?_
        rotate_left
        · (intro w hSw; (try dsimp only at hSw); go_simp)
          try with_reducible rfl
        (try simp only [Act.put, List.getElem_toArray, List.getElem_cons_zero, List.getElem_cons_succ, List.setIfInBounds_toArray, List.set_cons_zero, List.set_cons_succ])
        refine wpAnyH_take (i := 13) (oi := _) (v := ?_) rfl (by kernel_rfl) (by kernel_rfl) (by kernel_rfl) (fun _ _ _ h => h) (Or.inl ⟨by kernel_rfl, ?_⟩) (by assumption) ?_
        rotate_left
        · (intro w hSw; (try dsimp only at hSw); go_simp)
          try with_reducible rfl
        (try simp only [Act.put, List.getElem_toArray, List.getElem_cons_zero, List.getElem_cons_succ, List.setIfInBounds_toArray, List.set_cons_zero, List.set_cons_succ])
        refine wpAnyH_take (i := 14) (oi := _) (v := undef) rfl (by kernel_rfl) (by kernel_rfl) (by kernel_rfl) (fun _ _ _ h => h) (Or.inr ⟨by kernel_rfl, rfl⟩) (by assumption) ?_
        (try simp only [Act.put, List.getElem_toArray, List.getElem_cons_zero, List.getElem_cons_succ, List.setIfInBounds_toArray, List.set_cons_zero, List.set_cons_succ])
        refine wpAnyH_take (i := 15) (oi := _) (v := undef) rfl (by kernel_rfl) (by kernel_rfl) (by kernel_rfl) (fun _ _ _ h => h) (Or.inr ⟨by kernel_rfl, rfl⟩) (by assumption) ?_
        (try simp only [Act.put, List.getElem_toArray, List.getElem_cons_zero, List.getElem_cons_succ, List.setIfInBounds_toArray, List.set_cons_zero, List.set_cons_succ])
        refine wpAnyH_take (i := 16) (oi := _) (v := undef) rfl (by kernel_rfl) (by kernel_rfl) (by kernel_rfl) (fun _ _ _ h => h) (Or.inr ⟨by kernel_rfl, rfl⟩) (by assumption) ?_
        (try simp only [Act.put, List.getElem_toArray, List.getElem_cons_zero, List.getElem_cons_succ, List.setIfInBounds_toArray, List.set_cons_zero, List.set_cons_succ])
        refine wpAnyH_take (i := 17) (oi := _) (v := undef) rfl (by kernel_rfl) (by kernel_rfl) (by kernel_rfl) (fun _ _ _ h => h) (Or.inr ⟨by kernel_rfl, rfl⟩) (by assumption) ?_
        (try simp only [Act.put, List.getElem_toArray, List.getElem_cons_zero, List.getElem_cons_succ, List.setIfInBounds_toArray, List.set_cons_zero, List.set_cons_succ])
        refine wpAnyH_take (i := 18) (oi := _) (v := undef) rfl (by kernel_rfl) (by kernel_rfl) (by kernel_rfl) (fun _ _ _ h => h) (Or.inr ⟨by kernel_rfl, rfl⟩) (by assumption) ?_
        (try simp only [Act.put, List.getElem_toArray, List.getElem_cons_zero, List.getElem_cons_succ, List.setIfInBounds_toArray, List.set_cons_zero, List.set_cons_succ])
        refine wpAnyH_take (i := 19) (oi := _) (v := undef) rfl (by kernel_rfl) (by kernel_rfl) (by kernel_rfl) (fun _ _ _ h => h) (Or.inr ⟨by kernel_rfl, rfl⟩) (by assumption) ?_
        (try simp only [Act.put, List.getElem_toArray, List.getElem_cons_zero, List.getElem_cons_succ, List.setIfInBounds_toArray, List.set_cons_zero, List.set_cons_succ])
        refine wpAnyH_take (i := 20) (oi := _) (v := ?_) rfl (by kernel_rfl) (by kernel_rfl) (by kernel_rfl) (fun _ _ _ h => h) (Or.inl ⟨by kernel_rfl, ?_⟩) (by assumption) ?_
        rotate_left
        · (intro w hSw; (try dsimp only at hSw); go_simp)
          try with_reducible rfl
        (try simp only [Act.put, List.getElem_toArray, List.getElem_cons_zero, List.getElem_cons_succ, List.setIfInBounds_toArray, List.set_cons_zero, List.set_cons_succ])
        refine wpAnyH_take (i := 21) (oi := _) (v := ?_) rfl (by kernel_rfl) (by kernel_rfl) (by kernel_rfl) (fun _ _ _ h => h) (Or.inl ⟨by kernel_rfl, ?_⟩) (by assumption) ?_
        rotate_left
        · (intro w hSw; (try dsimp only at hSw); go_simp)
          try with_reducible rfl
        (try simp only [Act.put, List.getElem_toArray, List.getElem_cons_zero, List.getElem_cons_succ, List.setIfInBounds_toArray, List.set_cons_zero, List.set_cons_succ])
        refine wpAnyH_take (i := 22) (oi := _) (v := ?_) rfl (by kernel_rfl) (by kernel_rfl) (by kernel_rfl) (fun _ _ _ h => h) (Or.inl ⟨by kernel_rfl, ?_⟩) (by assumption) ?_
        rotate_left
        · (intro w hSw; (try dsimp only at hSw); go_simp)
          try with_reducible rfl
        (try simp only [Act.put, List.getElem_toArray, List.getElem_cons_zero, List.getElem_cons_succ, List.setIfInBounds_toArray, List.set_cons_zero, List.set_cons_succ])
        refine wpAnyH_done (by kernel_rfl) ?_ _
        obtain ⟨hK3, _⟩ := hHeld2
        go_wp2_with fail
        go_ret
        exact ⟨by first | kernel_rfl | simp, HG1.out.trans ((HG5.out.trans (hK3.mono (by omega))).mono HSZ.out)⟩
    · generalize valDoV op k1 n1 s1 k2 n2 s2 = x at g1 g2
      rw [hv1] at h1
      rw [hv2] at h2
      have G1 := Lib.hid g1
      have G2 := Lib.hid g2
      have H1 := Lib.hid h1
      have H2 := Lib.hid h2
      clear g1 g2 h1 h2 hv1 hv2
      rcases (by omega : op < 0 ∨ 7 ≤ op) with p0 | p6
      all_goals
        clear ho
        go_wp2_with (first
          | (go_at_call 13; refine (G2.out _ ?_).mono ?_; (exact HT1.out.next (by go_grown; all_goals first | omega | (simp; omega))); rintro e w2 ⟨rfl, hb⟩; have hz2 := hb.size; (try simp at hz2); have hG := Below.trans (B := w1.heap.size) (a := w1) (by go_grown; all_goals first | omega | (simp; omega)) (hb.mono (by first | omega | (simp; done) | (simp; omega))); obtain ⟨hc2, hf2⟩ := bcell hb; (try simp at hc2); (try simp at hf2); clear hb; have z0 : w1.heap.size < w2.heap.size := (by omega); have z1 : w1.heap.size + 1 < w2.heap.size := (by omega); have y0 : w1.heap.size ≤ w2.heap.size := (by omega); have y1 : w1.heap.size + 1 ≤ w2.heap.size := (by omega))
          | (go_at_call 20; refine (G1.out _).mono ?_; rintro e w3 ⟨rfl, hb⟩; have hz3 := hb.size; (try simp at hz3); have hG := Below.trans (B := w1.heap.size) (a := w1) (by go_grown; all_goals first | omega | (simp; omega)) (hb.mono (by first | omega | (simp; done) | (simp; omega))); obtain ⟨hc3, hf3⟩ := bcell hb; (try simp at hc3); (try simp at hf3); clear hb; have z0 : w1.heap.size < w3.heap.size := (by omega); have z1 : w1.heap.size + 1 < w3.heap.size := (by omega); have y0 : w1.heap.size ≤ w3.heap.size := (by omega); have y1 : w1.heap.size + 1 ≤ w3.heap.size := (by omega); (try have : w2.heap.size < w3.heap.size := (by omega)); (try have : w2.heap.size ≤ w3.heap.size := (by omega)))
          | (go_at_call_of 10 (Value.agg #[.int .i64 k1, .int .i64 n1, .string s1]); refine (H1.out _).mono ?_; rintro e w4 ⟨rfl, hb⟩; have hz4 := hb.size; (try simp at hz4); have hG := Below.trans (B := w1.heap.size) (a := w1) (by go_grown; all_goals first | omega | (simp; omega)) (hb.mono (by first | omega | (simp; done) | (simp; omega))); obtain ⟨hc4, hf4⟩ := bcell hb; (try simp at hc4); (try simp at hf4); clear hb; have z0 : w1.heap.size < w4.heap.size := (by omega); have z1 : w1.heap.size + 1 < w4.heap.size := (by omega); have y0 : w1.heap.size ≤ w4.heap.size := (by omega); have y1 : w1.heap.size + 1 ≤ w4.heap.size := (by omega); (try have : w2.heap.size < w4.heap.size := (by omega)); (try have : w2.heap.size ≤ w4.heap.size := (by omega)); (try have : w3.heap.size < w4.heap.size := (by omega)); (try have : w3.heap.size ≤ w4.heap.size := (by omega)))
          | (go_at_call_of 10 (Value.agg #[.int .i64 k2, .int .i64 n2, .string s2]); refine (H2.out _).mono ?_; rintro e w5 ⟨rfl, hb⟩; have hz5 := hb.size; (try simp at hz5); have hG := Below.trans (B := w1.heap.size) (a := w1) (by go_grown; all_goals first | omega | (simp; omega)) (hb.mono (by first | omega | (simp; done) | (simp; omega))); obtain ⟨hc5, hf5⟩ := bcell hb; (try simp at hc5); (try simp at hf5); clear hb; have z0 : w1.heap.size < w5.heap.size := (by omega); have z1 : w1.heap.size + 1 < w5.heap.size := (by omega); have y0 : w1.heap.size ≤ w5.heap.size := (by omega); have y1 : w1.heap.size + 1 ≤ w5.heap.size := (by omega); (try have : w2.heap.size < w5.heap.size := (by omega)); (try have : w2.heap.size ≤ w5.heap.size := (by omega)); (try have : w3.heap.size < w5.heap.size := (by omega)); (try have : w3.heap.size ≤ w5.heap.size := (by omega)); (try have : w4.heap.size < w5.heap.size := (by omega)); (try have : w4.heap.size ≤ w5.heap.size := (by omega))))
        go_ret
        exact ⟨rfl, HG1.out.trans ((by go_grown; all_goals first | omega | (simp; omega) : Below w1.heap.size w1 _).mono HSZ.out)⟩

set_option maxRecDepth 100000 in
theorem tab {W : World} (h : laidMetH Tryd.prog Rows.fnValDoRow.laid W) : Tab W :=
  tab_of_laid Rows.fnValDoRow.laid (by kernel_rfl) (by kernel_rfl) h

set_option maxRecDepth 100000 in
theorem contract (H : Type) (enc : TypeId × Value → H) (W : World) (base : Nat) (args : Array Value) (ds gs : List (DataW H)) (before : List MemPlace)
    (hval : ∀ (j : Nat) t v, Tryd.f6.params[j]? = some t → args[j]? = some v → Value.okWide Tryd.prog W .any base t v)
    (hW : DataW.Whole enc Tryd.prog Tryd.f6.params.toList Rows.fnValDoSpec.vars false W args.toList ds gs before)
    (hL : laidMetH Tryd.prog Rows.fnValDoRow.laid W) :
    Calls Tryd.prog 6 args W fun e W' => ∃ v, e = .returned v ∧ Rows.fnValDoSpec.post enc Tryd.prog Tryd.f6 false true false false W args v W' := by
  have hW' := hW
  obtain ⟨p, q, hA0, hV, rfl, hfz, hnd⟩ := hW
  have hA : DataW.TrodAll enc Tryd.prog W 0 (fun _ => true) true Tryd.f6.params.toList args.toList ds p := hA0
  rw [Tryd.params6] at hA hval
  obtain ⟨v0, vs0, d0, ds0, p0, q0, hargs, rfl, rfl, h0, r0⟩ := trodAll_cons hA
  obtain ⟨rfl, rfl, rfl⟩ := trodAll_nil r0
  obtain rfl : args = #[v0] := by cases args; simp_all
  obtain ⟨rfl, rfl⟩ := trodVars_none hV
  obtain ⟨A0, l0, c0, rfl, hs0, hc0⟩ := open_bytes (hval 0 _ v0 rfl rfl) h0 (fun x hx => by simpa using hW'.lt x (by simp [hx]))
  exact (walk (hT := tab hL) A0 l0 c0 W hc0 hs0).mono fun e W' ⟨he, hB⟩ => ⟨_, he, law_post rfl rfl hW' laidOut (of_decide_eq_true (by kernel_rfl)) rfl Tryd.underlying4 hB⟩

/-- A world for the witness: the settled one, with the library's tables as their text lays them. -/
noncomputable def laidWorld (os : Os) : World :=
  { World.holding Tryd.prog os ⟨#[], #[], []⟩ with heap := ((((World.holding Tryd.prog os ⟨#[], #[], []⟩).heap).modify 1 (layCells (datCells Rows.laid_math_bits_deBruijn32tab))).modify 2 (layCells (datCells Rows.laid_math_bits_deBruijn64tab))).modify 0 (layCells (datCells Rows.laid_internal_strconv_uint64pow10)) }
set_option maxRecDepth 100000 in
theorem laid_met (os : Os) : laidMet Tryd.prog Rows.fnValDoRow.laid ((laidWorld os).forCall (fun _ _ => 0) ⟨#[], #[.slice none 0 0], []⟩).memory :=
  laidMet_of_run' 8 (by kernel_rfl) (by kernel_rfl)
set_option maxRecDepth 100000 in
theorem reads (os : Os) {H : Type} (enc : TypeId × Value → H) : ∃ places, DataW.whole enc Tryd.prog ((laidWorld os).forCall (fun _ _ => 0) ⟨#[], #[.slice none 0 0], []⟩).memory Tryd.f6.params.toList Rows.fnValDoSpec.vars false (#[.slice none 0 0] : Array Value).toList 8 = some ([.nil], [], places) :=
  ⟨[], by kernel_rfl⟩

set_option maxRecDepth 100000 in
theorem lifted (os : Os) (started : os.Started) (H : Type) (enc : TypeId × Value → H) (F : Stop.Interp) :
    ReturnsInHanded {} Tryd.checked os 6 .any ((OpenSpec.ofChange Rows.fnValDoSpec).preRow enc Tryd.prog Tryd.f6 Rows.fnValDoRow.domain false Rows.fnValDoRow.laid) (((OpenSpec.ofChange Rows.fnValDoSpec).at F).post enc Tryd.prog Tryd.f6 false true false false) := by
  obtain ⟨places, hx⟩ := reads os enc
  refine returnsInHanded_of_row (C := Tryd.checked) (s := OpenSpec.ofChange Rows.fnValDoSpec) own started (by kernel_rfl) Tryd.func6
    (witness_row_at (enc := enc) (C := Tryd.checked) false (laidWorld os) #[.slice none 0 0] rfl (by kernel_rfl) (by kernel_rfl) (by kernel_rfl)
      (OpenSpec.preRow_of_cond 8 hx (by kernel_rfl) (fun k hk => by cases hk) (by kernel_rfl) (laid_met os))) ?_
  intro W base args ds gs before hval hW _ _ _ hL _ _
  exact contract H enc W base args ds gs before hval hW hL

set_option maxRecDepth 100000 in
theorem said : Rows.FnValDoSaid :=
  OpenClaim.holds_of_cond 6 Tryd.f6 rfl rfl rfl rfl rfl rfl rfl ⟨rfl, rfl, rfl, rfl, rfl⟩ rfl rfl rfl rfl rfl (by kernel_rfl) Tryd.func6 (by kernel_rfl)
    (of_decide_eq_true (by kernel_rfl)) (by unfold Func.isWrapper; first | (rw [if_pos (by decide +kernel)]; kernel_rfl) | (rw [if_neg (by decide +kernel)]; exact ⟨rfl, rfl⟩))
    (fun os started H enc _ F => by rw [OpenClaim.pre_eq_preRow]; exact lifted os started H enc F)

set_option maxRecDepth 100000 in
/-- No parameter wants a stand-in; the program's own looks are off. -/
theorem plain (f : FuncId) (fn : Func) (hf : Tryd.pinned.checked.prog.funcNamed Rows.fnValDoRow.func = some f) (hfn : Tryd.pinned.checked.prog.funcs[f]? = some fn) :
    false = Tryd.pinned.checked.prog.looks [] ∧ ∀ (j : Nat) t, fn.params[j]? = some t → Tryd.pinned.checked.prog.wantsStandIn t = false := by
  obtain rfl : f = 6 := Option.some.inj ((show Tryd.prog.funcNamed Rows.fnValDoRow.func = some 6 by kernel_rfl).symm.trans hf) |>.symm
  obtain rfl : fn = Tryd.f6 := (Option.some.inj (Tryd.func6.symm.trans hfn)).symm
  refine ⟨by kernel_rfl, fun j t ht => ?_⟩
  have hall : Tryd.f6.params.toList.all (fun t => !Tryd.prog.wantsStandIn t) = true := by kernel_rfl
  rw [List.all_eq_true] at hall
  have hw : Tryd.prog.wantsStandIn t = false := by simpa using hall t (Array.mem_toList_iff.2 (Array.mem_of_getElem? ht))
  exact hw

set_option maxRecDepth 100000 in
theorem proved : Rows.FnValDoCardSaid :=
  Claim7.holds_tied_plain_at .later [] _ _ _ _ said (fun _ h => by cases h) (by kernel_rfl) (fun _ h => by cases h) fnValDo_row_tie rfl ⟨rfl, rfl⟩ (by kernel_rfl) rfl plain (by kernel_rfl)
end Go.Proofs.YtgejhjhjdepmmaaDoor.fnValDo
