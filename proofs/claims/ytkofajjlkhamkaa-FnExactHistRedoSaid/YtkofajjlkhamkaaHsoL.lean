/- What the laws on histories want: sizes, what the laws' copy answers. -/
import Derived.Test.YtkofajjlkhamkaaHsoE
import Derived.Test.YtkofajjlkhamkaaHst5
namespace Go.Proofs.Ytkofajjlkhamkaa
open Go.Joins Go.ChangeShapes Go.WideShapes Go.ChangeAt Go.RowKit Go.Deep
set_option linter.unusedVariables false
set_option linter.unusedSimpArgs false

theorem totC_small : ∀ {xs : List Ce}, SmallC xs → totC xs ≤ 5000 * xs.length
  | [], _ => by simp [totC]
  | x :: xs, h => by
    have h1 := totC_small (fun y hy => h y (List.mem_cons_of_mem _ hy) : SmallC xs)
    have h2 := h x List.mem_cons_self
    simp only [totC, wC, List.length_cons]
    omega

theorem CeN.of_own {w : World} {lo h n m : Nat} {G : Nat → Nat} {L : List Value} {xs : List Ce} (ho : w.ownsRow h 60 2 (.slice (some ⟨m, 0, none⟩) n n) n L) (hc : CesOwn w lo G L xs n) (hn : xs.length = n) (hs : ∀ x ∈ xs, x.pl.length ≤ 1048576 ∧ x.st.length ≤ 1048576) : CeN w (some ⟨m, 0, none⟩) xs := fun h0 => by
  refine ⟨m, 0, rfl, (ho.lt m rfl).2, fun i x hx => ?_⟩
  have hi : i < n := by rw [← hn]; exact (List.getElem?_eq_some_iff.1 hx).1
  obtain ⟨a0, a1, a2⟩ := hc.at_ i x hi hx
  have hsz := hs x (List.mem_of_getElem? hx)
  refine ⟨_, 0, x.pl.length, _, 0, x.st.length, ⟨?_, ?_, Lie.of_own (c := Sl.cells) (fun _ => rfl) a2.pl, Lie.of_own (c := Va.cells) (fun _ => rfl) a2.st, Nat.le_refl _, Nat.le_refl _, by unfold maxLen; omega, by unfold maxLen; omega⟩⟩
  · rw [Nat.zero_add, ho.cellAt (i * 2) (by omega)]; exact a0
  · rw [Nat.zero_add, ho.cellAt (i * 2 + 1) (by omega)]; exact a1

theorem totSs_small : ∀ {xss : List (List Ce)}, (∀ y ∈ xss, SmC y) → totSs xss ≤ 1000000 * xss.length
  | [], _ => by simp [totSs]
  | x :: xs, h => by
    have h1 := h x (by simp)
    have h2 := totC_small h1.2
    have h3 := h1.1
    have h4 := totSs_small (fun y hy => h y (List.mem_cons_of_mem _ hy))
    simp only [totSs, List.length_cons]
    omega
theorem SmCH.tot {x : Hi} (h : SmCH x) : totH x ≤ 20000000 := by
  obtain ⟨h1, ⟨h2, h3⟩, h4, h5⟩ := h
  have a := totC_small h1.2
  have b := h1.1
  have c := totSs_small h3
  have d := totSs_small h5
  unfold totH
  omega
theorem SmC.s2 {xs : List Ce} (h : SmC xs) : Sm2 xs := ⟨by have := h.1; omega, fun x hx => by have := h.2 x hx; omega⟩
theorem SmCH.h {x : Hi} (h : SmCH x) : SmH x := ⟨h.1.s2, ⟨by have := h.2.1.1; omega, fun y hy => (h.2.1.2 y hy).s2⟩, ⟨by have := h.2.2.1; omega, fun y hy => (h.2.2.2 y hy).s2⟩⟩
theorem SmCH.zero : SmCH zeroH := ⟨SmC.nil, ⟨by simp [zeroH], fun y hy => by cases hy⟩, ⟨by simp [zeroH], fun y hy => by cases hy⟩⟩
theorem undo_small (x : Hi) : SmCH (undoV x).1 := by
  unfold undoV
  split
  · rename_i h
    rw [Bool.and_eq_true] at h
    exact SmCH.undo h.1 (by simpa using h.2)
  · exact SmCH.zero
theorem redo_small (x : Hi) : SmCH (redoV x).1 := by
  unfold redoV
  split
  · rename_i h
    rw [Bool.and_eq_true] at h
    exact (SmCH.undo (x := turnH x) (by rw [hist_turn]; exact h.1) (by simpa [turnH] using h.2)).turn
  · exact SmCH.zero
theorem totSs_le : ∀ xss : List (List Ce), (totSs xss : Int) ≤ 3 * szSts xss
  | [] => by simp [totSs, szSts]
  | x :: xs => by
    have h1 := totC_le x
    have h2 := totSs_le xs
    simp only [totSs, szSts]
    unfold szSt
    omega
theorem totH_le (x : Hi) : (totH x : Int) ≤ 3 * szHi x := by
  have h1 := totC_le x.now
  have h2 := totSs_le x.back
  have h3 := totSs_le x.ahead
  unfold totH szHi szSt
  omega
theorem small_of_sz {x : Hi} (h : szHi x ≤ 1048576) : SmH x := by
  have p0 := szSt_pos x.now
  have p1 := szSts_pos x.back
  have p2 := szSts_pos x.ahead
  have hsm : ∀ xs : List Ce, szSt xs ≤ 1048576 → Sm2 xs := fun xs h => by
    unfold szSt at h
    have hc := szCs_pos xs
    exact ⟨by omega, fun y hy => by have := szCs_mem hy h; omega⟩
  unfold szHi at h
  exact ⟨hsm x.now (by omega), ⟨by omega, fun y hy => hsm y (by have := szSts_mem hy; omega)⟩, ⟨by omega, fun y hy => hsm y (by have := szSts_mem hy; omega)⟩⟩
theorem StN.of_own {w : World} {lo g : Nat} {xss : List (List Ce)} (h : RowOwn w lo xss g) (hs : ∀ xs ∈ xss, Sm2 xs) : StN w (some ⟨g, 0, none⟩) xss := fun h0 => by
  obtain ⟨L, h1, h2⟩ := h
  refine ⟨g, 0, rfl, (h1.lt g rfl).2, fun i xs hx => ?_⟩
  have hi := (List.getElem?_eq_some_iff.1 hx).1
  obtain ⟨g2, e, G, M, h3, h4⟩ := h2 i xs hi hx
  refine ⟨_, _, ?_, CeN.of_own h3 h4 rfl (hs xs (List.mem_of_getElem? hx)).2, Nat.le_refl _⟩
  rw [Nat.zero_add, h1.cellAt i (by have := h1.1; omega)]
  exact e
theorem HistX.hin {x : Hi} {n m q : Nat} {w w' : World} {e : Ending} (h : HistX x n m q w e w') (hn : x.now.length = n) (hm : x.back.length = m) (hq : x.ahead.length = q) (hs : SmH x) :
    ∃ g0 g1 g2, e = .returned (.agg #[.slice (some ⟨g0, 0, none⟩) n n, .slice (some ⟨g1, 0, none⟩) m m, .slice (some ⟨g2, 0, none⟩) q q]) ∧ HiN w' x (some ⟨g0, 0, none⟩) n (some ⟨g1, 0, none⟩) m (some ⟨g2, 0, none⟩) q ∧ Below w.heap.size w w' := by
  obtain ⟨g0, g1, g2, he, ⟨G, L, h1, h2⟩, h3, h4, hb⟩ := h
  exact ⟨g0, g1, g2, he, ⟨CeN.of_own h1 h2 rfl hs.1.2, StN.of_own h3 hs.2.1.2, StN.of_own h4 hs.2.2.2, Nat.le_of_eq hn, Nat.le_of_eq hm, Nat.le_of_eq hq⟩, hb⟩
theorem markSs_mem : ∀ {xss : List (List Ce)} {k : Nat}, ∀ y ∈ markSs xss k, ∃ z ∈ xss, ∃ j, y = markCs z j
  | [], _, y, h => by cases h
  | x :: xs, k, y, h => by
    simp only [markSs] at h
    rcases List.mem_cons.1 h with rfl | h
    · exact ⟨x, by simp, k, rfl⟩
    · obtain ⟨z, hz, j, e⟩ := markSs_mem y h
      exact ⟨z, List.mem_cons_of_mem _ hz, j, e⟩
theorem markCs_s2 {xs : List Ce} {k : Nat} (h : Sm2 xs) : Sm2 (markCs xs k) := by
  refine ⟨by rw [markCs_len]; exact h.1, ?_⟩
  have key : ∀ (xs : List Ce) (k : Nat), (∀ x ∈ xs, x.pl.length ≤ 1048576 ∧ x.st.length ≤ 1048576) → ∀ x ∈ markCs xs k, x.pl.length ≤ 1048576 ∧ x.st.length ≤ 1048576 := by
    intro xs
    induction xs with
    | nil => intro k h x hx; cases hx
    | cons a l ih =>
      intro k h x hx
      simp only [markCs] at hx
      rcases List.mem_cons.1 hx with rfl | hx
      · have := h a (by simp)
        exact ⟨by show (markSl a.pl k).length ≤ _; rw [markSl_len]; exact this.1, by show (markVa a.st _).length ≤ _; rw [markVa_len]; exact this.2⟩
      · exact ih _ (fun y hy => h y (List.mem_cons_of_mem _ hy)) x hx
  exact key xs k h.2
theorem mark_small {x : Hi} {k : Nat} (h : SmH x) : SmH (markHi x k) := by
  obtain ⟨h1, ⟨h2, h3⟩, h4, h5⟩ := h
  refine ⟨markCs_s2 h1, ⟨by show (markSs x.back _).length ≤ _; rw [markSs_len]; exact h2, fun y hy => ?_⟩, ⟨by show (markSs x.ahead _).length ≤ _; rw [markSs_len]; exact h4, fun y hy => ?_⟩⟩
  · obtain ⟨z, hz, j, rfl⟩ := markSs_mem y hy
    exact markCs_s2 (h3 z hz)
  · obtain ⟨z, hz, j, rfl⟩ := markSs_mem y hy
    exact markCs_s2 (h5 z hz)
theorem HiN.lies {w : World} {x : Hi} {A0 A1 A2 : Option Addr} {c0 c1 c2 : Nat} (h : HiN w x A0 c0 A1 c1 A2 c2) (hs : SmH x) : CeL w A0 x.now ∧ StL w A1 x.back ∧ StL w A2 x.ahead :=
  ⟨h.1.cel, h.2.1.stl (fun y hy => by have := (hs.2.1.2 y hy).1; unfold maxLen; omega), h.2.2.1.stl (fun y hy => by have := (hs.2.2.2 y hy).1; unfold maxLen; omega)⟩
end Go.Proofs.Ytkofajjlkhamkaa
