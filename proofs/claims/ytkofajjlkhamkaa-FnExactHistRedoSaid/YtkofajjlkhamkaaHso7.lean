/- Histories: what the program does with them. -/
import Derived.Test.YtkofajjlkhamkaaHsoC
import Derived.ArgAppend
namespace Go.Proofs.Ytkofajjlkhamkaa
open Go.Joins Go.ChangeShapes Go.WideShapes Go.ChangeAt Go.RowKit Go.Deep
set_option linter.unusedVariables false
set_option linter.unusedSimpArgs false

set_option maxHeartbeats 1000000 in
theorem clip_any (A : Option Addr) (q c : Nat) (w : World) (hc : q ≤ c) (hl : q ≤ maxLen) :
    Calls Try.prog 61 #[.slice A q c] w fun e w' => e = .returned (.slice A q q) ∧ w = w' := by
  unfold maxLen at hl
  have h1 : (q : Int) ≤ (c : Int) := by omega
  go_enter Try.func61, Try.ntmps61
  go_wp2_with fail
  go_ret
  exact ⟨rfl, rfl⟩
theorem StL.of_row {W : World} {base gg q n c0 cR : Nat} {A0 : Option Addr} {L0 : List Value} {ys : List (List Ce)} {x : List Ce} (ho : W.ownsRow base 27 1 (.slice (some ⟨gg, 0, none⟩) (q + 1) cR) (q + 1) (L0 ++ [.slice A0 n c0])) (hq : ys.length = q) (hn : x.length = n) (hl : L0.length = q * 1)
    (hLk : ∀ i y, ys[i]? = some y → ∃ A c, L0[i * 1]? = some (.slice A y.length c) ∧ CeL W A y ∧ y.length ≤ maxLen ∧ y.length ≤ c) (hx : CeL W A0 x) (hn0 : n ≤ c0) (hnl : n ≤ maxLen) : StL W (some ⟨gg, 0, none⟩) (ys ++ [x]) := fun h0 => by
  refine ⟨gg, 0, rfl, (ho.lt gg rfl).2, fun i xs hxs => ?_⟩
  rw [List.getElem?_append] at hxs
  split at hxs
  · rename_i hi
    obtain ⟨B, d, h1, h2, h3, h4⟩ := hLk i xs hxs
    rw [Nat.mul_one] at h1
    refine ⟨B, d, ?_, h2, h3, h4⟩
    rw [Nat.zero_add, ho.cellAt i (by omega), List.getElem?_append_left (by rw [hl]; omega)]
    exact h1
  · rename_i hi
    have hi2 : i - ys.length = 0 := by
      have := (List.getElem?_eq_some_iff.1 hxs).1
      simp at this
      omega
    rw [hi2] at hxs
    simp at hxs
    subst hxs
    refine ⟨A0, c0, ?_, hx, by omega, by omega⟩
    rw [Nat.zero_add, ho.cellAt i (by omega), List.getElem?_append_right (by rw [hl]; omega), hl, show i - q * 1 = 0 by omega, hn]
    rfl
set_option maxRecDepth 100000 in
set_option maxHeartbeats 2000000 in
theorem with_any (A2 A0 : Option Addr) (q c2 n c0 : Nat) (L0 : List Value) (w : World) (hL0 : L0.length = q * 1) (hL1 : ∀ u ∈ L0, u.oneCell' = true) (hLc : 0 < q → ∃ ad, A2 = some ad ∧ ∀ w', Below w.heap.size w w' → ∀ j u, L0[j]? = some u → w'.cell? (ad.add j) = some u) (hcq : q ≤ c2) (hl : q ≤ 1000000) :
    Calls Try.prog 40 #[.slice A2 q c2, .slice A0 n c0] w fun e w' => ∃ gg cR, e = .returned (.slice (some ⟨gg, 0, none⟩) (q + 1) cR) ∧ w'.ownsRow w.heap.size 27 1 (.slice (some ⟨gg, 0, none⟩) (q + 1) cR) (q + 1) (L0 ++ [.slice A0 n c0]) ∧ Below w.heap.size w w' := by
  obtain ⟨i0, hi, hz0, hz1, hz2⟩ := info_parts infoSt
  have hb0 := Below.alloc (Below.refl w.heap.size w) (Nat.le_refl _) (.cells #[.slice A0 n c0] 27)
  have hnone : A2 = none → q = 0 ∧ q = 0 := fun e => by
    rcases Nat.eq_zero_or_pos q with h | h
    · exact ⟨h, h⟩
    · obtain ⟨ad, e2, _⟩ := hLc h
      rw [e] at e2; cases e2
  have hold : ∀ b, A2 = some b → ∀ j u, L0[j]? = some u → (w.alloc (.cells #[.slice A0 n c0] 27)).cell? (b.add j) = some u := fun b e j u hu => by
    rcases Nat.eq_zero_or_pos q with h | h
    · rw [List.eq_nil_of_length_eq_zero (l := L0) (by rw [hL0, h])] at hu
      simp at hu
    · obtain ⟨ad, e2, hh⟩ := hLc h
      rw [e] at e2
      injection e2 with e2
      subst e2
      exact hh _ hb0 j u hu
  have HNW := Lib.hid (cell_one_new w (.slice A0 n c0) 27)
  have HOLD := Lib.hid hold
  have HNONE := Lib.hid hnone
  have HL0 := Lib.hid hL0
  have HL1 := Lib.hid hL1
  have HI := Lib.hid (And.intro hi (And.intro hz0 (And.intro hz1 hz2)))
  have HB := Lib.hid hb0
  have HBM := Lib.hid (show q + 1 ≤ maxLen by unfold maxLen; omega)
  have KC := Lib.hid (clip_any A2 q c2 w hcq (by unfold maxLen; omega))
  clear hb0 hnone hold hL0 hL1 hLc hi hz0 hz1 hz2
  go_enter Try.func40, Try.ntmps40
  go_wp2_with fail
  refine KC.out.mono ?_
  rintro e w1 ⟨rfl, rfl⟩
  go_wp2_with (at_builtin; refine wpList_append_grows _ rfl (.tmp 6) (.tmp 8) _ rfl 27 i0 _ 1 24 Try.underlying28 HI.out.1 HI.out.2.1 HI.out.2.2.1 HI.out.2.2.2 rfl (by omega) A2 q q L0 rfl HNONE.out HL0.out HOLD.out ⟨w.heap.size, 0, none⟩ 1 1 [.slice A0 n c0] rfl rfl HNW.out (by intro u hu; simp at hu; subst hu; rfl) (by omega) HBM.out (by omega) ?_; intro v' wx hown hg; obtain ⟨gg, cR, rfl, hg1, hg2⟩ := hown.form (by omega); have HOW := Lib.hid hown; have HGR := Lib.hid hg; clear hown hg)
  go_ret
  have hbx : Below w.heap.size w wx := HB.out.grown HGR.out (by simp) (fun k hk => by cases hk)
  exact ⟨gg, cR, rfl, World.ownsRow.mono HOW.out (by simp), hbx⟩
/-- A history lies in memory. -/
def HiL (w : World) (x : Hi) (A0 : Option Addr) (c0 : Nat) (A1 : Option Addr) (c1 : Nat) (A2 : Option Addr) (c2 : Nat) : Prop :=
  CeL w A0 x.now ∧ StL w A1 x.back ∧ StL w A2 x.ahead ∧ x.now.length ≤ c0 ∧ x.back.length ≤ c1 ∧ x.ahead.length ≤ c2
theorem HiL.below {w w' : World} {x : Hi} {A0 A1 A2 : Option Addr} {c0 c1 c2 : Nat} (h : HiL w x A0 c0 A1 c1 A2 c2) (hb : Below w.heap.size w w') : HiL w' x A0 c0 A1 c1 A2 c2 := ⟨h.1.below hb, h.2.1.below hb, h.2.2.1.below hb, h.2.2.2⟩
def turnH (x : Hi) : Hi := ⟨x.now, x.ahead, x.back⟩
def undoH (x : Hi) : Hi := ⟨x.back.getLastD [], x.back.dropLast, x.ahead ++ [x.now]⟩
/-- A history of the program's, somewhere in memory. -/
def HlX (y : Hi) (w : World) (e : Ending) (w' : World) : Prop :=
  ∃ A0 c0 A1 c1 A2 c2, e = .returned (.agg #[.slice A0 y.now.length c0, .slice A1 y.back.length c1, .slice A2 y.ahead.length c2]) ∧ HiL w' y A0 c0 A1 c1 A2 c2 ∧ Below w.heap.size w w'
set_option maxHeartbeats 2000000 in
theorem turned_any (A0 A1 A2 : Option Addr) (c0 c1 c2 : Nat) (x : Hi) (w : World) (h : HiL w x A0 c0 A1 c1 A2 c2) :
    Calls Try.prog 30 #[.agg #[.slice A0 x.now.length c0, .slice A1 x.back.length c1, .slice A2 x.ahead.length c2]] w (HlX (turnH x) w) := by
  have HT := Lib.hid (show ∀ w', Below w.heap.size w w' → HlX (turnH x) w (.returned (.agg #[.slice A0 x.now.length c0, .slice A2 x.ahead.length c2, .slice A1 x.back.length c1])) w' from fun w' hb => ⟨A0, c0, A2, c2, A1, c1, rfl, (show HiL w' (turnH x) A0 c0 A2 c2 A1 c1 from ⟨h.1.below hb, h.2.2.1.below hb, h.2.1.below hb, h.2.2.2.1, h.2.2.2.2.2, h.2.2.2.2.1⟩), hb⟩)
  obtain ⟨n, hn⟩ : ∃ n, x.now.length = n := ⟨_, rfl⟩
  obtain ⟨m, hm⟩ : ∃ n, x.back.length = n := ⟨_, rfl⟩
  obtain ⟨q, hq⟩ : ∃ n, x.ahead.length = n := ⟨_, rfl⟩
  rw [hn, hm, hq] at HT ⊢
  clear hn hm hq h
  go_enter Try.func30, Try.ntmps30
  go_wp2_with fail
  refine bodyPost_ret (v := .agg #[.slice A0 n c0, .slice A2 q c2, .slice A1 m c1]) (by simp [results, Try.results30, go_sem, *]) rfl (HT.out _ (by go_grown))
end Go.Proofs.Ytkofajjlkhamkaa
