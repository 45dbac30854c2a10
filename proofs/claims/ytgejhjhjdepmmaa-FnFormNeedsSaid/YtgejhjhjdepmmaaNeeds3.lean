/- What the law FnFormNeeds draws, and the comparison of rows of numbers. -/
import Derived.Test.YtgejhjhjdepmmaaNeeds2
import Derived.Test.YtgejhjhjdepmmaaDrawForm3
import Derived.Test.YtgejhjhjdepmmaaBytes
namespace Go.Proofs.Ytgejhjhjdepmmaa
open Go.Joins Go.ChangeShapes Go.WideShapes Go.ChangeAt Go.RowKit Go.Deep
set_option linter.unusedVariables false
set_option linter.unusedSimpArgs false

theorem needsL_mem {xs : List Stp} {kind z : Int} (h : z ∈ needsL xs kind) : needB xs kind z = true := by
  unfold needsL at h
  split at h
  · exact ((needL_mem _ _ _ _).1 h).2
  · simp at h
theorem needsL_lt (xs : List Stp) (kind : Int) : (needsL xs kind).Pairwise (· < ·) := by
  unfold needsL
  split
  · exact needL_lt _ _ _
  · exact List.Pairwise.nil
theorem needsL_len (xs : List Stp) (kind : Int) : (needsL xs kind).length ≤ 12 := by
  unfold needsL
  split
  · exact needL_len _ _ _
  · simp
/-- Numbers lie in memory. -/
def ZLies (w : World) (A : Option Addr) (zs : List Int) : Prop :=
  0 < zs.length → ∃ b, A = some ⟨b, 0, none⟩ ∧ b < w.heap.size ∧ ∀ (i : Nat) (z : Int), zs[i]? = some z → w.cell? ⟨b, i, none⟩ = some (.int .i64 z)
theorem ZLies.below {w w' : World} {A : Option Addr} {zs : List Int} (h : ZLies w A zs) (hb : Below w.heap.size w w') : ZLies w' A zs := fun h0 => by
  obtain ⟨b, rfl, hlt, hc⟩ := h h0
  exact ⟨b, rfl, Nat.lt_of_lt_of_le hlt hb.size, fun i z hz => (hb.cell (p := ⟨b, i, none⟩) hlt).trans (hc i z hz)⟩
theorem OwnZ.lies {w : World} {base : Nat} {v : Value} {zs : List Int} (h : OwnZ w base v zs) : ∃ A c, v = .slice A zs.length c ∧ ZLies w A zs := by
  rcases Nat.eq_zero_or_pos zs.length with h0 | h0
  · rcases h.2 with ⟨rfl, _⟩ | ⟨g, cap, cur, rfl, _⟩
    · exact ⟨none, 0, by rw [h0], fun hp => by omega⟩
    · exact ⟨_, _, rfl, fun hp => by omega⟩
  · obtain ⟨g, c, rfl, _, hlt⟩ := World.ownsRow.form h h0
    refine ⟨_, _, rfl, fun _ => ⟨g, rfl, hlt, fun i z hz => ?_⟩⟩
    have hi : i < zs.length := (List.getElem?_eq_some_iff.1 hz).1
    rw [World.ownsRow.cellAt h i (by omega)]
    unfold ints
    rw [List.getElem?_map, hz]
    rfl

set_option maxHeartbeats 1000000 in
theorem sameInts_any (A1 A2 : Option Addr) (c1 c2 : Nat) (zs : List Int) (w : World) (h1 : ZLies w A1 zs) (h2 : ZLies w A2 zs) (hl : zs.length ≤ 1000) :
    Calls Try.prog 14 #[.slice A1 zs.length c1, .slice A2 zs.length c2] w fun e w' => e = .returned (.bool true) ∧ Below w.heap.size w w' := by
  obtain ⟨n, hn⟩ : ∃ n, zs.length = n := ⟨_, rfl⟩
  rw [hn] at hl ⊢
  have HN := Lib.hid hn
  have H1 := Lib.hid h1
  have H2 := Lib.hid h2
  clear hn h1 h2
  go_enter Try.func14, Try.ntmps14
  go_wp2_with fail
  go_loopw [5] (fun i w2 => ∃ k : Nat, k ≤ n ∧ i = .int .i64 k ∧ Below w.heap.size w w2) (fun i _ => n - (intOf i).toNat)
  case atStart => exact ⟨0, by omega, rfl, Below.refl _ _⟩
  case round =>
    obtain ⟨k, hk, rfl, hB⟩ := hrel
    by_cases hlt : k < n
    · have hkx : k < zs.length := by rw [HN.out]; exact hlt
      obtain ⟨b1, rfl, l1, hc1⟩ := H1.out (by omega)
      obtain ⟨b2, rfl, l2, hc2⟩ := H2.out (by omega)
      obtain ⟨z, hz⟩ : ∃ z, zs[k]? = some z := ⟨_, List.getElem?_eq_getElem hkx⟩
      have a1 := (hB.cell (p := ⟨b1, k, none⟩) l1).trans (hc1 k z hz)
      have a2 := (hB.cell (p := ⟨b2, k, none⟩) l2).trans (hc2 k z hz)
      have i0 : (0 : Int) ≤ (k : Int) := by omega
      have i1 : (k : Int) < (n : Int) := by omega
      clear hc1 hc2 hz
      go_wp2_with fail
      go_quiet (fail)
      go_wp2_with fail
      go_roundw
      case rel => exact ⟨k + 1, by omega, by go_num, ⟨hB.os, hB.tape, hB.output, hB.size, hB.block⟩⟩
      case measure => simp [intOf]; omega
    · go_wp2_with fail
      go_ret
      exact ⟨rfl, hB⟩

/-- What the law draws. -/
def NeedArgs (w : World) (e : Ending) (w' : World) : Prop :=
  ∃ (A' : Option Addr) (c' : Nat) (xs : List Stp) (kind : Int), e = .returned (.tuple #[.slice A' xs.length c', .int .i64 kind]) ∧ Lies w' A' xs ∧ xs.length ≤ 10 ∧ formB opI xs 3 3 4 = formB opS xs 3 3 4 ∧ Below w.heap.size w w'
theorem small_k (w : World) (a b : Int) (a0 : 0 ≤ a) (a6 : a < 6) (b0 : 0 ≤ b) (b4 : b < 4) : Small (w.alloc (.cells #[.int .i64 a, .int .i64 (1 + b)] 3)) w.heap.size 2 0 6 := by
  intro i hi
  rcases (by omega : i = 0 ∨ i = 1) with rfl | rfl
  · exact ⟨a, by omega, by omega, cell_of_row _ _ _ _ _ _ (heap_alloc_new w _)⟩
  · exact ⟨1 + b, by omega, by omega, cell_of_row _ _ _ _ _ _ (heap_alloc_new w _)⟩

set_option maxHeartbeats 1000000 in
theorem DrawFormNeeds_any (A : Option Addr) (len cap : Nat) (w : World) (hc : Code w w.heap.size A len) (hl : len ≤ maxLen) :
    Calls Try.prog 11 #[.slice A len cap] w (NeedArgs w) := by
  have HS0 := Lib.hid (St.new (cap := cap) hc hl)
  have HK0 := Lib.hid ((Keep.refl w.heap.size w.heap.size w).alloc (Nat.le_refl _) (.cells #[.slice A len cap, .int .i64 0, .int .i64 4000] 71))
  clear hc hl
  go_enter Try.func11, Try.ntmps11
  go_wp2_with (go_at_call 25; refine (newSource_any _ _ _ _).mono ?_; rintro e w' ⟨rfl, rfl⟩)
  refine (form_any w.heap.size A len cap 3 3 4 ⟨by omega, by omega⟩ ⟨by omega, by omega⟩ ⟨by omega, by omega⟩ 9 9 (by omega) (by omega) _ HS0.out).mono ?_
  rintro e w4 ⟨bb, c, xs, rfl, ho, hg, hlen, hs, hk⟩
  have HO4 := Lib.hid (ho.mono (base' := w.heap.size + 1) (by simp))
  have HG := Lib.hid hg
  have HS4 := Lib.hid hs
  have HK4 := Lib.hid (HK0.out.trans (hk.mono HK0.out.size))
  have hz4 := hk.size
  simp at hz4
  clear ho hg hs hk
  go_wp2_with fail
  refine (pick_any w.heap.size A len cap 6 _ HS4.out (by omega)).mono ?_
  rintro e w5 ⟨a, rfl, a0, a1, hs, hk⟩
  have a2 : a < 6 := by omega
  have HO5 := Lib.hid (HO4.out.keep hk (by omega))
  have HS5 := Lib.hid hs
  have HK5 := Lib.hid (HK4.out.trans (hk.mono HK4.out.size))
  have hz5 := hk.size
  clear hs hk a1
  go_wp2_with fail
  refine (pick_any w.heap.size A len cap 4 _ HS5.out (by omega)).mono ?_
  rintro e w6 ⟨b, rfl, b0, b1, hs, hk⟩
  have b2 : b < 4 := by omega
  have HO6 := Lib.hid ((HO5.out.keep hk (by omega)).alloc (.cells #[.int .i64 a, .int .i64 (1 + b)] 3))
  have HS6 := Lib.hid (hs.alloc (.cells #[.int .i64 a, .int .i64 (1 + b)] 3))
  have HK6 := Lib.hid ((HK5.out.trans (hk.mono HK5.out.size)).alloc (HK5.out.trans (hk.mono HK5.out.size)).size (.cells #[.int .i64 a, .int .i64 (1 + b)] 3))
  have HL6 := Lib.hid (small_k w6 a b a0 a2 b0 b2)
  have hz6 := hk.size
  clear hs hk b1
  go_wp2_with fail
  refine (one_any w.heap.size A len cap w6.heap.size 2 2 0 6 _ HS6.out (by simp) (by omega) HL6.out (by omega) (by omega)).mono ?_
  rintro e w7 ⟨kd, rfl, k0, k1, hs, hk⟩
  have HO7 := Lib.hid (HO6.out.keep hk (by omega))
  have HK7 := Lib.hid (HK6.out.trans (hk.mono HK6.out.size))
  clear hs hk
  go_wp2_with fail
  exact bodyPost_ret (v := .tuple #[.slice (some ⟨bb, 0, none⟩) xs.length c, .int .i64 kd]) (by simp [results, Try.results11, go_sem]) rfl ⟨_, _, xs, kd, rfl, HO7.out.lies, by omega, HG.out.same _ _ _, HK7.out.below (Nat.le_refl _)⟩

end Go.Proofs.Ytgejhjhjdepmmaa
