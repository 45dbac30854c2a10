/- Texts that a valid value is shown as, by the program. -/
import Derived.Test.YtcpfjlbicofkeaaDoorTre9
import Derived.Test.YtcpfjlbicofkeaaDoorTreM
import Derived.Test.YtcpfjlbicofkeaaDoorShowD
import Derived.Lib.AtoiAll
import Derived.Lib.AtoiAllCases
namespace Go.Proofs.YtcpfjlbicofkeaaDoor
open Go.Joins Go.ChangeShapes Go.WideShapes Go.ChangeAt Go.RowKit Go.Deep
set_option linter.unusedVariables false
set_option linter.unusedSimpArgs false

def dg (m : Nat) : UInt8 := UInt8.ofNat (48 + m)
def d4 (n : Nat) : List UInt8 := if n < 10 then [dg n] else if n < 100 then [dg (n / 10), dg (n % 10)] else if n < 1000 then [dg (n / 10 / 10), dg (n / 10 % 10), dg (n % 10)] else [dg (n / 10 / 10 / 10), dg (n / 10 / 10 % 10), dg (n / 10 % 10), dg (n % 10)]
theorem d4_is (n : Nat) (h : n < 10000) : Lib.decDigits n = d4 n := by
  have h0 : ∀ m, m < 10 → Lib.decDigits m = [dg m] := fun m h => by rw [Lib.decDigits, dif_pos h]; rfl
  have h1 : ∀ m, 10 ≤ m → Lib.decDigits m = Lib.decDigits (m / 10) ++ [dg (m % 10)] := fun m h => by rw [Lib.decDigits, dif_neg (by omega)]; rfl
  unfold d4
  split
  · exact h0 n (by omega)
  split
  · rw [h1 n (by omega), h0 (n / 10) (by omega)]; rfl
  split
  · rw [h1 n (by omega), h1 (n / 10) (by omega), h0 (n / 10 / 10) (by omega)]; rfl
  · rw [h1 n (by omega), h1 (n / 10) (by omega), h1 (n / 10 / 10) (by omega), h0 (n / 10 / 10 / 10) (by omega)]; rfl
set_option maxRecDepth 100000 in
theorem tab4 : ((List.range 1001).all fun n => decide (Lib.parseMag (d4 n) = .ok n) && wordB ⟨(d4 n).toArray⟩) = true := by decide +kernel
theorem tab4_at {n : Nat} (h : n ≤ 1000) : Lib.parseMag (Lib.decDigits n) = .ok n ∧ wordB ⟨(Lib.decDigits n).toArray⟩ = true := by
  have := List.all_eq_true.1 tab4 n (List.mem_range.2 (by omega))
  rw [Bool.and_eq_true] at this
  rw [d4_is n (by omega)]
  exact ⟨of_decide_eq_true this.1, this.2⟩
theorem atoi_neg {m : Nat} (h1 : 1 ≤ m) (h2 : m ≤ 1000) : Lib.atoiAll (negS m).data.toList = .ok (-(m : Int)) := by
  rw [negS_data m h1]
  unfold Lib.atoiAll
  dsimp only
  rw [if_pos (by decide), (tab4_at h2).1]
  dsimp only
  rw [if_neg (by simp), if_neg (by omega), if_pos (by decide)]
theorem zero_valid (n : Int) : validB 1 n ⟨#[]⟩ = decide (-1000 ≤ n ∧ n ≤ 1000) := by
  unfold validB; simp
theorem word_nil : wordB ⟨#[]⟩ = true := by decide +kernel
theorem shownB_ok {s : ByteArray} {n : Int} (hw : wordB s = false) (h : Lib.atoiAll s.data.toList = .ok n) : shownB s = decide (s = shown 1 n ⟨#[]⟩) := by
  unfold shownB
  rw [hw, Bool.false_or, Bool.eq_iff_iff, List.any_eq_true, decide_eq_true_iff]
  constructor
  · rintro ⟨i, hi, he⟩
    have he := of_decide_eq_true he
    have hi := List.mem_range.1 hi
    rw [he, atoi_neg (by omega) (by omega)] at h
    injection h with h
    unfold shown
    rw [zero_valid, decide_eq_true (by omega), if_pos rfl, if_pos rfl, ← h, he]
    rfl
  · intro he
    unfold shown at he
    rw [zero_valid] at he
    by_cases hn : -1000 ≤ n ∧ n ≤ 1000
    · rw [decide_eq_true hn, if_pos rfl, if_pos rfl] at he
      by_cases h0 : 0 ≤ n
      · have h3 := (tab4_at (show n.toNat ≤ 1000 by omega)).2
        rw [he, itoa_of_nat n h0, h3] at hw
        cases hw
      · refine ⟨(-n).toNat - 1, List.mem_range.2 (by omega), decide_eq_true ?_⟩
        rw [he]
        unfold negS
        rw [show (-(((-n).toNat - 1 + 1 : Nat) : Int)) = n by omega]
    · rw [decide_eq_false hn, if_neg (by decide)] at he
      rw [he, word_nil] at hw
      cases hw
theorem shownB_no {s : ByteArray} (h : ∀ n, Lib.atoiAll s.data.toList ≠ .ok n) : shownB s = wordB s := by
  unfold shownB
  have h2 : ((List.range 1000).any fun i => decide (s = negS (i + 1))) = false := by
    rw [List.any_eq_false]
    intro i hi
    have hi := List.mem_range.1 hi
    rw [decide_eq_true_iff]
    rintro rfl
    exact h _ (atoi_neg (by omega) (by omega))
  rw [h2, Bool.or_false]
def ErrV (g : Nat) (w : World) : Prop := ∃ ev, w.cell? ⟨g, 0, none⟩ = some ev ∧ (ev = .nilIface ∨ ∃ te pe, ev = .iface te pe)
theorem ErrV.next {g : Nat} {w w' : World} (h : ErrV g w) (hb : Below w.heap.size w w') : ErrV g w' := by
  obtain ⟨ev, h1, h2⟩ := h
  exact ⟨ev, (hb.cell (p := ⟨g, 0, none⟩) (World.block_lt_of_cell? w _ h1)).trans h1, h2⟩
def Vs (w : World) : Prop := Tab w ∧ ErrV 0 w ∧ ErrV 1 w
theorem Vs.next {w w' : World} (h : Vs w) (hb : Below w.heap.size w w') : Vs w' := ⟨h.1.next hb, h.2.1.next hb, h.2.2.next hb⟩
def AtX (s : ByteArray) (w : World) (e : Ending) (w' : World) : Prop :=
  Below w.heap.size w w' ∧ ((∃ n, Lib.atoiAll s.data.toList = .ok n ∧ e = .returned (.tuple #[.int .i64 n, .nilIface])) ∨ ((∀ n, Lib.atoiAll s.data.toList ≠ .ok n) ∧ ∃ n t p, e = .returned (.tuple #[.int .i64 n, .iface t (.pointer (some ⟨p, 0, none⟩))])))
theorem atoi_any (s : ByteArray) (w : World) (hl : s.size ≤ 281474976710656) (hv : Vs w) : Calls Tryd.prog 77 #[.string s] w (AtX s w) := by
  cases h : Lib.atoiAll s.data.toList with
  | ok n =>
    refine (Tryd.strconv_Atoi_ok s (by omega) n h w).mono ?_
    rintro e w' ⟨rfl, hW⟩
    refine ⟨?_, .inl ⟨n, h, rfl⟩⟩
    rcases hW with rfl | ⟨t, rfl⟩
    · exact Below.refl _ _
    · exact Lib.bytesWorld_below _ _ _
  | range =>
    obtain ⟨ev, h1, h2⟩ := hv.2.2
    refine (Tryd.strconv_Atoi_range s hl h ev w h1 h2).mono ?_
    rintro e w' ⟨N, rfl, _, _, hb⟩
    exact ⟨hb, .inr ⟨fun n => by rw [h]; simp, _, _, N, rfl⟩⟩
  | _ =>
    obtain ⟨ev, h1, h2⟩ := hv.2.1
    refine (Any.strconv_Atoi_syntax Tryd.laysC172 s hl h ev w h1 h2).mono ?_
    rintro e w' ⟨N, rfl, _, _, hb⟩
    exact ⟨hb, .inr ⟨fun n => by rw [h]; simp, _, _, N, rfl⟩⟩
set_option maxHeartbeats 1000000 in
theorem ishown_any (s : ByteArray) (w : World) (hl : s.size ≤ 281474976710656) (hv : Vs w) :
    Calls Tryd.prog 71 #[.string s] w fun e w' => e = .returned (.bool (shownB s)) ∧ Below w.heap.size w w' := by
  have HV := Lib.hid hv
  have HL := Lib.hid hl
  have k2 := fun w => word_impl s w
  obtain ⟨u, hu⟩ : ∃ u, wordB s = u := ⟨_, rfl⟩
  have HU := Lib.hid hu
  rw [hu] at k2
  have K2 := Lib.hid k2
  clear hu k2 hv hl
  go_enter Tryd.func71, Tryd.ntmps71
  go_wp2_with fail
  refine (atoi_any s w HL.out HV.out).mono ?_
  rintro e w1 ⟨hb, ⟨n, hn, rfl⟩ | ⟨hn, n, t, p, rfl⟩⟩
  · have HB1 := Lib.hid hb
    have HN := Lib.hid hn
    have HV1 := Lib.hid (HV.out.next hb)
    clear hb hn
    cases u
    · have HS := Lib.hid (shownB_ok HU.out HN.out)
      obtain ⟨t, ht⟩ : ∃ t, shown 1 n ⟨#[]⟩ = t := ⟨_, rfl⟩
      have k3 := valShow_impl 1 n ⟨#[]⟩ w1 HV1.out.1
      rw [ht] at HS k3
      have K3 := Lib.hid k3
      clear k3 ht
      have hq : (s.toList == t.toList) = decide (s = t) := by
        rw [Bool.eq_iff_iff, beq_iff_eq, decide_eq_true_iff, Lib.toList_data, Lib.toList_data]
        exact ⟨fun h => ByteArray.ext (Array.toList_inj.1 h), fun h => by rw [h]⟩
      have HE := Lib.hid hq
      clear hq
      go_wp2_with (first
        | (go_at_call 78; ((with_reducible refine (K2.out _).mono ?_); rintro e w' ⟨rfl, rfl⟩))
        | (go_at_call 79; ((with_reducible refine K3.out.mono ?_); rintro e w2 ⟨rfl, hb⟩); have HB2 := Lib.hid (more HB1.out (Nat.le_refl _) hb); clear hb))
      go_ret
      exact ⟨ret_bool (by rw [HS.out, ← HE.out]), HB2.out⟩
    · have HS := Lib.hid (show shownB s = true by unfold shownB; rw [HU.out]; rfl)
      go_wp2_with (go_at_call 78; ((with_reducible refine (K2.out _).mono ?_); rintro e w' ⟨rfl, rfl⟩))
      go_ret
      exact ⟨ret_bool HS.out.symm, HB1.out⟩
  · have HB1 := Lib.hid hb
    have HS := Lib.hid ((shownB_no hn).trans HU.out)
    clear hb hn
    cases u
    all_goals
      go_wp2_with (go_at_call 78; ((with_reducible refine (K2.out _).mono ?_); rintro e w' ⟨rfl, rfl⟩))
      go_ret
      exact ⟨ret_bool HS.out.symm, HB1.out⟩
end Go.Proofs.YtcpfjlbicofkeaaDoor
