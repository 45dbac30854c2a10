/- What a formula needs: the document's own text. -/
import Derived.Test.YtgejhjhjdepmmaaForm2
import Derived.Maps.AppendAt
import Derived.Deep.AppendLies
import Derived.Deep.Onto
namespace Go.Proofs.Ytgejhjhjdepmmaa
open Go.Joins Go.ChangeShapes Go.WideShapes Go.ChangeAt Go.RowKit Go.Deep
set_option linter.unusedVariables false
set_option linter.unusedSimpArgs false

/-- Whether a formula has a step of a kind, with a number. -/
def needB (xs : List Stp) (kind a : Int) : Bool := xs.any fun x => decide (x.k = kind) && decide (x.a = a)
/-- The numbers of the steps of a kind, in order. -/
def needL (xs : List Stp) (kind : Int) (n : Nat) : List Int := ((List.range n).filter fun i : Nat => needB xs kind (i : Int)).map Int.ofNat
def needsL (xs : List Stp) (kind : Int) : List Int := if decide (1 ≤ kind ∧ kind ≤ 4) && formB opS xs 3 3 4 then needL xs kind 12 else []
theorem needL_succ (xs : List Stp) (kind : Int) (n : Nat) : needL xs kind (n + 1) = needL xs kind n ++ (if needB xs kind (n : Int) = true then [(n : Int)] else []) := by
  unfold needL
  rw [List.range_succ, List.filter_append, List.map_append]
  by_cases h : needB xs kind (n : Int) = true <;> simp [h]
theorem needL_len (xs : List Stp) (kind : Int) (n : Nat) : (needL xs kind n).length ≤ n := by
  unfold needL
  rw [List.length_map]
  have := List.length_filter_le (fun i : Nat => needB xs kind (i : Int)) (List.range n)
  simpa using this
def ints (zs : List Int) : List Value := zs.map (Value.int .i64)
theorem ints_len (zs : List Int) : (ints zs).length = zs.length * 1 := by simp [ints]
theorem int_info : (Try.prog.info? 3).map (fun i => (i.zero, i.size, i.bytes)) = some (some (.int .i64 0), 1, 8) := by kernel_rfl
/-- Numbers in a row of the call's own; nothing at all may be one. -/
def OwnZ (w : World) (base : Nat) (v : Value) (zs : List Int) : Prop := w.ownsRow base 3 1 v zs.length (ints zs)

set_option maxHeartbeats 400000 in
theorem needs_any (A : Option Addr) (c : Nat) (xs : List Stp) (kind a : Int) (w : World) (hx : Lies w A xs) (hl : xs.length ≤ 1000) :
    Calls Try.prog 36 #[.slice A xs.length c, .int .i64 kind, .int .i64 a] w fun e w' => e = .returned (.bool (needB xs kind a)) ∧ w = w' := by
  obtain ⟨n, hn⟩ : ∃ n, xs.length = n := ⟨_, rfl⟩
  rw [hn] at hl ⊢
  have HN := Lib.hid hn
  have HX := Lib.hid hx
  clear hx hn
  go_enter Try.func36, Try.ntmps36
  go_wp2_with fail
  go_loop [7] (fun i => ∃ k : Nat, k ≤ n ∧ i = .int .i64 k ∧ needB xs kind a = needB (xs.drop k) kind a) (fun i => n - (intOf i).toNat)
  case atStart => exact ⟨0, by omega, rfl, rfl⟩
  case round =>
    obtain ⟨k, hk, rfl, hrun⟩ := hrel
    have HR := Lib.hid hrun
    clear hrun
    by_cases hlt : k < n
    · have hsz : k < xs.length := by rw [HN.out]; exact hlt
      obtain ⟨b, off, rfl, hblt, hcell⟩ := HX.out (by have := HN.out; omega)
      have hkx : k < xs.length := by rw [HN.out]; exact hlt
      obtain ⟨x, hx⟩ : ∃ x, xs[k]? = some x := ⟨_, List.getElem?_eq_getElem hkx⟩
      have hdr : xs.drop k = x :: xs.drop (k + 1) := by
        rw [List.drop_eq_getElem_cons hkx]
        rw [List.getElem?_eq_getElem hkx] at hx
        injection hx with hx
        rw [hx]
      obtain ⟨c0, c1, c2, c3, c4⟩ := hcell k x hx
      have HXX := Lib.hid hx
      clear hcell hx
      have HR2 := Lib.hid (HR.out.trans (by rw [hdr]; rfl : needB (xs.drop k) kind a = ((decide (x.k = kind) && decide (x.a = a)) || needB (xs.drop (k + 1)) kind a)))
      clear hdr
      by_cases h1 : x.k = kind
      · have e1 : (x.k == kind) = true := by simpa using h1
        by_cases h2 : x.a = a
        · have e2 : (x.a == a) = true := by simpa using h2
          have HV := Lib.hid (HR2.out.trans (by simp [h1, h2] : _ = true))
          clear h1 h2
          go_wp2_with fail
          go_ret
          exact ⟨ret_bool HV.out.symm, rfl⟩
        · have e2 : (x.a == a) = false := by simpa using h2
          have HV := Lib.hid (HR2.out.trans (by simp [h2] : _ = needB (xs.drop (k + 1)) kind a))
          clear h1 h2
          go_wp2_with fail
          go_round
          case rel => exact ⟨k + 1, by omega, by go_num, HV.out⟩
          case measure => simp [intOf]; omega
      · have e1 : (x.k == kind) = false := by simpa using h1
        have HV := Lib.hid (HR2.out.trans (by simp [h1] : _ = needB (xs.drop (k + 1)) kind a))
        clear h1
        go_wp2_with fail
        go_round
        case rel => exact ⟨k + 1, by omega, by go_num, HV.out⟩
        case measure => simp [intOf]; omega
    · have HV := Lib.hid (HR.out.trans (by rw [List.drop_eq_nil_of_le (by rw [HN.out]; omega)]; rfl : _ = false))
      go_wp2_with fail
      go_ret
      exact ⟨ret_bool HV.out.symm, rfl⟩

set_option maxHeartbeats 400000 in
theorem hasStep_any (A : Option Addr) (c : Nat) (xs : List Stp) (kind a : Int) (w : World) (hx : Lies w A xs) (hl : xs.length ≤ 1000) :
    Calls Try.prog 15 #[.slice A xs.length c, .int .i64 kind, .int .i64 a] w fun e w' => e = .returned (.bool (needB xs kind a)) ∧ w = w' := by
  have HC := Lib.hid (needs_any A c xs kind a w hx hl)
  clear hx
  go_enter Try.func15, Try.ntmps15
  go_wp2_with (go_at_call 36; refine HC.out.mono ?_; rintro e w' ⟨rfl, rfl⟩)
  go_ret
  exact ⟨rfl, rfl⟩

set_option maxRecDepth 100000 in
set_option maxHeartbeats 1000000 in
theorem sneeds_any (A : Option Addr) (c : Nat) (xs : List Stp) (kind : Int) (w : World) (hx : Lies w A xs) (hl : xs.length ≤ 1000) :
    Calls Try.prog 13 #[.slice A xs.length c, .int .i64 kind] w fun e w' => ∃ v, e = .returned v ∧ OwnZ w' w.heap.size v (needsL xs kind) ∧ Below w.heap.size w w' := by
  have HX := Lib.hid hx
  have hml : xs.length ≤ maxLen := by unfold maxLen; omega
  have HV := vform_any A c xs 3 3 4 w hx hml ⟨by omega, by omega⟩ ⟨by omega, by omega⟩ ⟨by omega, by omega⟩
  have HND := Lib.hid (fun a w h => needs_any A c xs kind a w h hl)
  obtain ⟨n, hn⟩ : ∃ n, xs.length = n := ⟨_, rfl⟩
  clear hml hx
  by_cases hk : 1 ≤ kind ∧ kind ≤ 4
  · have hd : decide (1 ≤ kind ∧ kind ≤ 4) = true := by simp; omega
    cases hf : formB opS xs 3 3 4
    · have HE := Lib.hid (show needsL xs kind = [] by unfold needsL; rw [hf, Bool.and_false]; rfl)
      rw [hf] at HV
      rw [hn] at hl HV HND ⊢
      have HV1 := Lib.hid HV
      clear HV hf hn hk
      go_enter Try.func13, Try.ntmps13
      go_wp2_with (first
        | (go_at_call 31; refine (inRange_any _ _ _ _).mono ?_; rintro e w' ⟨rfl, rfl⟩)
        | (go_at_call 32; refine HV1.out.mono ?_; rintro e w' ⟨rfl, hb⟩))
      go_ret
      exact ⟨_, rfl, by rw [HE.out]; exact World.ownsRow_nil _ _ _ _, hb⟩
    · have HE := Lib.hid (show needsL xs kind = needL xs kind 12 by unfold needsL; rw [hf, hd]; rfl)
      rw [hf] at HV
      rw [hn] at hl HV HND ⊢
      have HV1 := Lib.hid HV
      clear HV hf hn hk
      obtain ⟨i0, hi0, hz0, hz1, hz2⟩ := info_parts int_info
      go_enter Try.func13, Try.ntmps13
      go_wp2_with (first
        | (go_at_call 31; refine (inRange_any _ _ _ _).mono ?_; rintro e w' ⟨rfl, rfl⟩)
        | (go_at_call 32; refine HV1.out.mono ?_; rintro e w' ⟨rfl, hb⟩; have hz := hb.size))
      go_loopw [5, 6] (fun o i w2 => ∃ (k : Nat) (v : Value), k ≤ 12 ∧ i = .int .i64 k ∧ o = v ∧ OwnZ w2 w.heap.size v (needL xs kind k) ∧ Below w.heap.size w w2) (fun _ i _ => 12 - (intOf i).toNat)
      case atStart =>
        exact ⟨0, _, by omega, rfl, rfl, (by rw [show needL xs kind 0 = [] from rfl]; exact World.ownsRow_made (e := 3) (size := 1) _ #[] 0 hz (by decide) rfl), hb.alloc hz _⟩
      case round =>
        obtain ⟨k, v, hk, rfl, rfl, hown, hB⟩ := hrel
        have HO := Lib.hid hown
        have HB := Lib.hid hB
        have hsz := hB.size
        clear hown hB
        by_cases hlt : k < 12
        · have hS := needL_succ xs kind k
          have hN := HND.out (k : Int) wr (HX.out.below HB.out)
          have hL := needL_len xs kind k
          cases hnb : needB xs kind (k : Int)
          · rw [hnb] at hN hS
            have HN1 := Lib.hid hN
            have HS1 := Lib.hid (hS.trans (by simp) : needL xs kind (k + 1) = needL xs kind k)
            clear hN hS hnb
            go_wp2_with (go_at_call 36; refine HN1.out.mono ?_; rintro e w' ⟨rfl, rfl⟩)
            go_roundw
            case rel => exact ⟨k + 1, _, by omega, by go_num, rfl, by rw [HS1.out]; exact HO.out, HB.out⟩
            case measure => simp [intOf]; omega
          · rw [hnb] at hN hS
            have HN1 := Lib.hid hN
            have HS1 := Lib.hid (hS.trans (by simp) : needL xs kind (k + 1) = needL xs kind k ++ [(k : Int)])
            have HOx := Lib.hid (World.ownsRow.alloc HO.out (.cells #[.int .i64 (k : Int)] 3))
            have HBx := Lib.hid (HB.out.alloc hsz (.cells #[.int .i64 (k : Int)] 3))
            have HLo := Lib.hid (World.ownsRow.lt HO.out)
            clear hN hS hnb
            go_wp2_with (first
              | (go_at_call 36; refine HN1.out.mono ?_; rintro e w' ⟨rfl, rfl⟩)
              | (at_builtin; refine wpList_append_own_at _ rfl (.tmp 24) (.tmp 26) _ rfl w.heap.size 3 i0 _ 1 8 Try.underlying30 hi0 hz0 hz1 hz2 rfl (by omega) _ _ _ rfl HOx.out ⟨wr.heap.size, 0, none⟩ 1 1 [.int .i64 (k : Int)] rfl rfl (cell_one_new _ _ _) (by simp [Value.oneCell']) (by simp only [maxLen]; omega) (by omega) HBx.out.size ?_; intro v1 w1 ho1 hg1 hn1 ha1; have HO1 := Lib.hid ho1; have HB1 := Lib.hid (HBx.out.grown hg1 HBx.out.size (fun j hj => (HLo.out j hj).1)); clear ho1 hg1 hn1 ha1))
            go_roundw
            case rel => exact ⟨k + 1, v1, by omega, by go_num, rfl, by unfold OwnZ; rw [HS1.out, List.length_append]; unfold ints; rw [List.map_append]; exact HO1.out, HB1.out⟩
            case measure => simp [intOf]; omega
        · have hk12 : k = 12 := by omega
          subst hk12
          go_wp2_with fail
          go_ret
          exact ⟨_, rfl, by rw [HE.out]; exact HO.out, HB.out⟩
  · have hd : decide (1 ≤ kind ∧ kind ≤ 4) = false := by simp; omega
    have HE := Lib.hid (show needsL xs kind = [] by unfold needsL; rw [hd]; rfl)
    rw [hn] at hl HV HND ⊢
    clear HV hn hk
    go_enter Try.func13, Try.ntmps13
    go_wp2_with (go_at_call 31; refine (inRange_any _ _ _ _).mono ?_; rintro e w' ⟨rfl, rfl⟩)
    go_ret
    exact ⟨_, rfl, by rw [HE.out]; exact World.ownsRow_nil _ _ _ _, by go_grown⟩

end Go.Proofs.Ytgejhjhjdepmmaa
