/- What a formula needs: the program's text. -/
import Derived.Test.YtgejhjhjdepmmaaNeeds1
import Derived.Test.YtgejhjhjdepmmaaForm4
import Derived.Test.YtgejhjhjdepmmaaIter
import Derived.Maps.Own
import Derived.Maps.OwnSet
import Derived.Lib.SlKeysI
namespace Go.Proofs.Ytgejhjhjdepmmaa
open Go.Joins Go.ChangeShapes Go.WideShapes Go.ChangeAt Go.RowKit Go.Deep Go.Maps Go.Sort Go.Shelf
set_option linter.unusedVariables false
set_option linter.unusedSimpArgs false

theorem wf_small {a : Int} (h0 : 0 ≤ a) (h1 : a < 1000) : (Lit.int .i64 a).wf = true := by
  have e1 : IntKind.min .i64 = -9223372036854775808 := by decide
  have e2 : IntKind.max .i64 = 9223372036854775807 := by decide
  simp only [Lit.wf, e1, e2, Bool.and_eq_true, decide_eq_true_eq]
  omega
theorem needL_mem (xs : List Stp) (kind : Int) (n : Nat) (x : Int) : x ∈ needL xs kind n ↔ (0 ≤ x ∧ x < n) ∧ needB xs kind x = true := by
  unfold needL
  rw [List.mem_map]
  constructor
  · rintro ⟨i, hi, rfl⟩
    rw [List.mem_filter, List.mem_range] at hi
    exact ⟨⟨Int.natCast_nonneg _, by have := hi.1; show (i : Int) < n; omega⟩, hi.2⟩
  · rintro ⟨⟨h0, h1⟩, h2⟩
    refine ⟨x.toNat, ?_, by show ((x.toNat : Nat) : Int) = x; omega⟩
    rw [List.mem_filter, List.mem_range]
    exact ⟨by omega, by rw [show ((x.toNat : Nat) : Int) = x by omega]; exact h2⟩
theorem needL_lt (xs : List Stp) (kind : Int) (n : Nat) : (needL xs kind n).Pairwise (· < ·) := by
  unfold needL
  refine List.pairwise_map.2 ?_
  exact (List.Pairwise.filter _ List.pairwise_lt_range).imp (fun {a b} h => by show (a : Int) < (b : Int); omega)
theorem needL_sorted (xs : List Stp) (kind : Int) (n : Nat) : (needL xs kind n).mergeSort leI = needL xs kind n :=
  List.mergeSort_of_pairwise ((needL_lt xs kind n).imp (fun {a b} h => by simp only [leI, decide_eq_true_eq]; omega))
theorem needL_nodup (xs : List Stp) (kind : Int) (n : Nat) : (needL xs kind n).Nodup := (needL_lt xs kind n).imp (fun {a b} h => by omega)
theorem needB_take (xs : List Stp) (kind z : Int) (k : Nat) (x : Stp) (hx : xs[k]? = some x) : needB (xs.take (k + 1)) kind z = (needB (xs.take k) kind z || (decide (x.k = kind) && decide (x.a = z))) := by
  have hk : k < xs.length := (List.getElem?_eq_some_iff.1 hx).1
  have e : xs[k] = x := (List.getElem?_eq_some_iff.1 hx).2
  unfold needB
  rw [List.take_succ_eq_append_getElem hk, List.any_append, e]
  simp
theorem runB_ok {ok : Stp → Bool} : ∀ (xs : List Stp) (m : Int), runB ok m xs = true → ∀ x ∈ xs, ok x = true
  | [], _, _, x, hx => by simp at hx
  | y :: ys, m, h, x, hx => by
    have h' : (ok y && decide (takesV y.k ≤ m) && runB ok (m - takesV y.k + 1) ys) = true := h
    simp only [Bool.and_eq_true] at h'
    rcases List.mem_cons.1 hx with rfl | hx
    · exact h'.1.1
    · exact runB_ok ys _ h'.2 x hx
theorem formB_ok {D : Int → Bool} {xs : List Stp} {p st t : Int} (h : formB D xs p st t = true) : ∀ x ∈ xs, stepB D x p st t = true := by
  unfold formB at h
  simp only [Bool.and_eq_true] at h
  exact runB_ok xs 0 h.2
theorem step_bound {D : Int → Bool} {x : Stp} (h : stepB D x 3 3 4 = true) (h1 : 1 ≤ x.k) (h4 : x.k ≤ 4) : 0 ≤ x.a ∧ x.a < 4 := by
  unfold stepB at h
  rw [if_neg (by omega)] at h
  split at h
  · simp at h; omega
  · split at h
    · simp at h; omega
    · split at h
      · simp at h; omega
      · split at h
        · simp at h; omega
        · omega
theorem needB_bound {D : Int → Bool} {xs : List Stp} {kind z : Int} (h : ∀ x ∈ xs, stepB D x 3 3 4 = true) (h1 : 1 ≤ kind) (h4 : kind ≤ 4) (hn : needB xs kind z = true) : 0 ≤ z ∧ z < 12 := by
  unfold needB at hn
  rw [List.any_eq_true] at hn
  obtain ⟨x, hx, he⟩ := hn
  simp only [Bool.and_eq_true, decide_eq_true_eq] at he
  have := step_bound (h x hx) (by omega) (by omega)
  omega

theorem keys_any (b : Nat) (w : World) :
    Calls Try.prog 35 #[.map (some b)] w fun e w' => e = .returned (.func (.func 51) #[] #[.pointer (some ⟨w.heap.size, 0, none⟩)]) ∧ w' = w.alloc (.cells #[.map (some b)] 59) :=
  callsIn_wide.1 (AnyZI.keys_in Try.keysI Fence.wide 5 trivial rfl (some b) w)
theorem sorts_in (m : Nat) : AnyZI.SortsIn Try.prog Try.sortedI_ren Fence.wide m :=
  ⟨fun blk off cap ss W hH hblk hsz => callsIn_wide.2 (AnyM.slices_Sort_int Try.sortI blk off cap ss W hH hblk hsz),
   fun p cap W => callsIn_wide.2 (AnyM.slices_Sort_int_none Try.sortI p cap W)⟩
theorem sorted_any {H : Type} (b nn : Nat) (D0 : DataW H) (R : Value → Option (DataW H × List MemPlace)) (w : World) (hown : w.ownsMap Try.prog 3 R b nn D0) (hmax : Maps.size D0 ≤ maxLen) (hbytes : Maps.size D0 * 8 ≤ 140737488355328) :
    Calls Try.prog 34 #[.func (.func 51) #[] #[.pointer (some ⟨w.heap.size, 0, none⟩)]] (w.alloc (.cells #[.map (some b)] 59)) fun e w' => ∃ (v : Value) (ss : List Int), e = .returned v ∧ ss.Perm (intKeys D0) ∧
      w'.ownsRow w.heap.size 3 1 v ss.length ((ss.mergeSort leI).map encZ) ∧ Below w.heap.size w w' := by
  have hbl := hown.lt
  have hseq : SeqGives Fence.wide 2 Try.prog 51 #[.pointer (some ⟨w.heap.size, 0, none⟩)] encZ (fun ss => ss.Perm (intKeys D0)) (Maps.size D0) (w.alloc (.cells #[.map (some b)] 59)) :=
    AnyZI.keys_gives (ρ := Try.keysI_ren) { Try.keysI with } Fence.wide _ trivial rfl (by omega) w.heap.size b nn D0 _ (by simp) (by simp) (by
      obtain ⟨es, clock, hb, Ft, hs, hD⟩ := hown
      exact ⟨es, clock, (Below.heap_alloc _ _ b hbl).trans hb, Ft, hs, hD⟩)
  have cS := AnyZI.sorted_in Try.sortedI Fence.wide 5 trivial trivial trivial trivial rfl (by omega) (sorts_in _) (enters_of Try.func50 (by kernel_rfl) rfl) 51 #[.pointer (some ⟨w.heap.size, 0, none⟩)] trivial (enters_of Try.func51 (by kernel_rfl) rfl) _ _ hmax hbytes _ hseq
  change CallsIn _ _ Try.prog 34 _ _ _ at cS
  refine (callsIn_wide.1 cS).mono ?_
  rintro e w' ⟨v, ss, rfl, hS, hrow, hnil, hb⟩
  exact ⟨v, ss, rfl, hS, ownsRow_base_a hrow (by simp), ((Below.refl _ w).alloc (Nat.le_refl _) _).trans (hb.mono (by simp))⟩
theorem lawI : Keyed Try.prog 3 := int_keyed Try.underlying3

set_option maxHeartbeats 400000 in
theorem needKind_any (n : Int) (w : World) :
    Calls Try.prog 33 #[.int .i64 n] w fun e w' => e = .returned (.bool (decide (1 ≤ n ∧ n ≤ 4))) ∧ w = w' := by
  rcases (by omega : n = 1 ∨ n = 2 ∨ n = 3 ∨ n = 4 ∨ (n ≠ 1 ∧ n ≠ 2 ∧ n ≠ 3 ∧ n ≠ 4)) with rfl | rfl | rfl | rfl | ⟨k1, k2, k3, k4⟩
  case inr.inr.inr.inr =>
    have e1 : (n == 1) = false := by simpa using k1
    have e2 : (n == 2) = false := by simpa using k2
    have e3 : (n == 3) = false := by simpa using k3
    have e4 : (n == 4) = false := by simpa using k4
    have hv := Lib.hid (show decide (1 ≤ n ∧ n ≤ 4) = false by simp; omega)
    clear k1 k2 k3 k4
    go_enter Try.func33, Try.ntmps33
    go_wp2_with fail
    go_ret
    exact ⟨ret_bool hv.out.symm, rfl⟩
  all_goals
    go_enter Try.func33, Try.ntmps33
    go_wp2_with fail
    go_ret
    exact ⟨ret_bool (by decide), rfl⟩

set_option maxRecDepth 100000 in
set_option maxHeartbeats 2000000 in
theorem ineeds_any (A : Option Addr) (c : Nat) (xs : List Stp) (kind : Int) (w : World) (hx : Lies w A xs) (hl : xs.length ≤ 1000) (hsame : formB opI xs 3 3 4 = formB opS xs 3 3 4) :
    Calls Try.prog 12 #[.slice A xs.length c, .int .i64 kind] w fun e w' => ∃ v, e = .returned v ∧ OwnZ w' w.heap.size v (needsL xs kind) ∧ Below w.heap.size w w' := by
  have HX := Lib.hid hx
  have hml : xs.length ≤ maxLen := by unfold maxLen; omega
  have HV := iform_any A c xs 3 3 4 w hx hml
  rw [show rangeB 3 3 4 = true by decide, Bool.true_and, hsame] at HV
  obtain ⟨n, hn⟩ : ∃ n, xs.length = n := ⟨_, rfl⟩
  have HN := Lib.hid hn
  clear hml hx
  by_cases hk : 1 ≤ kind ∧ kind ≤ 4
  · have hd : decide (1 ≤ kind ∧ kind ≤ 4) = true := by simp; omega
    obtain ⟨hk1, hk4⟩ := hk
    cases hf : formB opS xs 3 3 4
    · have HE := Lib.hid (show needsL xs kind = [] by unfold needsL; rw [hf, Bool.and_false]; rfl)
      rw [hf] at HV
      rw [hn] at hl HV ⊢
      have HV1 := Lib.hid HV
      clear HV hf hn hsame
      go_enter Try.func12, Try.ntmps12
      go_wp2_with (first
        | (go_at_call 33; refine (needKind_any _ _).mono ?_; rintro e w' ⟨rfl, rfl⟩)
        | (go_at_call 9; refine HV1.out.mono ?_; rintro e w' ⟨rfl, hb⟩))
      go_ret
      exact ⟨_, rfl, by rw [HE.out]; exact World.ownsRow_nil _ _ _ _, hb⟩
    · have HE := Lib.hid (show needsL xs kind = needL xs kind 12 by unfold needsL; rw [hf, hd]; rfl)
      have HOK := Lib.hid (formB_ok hf)
      rw [hf] at HV
      rw [hn] at hl HV ⊢
      have HV1 := Lib.hid HV
      clear HV hf hn hsame
      have hmm := @run_makeMap Try.prog
      go_enter Try.func12, Try.ntmps12
      go_wp2_with (first
        | (go_at_call 33; refine (needKind_any _ _).mono ?_; rintro e w' ⟨rfl, rfl⟩)
        | (go_at_call 9; refine HV1.out.mono ?_; rintro e w1 ⟨rfl, hb⟩; have hz := hb.size; have HB1 := Lib.hid hb; clear hb))
      clear hmm
      go_loopw [19] (fun i w2 => ∃ (k : Nat) (D : DataW Unit), k ≤ n ∧ i = .int .i64 k ∧ w2.ownsMap Try.prog 3 (plainElem Try.prog 4) w1.heap.size k D ∧ Below w.heap.size w w2 ∧ Hid (∀ z, has D (.int .i64 z) = needB (xs.take k) kind z)) (fun i _ => n - (intOf i).toNat)
      case atStart => exact ⟨0, .map [], by omega, rfl, World.ownsMap_made _ _ _ _, HB1.out.alloc hz _, Lib.hid (fun z => rfl)⟩
      case round =>
        obtain ⟨k, D, hk, rfl, hown, hB, hD⟩ := hrel
        have HO := Lib.hid hown
        have HB := Lib.hid hB
        have hsz := hB.size
        have hlt1 := hown.lt
        clear hown hB
        by_cases hlt : k < n
        · obtain ⟨b, off, rfl, hblt, hcell⟩ := HX.out (by have := HN.out; omega)
          have hkx : k < xs.length := by rw [HN.out]; exact hlt
          obtain ⟨x, hx⟩ : ∃ x, xs[k]? = some x := ⟨_, List.getElem?_eq_getElem hkx⟩
          have hmem : x ∈ xs := List.mem_of_getElem? hx
          have HT := Lib.hid (fun z => needB_take xs kind z k x hx)
          obtain ⟨c0, c1, c2, c3, c4⟩ := hcell k x hx
          have hG := HB.out
          have hst := HOK.out x hmem
          have a0 := (hG.cell (p := ⟨b, off + k * 5, none⟩) hblt).trans c0
          have a1 := (hG.cell (p := ⟨b, off + k * 5 + 1, none⟩) hblt).trans c1
          have a2 := (hG.cell (p := ⟨b, off + k * 5 + 2, none⟩) hblt).trans c2
          have a3 := (hG.cell (p := ⟨b, off + k * 5 + 3, none⟩) hblt).trans c3
          have a4 := (hG.cell (p := ⟨b, off + k * 5 + 4, none⟩) hblt).trans c4
          have HOA := Lib.hid (HO.out.alloc (.cells #[.int .i64 x.k, .int .i64 x.a, .int .i64 x.vk, .int .i64 x.vn, .string x.vs] 52))
          have HBA := Lib.hid (HB.out.alloc hsz (.cells #[.int .i64 x.k, .int .i64 x.a, .int .i64 x.vk, .int .i64 x.vn, .string x.vs] 52))
          clear c0 c1 c2 c3 c4 hcell hx hmem hG
          by_cases h1 : x.k = kind
          · have hbd := step_bound hst (by omega) (by omega)
            have hkey : keyOf Try.prog 3 (.int .i64 x.a) = some (.int .i64 x.a) := keyOf_int_mk Try.underlying3 (wf_small hbd.1 (by omega))
            have HK := Lib.hid hkey
            have e1 : (x.k == kind) = true := by simpa using h1
            have HD := Lib.hid (fun z => (HT.out z).trans (by rw [decide_eq_true h1, Bool.true_and] : _ = (needB (xs.take k) kind z || decide (x.a = z))))
            clear h1 hst hkey
            go_wp2_with (at_mapUpdate; refine wpList_mapUpdate_own _ rfl _ _ _ 59 rfl 3 4 lawI Try.underlying59 _ w1.heap.size k _ rfl HOA.out (by unfold maxLen; omega) _ _ _ rfl rfl HK.out _ [] (plainElem_bool Try.underlying4 true) ?_; intro w2 ho hg; have HO2 := Lib.hid ho; have HB2 := Lib.hid (HBA.out.grown hg HBA.out.size (fun j hj => by cases hj; omega)); clear ho hg)
            go_roundw
            case rel => exact ⟨k + 1, _, by omega, by go_num, HO2.out, HB2.out, Lib.hid (fun z => by
              rw [HD.out z, ← hD.out z]
              by_cases hz : x.a = z
              · subst hz
                rw [has_put_same HO.out.isMap (lawI.key HK.out)]
                simp
              · rw [has_put_other (by intro e; injection e with _ e; exact hz e.symm)]
                simp [hz])⟩
            case measure => simp [intOf]; omega
          · have e1 : (x.k == kind) = false := by simpa using h1
            have HD := Lib.hid (fun z => (HT.out z).trans (by rw [decide_eq_false h1, Bool.false_and, Bool.or_false] : _ = needB (xs.take k) kind z))
            clear h1 hst
            go_wp2_with fail
            go_roundw
            case rel => exact ⟨k + 1, D, by omega, by go_num, HOA.out.mono (by omega), HBA.out, Lib.hid (fun z => (hD.out z).trans (HD.out z).symm)⟩
            case measure => simp [intOf]; omega
        · have hkn : k = n := by omega
          have hD2 := Lib.hid (fun z => (hD.out z).trans (by rw [List.take_of_length_le (by rw [HN.out]; omega)] : _ = needB xs kind z))
          have hle := HO.out.size_le
          have hkl : k ≤ 1000 := by omega
          clear hkn
          go_wp2_with (first
            | (go_at_call 35; refine (keys_any _ _).mono ?_; rintro e w' ⟨rfl, rfl⟩)
            | (go_at_call 34; refine (sorted_any w1.heap.size k D _ wr HO.out (by unfold maxLen; omega) (by omega)).mono ?_; rintro e w' ⟨v, ss, rfl, hS, hrow, hb⟩; have HS := Lib.hid hS; have HR := Lib.hid hrow; have HBb := Lib.hid (HB.out.trans (hb.mono hsz)); clear hS hrow hb))
          go_ret
          have hp : (needL xs kind 12).Perm (intKeys D) := CollectedI.perm (left := fun _ => false) ⟨needL_nodup _ _ _, fun z => by
            rw [needL_mem, hD2.out z]
            constructor
            · exact fun h => ⟨h.2, rfl⟩
            · exact fun h => ⟨needB_bound HOK.out hk1 hk4 h.1, h.1⟩⟩ HO.out lawI Try.underlying3 (fun _ => rfl)
          have hperm : ss.Perm (needL xs kind 12) := HS.out.trans hp.symm
          have hlen : ss.length = (needL xs kind 12).length := hperm.length_eq
          have hsort : ss.mergeSort leI = needL xs kind 12 := (mergeSort_of_perm_i hperm).trans (needL_sorted _ _ _)
          refine ⟨_, rfl, ?_, HBb.out⟩
          rw [HE.out]
          have hr := HR.out
          rw [hlen, hsort] at hr
          exact World.ownsRow.mono hr hsz
  · have hd : decide (1 ≤ kind ∧ kind ≤ 4) = false := by simp; omega
    have HE := Lib.hid (show needsL xs kind = [] by unfold needsL; rw [hd]; rfl)
    rw [hn] at hl HV ⊢
    clear HV hn hk hsame
    go_enter Try.func12, Try.ntmps12
    go_wp2_with (go_at_call 33; refine (needKind_any _ _).mono ?_; rintro e w' ⟨rfl, rfl⟩)
    go_ret
    exact ⟨_, rfl, by rw [HE.out]; exact World.ownsRow_nil _ _ _ _, by go_grown⟩

end Go.Proofs.Ytgejhjhjdepmmaa
