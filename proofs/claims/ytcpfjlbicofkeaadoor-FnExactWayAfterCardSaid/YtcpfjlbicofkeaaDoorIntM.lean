/- Int1, Int2 in one text. -/
import Derived.Test.YtcpfjlbicofkeaaDoorPrtM
import Derived.BigQuiet
import Derived.Test.YtcpfjlbicofkeaaDoorOpen
namespace Go.Proofs.YtcpfjlbicofkeaaDoor
open Go.Joins Go.ChangeShapes Go.WideShapes Go.ChangeAt Go.RowKit Go.Deep
set_option linter.unusedVariables false
set_option linter.unusedSimpArgs false

def IntL (w : World) (A : Option Addr) (zs : List Int) : Prop := 0 < zs.length → ∃ b off, A = some ⟨b, off, none⟩ ∧ b < w.heap.size ∧ ∀ k z, zs[k]? = some z → w.cell? ⟨b, off + k, none⟩ = some (.int .i64 z)
theorem IntL.below {w w' : World} {A : Option Addr} {zs : List Int} (h : IntL w A zs) (hb : Below w.heap.size w w') : IntL w' A zs := fun h0 => by
  obtain ⟨b, off, e, hlt, hc⟩ := h h0
  exact ⟨b, off, e, Nat.lt_of_lt_of_le hlt hb.size, fun k z hz => (hb.cell (p := ⟨b, _, none⟩) hlt).trans (hc k z hz)⟩
theorem IntL.at_ {w : World} {A : Option Addr} {zs : List Int} (h : IntL w A zs) {k : Nat} {z : Int} (hz : zs[k]? = some z) : ∃ b off, A = some ⟨b, off, none⟩ ∧ b < w.heap.size ∧ w.cell? ⟨b, off + k, none⟩ = some (.int .i64 z) := by
  obtain ⟨b, off, e, hlt, hc⟩ := h (by have := (List.getElem?_eq_some_iff.1 hz).1; omega)
  exact ⟨b, off, e, hlt, hc k z hz⟩
def natI (ns : List Nat) : List Int := ns.map fun (n : Nat) => (n : Int)
theorem natI_len (ns : List Nat) : (natI ns).length = ns.length := by simp [natI]
theorem natI_inj {a b : List Nat} (h : natI a = natI b) : a = b := by
  unfold natI at h
  exact List.map_inj_right (fun x y hxy => by omega) |>.1 h
theorem IntL.of_row {lo : Nat} {w : World} {A : Option Addr} {c : Nat} {ns : List Nat} (h : WayR lo w A c ns) : IntL w A (natI ns) := fun h0 => by
  rw [natI_len] at h0
  rcases h.block with rfl | ⟨g, cur, rfl, hlo, hg⟩
  · rcases h.2 with ⟨_, hn⟩ | ⟨g, cap, cur, e, _⟩
    · omega
    · cases e
  · refine ⟨g, 0, rfl, (Array.getElem?_eq_some_iff.1 hg).1, fun k z hz => ?_⟩
    have hk : k < ns.length := by have := (List.getElem?_eq_some_iff.1 hz).1; rw [natI_len] at this; exact this
    rw [Nat.zero_add, World.ownsRow.cellAt h k (by omega)]
    unfold natI at hz
    rw [List.getElem?_map] at hz
    unfold intV
    rw [List.getElem?_map]
    cases hn : ns[k]? with
    | none => rw [hn] at hz; cases hz
    | some n => rw [hn] at hz; simp at hz; subst hz; rfl
theorem take_eq {α : Type} {xs ys : List α} {n : Nat} (hx : xs.length = n) (hy : ys.length = n) (h : xs.take n = ys.take n) : xs = ys := by
  rwa [List.take_of_length_le (by omega), List.take_of_length_le (by omega)] at h
theorem take_next {α : Type} {xs ys : List α} {k : Nat} {x : α} (hx : xs[k]? = some x) (hy : ys[k]? = some x) (h : xs.take k = ys.take k) : xs.take (k + 1) = ys.take (k + 1) := by
  rw [List.take_add_one, List.take_add_one, h, hx, hy]
theorem below_drewN {B : Nat} {w w' : World} (h : Below B w w') (n : Nat) : Below B w (w'.drewN n) := ⟨h.os, h.tape, h.output, h.size, h.block⟩
set_option maxHeartbeats 1000000 in
theorem eqL_any (A B : Option Addr) (c d : Nat) (xs ys : List Int) (w : World) (hx : IntL w A xs) (hy : IntL w B ys) (hl : xs.length ≤ maxLen) (hl2 : ys.length ≤ maxLen) :
    Calls Tryd.prog 10 #[.slice A xs.length c, .slice B ys.length d] w fun e w' => e = .returned (.bool (decide (xs = ys))) ∧ Below w.heap.size w w' := by
  unfold maxLen at hl hl2
  have HX := Lib.hid hx
  have HY := Lib.hid hy
  obtain ⟨n, hn⟩ : ∃ n, xs.length = n := ⟨_, rfl⟩
  obtain ⟨m, hm⟩ : ∃ m, ys.length = m := ⟨_, rfl⟩
  have HN := Lib.hid hn
  have HM := Lib.hid hm
  rw [hn] at hl ⊢
  rw [hm] at hl2 ⊢
  clear hx hy hn hm
  by_cases hnm : n = m
  case neg =>
    have HV := Lib.hid (decide_eq_false (show ¬ xs = ys by intro e; rw [e, HM.out] at HN; exact hnm HN.out.symm))
    have hne : ((n : Int) != (m : Int)) = true := by simp; omega
    clear hnm
    go_enter Tryd.func10, Tryd.ntmps10
    go_wp2_with fail
    go_ret
    exact ⟨ret_bool HV.out.symm, Below.refl _ _⟩
  subst hnm
  go_enter Tryd.func10, Tryd.ntmps10
  go_wp2_with fail
  go_loopw [5] (fun i wr => ∃ k : Nat, k ≤ n ∧ i = .int .i64 k ∧ Hid (xs.take k = ys.take k) ∧ Hid (Below w.heap.size w wr)) (fun i _ => n - (intOf i).toNat)
  case atStart => exact ⟨0, by omega, rfl, Lib.hid rfl, Lib.hid (Below.refl _ _)⟩
  case round =>
    obtain ⟨k, hk, rfl, HE, HB⟩ := hrel
    by_cases hlt : k < n
    · obtain ⟨x, hx⟩ := at_some (show k < xs.length by rw [HN.out]; exact hlt)
      obtain ⟨y, hy⟩ := at_some (show k < ys.length by rw [HM.out]; exact hlt)
      obtain ⟨b, off, rfl, hblt, e0⟩ := (HX.out.below HB.out).at_ hx
      obtain ⟨b', off', rfl, hblt', e1⟩ := (HY.out.below HB.out).at_ hy
      have hi1 : (0 : Int) ≤ (k : Int) := by omega
      have hi2 : (k : Int) < (n : Int) := by omega
      by_cases hxy : x = y
      · subst hxy
        have HT := Lib.hid (take_next hx hy HE.out)
        have hv : (x != x) = false := by simp
        clear hx hy HE
        go_wp2_with fail
        go_quiet (fail)
        go_wp2_with fail
        go_roundw
        case rel => exact ⟨k + 1, by omega, by go_num, HT, Lib.hid (by first | exact HB.out | exact HB.out.drew | exact below_drewN HB.out _)⟩
        case measure => simp [intOf]; omega
      · have HV := Lib.hid (decide_eq_false (show ¬ xs = ys by intro e; rw [e, hy] at hx; injection hx with hx; exact hxy hx.symm))
        have hv : (x != y) = true := by simpa using hxy
        clear hx hy HE hxy
        go_wp2_with fail
        go_quiet (fail)
        go_wp2_with fail
        go_ret
        exact ⟨ret_bool HV.out.symm, by first | exact HB.out | exact HB.out.drew | exact below_drewN HB.out _⟩
    · obtain rfl : k = n := by omega
      have HV := Lib.hid (decide_eq_true (take_eq HN.out HM.out HE.out))
      clear HE
      go_wp2_with fail
      go_ret
      exact ⟨ret_bool HV.out.symm, HB.out⟩
set_option maxHeartbeats 1000000 in
theorem eqM_any (A B : Option Addr) (c d : Nat) (xs ys : List Int) (w : World) (hx : IntL w A xs) (hy : IntL w B ys) (hl : xs.length ≤ maxLen) (hl2 : ys.length ≤ maxLen) :
    Calls Tryd.prog 16 #[.slice A xs.length c, .slice B ys.length d] w fun e w' => e = .returned (.bool (decide (xs = ys))) ∧ Below w.heap.size w w' := by
  unfold maxLen at hl hl2
  have HX := Lib.hid hx
  have HY := Lib.hid hy
  obtain ⟨n, hn⟩ : ∃ n, xs.length = n := ⟨_, rfl⟩
  obtain ⟨m, hm⟩ : ∃ m, ys.length = m := ⟨_, rfl⟩
  have HN := Lib.hid hn
  have HM := Lib.hid hm
  rw [hn] at hl ⊢
  rw [hm] at hl2 ⊢
  clear hx hy hn hm
  by_cases hnm : n = m
  case neg =>
    have HV := Lib.hid (decide_eq_false (show ¬ xs = ys by intro e; rw [e, HM.out] at HN; exact hnm HN.out.symm))
    have hne : ((n : Int) != (m : Int)) = true := by simp; omega
    clear hnm
    go_enter Tryd.func16, Tryd.ntmps16
    go_wp2_with fail
    go_ret
    exact ⟨ret_bool HV.out.symm, Below.refl _ _⟩
  subst hnm
  go_enter Tryd.func16, Tryd.ntmps16
  go_wp2_with fail
  go_loopw [5] (fun i wr => ∃ k : Nat, k ≤ n ∧ i = .int .i64 k ∧ Hid (xs.take k = ys.take k) ∧ Hid (Below w.heap.size w wr)) (fun i _ => n - (intOf i).toNat)
  case atStart => exact ⟨0, by omega, rfl, Lib.hid rfl, Lib.hid (Below.refl _ _)⟩
  case round =>
    obtain ⟨k, hk, rfl, HE, HB⟩ := hrel
    by_cases hlt : k < n
    · obtain ⟨x, hx⟩ := at_some (show k < xs.length by rw [HN.out]; exact hlt)
      obtain ⟨y, hy⟩ := at_some (show k < ys.length by rw [HM.out]; exact hlt)
      obtain ⟨b, off, rfl, hblt, e0⟩ := (HX.out.below HB.out).at_ hx
      obtain ⟨b', off', rfl, hblt', e1⟩ := (HY.out.below HB.out).at_ hy
      have hi1 : (0 : Int) ≤ (k : Int) := by omega
      have hi2 : (k : Int) < (n : Int) := by omega
      by_cases hxy : x = y
      · subst hxy
        have HT := Lib.hid (take_next hx hy HE.out)
        have hv : (x != x) = false := by simp
        clear hx hy HE
        go_wp2_with fail
        go_quiet (fail)
        go_wp2_with fail
        go_roundw
        case rel => exact ⟨k + 1, by omega, by go_num, HT, Lib.hid (by first | exact HB.out | exact HB.out.drew | exact below_drewN HB.out _)⟩
        case measure => simp [intOf]; omega
      · have HV := Lib.hid (decide_eq_false (show ¬ xs = ys by intro e; rw [e, hy] at hx; injection hx with hx; exact hxy hx.symm))
        have hv : (x != y) = true := by simpa using hxy
        clear hx hy HE hxy
        go_wp2_with fail
        go_quiet (fail)
        go_wp2_with fail
        go_ret
        exact ⟨ret_bool HV.out.symm, by first | exact HB.out | exact HB.out.drew | exact below_drewN HB.out _⟩
    · obtain rfl : k = n := by omega
      have HV := Lib.hid (decide_eq_true (take_eq HN.out HM.out HE.out))
      clear HE
      go_wp2_with fail
      go_ret
      exact ⟨ret_bool HV.out.symm, HB.out⟩
end Go.Proofs.YtcpfjlbicofkeaaDoor

namespace Go.Proofs.YtcpfjlbicofkeaaDoor
open Go.Joins Go.ChangeShapes Go.WideShapes Go.ChangeAt Go.RowKit Go.Deep
set_option linter.unusedVariables false
set_option linter.unusedSimpArgs false

theorem infoInt2 : (Tryd.prog.info? 3).map (fun i => (i.zero, i.size, i.bytes)) = some (some (.int .i64 0), 1, 8) := by kernel_rfl
def zV (zs : List Int) : List Value := zs.map fun z => Value.int .i64 z
theorem zV_at {zs : List Int} {k : Nat} {z : Int} (h : zs[k]? = some z) : (zV zs)[k]? = some (.int .i64 z) := by unfold zV; rw [List.getElem?_map, h]; rfl
theorem zV_len (zs : List Int) : (zV zs).length = zs.length := by simp [zV]
theorem IntL.of_own {w : World} {lo g c : Nat} {zs : List Int} (h : w.ownsRow lo 3 1 (.slice (some ⟨g, 0, none⟩) zs.length c) zs.length (zV zs)) : IntL w (some ⟨g, 0, none⟩) zs := fun h0 => by
  refine ⟨g, 0, rfl, (World.ownsRow.lt h g rfl).2, fun k z hz => ?_⟩
  rw [Nat.zero_add, World.ownsRow.cellAt h k (by have := (List.getElem?_eq_some_iff.1 hz).1; omega)]
  exact zV_at hz
theorem list_is {α : Type} {L M : List α} {n : Nat} (hl : L.length = n) (hm : M.length = n) (h : ∀ i u, i < n → M[i]? = some u → L[i]? = some u) : L = M := by
  refine List.ext_getElem? fun i => ?_
  rcases Nat.lt_or_ge i n with hi | hi
  · rw [h i M[i] hi (List.getElem?_eq_getElem (by omega)), List.getElem?_eq_getElem (by omega)]
  · rw [List.getElem?_eq_none (by omega), List.getElem?_eq_none (by omega)]
/-- A copy in a row of the call's own. -/
def ToZX (zs : List Int) (w : World) (e : Ending) (w' : World) : Prop :=
  ∃ g, e = .returned (.slice (some ⟨g, 0, none⟩) zs.length zs.length) ∧ w'.ownsRow w.heap.size 3 1 (.slice (some ⟨g, 0, none⟩) zs.length zs.length) zs.length (zV zs) ∧ Below w.heap.size w w'
set_option maxRecDepth 100000 in
set_option maxHeartbeats 2000000 in
theorem toIntS_any (A : Option Addr) (c : Nat) (zs : List Int) (w : World) (hx : IntL w A zs) (hl : zs.length ≤ 1048576) :
    Calls Tryd.prog 8 #[.slice A zs.length c] w (ToZX zs w) := by
  obtain ⟨n, hn⟩ : ∃ n, zs.length = n := ⟨_, rfl⟩
  have HN := Lib.hid hn
  have HX := Lib.hid hx
  unfold ToZX
  rw [hn] at hl ⊢
  clear hx hn
  obtain ⟨i0, hi, hz0, hz1, hz2⟩ := info_parts infoInt2
  have HZ2 := Lib.hid hz2
  clear hz2
  go_enter Tryd.func8, Tryd.ntmps8
  go_wp2_with (at_make; refine wpList_make_full _ rfl _ _ 26 rfl w.heap.size 3 i0 (.int .i64 0) 1 Tryd.underlying26 hi hz0 hz1 .i64 .i64 _ _ n rfl rfl rfl rfl (by rw [HZ2.out]; omega) (by unfold maxLen; omega) (Nat.le_refl _) ?_; rintro w1 hown hgrow)
  have hB1 : Below w.heap.size w w1 := grown_below hgrow
  have HO := Lib.hid hown
  clear hown hgrow hi hz0 hz1
  go_loopw [4] (fun i wr => ∃ (k : Nat) (L : List Value), k ≤ n ∧ i = .int .i64 k ∧ Hid (wr.ownsRow w.heap.size 3 1 (.slice (some ⟨w.heap.size, 0, none⟩) n n) n L) ∧ Hid (∀ i z, i < k → zs[i]? = some z → L[i]? = some (.int .i64 z)) ∧ Hid (Below w.heap.size w wr)) (fun i _ => n - (intOf i).toNat)
  case atStart => exact ⟨0, _, by omega, rfl, HO, Lib.hid (fun i z h => absurd h (by omega)), Lib.hid hB1⟩
  case round =>
    obtain ⟨k, L, hk, rfl, HO, HL, HB⟩ := hrel
    by_cases hlt : k < n
    · obtain ⟨z, hz⟩ := at_some (show k < zs.length by rw [HN.out]; exact hlt)
      obtain ⟨b, off, rfl, hblt, e0⟩ := HX.out.at_ hz
      replace e0 := (HB.out.cell (p := ⟨b, _, none⟩) hblt).trans e0
      have hi1 : (0 : Int) ≤ (k : Int) := by omega
      have hi2 : (k : Int) < (n : Int) := by omega
      have hLl : L.length = n * 1 := HO.out.1
      obtain ⟨u0, d0⟩ : ∃ u, wr.cell? ⟨w.heap.size, k, none⟩ = some u := ⟨_, (HO.out.cellAt k (by omega)).trans (List.getElem?_eq_getElem (show k < L.length by omega))⟩
      have f0 := HO.out.frozenAt k
      have HZ := Lib.hid hz
      have HLL := Lib.hid hLl
      clear hz hLl
      go_wp2_with fail
      obtain ⟨s1, q1⟩ := HO.out.stored k (.int .i64 z)
      go_roundw
      case rel =>
        refine ⟨k + 1, _, by omega, by go_num, Lib.hid s1, Lib.hid (fun i y hi hy => ?_), Lib.hid (HB.out.setCell (Nat.le_refl _) _)⟩
        by_cases hik : i = k
        · subst hik
          have e := HZ.out
          rw [hy] at e
          injection e with e
          subst e
          rw [List.getElem?_set_self (by have := HLL.out; omega)]
        · rw [List.getElem?_set_ne (by omega)]
          exact HL.out i y (by omega) hy
      case measure => simp [intOf]; omega
    · obtain rfl : k = n := by omega
      go_wp2_with fail
      go_ret
      have e : L = zV zs := list_is (n := k) (by have := HO.out.1; omega) (by rw [zV_len, HN.out]) (fun i u hi hu => by
        obtain ⟨z, hz⟩ := at_some (show i < zs.length by rw [HN.out]; exact hi)
        rw [zV_at hz] at hu
        injection hu with hu
        rw [← hu]
        exact HL.out i z hi hz)
      rw [← e]
      exact ⟨w.heap.size, rfl, HO.out, HB.out⟩
theorem cellsI : Tryd.prog.cellsOf 3 = 1 := by kernel_rfl
set_option maxRecDepth 100000 in
theorem open_zs {H : Type} {enc : TypeId × Value → H} {W : World} {base b0 : Nat} {sp : Nat → Bool} {held : Bool} {r : Reach} {v : Value} {d : DataW H} {p : List MemPlace}
    (hv : Value.okWide Tryd.prog W r b0 26 v) (h : DataW.Trod enc Tryd.prog W base sp held 26 v d p) (hlt : ∀ x ∈ p, x.block < W.heap.size) :
    ∃ (A : Option Addr) (zs : List Int) (cap : Nat), v = .slice A zs.length cap ∧ zs.length ≤ maxLen ∧ IntL W A zs := by
  obtain ⟨A, len, cap, rfl⟩ := okWide_slice Tryd.underlying26 hv
  obtain ⟨fuel, hf⟩ := h
  rcases open_ints Tryd.underlying26 Tryd.underlying3 cellsI hf with ⟨hcs, hx⟩ | ⟨a, len', cap', zs, hcs, _, hl, hm, hz, hx, hcell, hwz⟩
  · simp [Value.cells] at hcs
    obtain ⟨rfl, rfl, rfl⟩ := hcs
    exact ⟨none, [], 0, rfl, by decide, fun h => by simp at h⟩
  · simp [Value.cells] at hcs
    obtain ⟨rfl, rfl, rfl⟩ := hcs
    have hz' : len ≤ zs.length := by
      split at hz <;> omega
    have hlen : (zs.take len).length = len := by rw [List.length_take]; omega
    refine ⟨some a, zs.take len, cap, by rw [hlen], by omega, fun h0 => ?_⟩
    rw [hlen] at h0
    obtain ⟨b, off, rfl, hc⟩ := ints_at hcell (by omega)
    simp only [Prod.mk.injEq] at hx
    refine ⟨b, off, rfl, hlt (.cell b off) (by rw [hx.2]; exact MemPlace.mem_row.2 ⟨0, by omega, by simp⟩), fun k z hk => ?_⟩
    have hkl : k < len := by have := (List.getElem?_eq_some_iff.1 hk).1; omega
    rw [List.getElem?_take, if_pos hkl] at hk
    rw [hc k (by omega), List.getD_eq_getElem?_getD, hk]
    rfl
end Go.Proofs.YtcpfjlbicofkeaaDoor
