/- The laws' own marks: written into slots and values, and found there again. -/
import Derived.Test.YtkofajjlkhamkaaMrk1
import Derived.Test.YtkofajjlkhamkaaSto4
namespace Go.Proofs.Ytkofajjlkhamkaa
open Go.Joins Go.ChangeShapes Go.WideShapes Go.ChangeAt Go.RowKit Go.Deep
set_option linter.unusedVariables false
set_option linter.unusedSimpArgs false

def markSl : List Sl → Nat → List Sl
  | [], _ => []
  | _ :: xs, k => ⟨k, (k + 1 : Nat)⟩ :: markSl xs (k + 2)
def markVa : List Va → Nat → List Va
  | [], _ => []
  | _ :: xs, k => ⟨k, (k + 1 : Nat), markB (k + 2)⟩ :: markVa xs (k + 3)
theorem markSl_len : ∀ (xs : List Sl) (k : Nat), (markSl xs k).length = xs.length
  | [], _ => rfl
  | _ :: xs, k => by simp [markSl, markSl_len xs (k + 2)]
theorem markVa_len : ∀ (xs : List Va) (k : Nat), (markVa xs k).length = xs.length
  | [], _ => rfl
  | _ :: xs, k => by simp [markVa, markVa_len xs (k + 3)]
theorem markSl_at : ∀ (xs : List Sl) (k j : Nat), j < xs.length → (markSl xs k)[j]? = some ⟨(k + 2 * j : Nat), (k + 2 * j + 1 : Nat)⟩
  | [], _, _, h => by simp at h
  | _ :: xs, k, 0, _ => rfl
  | _ :: xs, k, j + 1, h => by
    have := markSl_at xs (k + 2) j (by simpa using h)
    show (markSl xs (k + 2))[j]? = _
    rw [this, show k + 2 + 2 * j = k + 2 * (j + 1) by omega]
theorem markVa_at : ∀ (xs : List Va) (k j : Nat), j < xs.length → (markVa xs k)[j]? = some ⟨(k + 3 * j : Nat), (k + 3 * j + 1 : Nat), markB (k + 3 * j + 2)⟩
  | [], _, _, h => by simp at h
  | _ :: xs, k, 0, _ => rfl
  | _ :: xs, k, j + 1, h => by
    have := markVa_at xs (k + 3) j (by simpa using h)
    show (markVa xs (k + 3))[j]? = _
    rw [this, show k + 3 + 3 * j = k + 3 * (j + 1) by omega]
theorem grown_trans {a b c : World} {row : Option Nat} (h : a.grownBy b row) (k : b.grownBy c row) : a.grownBy c row :=
  ⟨k.os.trans h.os, k.tape.trans h.tape, k.output.trans h.output, Nat.le_trans h.size k.size, fun i hi hr => (k.block i (Nat.lt_of_lt_of_le hi h.size) hr).trans (h.block i hi hr)⟩
theorem grown_set (w : World) {p : Addr} {g : Nat} (hp : p.block = g) (u : Value) : w.grownBy (w.setCell p u) (some g) :=
  ⟨rfl, rfl, rfl, by simp [World.setCell], fun k _ hk => heap_setCell_other w p k u (fun e => hk (by rw [e, hp]))⟩
theorem grown_of_below {w w' : World} (h : Below w.heap.size w w') (row : Option Nat) : w.grownBy w' row := ⟨h.os, h.tape, h.output, h.size, fun k hk _ => h.block k hk⟩

def MarkX (g base : Nat) (e : TypeId) (sz n c : Nat) (L : List Value) (r : Int) (w : World) (x : Ending) (w' : World) : Prop :=
  x = .returned (.int .i64 r) ∧ w'.ownsRow base e sz (.slice (some ⟨g, 0, none⟩) n c) n L ∧ w.grownBy w' (some g)

set_option maxHeartbeats 1000000 in
theorem markSlots_any (g c base k n : Nat) (xs : List Sl) (w : World) (ho : w.ownsRow base 80 2 (.slice (some ⟨g, 0, none⟩) n c) n (xs.flatMap Sl.cells)) (hn : xs.length = n) (hl : n ≤ 1048576) (hk : k ≤ 50000000) :
    Calls Try.prog 42 #[.slice (some ⟨g, 0, none⟩) n c, .int .i64 k] w (MarkX g base 80 2 n c ((markSl xs k).flatMap Sl.cells) (k + 2 * n : Nat) w) := by
  have HN := Lib.hid hn
  have HO := Lib.hid ho
  clear hn ho
  go_enter Try.func42, Try.ntmps42
  go_wp2_with fail
  go_loopw [1, 5] (fun m i wr => ∃ (j : Nat) (L : List Value), j ≤ n ∧ i = .int .i64 j ∧ m = .int .i64 (k + 2 * j : Nat) ∧ wr.ownsRow base 80 2 (.slice (some ⟨g, 0, none⟩) n c) n L ∧ L.take (j * 2) = ((markSl xs k).take j).flatMap Sl.cells ∧ w.grownBy wr (some g)) (fun _ i _ => n - (intOf i).toNat)
  case atStart => exact ⟨0, _, by omega, rfl, rfl, HO.out, rfl, World.grownBy.refl w _⟩
  case round =>
    obtain ⟨j, L, hj, rfl, rfl, hown, htk, hgr⟩ := hrel
    have HT := Lib.hid htk
    have HO2 := Lib.hid hown
    have HG := Lib.hid hgr
    have hLl : L.length = n * 2 := hown.1
    clear htk hown hgr
    by_cases hlt : j < n
    · have hat := markSl_at xs k j (by rw [HN.out]; exact hlt)
      obtain ⟨u0, d0⟩ : ∃ u, wr.cell? ⟨g, j * 2, none⟩ = some u := ⟨_, (HO2.out.cellAt (j * 2) (by omega)).trans (List.getElem?_eq_getElem (show j * 2 < L.length by omega))⟩
      obtain ⟨u1, d1⟩ : ∃ u, wr.cell? ⟨g, j * 2 + 1, none⟩ = some u := ⟨_, (HO2.out.cellAt (j * 2 + 1) (by omega)).trans (List.getElem?_eq_getElem (show j * 2 + 1 < L.length by omega))⟩
      have f0 := HO2.out.frozenAt (j * 2)
      have f1 := HO2.out.frozenAt (j * 2 + 1)
      have HAT := Lib.hid hat
      have HLl := Lib.hid hLl
      obtain ⟨q, hq⟩ : ∃ q : Nat, q = k + 2 * j := ⟨_, rfl⟩
      have HQ := Lib.hid hq
      have hqb : q ≤ 60000000 := by omega
      rw [← hq]
      clear hat hLl hq
      go_wp2_with fail
      obtain ⟨s1, g1⟩ := HO2.out.stored (j * 2) (.int .i64 q)
      obtain ⟨s2, g2⟩ := s1.stored (j * 2 + 1) (.int .i64 (q + 1 : Nat))
      go_roundw
      case rel => exact ⟨j + 1, _, by omega, by go_num, by rw [HQ.out]; go_num, s2, take_two (x := ⟨(q : Int), (q + 1 : Nat)⟩) (by have := HLl.out; omega) HT.out (by rw [HQ.out]; exact HAT.out), grown_trans (grown_trans HG.out g1) g2⟩
      case measure => simp [intOf]; omega
    · obtain rfl : j = n := by omega
      have e : L = (markSl xs k).flatMap Sl.cells := by
        have := HT.out
        rw [List.take_of_length_le (by rw [hLl]; exact Nat.le_refl _), List.take_of_length_le (by rw [markSl_len, HN.out]; exact Nat.le_refl _)] at this
        exact this
      have HO3 := HO2.out
      rw [e] at HO3
      have HO4 := Lib.hid HO3
      clear HO3 e hLl
      go_wp2_with fail
      go_ret
      exact ⟨rfl, HO4.out, HG.out⟩

set_option maxHeartbeats 2000000 in
theorem markVals_any (g c base k n : Nat) (xs : List Va) (w : World) (ho : w.ownsRow base 82 3 (.slice (some ⟨g, 0, none⟩) n c) n (xs.flatMap Va.cells)) (hn : xs.length = n) (hl : n ≤ 1048576) (hk : k ≤ 50000000) (hk0 : 0 < k) :
    Calls Try.prog 43 #[.slice (some ⟨g, 0, none⟩) n c, .int .i64 k] w (MarkX g base 82 3 n c ((markVa xs k).flatMap Va.cells) (k + 3 * n : Nat) w) := by
  have HN := Lib.hid hn
  have HO := Lib.hid ho
  have HGB := Lib.hid (ho.lt g rfl).2
  clear hn ho
  go_enter Try.func43, Try.ntmps43
  go_wp2_with fail
  go_loopw [1, 5] (fun m i wr => ∃ (j : Nat) (L : List Value), j ≤ n ∧ i = .int .i64 j ∧ m = .int .i64 (k + 3 * j : Nat) ∧ wr.ownsRow base 82 3 (.slice (some ⟨g, 0, none⟩) n c) n L ∧ L.take (j * 3) = ((markVa xs k).take j).flatMap Va.cells ∧ w.grownBy wr (some g)) (fun _ i _ => n - (intOf i).toNat)
  case atStart => exact ⟨0, _, by omega, rfl, rfl, HO.out, rfl, World.grownBy.refl w _⟩
  case round =>
    obtain ⟨j, L, hj, rfl, rfl, hown, htk, hgr⟩ := hrel
    have HT := Lib.hid htk
    have HO2 := Lib.hid hown
    have HG := Lib.hid hgr
    have hLl : L.length = n * 3 := hown.1
    clear htk hown hgr
    by_cases hlt : j < n
    · have hat := markVa_at xs k j (by rw [HN.out]; exact hlt)
      obtain ⟨u0, d0⟩ : ∃ u, wr.cell? ⟨g, j * 3, none⟩ = some u := ⟨_, (HO2.out.cellAt (j * 3) (by omega)).trans (List.getElem?_eq_getElem (show j * 3 < L.length by omega))⟩
      obtain ⟨u1, d1⟩ : ∃ u, wr.cell? ⟨g, j * 3 + 1, none⟩ = some u := ⟨_, (HO2.out.cellAt (j * 3 + 1) (by omega)).trans (List.getElem?_eq_getElem (show j * 3 + 1 < L.length by omega))⟩
      have f0 := HO2.out.frozenAt (j * 3)
      have f1 := HO2.out.frozenAt (j * 3 + 1)
      have HAT := Lib.hid hat
      have HLl := Lib.hid hLl
      obtain ⟨q, hq⟩ : ∃ q : Nat, q = k + 3 * j := ⟨_, rfl⟩
      have HQ := Lib.hid hq
      have hqb : q ≤ 60000000 := by omega
      have hq0 : 0 < q := by omega
      rw [← hq]
      clear hat hLl hq
      go_wp2_with fail
      obtain ⟨s1, g1⟩ := HO2.out.stored (j * 3) (.int .i64 q)
      obtain ⟨s2, g2⟩ := s1.stored (j * 3 + 1) (.int .i64 (q + 1 : Nat))
      have HS2 := Lib.hid s2
      have HG2 := Lib.hid (grown_trans (grown_trans HG.out g1) g2)
      clear s1 s2 g1 g2
      refine (markText_any (q + 2) _ (by omega) (by omega)).mono ?_
      rintro e w2 ⟨rfl, hb⟩
      have hO3 := ownsRow_below HS2.out hb
      obtain ⟨u2, d2⟩ : ∃ u, w2.cell? ⟨g, j * 3 + 2, none⟩ = some u := ⟨_, (hO3.cellAt (j * 3 + 2) (by omega)).trans (List.getElem?_eq_getElem (show j * 3 + 2 < _ by simp; have := HLl.out; omega))⟩
      have f2 := hO3.frozenAt (j * 3 + 2)
      have HO3 := Lib.hid hO3
      have HG3 := Lib.hid (grown_trans HG2.out (grown_of_below hb _))
      clear hO3 hb d0 d1 f0 f1
      go_wp2_with fail
      obtain ⟨s3, g3⟩ := HO3.out.stored (j * 3 + 2) (.string (markB (q + 2)))
      go_roundw
      case rel => exact ⟨j + 1, _, by omega, by go_num, by rw [HQ.out]; go_num, s3, take_three (x := ⟨(q : Int), (q + 1 : Nat), markB (q + 2)⟩) (by have := HLl.out; omega) HT.out (by rw [HQ.out]; exact HAT.out), grown_trans HG3.out g3⟩
      case measure => simp [intOf]; omega
    · obtain rfl : j = n := by omega
      have e : L = (markVa xs k).flatMap Va.cells := by
        have := HT.out
        rw [List.take_of_length_le (by rw [hLl]; exact Nat.le_refl _), List.take_of_length_le (by rw [markVa_len, HN.out]; exact Nat.le_refl _)] at this
        exact this
      have HO3 := HO2.out
      rw [e] at HO3
      have HO4 := Lib.hid HO3
      clear HO3 e hLl
      go_wp2_with fail
      go_ret
      exact ⟨rfl, HO4.out, HG.out⟩
end Go.Proofs.Ytkofajjlkhamkaa
