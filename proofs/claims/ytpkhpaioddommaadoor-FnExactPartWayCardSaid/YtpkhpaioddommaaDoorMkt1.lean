/- The laws' own marks in Props and numbers: written, and found again. -/
import Derived.Test.YtpkhpaioddommaaDoorPrp2
import Derived.Test.YtpkhpaioddommaaDoorIntM
import Derived.Lib.Strings
import Derived.Lib.SlBytesConst
import Derived.Deep.RegionHeld3
namespace Go.Proofs.YtpkhpaioddommaaDoor
open Go.Joins Go.ChangeShapes Go.WideShapes Go.ChangeAt Go.RowKit Go.Deep
set_option linter.unusedVariables false
set_option linter.unusedSimpArgs false

def dgt (n : Nat) : UInt8 := UInt8.ofNat (48 + n)
/-- The digits of a number ahead of a text. -/
def digsB (k : Nat) (s : ByteArray) : ByteArray := if k = 0 then s else digsB (k / 10) (⟨#[dgt (k % 10)]⟩ ++ s)
termination_by k
decreasing_by omega
def markB (k : Nat) : ByteArray := ⟨#[109]⟩ ++ digsB k ⟨#[]⟩
theorem digsB_step {k : Nat} (h : k ≠ 0) (s : ByteArray) : digsB k s = digsB (k / 10) (⟨#[dgt (k % 10)]⟩ ++ s) := by rw [digsB, if_neg h]
theorem digsB_zero (s : ByteArray) : digsB 0 s = s := by rw [digsB, if_pos rfl]

set_option maxRecDepth 100000 in
set_option maxHeartbeats 1000000 in
theorem markText_any (k : Nat) (w : World) (h0 : 0 < k) (h1 : k ≤ 100000000) :
    Calls Tryd.prog 96 #[.int .i64 k] w fun e w' => e = .returned (.string (markB k)) ∧ Below w.heap.size w w' := by
  have hd : decide ((k : Int) ≤ 0) = false := by simp; omega
  go_enter Tryd.func96, Tryd.ntmps96
  go_wp2_with fail
  go_loopw [0, 3] (fun i o w2 => ∃ (j : Nat) (s : ByteArray), i = .int .i64 j ∧ o = .string s ∧ j ≤ 100000000 ∧ s.size ≤ 9 ∧ Hid (j * 10 ^ s.size ≤ 100000000) ∧ Below w.heap.size w w2 ∧ Hid (digsB k ⟨#[]⟩ = digsB j s)) (fun i _ _ => (intOf i).toNat)
  case atStart => exact ⟨k, ⟨#[]⟩, rfl, rfl, h1, by decide, Lib.hid (by show k * 10 ^ 0 ≤ _; omega), by go_grown, Lib.hid rfl⟩
  case round =>
    obtain ⟨j, s, rfl, rfl, hj, hsz, HPW, hB, HR⟩ := hrel
    by_cases hj0 : j = 0
    · have HV := Lib.hid (show markB k = ⟨#[109]⟩ ++ s by unfold markB; rw [HR.out, hj0, digsB_zero])
      have hdj : decide (0 < j) = false := by simp; omega
      clear hj0
      go_wp2_with fail
      go_ret
      exact ⟨by rw [HV.out]; rfl, hB⟩
    · have hp : 0 < (j : Int) := by omega
      have hs8 : s.size ≤ 8 := by
        rcases Nat.lt_or_ge 8 s.size with h | h
        · have h9 : 10 ^ 9 ≤ 10 ^ s.size := Nat.pow_le_pow_right (by omega) (by omega)
          have := HPW.out
          have h2 : 1 * 10 ^ s.size ≤ j * 10 ^ s.size := Nat.mul_le_mul_right _ (by omega)
          omega
        · exact h
      have HPW2 := Lib.hid (show j / 10 * 10 ^ (1 + s.size) ≤ 100000000 by
        have := HPW.out
        have h2 : j / 10 * 10 ≤ j := Nat.div_mul_le_self _ _
        have h3 : j / 10 * 10 * 10 ^ s.size ≤ j * 10 ^ s.size := Nat.mul_le_mul_right _ h2
        rw [Nat.pow_add, Nat.pow_one, ← Nat.mul_assoc]
        omega)
      have hm0 : 0 ≤ (j : Int) % 10 := by omega
      have hm1 : (j : Int) % 10 ≤ 9 := by omega
      have hq0 : 0 ≤ (j : Int) / 10 := by omega
      have hu : IntKind.u8.wrap (48 + (j : Int) % 10) = 48 + (j : Int) % 10 := by unfold IntKind.wrap; simp [IntKind.bits, IntKind.signed]; omega
      have hdt : (dgt (j % 10)).toNat = 48 + j % 10 := by unfold dgt; rw [UInt8.toNat_ofNat']; omega
      have kc : (Go.convert 22 9 (.slice (some ⟨wr.heap.size, 0, none⟩) 1 1)).run Tryd.prog (wr.alloc (.cells #[.int .u8 (48 + (j : Int) % 10)] 5)) = Result.ok (.string ⟨#[dgt (j % 10)]⟩) (wr.alloc (.cells #[.int .u8 (48 + (j : Int) % 10)] 5)) := by
        refine run_convert_bytes_back (P := Tryd.prog) (wr.alloc (.cells #[.int .u8 (48 + (j : Int) % 10)] 5)) 22 9 5 ⟨wr.heap.size, 0, none⟩ 1 [dgt (j % 10)] Tryd.underlying22 Tryd.underlying5 Tryd.underlying9 ?_
        intro i hi
        simp at hi
        subst hi
        have := cell_of_row (wr.alloc (.cells #[.int .u8 (48 + (j : Int) % 10)] 5)) wr.heap.size 0 _ _ _ (heap_alloc_new wr _)
        simp only [List.getElem_cons_zero, hdt]
        exact this
      have HR2 := Lib.hid (HR.out.trans (digsB_step hj0 s))
      clear hdt
      go_wp2_with fail
      go_roundw
      case rel => exact ⟨j / 10, ⟨#[dgt (j % 10)]⟩ ++ s, by first | go_num | rfl, rfl, by omega, by rw [ByteArray.size_append]; show 1 + s.size ≤ 9; omega, Lib.hid (by rw [ByteArray.size_append]; exact HPW2.out), hB.alloc hB.size _, HR2⟩
      case measure => simp [intOf]; omega
theorem grown_trans {a b c : World} {row : Option Nat} (h : a.grownBy b row) (k : b.grownBy c row) : a.grownBy c row :=
  ⟨k.os.trans h.os, k.tape.trans h.tape, k.output.trans h.output, Nat.le_trans h.size k.size, fun i hi hr => (k.block i (Nat.lt_of_lt_of_le hi h.size) hr).trans (h.block i hi hr)⟩
theorem grown_set (w : World) {p : Addr} {g : Nat} (hp : p.block = g) (u : Value) : w.grownBy (w.setCell p u) (some g) :=
  ⟨rfl, rfl, rfl, by simp [World.setCell], fun k _ hk => heap_setCell_other w p k u (fun e => hk (by rw [e, hp]))⟩
theorem grown_of_below {w w' : World} (h : Below w.heap.size w w') (row : Option Nat) : w.grownBy w' row := ⟨h.os, h.tape, h.output, h.size, fun k hk _ => h.block k hk⟩
def markPr : Nat → Nat → List Pr
  | 0, _ => []
  | n + 1, k => ⟨k, ⟨(k + 1 : Nat), (k + 2 : Nat), markB (k + 3)⟩⟩ :: markPr n (k + 4)
theorem markPr_len : ∀ (n k : Nat), (markPr n k).length = n
  | 0, _ => rfl
  | n + 1, k => by simp [markPr, markPr_len n (k + 4)]
theorem markPr_at : ∀ (n k j : Nat), j < n → (markPr n k)[j]? = some ⟨(k + 4 * j : Nat), ⟨(k + 4 * j + 1 : Nat), (k + 4 * j + 2 : Nat), markB (k + 4 * j + 3)⟩⟩
  | 0, _, _, h => by omega
  | n + 1, k, 0, _ => rfl
  | n + 1, k, j + 1, h => by
    have := markPr_at n (k + 4) j (by omega)
    show (markPr n (k + 4))[j]? = _
    rw [this, show k + 4 + 4 * j = k + 4 * (j + 1) by omega]
def MarkX (g base : Nat) (e : TypeId) (sz n c : Nat) (L : List Value) (r : Int) (w : World) (x : Ending) (w' : World) : Prop :=
  x = .returned (.int .i64 r) ∧ w'.ownsRow base e sz (.slice (some ⟨g, 0, none⟩) n c) n L ∧ w.grownBy w' (some g)
set_option maxHeartbeats 2000000 in
theorem markProps_any (g c base k n : Nat) (L0 : List Value) (w : World) (ho : w.ownsRow base 95 4 (.slice (some ⟨g, 0, none⟩) n c) n L0) (hl : n ≤ 1048576) (hk : k ≤ 50000000) (hk0 : 0 < k) :
    Calls Tryd.prog 74 #[.slice (some ⟨g, 0, none⟩) n c, .int .i64 k] w (MarkX g base 95 4 n c ((markPr n k).flatMap Pr.cells) (k + 4 * n : Nat) w) := by
  have HO := Lib.hid ho
  have HGB := Lib.hid (ho.lt g rfl).2
  clear ho
  go_enter Tryd.func74, Tryd.ntmps74
  go_wp2_with fail
  go_loopw [1, 5] (fun m i wr => ∃ (j : Nat) (L : List Value), j ≤ n ∧ i = .int .i64 j ∧ m = .int .i64 (k + 4 * j : Nat) ∧ wr.ownsRow base 95 4 (.slice (some ⟨g, 0, none⟩) n c) n L ∧ L.take (j * 4) = ((markPr n k).take j).flatMap Pr.cells ∧ w.grownBy wr (some g)) (fun _ i _ => n - (intOf i).toNat)
  case atStart => exact ⟨0, _, by omega, rfl, rfl, HO.out, rfl, World.grownBy.refl w _⟩
  case round =>
    obtain ⟨j, L, hj, rfl, rfl, hown, htk, hgr⟩ := hrel
    have HT := Lib.hid htk
    have HO2 := Lib.hid hown
    have HG := Lib.hid hgr
    have hLl : L.length = n * 4 := hown.1
    clear htk hown hgr
    by_cases hlt : j < n
    · have hat := markPr_at n k j hlt
      obtain ⟨u0, d0⟩ : ∃ u, wr.cell? ⟨g, j * 4, none⟩ = some u := ⟨_, (HO2.out.cellAt (j * 4) (by omega)).trans (List.getElem?_eq_getElem (show j * 4 < L.length by omega))⟩
      have f0 := HO2.out.frozenAt (j * 4)
      obtain ⟨u1, d1⟩ : ∃ u, wr.cell? ⟨g, j * 4 + 1, none⟩ = some u := ⟨_, (HO2.out.cellAt (j * 4 + 1) (by omega)).trans (List.getElem?_eq_getElem (show j * 4 + 1 < L.length by omega))⟩
      have f1 := HO2.out.frozenAt (j * 4 + 1)
      obtain ⟨u2, d2⟩ : ∃ u, wr.cell? ⟨g, j * 4 + 2, none⟩ = some u := ⟨_, (HO2.out.cellAt (j * 4 + 2) (by omega)).trans (List.getElem?_eq_getElem (show j * 4 + 2 < L.length by omega))⟩
      have f2 := HO2.out.frozenAt (j * 4 + 2)
      have HAT := Lib.hid hat
      have HLl := Lib.hid hLl
      obtain ⟨q, hq⟩ : ∃ q : Nat, q = k + 4 * j := ⟨_, rfl⟩
      have HQ := Lib.hid hq
      have hqb : q ≤ 60000000 := by omega
      have hq0 : 0 < q := by omega
      rw [← hq]
      clear hat hLl hq
      go_wp2_with fail
      obtain ⟨s1, g1⟩ := HO2.out.stored (j * 4) (.int .i64 q)
      obtain ⟨s2, g2⟩ := s1.stored (j * 4 + 1) (.int .i64 (q + 1 : Nat))
      obtain ⟨s3, g3⟩ := s2.stored (j * 4 + 2) (.int .i64 (q + 2 : Nat))
      have HS2 := Lib.hid s3
      have HG2 := Lib.hid (grown_trans (grown_trans (grown_trans HG.out g1) g2) g3)
      clear s1 s2 s3 g1 g2 g3
      refine (markText_any (q + 3) _ (by omega) (by omega)).mono ?_
      rintro e w2 ⟨rfl, hb⟩
      have hO3 := ownsRow_below HS2.out hb
      obtain ⟨u3, d3⟩ : ∃ u, w2.cell? ⟨g, j * 4 + 3, none⟩ = some u := ⟨_, (hO3.cellAt (j * 4 + 3) (by omega)).trans (List.getElem?_eq_getElem (show j * 4 + 3 < _ by simp; have := HLl.out; omega))⟩
      have f3 := hO3.frozenAt (j * 4 + 3)
      have HO3 := Lib.hid hO3
      have HG3 := Lib.hid (grown_trans HG2.out (grown_of_below hb _))
      clear hO3 hb d0 d1 d2 f0 f1 f2
      go_wp2_with fail
      obtain ⟨s4, g4⟩ := HO3.out.stored (j * 4 + 3) (.string (markB (q + 3)))
      go_roundw
      case rel => exact ⟨j + 1, _, by omega, by go_num, by rw [HQ.out]; go_num, s4, take_Pr (by have := HLl.out; omega) HT.out (by rw [HQ.out]; exact HAT.out), grown_trans HG3.out g4⟩
      case measure => simp [intOf]; omega
    · obtain rfl : j = n := by omega
      have e : L = (markPr j k).flatMap Pr.cells := by
        have := HT.out
        rw [List.take_of_length_le (by rw [hLl]; exact Nat.le_refl _), List.take_of_length_le (by rw [markPr_len]; exact Nat.le_refl _)] at this
        exact this
      have HO3 := HO2.out
      rw [e] at HO3
      have HO4 := Lib.hid HO3
      clear HO3 e hLl
      go_wp2_with fail
      go_ret
      exact ⟨rfl, HO4.out, HG.out⟩
set_option maxHeartbeats 400000 in
theorem markProps_nil (A : Option Addr) (c : Nat) (k : Int) (w : World) : Calls Tryd.prog 74 #[.slice A 0 c, .int .i64 k] w fun e w' => e = .returned (.int .i64 k) ∧ w = w' := by
  go_enter Tryd.func74, Tryd.ntmps74
  go_wp2_with fail
  go_loop [1, 5] (fun m i => m = .int .i64 k ∧ i = .int .i64 0) (fun _ _ => 0)
  case atStart => exact ⟨rfl, rfl⟩
  case round =>
    obtain ⟨rfl, rfl⟩ := hrel
    go_wp2_with fail
    go_ret
    exact ⟨rfl, rfl⟩
set_option maxHeartbeats 2000000 in
theorem heldProps_any (A : Option Addr) (c k n : Nat) (w : World) (hx : PrL w A (markPr n k)) (hl : n ≤ 1048576) (hk : k ≤ 50000000) (hk0 : 0 < k) :
    Calls Tryd.prog 76 #[.slice A n c, .int .i64 k] w fun e w' => e = .returned (.int .i64 (k + 4 * n : Nat)) ∧ Below w.heap.size w w' := by
  have HX := Lib.hid hx
  clear hx
  go_enter Tryd.func76, Tryd.ntmps76
  go_wp2_with fail
  go_loopw [1, 5] (fun m i wr => ∃ j : Nat, j ≤ n ∧ i = .int .i64 j ∧ m = .int .i64 (k + 4 * j : Nat) ∧ Below w.heap.size w wr) (fun _ i _ => n - (intOf i).toNat)
  case atStart => exact ⟨0, by omega, rfl, rfl, by go_grown⟩
  case round =>
    obtain ⟨j, hj, rfl, rfl, hB⟩ := hrel
    by_cases hlt : j < n
    · obtain ⟨b, off, rfl, hblt, hcell⟩ := PrL.at_ (HX.out.below hB) (by rw [markPr_len]; omega)
      obtain ⟨c0, c1, c2, c3⟩ := hcell j _ (markPr_at n k j hlt)
      obtain ⟨q, hq⟩ : ∃ q : Nat, q = k + 4 * j := ⟨_, rfl⟩
      have HQ := Lib.hid hq
      have hqb : q ≤ 60000000 := by omega
      have hq0 : 0 < q := by omega
      dsimp only at c0 c1 c2 c3
      rw [← hq] at c0 c1 c2 c3 ⊢
      have hi1 : (0 : Int) ≤ (j : Int) := by omega
      have hi2 : (j : Int) < (n : Int) := by omega
      have K := Lib.hid (fun w => markText_any (q + 3) w (by omega) (by omega))
      clear hcell hq
      go_wp2_with fail
      go_region_held3 (fun w' => w'.cell? ⟨b, off + j * 4 + 3, none⟩ = some (.string (markB (q + 3)))) (go_keep) (first | (go_at_call 96; refine (K.out _).mono ?_; rintro e w' ⟨rfl, hb⟩; replace c3 := (hb.cell (p := ⟨b, off + j * 4 + 3, none⟩) hblt).trans c3; replace hB := more (W1 := _) (B := w.heap.size) (W0 := w) (by go_grown) (Nat.le_refl _) hb; clear hb))
      go_wp2_with fail
      go_roundw
      case rel => exact ⟨j + 1, by omega, by go_num, by rw [HQ.out]; go_num, hB⟩
      case measure => simp [intOf]; omega
    · obtain rfl : j = n := by omega
      go_wp2_with fail
      go_ret
      exact ⟨rfl, hB⟩
def markI : Nat → Nat → List Int
  | 0, _ => []
  | n + 1, k => (k : Int) :: markI n (k + 1)
theorem markI_len : ∀ (n k : Nat), (markI n k).length = n
  | 0, _ => rfl
  | n + 1, k => by simp [markI, markI_len n (k + 1)]
theorem markI_at : ∀ (n k j : Nat), j < n → (markI n k)[j]? = some ((k + j : Nat) : Int)
  | 0, _, _, h => by omega
  | n + 1, k, 0, _ => rfl
  | n + 1, k, j + 1, h => by
    have := markI_at n (k + 1) j (by omega)
    show (markI n (k + 1))[j]? = _
    rw [this, show k + 1 + j = k + (j + 1) by omega]
set_option maxHeartbeats 1000000 in
theorem markInts_any (g c base k n : Nat) (L0 : List Value) (w : World) (ho : w.ownsRow base 3 1 (.slice (some ⟨g, 0, none⟩) n c) n L0) (hl : n ≤ 1048576) (hk : k ≤ 50000000) :
    Calls Tryd.prog 42 #[.slice (some ⟨g, 0, none⟩) n c, .int .i64 k] w (MarkX g base 3 1 n c (zV (markI n k)) (k + n : Nat) w) := by
  have HO := Lib.hid ho
  clear ho
  go_enter Tryd.func42, Tryd.ntmps42
  go_wp2_with fail
  go_loopw [1, 5] (fun m i wr => ∃ (j : Nat) (L : List Value), j ≤ n ∧ i = .int .i64 j ∧ m = .int .i64 (k + j : Nat) ∧ wr.ownsRow base 3 1 (.slice (some ⟨g, 0, none⟩) n c) n L ∧ Hid (∀ i, i < j → L[i]? = some (.int .i64 (k + i : Nat))) ∧ w.grownBy wr (some g)) (fun _ i _ => n - (intOf i).toNat)
  case atStart => exact ⟨0, _, by omega, rfl, rfl, HO.out, Lib.hid (fun i h => absurd h (by omega)), World.grownBy.refl w _⟩
  case round =>
    obtain ⟨j, L, hj, rfl, rfl, hown, HL, hgr⟩ := hrel
    have HO2 := Lib.hid hown
    have HG := Lib.hid hgr
    have hLl : L.length = n * 1 := hown.1
    clear hown hgr
    by_cases hlt : j < n
    · have hi1 : (0 : Int) ≤ (j : Int) := by omega
      have hi2 : (j : Int) < (n : Int) := by omega
      obtain ⟨u0, d0⟩ : ∃ u, wr.cell? ⟨g, j, none⟩ = some u := ⟨_, (HO2.out.cellAt j (by omega)).trans (List.getElem?_eq_getElem (show j < L.length by omega))⟩
      have f0 := HO2.out.frozenAt j
      have HLl := Lib.hid hLl
      obtain ⟨q, hq⟩ : ∃ q : Nat, q = k + j := ⟨_, rfl⟩
      have HQ := Lib.hid hq
      have hqb : q ≤ 60000000 := by omega
      rw [← hq]
      clear hLl hq
      go_wp2_with fail
      obtain ⟨s1, g1⟩ := HO2.out.stored j (.int .i64 q)
      go_roundw
      case rel =>
        refine ⟨j + 1, _, by omega, by go_num, by rw [HQ.out]; go_num, s1, Lib.hid (fun i hi => ?_), grown_trans HG.out g1⟩
        by_cases hij : i = j
        · subst hij
          rw [List.getElem?_set_self (by have := HLl.out; omega), HQ.out]
        · rw [List.getElem?_set_ne (by omega)]
          exact HL.out i (by omega)
      case measure => simp [intOf]; omega
    · obtain rfl : j = n := by omega
      go_wp2_with fail
      go_ret
      have e : L = zV (markI j k) := list_is (n := j) (by omega) (by rw [zV_len, markI_len]) (fun i u hi hu => by
        rw [zV_at (markI_at j k i hi)] at hu
        injection hu with hu
        rw [← hu]
        exact HL.out i hi)
      rw [← e]
      exact ⟨rfl, HO2.out, HG.out⟩
set_option maxHeartbeats 400000 in
theorem markInts_nil (A : Option Addr) (c : Nat) (k : Int) (w : World) : Calls Tryd.prog 42 #[.slice A 0 c, .int .i64 k] w fun e w' => e = .returned (.int .i64 k) ∧ w = w' := by
  go_enter Tryd.func42, Tryd.ntmps42
  go_wp2_with fail
  go_loop [1, 5] (fun m i => m = .int .i64 k ∧ i = .int .i64 0) (fun _ _ => 0)
  case atStart => exact ⟨rfl, rfl⟩
  case round =>
    obtain ⟨rfl, rfl⟩ := hrel
    go_wp2_with fail
    go_ret
    exact ⟨rfl, rfl⟩
set_option maxHeartbeats 1000000 in
theorem heldInts_any (A : Option Addr) (c k n : Nat) (w : World) (hx : IntL w A (markI n k)) (hl : n ≤ 1048576) (hk : k ≤ 50000000) :
    Calls Tryd.prog 44 #[.slice A n c, .int .i64 k] w fun e w' => e = .returned (.int .i64 (k + n : Nat)) ∧ w = w' := by
  have HX := Lib.hid hx
  clear hx
  go_enter Tryd.func44, Tryd.ntmps44
  go_wp2_with fail
  go_loop [1, 5] (fun m i => ∃ j : Nat, j ≤ n ∧ i = .int .i64 j ∧ m = .int .i64 (k + j : Nat)) (fun _ i => n - (intOf i).toNat)
  case atStart => exact ⟨0, by omega, rfl, rfl⟩
  case round =>
    obtain ⟨j, hj, rfl, rfl⟩ := hrel
    by_cases hlt : j < n
    · obtain ⟨b, off, rfl, hblt, c0⟩ := IntL.at_ HX.out (markI_at n k j hlt)
      have hi1 : (0 : Int) ≤ (j : Int) := by omega
      have hi2 : (j : Int) < (n : Int) := by omega
      obtain ⟨q, hq⟩ : ∃ q : Nat, q = k + j := ⟨_, rfl⟩
      have HQ := Lib.hid hq
      have hqb : q ≤ 60000000 := by omega
      rw [← hq] at c0 ⊢
      clear hq
      go_wp2_with fail
      go_round
      case rel => exact ⟨j + 1, by omega, by go_num, by rw [HQ.out]; go_num⟩
      case measure => simp [intOf]; omega
    · obtain rfl : j = n := by omega
      go_wp2_with fail
      go_ret
      exact ⟨rfl, rfl⟩
end Go.Proofs.YtpkhpaioddommaaDoor
