/- Mkt0, Mkt2, Mkt3 in one text. -/
import Derived.Test.YtcpfjlbicofkeaaDoorPrp2
import Derived.Lib.Strings
import Derived.Lib.SlBytesConst
import Derived.Deep.RegionHeld3
import Derived.Test.YtcpfjlbicofkeaaDoorTre3
import Derived.Test.YtcpfjlbicofkeaaDoorTrn
namespace Go.Proofs.YtcpfjlbicofkeaaDoor
open Go.Joins Go.ChangeShapes Go.WideShapes Go.ChangeAt Go.RowKit Go.Deep
set_option linter.unusedVariables false
set_option linter.unusedSimpArgs false

def dgt (n : Nat) : UInt8 := UInt8.ofNat (48 + n)
/-- The digits of a number ahead of a text. -/
def digsB (k : Nat) (s : ByteArray) : ByteArray := if k = 0 then s else digsB (k / 10) (⟨#[dgt (k % 10)]⟩ ++ s)
termination_by k
decreasing_by omega
def markB (k : Nat) : ByteArray := ⟨#[109]⟩ ++ digsB k ⟨#[]⟩
theorem digsB_step {k : Nat} (h : k ≠ 0) (s : ByteArray) : digsB k s = digsB (k / 10) (⟨#[dgt (k % 10)]⟩ ++ s) := by rw [digsB, if_neg h]
theorem digsB_zero (s : ByteArray) : digsB 0 s = s := by rw [digsB, if_pos rfl]

set_option maxRecDepth 100000 in
set_option maxHeartbeats 1000000 in
theorem markText_any (k : Nat) (w : World) (h0 : 0 < k) (h1 : k ≤ 100000000) :
    Calls Tryd.prog 49 #[.int .i64 k] w fun e w' => e = .returned (.string (markB k)) ∧ Below w.heap.size w w' := by
  have hd : decide ((k : Int) ≤ 0) = false := by simp; omega
  go_enter Tryd.func49, Tryd.ntmps49
  go_wp2_with fail
  go_loopw [0, 3] (fun i o w2 => ∃ (j : Nat) (s : ByteArray), i = .int .i64 j ∧ o = .string s ∧ j ≤ 100000000 ∧ s.size ≤ 9 ∧ Hid (j * 10 ^ s.size ≤ 100000000) ∧ Below w.heap.size w w2 ∧ Hid (digsB k ⟨#[]⟩ = digsB j s)) (fun i _ _ => (intOf i).toNat)
  case atStart => exact ⟨k, ⟨#[]⟩, rfl, rfl, h1, by decide, Lib.hid (by show k * 10 ^ 0 ≤ _; omega), by go_grown, Lib.hid rfl⟩
  case round =>
    obtain ⟨j, s, rfl, rfl, hj, hsz, HPW, hB, HR⟩ := hrel
    by_cases hj0 : j = 0
    · have HV := Lib.hid (show markB k = ⟨#[109]⟩ ++ s by unfold markB; rw [HR.out, hj0, digsB_zero])
      have hdj : decide (0 < j) = false := by simp; omega
      clear hj0
      go_wp2_with fail
      go_ret
      exact ⟨by rw [HV.out]; rfl, hB⟩
    · have hp : 0 < (j : Int) := by omega
      have hs8 : s.size ≤ 8 := by
        rcases Nat.lt_or_ge 8 s.size with h | h
        · have h9 : 10 ^ 9 ≤ 10 ^ s.size := Nat.pow_le_pow_right (by omega) (by omega)
          have := HPW.out
          have h2 : 1 * 10 ^ s.size ≤ j * 10 ^ s.size := Nat.mul_le_mul_right _ (by omega)
          omega
        · exact h
      have HPW2 := Lib.hid (show j / 10 * 10 ^ (1 + s.size) ≤ 100000000 by
        have := HPW.out
        have h2 : j / 10 * 10 ≤ j := Nat.div_mul_le_self _ _
        have h3 : j / 10 * 10 * 10 ^ s.size ≤ j * 10 ^ s.size := Nat.mul_le_mul_right _ h2
        rw [Nat.pow_add, Nat.pow_one, ← Nat.mul_assoc]
        omega)
      have hm0 : 0 ≤ (j : Int) % 10 := by omega
      have hm1 : (j : Int) % 10 ≤ 9 := by omega
      have hq0 : 0 ≤ (j : Int) / 10 := by omega
      have hu : IntKind.u8.wrap (48 + (j : Int) % 10) = 48 + (j : Int) % 10 := by unfold IntKind.wrap; simp [IntKind.bits, IntKind.signed]; omega
      have hdt : (dgt (j % 10)).toNat = 48 + j % 10 := by unfold dgt; rw [UInt8.toNat_ofNat']; omega
      have kc : (Go.convert 41 9 (.slice (some ⟨wr.heap.size, 0, none⟩) 1 1)).run Tryd.prog (wr.alloc (.cells #[.int .u8 (48 + (j : Int) % 10)] 5)) = Result.ok (.string ⟨#[dgt (j % 10)]⟩) (wr.alloc (.cells #[.int .u8 (48 + (j : Int) % 10)] 5)) := by
        refine run_convert_bytes_back (P := Tryd.prog) (wr.alloc (.cells #[.int .u8 (48 + (j : Int) % 10)] 5)) 41 9 5 ⟨wr.heap.size, 0, none⟩ 1 [dgt (j % 10)] Tryd.underlying41 Tryd.underlying5 Tryd.underlying9 ?_
        intro i hi
        simp at hi
        subst hi
        have := cell_of_row (wr.alloc (.cells #[.int .u8 (48 + (j : Int) % 10)] 5)) wr.heap.size 0 _ _ _ (heap_alloc_new wr _)
        simp only [List.getElem_cons_zero, hdt]
        exact this
      have HR2 := Lib.hid (HR.out.trans (digsB_step hj0 s))
      clear hdt
      go_wp2_with fail
      go_roundw
      case rel => exact ⟨j / 10, ⟨#[dgt (j % 10)]⟩ ++ s, by first | go_num | rfl, rfl, by omega, by rw [ByteArray.size_append]; show 1 + s.size ≤ 9; omega, Lib.hid (by rw [ByteArray.size_append]; exact HPW2.out), hB.alloc hB.size _, HR2⟩
      case measure => simp [intOf]; omega
theorem grown_trans {a b c : World} {row : Option Nat} (h : a.grownBy b row) (k : b.grownBy c row) : a.grownBy c row :=
  ⟨k.os.trans h.os, k.tape.trans h.tape, k.output.trans h.output, Nat.le_trans h.size k.size, fun i hi hr => (k.block i (Nat.lt_of_lt_of_le hi h.size) hr).trans (h.block i hi hr)⟩
theorem grown_set (w : World) {p : Addr} {g : Nat} (hp : p.block = g) (u : Value) : w.grownBy (w.setCell p u) (some g) :=
  ⟨rfl, rfl, rfl, by simp [World.setCell], fun k _ hk => heap_setCell_other w p k u (fun e => hk (by rw [e, hp]))⟩
theorem grown_of_below {w w' : World} (h : Below w.heap.size w w') (row : Option Nat) : w.grownBy w' row := ⟨h.os, h.tape, h.output, h.size, fun k hk _ => h.block k hk⟩
def markPr : Nat → Nat → List Pr
  | 0, _ => []
  | n + 1, k => ⟨k, ⟨(k + 1 : Nat), (k + 2 : Nat), markB (k + 3)⟩⟩ :: markPr n (k + 4)
theorem markPr_len : ∀ (n k : Nat), (markPr n k).length = n
  | 0, _ => rfl
  | n + 1, k => by simp [markPr, markPr_len n (k + 4)]
theorem markPr_at : ∀ (n k j : Nat), j < n → (markPr n k)[j]? = some ⟨(k + 4 * j : Nat), ⟨(k + 4 * j + 1 : Nat), (k + 4 * j + 2 : Nat), markB (k + 4 * j + 3)⟩⟩
  | 0, _, _, h => by omega
  | n + 1, k, 0, _ => rfl
  | n + 1, k, j + 1, h => by
    have := markPr_at n (k + 4) j (by omega)
    show (markPr n (k + 4))[j]? = _
    rw [this, show k + 4 + 4 * j = k + 4 * (j + 1) by omega]
def MarkX (g base : Nat) (e : TypeId) (sz n c : Nat) (L : List Value) (r : Int) (w : World) (x : Ending) (w' : World) : Prop :=
  x = .returned (.int .i64 r) ∧ w'.ownsRow base e sz (.slice (some ⟨g, 0, none⟩) n c) n L ∧ w.grownBy w' (some g)
set_option maxHeartbeats 2000000 in
theorem markProps_any (g c base k n : Nat) (L0 : List Value) (w : World) (ho : w.ownsRow base 76 4 (.slice (some ⟨g, 0, none⟩) n c) n L0) (hl : n ≤ 1048576) (hk : k ≤ 50000000) (hk0 : 0 < k) :
    Calls Tryd.prog 30 #[.slice (some ⟨g, 0, none⟩) n c, .int .i64 k] w (MarkX g base 76 4 n c ((markPr n k).flatMap Pr.cells) (k + 4 * n : Nat) w) := by
  have HO := Lib.hid ho
  have HGB := Lib.hid (ho.lt g rfl).2
  clear ho
  go_enter Tryd.func30, Tryd.ntmps30
  go_wp2_with fail
  go_loopw [1, 5] (fun m i wr => ∃ (j : Nat) (L : List Value), j ≤ n ∧ i = .int .i64 j ∧ m = .int .i64 (k + 4 * j : Nat) ∧ wr.ownsRow base 76 4 (.slice (some ⟨g, 0, none⟩) n c) n L ∧ L.take (j * 4) = ((markPr n k).take j).flatMap Pr.cells ∧ w.grownBy wr (some g)) (fun _ i _ => n - (intOf i).toNat)
  case atStart => exact ⟨0, _, by omega, rfl, rfl, HO.out, rfl, World.grownBy.refl w _⟩
  case round =>
    obtain ⟨j, L, hj, rfl, rfl, hown, htk, hgr⟩ := hrel
    have HT := Lib.hid htk
    have HO2 := Lib.hid hown
    have HG := Lib.hid hgr
    have hLl : L.length = n * 4 := hown.1
    clear htk hown hgr
    by_cases hlt : j < n
    · have hat := markPr_at n k j hlt
      obtain ⟨u0, d0⟩ : ∃ u, wr.cell? ⟨g, j * 4, none⟩ = some u := ⟨_, (HO2.out.cellAt (j * 4) (by omega)).trans (List.getElem?_eq_getElem (show j * 4 < L.length by omega))⟩
      have f0 := HO2.out.frozenAt (j * 4)
      obtain ⟨u1, d1⟩ : ∃ u, wr.cell? ⟨g, j * 4 + 1, none⟩ = some u := ⟨_, (HO2.out.cellAt (j * 4 + 1) (by omega)).trans (List.getElem?_eq_getElem (show j * 4 + 1 < L.length by omega))⟩
      have f1 := HO2.out.frozenAt (j * 4 + 1)
      obtain ⟨u2, d2⟩ : ∃ u, wr.cell? ⟨g, j * 4 + 2, none⟩ = some u := ⟨_, (HO2.out.cellAt (j * 4 + 2) (by omega)).trans (List.getElem?_eq_getElem (show j * 4 + 2 < L.length by omega))⟩
      have f2 := HO2.out.frozenAt (j * 4 + 2)
      have HAT := Lib.hid hat
      have HLl := Lib.hid hLl
      obtain ⟨q, hq⟩ : ∃ q : Nat, q = k + 4 * j := ⟨_, rfl⟩
      have HQ := Lib.hid hq
      have hqb : q ≤ 60000000 := by omega
      have hq0 : 0 < q := by omega
      rw [← hq]
      clear hat hLl hq
      go_wp2_with fail
      obtain ⟨s1, g1⟩ := HO2.out.stored (j * 4) (.int .i64 q)
      obtain ⟨s2, g2⟩ := s1.stored (j * 4 + 1) (.int .i64 (q + 1 : Nat))
      obtain ⟨s3, g3⟩ := s2.stored (j * 4 + 2) (.int .i64 (q + 2 : Nat))
      have HS2 := Lib.hid s3
      have HG2 := Lib.hid (grown_trans (grown_trans (grown_trans HG.out g1) g2) g3)
      clear s1 s2 s3 g1 g2 g3
      refine (markText_any (q + 3) _ (by omega) (by omega)).mono ?_
      rintro e w2 ⟨rfl, hb⟩
      have hO3 := ownsRow_below HS2.out hb
      obtain ⟨u3, d3⟩ : ∃ u, w2.cell? ⟨g, j * 4 + 3, none⟩ = some u := ⟨_, (hO3.cellAt (j * 4 + 3) (by omega)).trans (List.getElem?_eq_getElem (show j * 4 + 3 < _ by simp; have := HLl.out; omega))⟩
      have f3 := hO3.frozenAt (j * 4 + 3)
      have HO3 := Lib.hid hO3
      have HG3 := Lib.hid (grown_trans HG2.out (grown_of_below hb _))
      clear hO3 hb d0 d1 d2 f0 f1 f2
      go_wp2_with fail
      obtain ⟨s4, g4⟩ := HO3.out.stored (j * 4 + 3) (.string (markB (q + 3)))
      go_roundw
      case rel => exact ⟨j + 1, _, by omega, by go_num, by rw [HQ.out]; go_num, s4, take_Pr (by have := HLl.out; omega) HT.out (by rw [HQ.out]; exact HAT.out), grown_trans HG3.out g4⟩
      case measure => simp [intOf]; omega
    · obtain rfl : j = n := by omega
      have e : L = (markPr j k).flatMap Pr.cells := by
        have := HT.out
        rw [List.take_of_length_le (by rw [hLl]; exact Nat.le_refl _), List.take_of_length_le (by rw [markPr_len]; exact Nat.le_refl _)] at this
        exact this
      have HO3 := HO2.out
      rw [e] at HO3
      have HO4 := Lib.hid HO3
      clear HO3 e hLl
      go_wp2_with fail
      go_ret
      exact ⟨rfl, HO4.out, HG.out⟩
set_option maxHeartbeats 400000 in
theorem markProps_nil (A : Option Addr) (c : Nat) (k : Int) (w : World) : Calls Tryd.prog 30 #[.slice A 0 c, .int .i64 k] w fun e w' => e = .returned (.int .i64 k) ∧ w = w' := by
  go_enter Tryd.func30, Tryd.ntmps30
  go_wp2_with fail
  go_loop [1, 5] (fun m i => m = .int .i64 k ∧ i = .int .i64 0) (fun _ _ => 0)
  case atStart => exact ⟨rfl, rfl⟩
  case round =>
    obtain ⟨rfl, rfl⟩ := hrel
    go_wp2_with fail
    go_ret
    exact ⟨rfl, rfl⟩
end Go.Proofs.YtcpfjlbicofkeaaDoor

namespace Go.Proofs.YtcpfjlbicofkeaaDoor
open Go.Joins Go.ChangeShapes Go.WideShapes Go.ChangeAt Go.RowKit Go.Deep
set_option linter.unusedVariables false
set_option linter.unusedSimpArgs false

theorem own_zero {w : World} {base sz n : Nat} {e : TypeId} {v : Value} {L : List Value} (h : w.ownsRow base e sz v n L) : w.ownsRow 0 e sz v n L :=
  ⟨h.1, h.2.imp id fun ⟨g, cap, cur, e1, _, r⟩ => ⟨g, cap, cur, e1, Nat.zero_le _, r⟩⟩
/-- Five cells read as a tree that lies in blocks from lo up to hi, no two parts in one. -/
inductive TrO (w : World) : Nat → Nat → List Value → Tr → Prop
  | mk {tag key : Int} {text : ByteArray} {ps : List Pr} {ks : List Tr} {lo m hi : Nat} (A0 : Option Addr) (c0 : Nat) (A1 : Option Addr) (c1 : Nat) (hdr : Nat → List Value) (P Q : Nat → Nat) (h1 : lo ≤ m) (h2 : m ≤ hi)
      (hp : 0 < ps.length → ∃ g, A0 = some ⟨g, 0, none⟩ ∧ lo ≤ g ∧ g < m ∧ w.ownsRow 0 76 4 (.slice (some ⟨g, 0, none⟩) ps.length c0) ps.length (ps.flatMap Pr.cells))
      (hk : 0 < ks.length → ∃ g L, A1 = some ⟨g, 0, none⟩ ∧ m ≤ g ∧ g < hi ∧ (∀ i, i < ks.length → g < P i) ∧ w.ownsRow 0 33 5 (.slice (some ⟨g, 0, none⟩) ks.length c1) ks.length L ∧ ∀ i, i < ks.length → ∀ j, j < 5 → L[i * 5 + j]? = (hdr i)[j]?)
      (hin : ∀ i, i < ks.length → m ≤ P i ∧ P i ≤ Q i ∧ Q i ≤ hi) (hap : ∀ i j, i < j → j < ks.length → Q i ≤ P j)
      (hks : ∀ i x, ks[i]? = some x → TrO w (P i) (Q i) (hdr i) x) : TrO w lo hi [.int .i64 tag, .int .i64 key, .string text, .slice A0 ps.length c0, .slice A1 ks.length c1] (.mk tag key text ps ks)
/-- Trees in a row of their own. -/
structure KdO (w : World) (m hi : Nat) (A1 : Option Addr) (c1 : Nat) (hdr : Nat → List Value) (P Q : Nat → Nat) (ks : List Tr) : Prop where
  row : 0 < ks.length → ∃ g L, A1 = some ⟨g, 0, none⟩ ∧ m ≤ g ∧ g < hi ∧ (∀ i, i < ks.length → g < P i) ∧ w.ownsRow 0 33 5 (.slice (some ⟨g, 0, none⟩) ks.length c1) ks.length L ∧ ∀ i, i < ks.length → ∀ j, j < 5 → L[i * 5 + j]? = (hdr i)[j]?
  inn : ∀ i, i < ks.length → m ≤ P i ∧ P i ≤ Q i ∧ Q i ≤ hi
  apart : ∀ i j, i < j → j < ks.length → Q i ≤ P j
  kid : ∀ i x, ks[i]? = some x → TrO w (P i) (Q i) (hdr i) x
def PrO (w : World) (lo m : Nat) (A0 : Option Addr) (c0 : Nat) (ps : List Pr) : Prop := 0 < ps.length → ∃ g, A0 = some ⟨g, 0, none⟩ ∧ lo ≤ g ∧ g < m ∧ w.ownsRow 0 76 4 (.slice (some ⟨g, 0, none⟩) ps.length c0) ps.length (ps.flatMap Pr.cells)
theorem TrO.open_ {w : World} {lo hi : Nat} {cs : List Value} {t : Tr} (h : TrO w lo hi cs t) : ∃ m A0 c0 A1 c1 hdr P Q, lo ≤ m ∧ m ≤ hi ∧ cs = [.int .i64 t.tag, .int .i64 t.key, .string t.text, .slice A0 t.ps.length c0, .slice A1 t.ks.length c1] ∧ PrO w lo m A0 c0 t.ps ∧ KdO w m hi A1 c1 hdr P Q t.ks := by
  cases h with
  | mk A0 c0 A1 c1 hdr P Q h1 h2 hp hk hin hap hks => exact ⟨_, A0, c0, A1, c1, hdr, P, Q, h1, h2, rfl, hp, ⟨hk, hin, hap, hks⟩⟩
theorem TrO.shut {w : World} {lo m hi : Nat} {t : Tr} {A0 A1 : Option Addr} {c0 c1 : Nat} {hdr : Nat → List Value} {P Q : Nat → Nat} (h1 : lo ≤ m) (h2 : m ≤ hi) (hp : PrO w lo m A0 c0 t.ps) (hk : KdO w m hi A1 c1 hdr P Q t.ks) : TrO w lo hi [.int .i64 t.tag, .int .i64 t.key, .string t.text, .slice A0 t.ps.length c0, .slice A1 t.ks.length c1] t := by
  obtain ⟨_, _, _, _, _⟩ := t
  exact .mk A0 c0 A1 c1 hdr P Q h1 h2 hp hk.row hk.inn hk.apart hk.kid
theorem TrO.len {w : World} {lo hi : Nat} {cs : List Value} {t : Tr} (h : TrO w lo hi cs t) : cs.length = 5 := by
  obtain ⟨m, A0, c0, A1, c1, hdr, P, Q, _, _, rfl, _, _⟩ := h.open_
  rfl
theorem PrO.kept {w w' : World} {lo m : Nat} {A0 : Option Addr} {c0 : Nat} {ps : List Pr} (h : PrO w lo m A0 c0 ps) (hb : ∀ b, lo ≤ b → b < m → w'.heap[b]? = w.heap[b]?) : PrO w' lo m A0 c0 ps := fun h0 => by
  obtain ⟨g, rfl, a, b, ho⟩ := h h0
  exact ⟨g, rfl, a, b, own_moved ho (hb g a b)⟩
theorem TrO.kept {w w' : World} {lo hi : Nat} {cs : List Value} {t : Tr} (h : TrO w lo hi cs t) (hb : ∀ b, lo ≤ b → b < hi → w'.heap[b]? = w.heap[b]?) : TrO w' lo hi cs t := by
  induction h with
  | @mk tag key text ps ks lo m hi A0 c0 A1 c1 hdr P Q h1 h2 hp hk hin hap hks ih =>
    refine .mk A0 c0 A1 c1 hdr P Q h1 h2 (fun h0 => ?_) (fun h0 => ?_) hin hap (fun i x hx => ih i x hx fun b hb1 hb2 => ?_)
    · obtain ⟨g, rfl, a, b, ho⟩ := hp h0
      exact ⟨g, rfl, a, b, own_moved ho (hb g a (by omega))⟩
    · obtain ⟨g, L, rfl, a, b, c, ho, r⟩ := hk h0
      exact ⟨g, L, rfl, a, b, c, own_moved ho (hb g (by omega) b), r⟩
    · obtain ⟨q1, q2, q3⟩ := hin i (List.getElem?_eq_some_iff.1 hx).1
      exact hb b (by omega) (by omega)
theorem KdO.kept {w w' : World} {m hi : Nat} {A1 : Option Addr} {c1 : Nat} {hdr : Nat → List Value} {P Q : Nat → Nat} {ks : List Tr} (h : KdO w m hi A1 c1 hdr P Q ks) (hb : ∀ b, m ≤ b → b < hi → w'.heap[b]? = w.heap[b]?) : KdO w' m hi A1 c1 hdr P Q ks := by
  refine ⟨fun h0 => ?_, h.inn, h.apart, fun i x hx => (h.kid i x hx).kept fun b hb1 hb2 => ?_⟩
  · obtain ⟨g, L, rfl, a, b, c, ho, r⟩ := h.row h0
    exact ⟨g, L, rfl, a, b, c, own_moved ho (hb g a b), r⟩
  · obtain ⟨q1, q2, q3⟩ := h.inn i (List.getElem?_eq_some_iff.1 hx).1
    exact hb b (by omega) (by omega)
/-- To the relation of the laws' own texts. -/
theorem PrO.lies {w : World} {lo m : Nat} {A0 : Option Addr} {c0 : Nat} {ps : List Pr} (h : PrO w lo m A0 c0 ps) : PrL w A0 ps := fun h0 => by
  obtain ⟨g, rfl, a, b, ho⟩ := h h0
  exact Lie.of_own (c := Pr.cells) Pr.cells_len ho h0
theorem TrO.trc {w : World} {lo hi : Nat} {cs : List Value} {t : Tr} (h : TrO w lo hi cs t) : TrC w 0 cs t := by
  induction h with
  | @mk tag key text ps ks lo m hi A0 c0 A1 c1 hdr P Q h1 h2 hp hk hin hap hks ih =>
    refine .mk A0 c0 A1 c1 hdr (PrO.lies (c0 := c0) hp) (fun _ _ _ => Nat.zero_le _) (fun h0 => ?_) ih
    obtain ⟨g, L, rfl, a, b, c, ho, r⟩ := hk h0
    refine ⟨g, 0, rfl, Nat.zero_le _, (ho.lt g rfl).2, fun i hi j u hu => ?_⟩
    obtain ⟨x, hx⟩ := at_some hi
    have hj : j < 5 := by rw [← (hks i x hx).len]; exact (List.getElem?_eq_some_iff.1 hu).1
    have e := r i hi j hj
    rw [hu] at e
    rw [show 0 + i * 5 + j = i * 5 + j by omega, ho.cellAt (i * 5 + j) (by have := (List.getElem?_eq_some_iff.1 e).1; have := ho.1; omega)]
    exact e
theorem KdO.lies {w : World} {m hi : Nat} {A1 : Option Addr} {c1 : Nat} {hdr : Nat → List Value} {P Q : Nat → Nat} {ks : List Tr} (h : KdO w m hi A1 c1 hdr P Q ks) : TrL w 0 A1 ks := by
  have ht : TrO w 0 hi [.int .i64 0, .int .i64 0, .string ⟨#[]⟩, .slice none 0 0, .slice A1 ks.length c1] (.mk 0 0 ⟨#[]⟩ [] ks) := by
    by_cases hm : m ≤ hi
    · exact .mk (ps := []) none 0 A1 c1 hdr P Q (Nat.zero_le _) hm (fun h => absurd h (by simp)) h.row h.inn h.apart h.kid
    · refine .mk (ps := []) (m := 0) none 0 A1 c1 hdr P Q (Nat.le_refl _) (Nat.zero_le _) (fun h => absurd h (by simp)) (fun h0 => ?_) (fun i hi => ?_) h.apart h.kid
      · obtain ⟨g, L, _, a, b, _⟩ := h.row h0
        omega
      · obtain ⟨a, b, c⟩ := h.inn i hi
        omega
  obtain ⟨A0, c0, A1', c1', e, _, _, hk⟩ := ht.trc.open_
  simp only [List.cons.injEq, Value.slice.injEq, and_true, true_and] at e
  obtain ⟨_, _, _, _, rfl, _⟩ := e
  exact hk
/-- A tree handed back, in memory of its own. -/
def ToO (t : Tr) (w : World) (e : Ending) (w' : World) : Prop :=
  ∃ g0 g1, e = .returned (.agg #[.int .i64 t.tag, .int .i64 t.key, .string t.text, .slice (some ⟨g0, 0, none⟩) t.ps.length t.ps.length, .slice (some ⟨g1, 0, none⟩) t.ks.length t.ks.length]) ∧
    TrO w' w.heap.size w'.heap.size [.int .i64 t.tag, .int .i64 t.key, .string t.text, .slice (some ⟨g0, 0, none⟩) t.ps.length t.ps.length, .slice (some ⟨g1, 0, none⟩) t.ks.length t.ks.length] t ∧ Below w.heap.size w w'
def ToOT (t : Tr) : Prop := ∀ (A0 A1 : Option Addr) (c0 c1 : Nat) (w : World), PrL w A0 t.ps → TrL w 0 A1 t.ks →
  Calls Tryd.prog 7 #[.agg #[.int .i64 t.tag, .int .i64 t.key, .string t.text, .slice A0 t.ps.length c0, .slice A1 t.ks.length c1]] w (ToO t w)
def TosO (n : Nat) (xs : List Tr) (w : World) (e : Ending) (w' : World) : Prop :=
  e = .returned (.slice (some ⟨w.heap.size, 0, none⟩) n n) ∧ (∃ hdr P Q, KdO w' w.heap.size w'.heap.size (some ⟨w.heap.size, 0, none⟩) n hdr P Q xs) ∧ Below w.heap.size w w'
set_option maxHeartbeats 2000000 in
theorem toTrees_own (A : Option Addr) (c n : Nat) (xs : List Tr) (IH : ∀ x ∈ xs, ToOT x) (w : World) (hx : TrL w 0 A xs) (hn : xs.length = n) (hl : n ≤ 1048576) :
    Calls Tryd.prog 24 #[.slice A n c] w (TosO n xs w) := by
  have HN := Lib.hid hn
  have HX := Lib.hid hx
  have HI := Lib.hid IH
  clear hx hn IH
  obtain ⟨i0, hi, hz0, hz1, hz2⟩ := info_parts infoTr
  have HZ2 := Lib.hid hz2
  clear hz2
  go_enter Tryd.func24, Tryd.ntmps24
  go_wp2_with (at_make; refine wpList_make_full _ rfl _ _ 31 rfl w.heap.size 33 i0 (.agg #[.int .i64 0, .int .i64 0, .string ⟨#[]⟩, .slice none 0 0, .slice none 0 0]) 5 Tryd.underlying31 hi hz0 hz1 .i64 .i64 _ _ n rfl rfl rfl rfl (by rw [HZ2.out]; omega) (by unfold maxLen; omega) (Nat.le_refl _) ?_; rintro w1 hown hgrow)
  have hB1 : Below w.heap.size w w1 := grown_below hgrow
  have hg1 : w.heap.size < w1.heap.size := (hown.lt _ rfl).2
  have HO := Lib.hid hown
  clear hown hgrow hi hz0 hz1
  go_loopw [4] (fun i wr => ∃ (k : Nat) (L : List Value) (hdr : Nat → List Value) (P Q : Nat → Nat), k ≤ n ∧ i = .int .i64 k ∧ wr.ownsRow w.heap.size 33 5 (.slice (some ⟨w.heap.size, 0, none⟩) n n) n L ∧ Hid (∀ i, i < k → ∀ j, j < 5 → L[i * 5 + j]? = (hdr i)[j]?) ∧ Hid (∀ i x, i < k → xs[i]? = some x → TrO wr (P i) (Q i) (hdr i) x) ∧ Hid (∀ i, i < k → w.heap.size + 1 ≤ P i ∧ P i ≤ Q i ∧ Q i ≤ wr.heap.size) ∧ Hid (∀ i j, i < j → j < k → Q i ≤ P j) ∧ Below w.heap.size w wr) (fun i _ => n - (intOf i).toNat)
  case atStart => exact ⟨0, _, fun _ => [], fun _ => 0, fun _ => 0, by omega, rfl, HO.out, Lib.hid (fun i h => absurd h (by omega)), Lib.hid (fun i x h => absurd h (by omega)), Lib.hid (fun i h => absurd h (by omega)), Lib.hid (fun i j _ h => absurd h (by omega)), hB1⟩
  case round =>
    obtain ⟨k, L, hdr, P, Q, hk, rfl, hown, HH, HT, HPQ, HAP, hB⟩ := hrel
    have HO2 := Lib.hid hown
    have hgl : w.heap.size < wr.heap.size := (hown.lt _ rfl).2
    clear hown
    by_cases hlt : k < n
    · obtain ⟨x, hx⟩ := at_some (show k < xs.length by rw [HN.out]; exact hlt)
      obtain ⟨b, off, A0, d0, A1, d1, rfl, hblt, _, e0, e1, e2, e3, e4, hp, _, hks⟩ := HX.out.at_ hx
      have hs := HI.out x (List.mem_of_getElem? hx) A0 A1 d0 d1 wr (hp.below hB) (hks.below hB)
      replace e0 := (hB.cell (p := ⟨b, off + k * 5, none⟩) hblt).trans e0
      replace e1 := (hB.cell (p := ⟨b, off + k * 5 + 1, none⟩) hblt).trans e1
      replace e2 := (hB.cell (p := ⟨b, off + k * 5 + 2, none⟩) hblt).trans e2
      replace e3 := (hB.cell (p := ⟨b, off + k * 5 + 3, none⟩) hblt).trans e3
      replace e4 := (hB.cell (p := ⟨b, off + k * 5 + 4, none⟩) hblt).trans e4
      have HXK := Lib.hid hx
      clear hx hp hks
      obtain ⟨tag, key, text, ps, ks⟩ := x
      have HS := Lib.hid hs
      clear hs
      dsimp only [Tr.tag, Tr.key, Tr.text, Tr.ps, Tr.ks] at e0 e1 e2 e3 e4
      have HS2 := Lib.hid (show Calls Tryd.prog 7 #[.agg #[.int .i64 tag, .int .i64 key, .string text, .slice A0 ps.length d0, .slice A1 ks.length d1]] wr (ToO (.mk tag key text ps ks) wr) from HS.out)
      obtain ⟨np, hnp⟩ : ∃ q, ps.length = q := ⟨_, rfl⟩
      obtain ⟨nk, hnk⟩ : ∃ q, ks.length = q := ⟨_, rfl⟩
      have HNP := Lib.hid hnp
      have HNK := Lib.hid hnk
      rw [hnp] at e3 HS2
      rw [hnk] at e4 HS2
      clear HS hnp hnk
      go_wp2_with fail
      refine HS2.out.mono ?_
      rintro e w2 ⟨g0, g1, rfl, hto, hb⟩
      have hO3 := ownsRow_below HO2.out hb
      have hLl : L.length = n * 5 := hO3.1
      obtain ⟨u0, d0'⟩ : ∃ u, w2.cell? ⟨w.heap.size, k * 5, none⟩ = some u := ⟨_, (hO3.cellAt (k * 5) (by omega)).trans (List.getElem?_eq_getElem (show k * 5 < L.length by omega))⟩
      have f0 := hO3.frozenAt (k * 5)
      obtain ⟨u1, d1'⟩ : ∃ u, w2.cell? ⟨w.heap.size, k * 5 + 1, none⟩ = some u := ⟨_, (hO3.cellAt (k * 5 + 1) (by omega)).trans (List.getElem?_eq_getElem (show k * 5 + 1 < L.length by omega))⟩
      have f1 := hO3.frozenAt (k * 5 + 1)
      obtain ⟨u2, d2'⟩ : ∃ u, w2.cell? ⟨w.heap.size, k * 5 + 2, none⟩ = some u := ⟨_, (hO3.cellAt (k * 5 + 2) (by omega)).trans (List.getElem?_eq_getElem (show k * 5 + 2 < L.length by omega))⟩
      have f2 := hO3.frozenAt (k * 5 + 2)
      obtain ⟨u3, d3'⟩ : ∃ u, w2.cell? ⟨w.heap.size, k * 5 + 3, none⟩ = some u := ⟨_, (hO3.cellAt (k * 5 + 3) (by omega)).trans (List.getElem?_eq_getElem (show k * 5 + 3 < L.length by omega))⟩
      have f3 := hO3.frozenAt (k * 5 + 3)
      obtain ⟨u4, d4'⟩ : ∃ u, w2.cell? ⟨w.heap.size, k * 5 + 4, none⟩ = some u := ⟨_, (hO3.cellAt (k * 5 + 4) (by omega)).trans (List.getElem?_eq_getElem (show k * 5 + 4 < L.length by omega))⟩
      have f4 := hO3.frozenAt (k * 5 + 4)
      have HO3 := Lib.hid hO3
      have HLl := Lib.hid hLl
      have HB2 := Lib.hid (more hB (Nat.le_refl _) hb)
      have HT2 := Lib.hid (fun i x hi hx => (HT.out i x hi hx).kept (w' := w2) (fun b _ hb2 => hb.block b (by have := HPQ.out i hi; omega)))
      have HTO := Lib.hid hto
      have hsz2 := hb.size
      dsimp only [Tr.tag, Tr.key, Tr.text, Tr.ps, Tr.ks]
      rw [HNP.out, HNK.out]
      clear hO3 hLl hb hto e0 e1 e2 e3 e4 HT
      go_wp2_with fail
      obtain ⟨s1, q1⟩ := HO3.out.stored (k * 5) (.int .i64 tag)
      obtain ⟨s2, q2⟩ := s1.stored (k * 5 + 1) (.int .i64 key)
      obtain ⟨s3, q3⟩ := s2.stored (k * 5 + 2) (.string text)
      obtain ⟨s4, q4⟩ := s3.stored (k * 5 + 3) (.slice (some ⟨g0, 0, none⟩) np np)
      obtain ⟨s5, q5⟩ := s4.stored (k * 5 + 4) (.slice (some ⟨g1, 0, none⟩) nk nk)
      go_roundw
      case rel =>
        have hsz : ∀ (W : World) (p : Addr) (u : Value), (W.setCell p u).heap.size = W.heap.size := fun W p u => by simp [World.setCell]
        refine ⟨k + 1, _, fun i => if i = k then [.int .i64 tag, .int .i64 key, .string text, .slice (some ⟨g0, 0, none⟩) np np, .slice (some ⟨g1, 0, none⟩) nk nk] else hdr i, fun i => if i = k then wr.heap.size else P i, fun i => if i = k then w2.heap.size else Q i, by omega, by go_num, s5, Lib.hid (fun i hi j hj => ?_), Lib.hid (fun i x hi hx => ?_), Lib.hid (fun i hi => ?_), Lib.hid (fun i j hij hj => ?_), ((((HB2.out.setCell (Nat.le_refl _) _).setCell (Nat.le_refl _) _).setCell (Nat.le_refl _) _).setCell (Nat.le_refl _) _).setCell (Nat.le_refl _) _⟩
        · have hl5 := HLl.out
          by_cases hik : i = k
          · subst hik
            simp only [↓reduceIte]
            match j, hj with
            | 0, _ => (repeat (rw [List.getElem?_set_ne (by omega)])); rw [show i * 5 + 0 = i * 5 from rfl, List.getElem?_set_self (by first | omega | (simp; omega))]; rfl
            | 1, _ => (repeat (rw [List.getElem?_set_ne (by omega)])); rw [List.getElem?_set_self (by first | omega | (simp; omega))]; rfl
            | 2, _ => (repeat (rw [List.getElem?_set_ne (by omega)])); rw [List.getElem?_set_self (by first | omega | (simp; omega))]; rfl
            | 3, _ => (repeat (rw [List.getElem?_set_ne (by omega)])); rw [List.getElem?_set_self (by first | omega | (simp; omega))]; rfl
            | 4, _ => rw [List.getElem?_set_self (by first | omega | (simp; omega))]; rfl
          · simp only [if_neg hik]
            rw [List.getElem?_set_ne (by omega), List.getElem?_set_ne (by omega), List.getElem?_set_ne (by omega), List.getElem?_set_ne (by omega), List.getElem?_set_ne (by omega)]
            exact HH.out i (by omega) j hj
        · by_cases hik : i = k
          · subst hik
            simp only [↓reduceIte]
            have e := HXK.out
            rw [hx] at e
            injection e with e
            subst e
            refine TrO.kept (w := w2) ?_ (fun b hb _ => by rw [heap_setCell_other _ _ b _ (by simp <;> omega), heap_setCell_other _ _ b _ (by simp <;> omega), heap_setCell_other _ _ b _ (by simp <;> omega), heap_setCell_other _ _ b _ (by simp <;> omega), heap_setCell_other _ _ b _ (by simp <;> omega)])
            have h := HTO.out
            dsimp only [Tr.tag, Tr.key, Tr.text, Tr.ps, Tr.ks] at h
            rw [HNP.out, HNK.out] at h
            exact h
          · simp only [if_neg hik]
            have hq := HPQ.out i (by omega)
            refine TrO.kept (w := w2) (HT2.out i x (by omega) hx) (fun b hb _ => by rw [heap_setCell_other _ _ b _ (by simp <;> omega), heap_setCell_other _ _ b _ (by simp <;> omega), heap_setCell_other _ _ b _ (by simp <;> omega), heap_setCell_other _ _ b _ (by simp <;> omega), heap_setCell_other _ _ b _ (by simp <;> omega)])
        · simp only [hsz]
          by_cases hik : i = k
          · subst hik
            simp only [↓reduceIte]
            omega
          · simp only [if_neg hik]
            have hq := HPQ.out i (by omega)
            omega
        · by_cases hjk : j = k
          · subst hjk
            have hq := HPQ.out i (by omega)
            simp only [↓reduceIte, if_neg (show i ≠ j by omega)]
            omega
          · simp only [if_neg hjk, if_neg (show i ≠ k by omega)]
            exact HAP.out i j hij (by omega)
      case measure => simp [intOf]; omega
    · obtain rfl : k = n := by omega
      go_wp2_with fail
      go_ret
      have hxl := HN.out
      refine ⟨rfl, ⟨hdr, P, Q, ⟨fun h0 => ⟨w.heap.size, L, rfl, Nat.le_refl _, hgl, fun i hi => by have := HPQ.out i (by omega); omega, by rw [hxl]; exact own_zero HO2.out, fun i hi j hj => HH.out i (by omega) j hj⟩, fun i hi => by have := HPQ.out i (by omega); omega, fun i j hij hj => HAP.out i j hij (by omega), fun i x hx => HT.out i x (by rw [← hxl]; exact (List.getElem?_eq_some_iff.1 hx).1) hx⟩⟩, hB⟩

set_option maxHeartbeats 2000000 in
theorem toTree_own (t : Tr) : BdT t → ToOT t := by
  induction t using Tr.by_kids with
  | h t ih =>
  intro hbd A0 A1 c0 c1 w hp hk
  obtain ⟨s1, s3, s4⟩ := hbd.open_
  have HIK := Lib.hid (fun w hw => toTrees_own A1 c1 t.ks.length t.ks (fun x hx => ih x hx (s4 x hx)) w hw rfl s3)
  have HIP := Lib.hid (fun w hw => toPrs_any A0 c0 t.ps.length t.ps w hw rfl s1)
  have HP := Lib.hid (fun W (hb : Below w.heap.size w W) => hp.below hb)
  have HK := Lib.hid (fun W (hb : Below w.heap.size w W) => hk.below hb)
  have hT : ∀ (g0 g1 m : Nat) (hdr : Nat → List Value) (P Q : Nat → Nat) (w' : World), w.heap.size ≤ m → m ≤ w'.heap.size → PrO w' w.heap.size m (some ⟨g0, 0, none⟩) t.ps.length t.ps → KdO w' m w'.heap.size (some ⟨g1, 0, none⟩) t.ks.length hdr P Q t.ks → Below w.heap.size w w' → ToO t w (.returned (.agg #[.int .i64 t.tag, .int .i64 t.key, .string t.text, .slice (some ⟨g0, 0, none⟩) t.ps.length t.ps.length, .slice (some ⟨g1, 0, none⟩) t.ks.length t.ks.length])) w' := fun g0 g1 m hdr P Q w' h1 h2 hp hk hb => ⟨g0, g1, rfl, TrO.shut h1 h2 hp hk, hb⟩
  obtain ⟨Q, hQ⟩ : ∃ Q, ToO t w = Q := ⟨_, rfl⟩
  rw [hQ] at hT ⊢
  have HQ := Lib.hid hT
  clear hp hk ih s1 s3 s4 hbd hT hQ
  obtain ⟨tag, key, text, ps, ks⟩ := t
  dsimp only [Tr.tag, Tr.key, Tr.text, Tr.ps, Tr.ks] at *
  obtain ⟨np, hnp⟩ : ∃ q, ps.length = q := ⟨_, rfl⟩
  obtain ⟨nk, hnk⟩ : ∃ q, ks.length = q := ⟨_, rfl⟩
  have HNP := Lib.hid hnp
  rw [hnp] at HIP HQ ⊢
  rw [hnk] at HIK HQ ⊢
  clear hnp hnk
  go_enter Tryd.func7, Tryd.ntmps7
  go_wp2_with fail
  refine (HIP.out _ (HP.out _ (by go_grown))).mono ?_
  rintro e w1 ⟨rfl, ho, hb⟩
  have HB1 := Lib.hid (front (w := w) (W0 := _) (by go_grown) (by simp <;> omega) hb)
  have HO := Lib.hid (show w1.ownsRow 0 76 4 (.slice (some ⟨w.heap.size + 1 + 1 + 1, 0, none⟩) np np) np (ps.flatMap Pr.cells) by have h := own_zero ho; simpa using h)
  have hlg := (ho.lt _ rfl).2
  simp at hlg
  obtain ⟨hc, hf⟩ := bcell hb
  simp at hc hf
  have hz := hb.size
  simp at hz
  clear ho hb
  have i0 : w1.cell? ⟨w.heap.size + 1 + 1, 0, none⟩ = some (.int .i64 tag) := by rw [hc _ _ (by omega)]; go_simp
  have z0 : w1.cell? ⟨w.heap.size + 1, 0, none⟩ = some (.int .i64 0) := by rw [hc _ _ (by omega)]; go_simp
  have i1 : w1.cell? ⟨w.heap.size + 1 + 1, 1, none⟩ = some (.int .i64 key) := by rw [hc _ _ (by omega)]; go_simp
  have z1 : w1.cell? ⟨w.heap.size + 1, 1, none⟩ = some (.int .i64 0) := by rw [hc _ _ (by omega)]; go_simp
  have i2 : w1.cell? ⟨w.heap.size + 1 + 1, 2, none⟩ = some (.string text) := by rw [hc _ _ (by omega)]; go_simp
  have z2 : w1.cell? ⟨w.heap.size + 1, 2, none⟩ = some (.string ⟨#[]⟩) := by rw [hc _ _ (by omega)]; go_simp
  have i3 : w1.cell? ⟨w.heap.size + 1 + 1, 3, none⟩ = some (.slice none 0 0) := by rw [hc _ _ (by omega)]; go_simp
  have z3 : w1.cell? ⟨w.heap.size + 1, 3, none⟩ = some (.slice none 0 0) := by rw [hc _ _ (by omega)]; go_simp
  have p4 : w1.cell? ⟨w.heap.size, 4, none⟩ = some (.slice A1 nk c1) := by rw [hc _ _ (by omega)]; go_simp
  have i4 : w1.cell? ⟨w.heap.size + 1 + 1, 4, none⟩ = some (.slice none 0 0) := by rw [hc _ _ (by omega)]; go_simp
  have z4 : w1.cell? ⟨w.heap.size + 1, 4, none⟩ = some (.slice none 0 0) := by rw [hc _ _ (by omega)]; go_simp
  have jf : ∀ o, w1.frozen? ⟨w.heap.size + 1 + 1, o, none⟩ = false := fun o => by rw [hf _ _ (by omega)]; go_simp
  have zf : ∀ o, w1.frozen? ⟨w.heap.size + 1, o, none⟩ = false := fun o => by rw [hf _ _ (by omega)]; go_simp
  clear hc hf
  go_wp2_with fail
  have a0 : (w1.setCell ⟨w.heap.size + 1 + 1, 3, none⟩ (.slice (some ⟨w.heap.size + 1 + 1 + 1, 0, none⟩) np np)).cell? ⟨w.heap.size + 1 + 1, 0, none⟩ = some (.int .i64 tag) := by go_simp
  replace z0 : (w1.setCell ⟨w.heap.size + 1 + 1, 3, none⟩ (.slice (some ⟨w.heap.size + 1 + 1 + 1, 0, none⟩) np np)).cell? ⟨w.heap.size + 1, 0, none⟩ = some (.int .i64 0) := by go_simp
  have a1 : (w1.setCell ⟨w.heap.size + 1 + 1, 3, none⟩ (.slice (some ⟨w.heap.size + 1 + 1 + 1, 0, none⟩) np np)).cell? ⟨w.heap.size + 1 + 1, 1, none⟩ = some (.int .i64 key) := by go_simp
  replace z1 : (w1.setCell ⟨w.heap.size + 1 + 1, 3, none⟩ (.slice (some ⟨w.heap.size + 1 + 1 + 1, 0, none⟩) np np)).cell? ⟨w.heap.size + 1, 1, none⟩ = some (.int .i64 0) := by go_simp
  have a2 : (w1.setCell ⟨w.heap.size + 1 + 1, 3, none⟩ (.slice (some ⟨w.heap.size + 1 + 1 + 1, 0, none⟩) np np)).cell? ⟨w.heap.size + 1 + 1, 2, none⟩ = some (.string text) := by go_simp
  replace z2 : (w1.setCell ⟨w.heap.size + 1 + 1, 3, none⟩ (.slice (some ⟨w.heap.size + 1 + 1 + 1, 0, none⟩) np np)).cell? ⟨w.heap.size + 1, 2, none⟩ = some (.string ⟨#[]⟩) := by go_simp
  have a3 : (w1.setCell ⟨w.heap.size + 1 + 1, 3, none⟩ (.slice (some ⟨w.heap.size + 1 + 1 + 1, 0, none⟩) np np)).cell? ⟨w.heap.size + 1 + 1, 3, none⟩ = some (.slice (some ⟨w.heap.size + 1 + 1 + 1, 0, none⟩) np np) := by go_simp
  replace z3 : (w1.setCell ⟨w.heap.size + 1 + 1, 3, none⟩ (.slice (some ⟨w.heap.size + 1 + 1 + 1, 0, none⟩) np np)).cell? ⟨w.heap.size + 1, 3, none⟩ = some (.slice none 0 0) := by go_simp
  have a4 : (w1.setCell ⟨w.heap.size + 1 + 1, 3, none⟩ (.slice (some ⟨w.heap.size + 1 + 1 + 1, 0, none⟩) np np)).cell? ⟨w.heap.size + 1 + 1, 4, none⟩ = some (.slice none 0 0) := by go_simp
  replace z4 : (w1.setCell ⟨w.heap.size + 1 + 1, 3, none⟩ (.slice (some ⟨w.heap.size + 1 + 1 + 1, 0, none⟩) np np)).cell? ⟨w.heap.size + 1, 4, none⟩ = some (.slice none 0 0) := by go_simp
  have af : ∀ o, (w1.setCell ⟨w.heap.size + 1 + 1, 3, none⟩ (.slice (some ⟨w.heap.size + 1 + 1 + 1, 0, none⟩) np np)).frozen? ⟨w.heap.size + 1 + 1, o, none⟩ = false := fun o => by simp only [World.frozen?_setCell]; exact jf o
  replace zf : ∀ o, (w1.setCell ⟨w.heap.size + 1 + 1, 3, none⟩ (.slice (some ⟨w.heap.size + 1 + 1 + 1, 0, none⟩) np np)).frozen? ⟨w.heap.size + 1, o, none⟩ = false := fun o => by simp only [World.frozen?_setCell]; exact zf o
  clear i0 i1 i2 i3 i4 jf p4
  have HB2 := Lib.hid (HB1.out.setCell (p := ⟨w.heap.size + 1 + 1, 3, none⟩) (by simp <;> omega) (.slice (some ⟨w.heap.size + 1 + 1 + 1, 0, none⟩) np np))
  have HO2 := Lib.hid (own_moved (w' := (w1.setCell ⟨w.heap.size + 1 + 1, 3, none⟩ (.slice (some ⟨w.heap.size + 1 + 1 + 1, 0, none⟩) np np))) HO.out (heap_setCell_other _ _ _ _ (by simp <;> omega)))
  clear HO
  obtain ⟨ws, hws⟩ : ∃ ws, (w1.setCell ⟨w.heap.size + 1 + 1, 3, none⟩ (.slice (some ⟨w.heap.size + 1 + 1 + 1, 0, none⟩) np np)) = ws := ⟨_, rfl⟩
  have hz2 : w.heap.size + 1 + 1 + 1 < ws.heap.size := by rw [← hws]; simp [World.setCell]; omega
  rw [hws] at a0 a1 a2 a3 a4 z0 z1 z2 z3 z4 af zf HB2 HO2 ⊢
  clear hws hlg hz HB1
  refine (HIK.out _ (HK.out _ HB2.out)).mono ?_
  rintro e w2 ⟨rfl, ⟨hdr, P, Q, hkk⟩, hb⟩
  replace a0 := (hb.cell (p := ⟨w.heap.size + 1 + 1, 0, none⟩) (by simp; omega)).trans a0
  replace z0 := (hb.cell (p := ⟨w.heap.size + 1, 0, none⟩) (by simp; omega)).trans z0
  replace a1 := (hb.cell (p := ⟨w.heap.size + 1 + 1, 1, none⟩) (by simp; omega)).trans a1
  replace z1 := (hb.cell (p := ⟨w.heap.size + 1, 1, none⟩) (by simp; omega)).trans z1
  replace a2 := (hb.cell (p := ⟨w.heap.size + 1 + 1, 2, none⟩) (by simp; omega)).trans a2
  replace z2 := (hb.cell (p := ⟨w.heap.size + 1, 2, none⟩) (by simp; omega)).trans z2
  replace a3 := (hb.cell (p := ⟨w.heap.size + 1 + 1, 3, none⟩) (by simp; omega)).trans a3
  replace z3 := (hb.cell (p := ⟨w.heap.size + 1, 3, none⟩) (by simp; omega)).trans z3
  replace a4 := (hb.cell (p := ⟨w.heap.size + 1 + 1, 4, none⟩) (by simp; omega)).trans a4
  replace z4 := (hb.cell (p := ⟨w.heap.size + 1, 4, none⟩) (by simp; omega)).trans z4
  replace af := fun o => (hb.frozen (p := ⟨w.heap.size + 1 + 1, o, none⟩) (by simp; omega)).trans (af o)
  replace zf := fun o => (hb.frozen (p := ⟨w.heap.size + 1, o, none⟩) (by simp; omega)).trans (zf o)
  have HB3 := Lib.hid (more HB2.out (Nat.le_refl _) hb)
  have HO3 := Lib.hid (own_moved HO2.out (hb.block _ (by omega)))
  have HK3 := Lib.hid hkk
  have hz3 := hb.size
  have hz4 : w.heap.size + 1 + 1 + 1 < w2.heap.size := by omega
  clear hkk hb HB2 HO2
  go_wp2_with fail
  refine bodyPost_ret (v := .agg #[.int .i64 tag, .int .i64 key, .string text, .slice (some ⟨w.heap.size + 1 + 1 + 1, 0, none⟩) np np, .slice (some ⟨ws.heap.size, 0, none⟩) nk nk]) (by simp [results, Tryd.results7, go_sem, a0, a1, a2, a3, a4, z0, z1, z2, z3, z4, af, zf]) rfl ?_
  refine HQ.out (w.heap.size + 1 + 1 + 1) ws.heap.size ws.heap.size hdr P Q _ (by omega) (by simp only [World.size_setCell]; omega) (fun h0 => ⟨_, rfl, by omega, by omega, ?_⟩) ?_ ?_
  · rw [HNP.out]
    refine own_moved (w := w2) HO3.out ?_
    generalize hbq : w.heap.size + 1 + 1 + 1 = b
    rw [heap_setCell_other _ _ b _ (by simp <;> omega), heap_setCell_other _ _ b _ (by simp <;> omega), heap_setCell_other _ _ b _ (by simp <;> omega), heap_setCell_other _ _ b _ (by simp <;> omega), heap_setCell_other _ _ b _ (by simp <;> omega), heap_setCell_other _ _ b _ (by simp <;> omega)]
  · simp only [World.size_setCell]
    refine KdO.kept (w := w2) HK3.out (fun b hb _ => ?_)
    rw [heap_setCell_other _ _ b _ (by simp <;> omega), heap_setCell_other _ _ b _ (by simp <;> omega), heap_setCell_other _ _ b _ (by simp <;> omega), heap_setCell_other _ _ b _ (by simp <;> omega), heap_setCell_other _ _ b _ (by simp <;> omega), heap_setCell_other _ _ b _ (by simp <;> omega)]
  · exact ((((((HB3.out.setCell (by first | omega | (simp <;> omega)) _).setCell (by first | omega | (simp <;> omega)) _).setCell (by first | omega | (simp <;> omega)) _).setCell (by first | omega | (simp <;> omega)) _).setCell (by first | omega | (simp <;> omega)) _).setCell (by first | omega | (simp <;> omega)) _)
theorem TrO.later {w w' : World} {lo hi : Nat} {cs : List Value} {t : Tr} (h : TrO w lo hi cs t) (hh : hi ≤ w.heap.size) (hb : Below w.heap.size w w') : TrO w' lo hi cs t := h.kept fun b _ h2 => hb.block b (by omega)
theorem TrO.use {w : World} {lo hi : Nat} {t : Tr} {A0 A1 : Option Addr} {c0 c1 : Nat} (h : TrO w lo hi [.int .i64 t.tag, .int .i64 t.key, .string t.text, .slice A0 t.ps.length c0, .slice A1 t.ks.length c1] t) : PrL w A0 t.ps ∧ TrL w 0 A1 t.ks := by
  obtain ⟨B0, d0, B1, d1, e, hp, _, hk⟩ := h.trc.open_
  simp only [List.cons.injEq, Value.slice.injEq, and_true, true_and] at e
  obtain ⟨⟨rfl, rfl⟩, rfl, rfl⟩ := e
  exact ⟨hp, hk⟩
end Go.Proofs.YtcpfjlbicofkeaaDoor

namespace Go.Proofs.YtcpfjlbicofkeaaDoor
open Go.Joins Go.ChangeShapes Go.WideShapes Go.ChangeAt Go.RowKit Go.Deep
set_option linter.unusedVariables false
set_option linter.unusedSimpArgs false


mutual
  /-- How many marks. -/
  def wT : Tr → Nat
    | .mk _ _ _ ps ks => 3 + 4 * ps.length + wL ks
  def wL : List Tr → Nat
    | [] => 0
    | x :: xs => wT x + wL xs
end
mutual
  def markT : Tr → Nat → Tr
    | .mk _ _ _ ps ks, k => .mk (k : Nat) (k + 1 : Nat) (markB (k + 2)) (markPr ps.length (k + 3)) (markL ks (k + 3 + 4 * ps.length))
  def markL : List Tr → Nat → List Tr
    | [], _ => []
    | x :: xs, k => markT x k :: markL xs (k + wT x)
end
theorem wT_eq (t : Tr) : wT t = 3 + 4 * t.ps.length + wL t.ks := by obtain ⟨_, _, _, _, _⟩ := t; simp only [wT, Tr.ps, Tr.ks]
theorem markT_eq (t : Tr) (k : Nat) : markT t k = .mk (k : Nat) (k + 1 : Nat) (markB (k + 2)) (markPr t.ps.length (k + 3)) (markL t.ks (k + 3 + 4 * t.ps.length)) := by obtain ⟨_, _, _, _, _⟩ := t; simp only [markT, Tr.ps, Tr.ks]
theorem markT_ps (t : Tr) (k : Nat) : (markT t k).ps = markPr t.ps.length (k + 3) := by rw [markT_eq]; rfl
theorem markT_ks (t : Tr) (k : Nat) : (markT t k).ks = markL t.ks (k + 3 + 4 * t.ps.length) := by rw [markT_eq]; rfl
theorem markT_tag (t : Tr) (k : Nat) : (markT t k).tag = ((k : Nat) : Int) := by rw [markT_eq]; rfl
theorem markT_key (t : Tr) (k : Nat) : (markT t k).key = ((k + 1 : Nat) : Int) := by rw [markT_eq]; rfl
theorem markT_text (t : Tr) (k : Nat) : (markT t k).text = markB (k + 2) := by rw [markT_eq]; rfl
theorem markL_len : ∀ (xs : List Tr) (k : Nat), (markL xs k).length = xs.length
  | [], _ => by simp [markL]
  | x :: xs, k => by simp only [markL, List.length_cons, markL_len xs]
theorem wT_le : ∀ t, (wT t : Int) ≤ 3 + 4 * szT t := Tr.by_kids fun t ih => by
  have hl : ∀ ks : List Tr, (∀ x ∈ ks, (wT x : Int) ≤ 3 + 4 * szT x) → (wL ks : Int) ≤ 3 * ks.length + 4 * szL ks := by
    intro ks
    induction ks with
    | nil => intro _; simp [wL, szL]
    | cons x xs ihx =>
      intro h
      have h1 := h x (by simp)
      have h2 := ihx (fun y hy => h y (List.mem_cons_of_mem _ hy))
      simp only [wL, szL, List.length_cons]
      omega
  have h1 := hl t.ks ih
  have h2 := szPrs_pos t.ps
  rw [wT_eq, szT_eq]
  omega
theorem wL_drop {xs : List Tr} {j : Nat} {x : Tr} (h : xs[j]? = some x) : wL (xs.drop j) = wT x + wL (xs.drop (j + 1)) := by rw [drop_cons h]; simp only [wL]
theorem set_take {ys zs : List Tr} {j : Nat} {y : Tr} (h1 : ys.take j = zs.take j) (h2 : zs[j]? = some y) (h3 : j < ys.length) : (ys.set j y).take (j + 1) = zs.take (j + 1) := by
  apply List.ext_getElem?
  intro i
  rw [List.getElem?_take, List.getElem?_take]
  by_cases hi : i < j + 1
  · rw [if_pos hi, if_pos hi]
    by_cases hij : i = j
    · subst hij
      rw [List.getElem?_set_self h3, h2]
    · rw [List.getElem?_set_ne (fun e => hij e.symm)]
      have e := congrArg (fun l => l[i]?) h1
      simp only [List.getElem?_take, if_pos (show i < j by omega)] at e
      exact e
  · rw [if_neg hi, if_neg hi]
theorem set_drop {ys : List Tr} {j : Nat} (y : Tr) : (ys.set j y).drop (j + 1) = ys.drop (j + 1) := by
  apply List.ext_getElem?
  intro i
  rw [List.getElem?_drop, List.getElem?_drop, List.getElem?_set_ne (by omega)]
theorem KdO.step {w w5 : World} {m hi j g c1 : Nat} {hdr : Nat → List Value} {P Q : Nat → Nat} {ys : List Tr} {y : Tr} {cs L5 : List Value} (h : KdO w m hi (some ⟨g, 0, none⟩) c1 hdr P Q ys) (hj : j < ys.length)
    (hrow : w5.ownsRow 0 33 5 (.slice (some ⟨g, 0, none⟩) ys.length c1) ys.length L5) (hL5 : ∀ i, i < ys.length → i ≠ j → ∀ q, q < 5 → L5[i * 5 + q]? = (hdr i)[q]?) (hLj : ∀ q, q < 5 → L5[j * 5 + q]? = cs[q]?)
    (hk : TrO w5 (P j) (Q j) cs y) (hb : ∀ b, m ≤ b → b < hi → b ≠ g → (b < P j ∨ Q j ≤ b) → w5.heap[b]? = w.heap[b]?) : KdO w5 m hi (some ⟨g, 0, none⟩) c1 (fun i => if i = j then cs else hdr i) P Q (ys.set j y) := by
  obtain ⟨g', L, e, r1, r2, r3, _, _⟩ := h.row (by omega)
  simp only [Option.some.injEq, Addr.mk.injEq, and_true] at e
  subst e
  refine ⟨fun _ => ⟨g, L5, rfl, r1, r2, fun i hi => r3 i (by simpa using hi), by rw [List.length_set]; exact hrow, fun i hi q hq => ?_⟩, fun i hi => h.inn i (by simpa using hi), fun i k hik hk => h.apart i k hik (by simpa using hk), fun i x hx => ?_⟩
  · by_cases hij : i = j
    · subst hij
      rw [if_pos rfl]
      exact hLj q hq
    · rw [if_neg hij]
      exact hL5 i (by simpa using hi) hij q hq
  · by_cases hij : i = j
    · subst hij
      rw [if_pos rfl]
      rw [List.getElem?_set_self hj] at hx
      injection hx with hx
      subst hx
      exact hk
    · rw [if_neg hij]
      rw [List.getElem?_set_ne (fun e => hij e.symm)] at hx
      have hi := (List.getElem?_eq_some_iff.1 hx).1
      obtain ⟨q1, q2, q3⟩ := h.inn i hi
      have r4 := r3 i hi
      refine (h.kid i x hx).kept fun b hb1 hb2 => hb b (by omega) (by omega) (by omega) ?_
      rcases (by omega : i < j ∨ j < i) with h1 | h1
      · have := h.apart i j h1 hj
        omega
      · have := h.apart j i h1 hi
        omega
/-- Props marked, in a row of their own. -/
theorem markProps_own (lo m k n c : Nat) (A : Option Addr) (ps : List Pr) (w : World) (hp : PrO w lo m A c ps) (hn : ps.length = n) (hl : n ≤ 1048576) (hk : k ≤ 50000000) (hk0 : 0 < k) :
    Calls Tryd.prog 30 #[.slice A n c, .int .i64 k] w fun e w' => e = .returned (.int .i64 (k + 4 * n : Nat)) ∧ PrO w' lo m A c (markPr n k) ∧ Turn lo m w w' := by
  rcases Nat.eq_zero_or_pos n with rfl | h0
  · refine (markProps_nil A c k w).mono ?_
    rintro e w' ⟨rfl, rfl⟩
    exact ⟨by simp, fun h => absurd h (by simp [markPr]), Turn.refl _ _ _⟩
  · obtain ⟨g, rfl, a, b, ho⟩ := hp (by omega)
    rw [hn] at ho
    refine (markProps_any g c 0 k n _ w ho hl hk hk0).mono ?_
    rintro e w' ⟨rfl, ho, hg⟩
    exact ⟨rfl, fun _ => ⟨g, rfl, a, b, by rw [markPr_len]; exact ho⟩, Turn.of_grown hg a b⟩
def MksX (m hi : Nat) (A : Option Addr) (c : Nat) (P Q : Nat → Nat) (ks : List Tr) (k : Nat) (w : World) (e : Ending) (w' : World) : Prop :=
  e = .returned (.int .i64 (k + wL ks : Nat)) ∧ (∃ hdr, KdO w' m hi A c hdr P Q (markL ks k)) ∧ Turn m hi w w'
def MkS (ks : List Tr) : Prop := ∀ (m hi c k n : Nat) (A : Option Addr) (hdr : Nat → List Value) (P Q : Nat → Nat) (w : World), KdO w m hi A c hdr P Q ks → ks.length = n → hi ≤ w.heap.size → 0 < k → k + wL ks ≤ 50000000 →
  Calls Tryd.prog 31 #[.slice A n c, .int .i64 k] w (MksX m hi A c P Q ks k w)
set_option maxRecDepth 100000 in
set_option maxHeartbeats 4000000 in
theorem markTrees_of (xs : List Tr) (IH : ∀ x ∈ xs, MkS x.ks) (hbd : ∀ x ∈ xs, BdT x) (hl : xs.length ≤ 1048576) : MkS xs := by
  intro m hi c k n A hdr P Q w hkd hn hhi hk0 hkb
  have HN := Lib.hid hn
  have HI := Lib.hid IH
  have HD := Lib.hid hbd
  have HK := Lib.hid hkb
  have HH := Lib.hid hkd
  rw [hn] at hl
  clear hn IH hbd hkb hkd
  go_enter Tryd.func31, Tryd.ntmps31
  go_wp2_with fail
  go_loopw [1, 5] (fun mm i wr => ∃ (j q : Nat) (ys : List Tr) (hdr : Nat → List Value), j ≤ n ∧ i = .int .i64 j ∧ mm = .int .i64 q ∧ 0 < q ∧ Hid (q + wL (xs.drop j) = k + wL xs) ∧ Hid ((markL xs k).drop j = markL (xs.drop j) q) ∧ Hid (ys.length = n ∧ ys.take j = (markL xs k).take j ∧ ys.drop j = xs.drop j) ∧
    Hid (KdO wr m hi A c hdr P Q ys) ∧ Hid (Turn m hi w wr)) (fun _ i _ => n - (intOf i).toNat)
  case atStart => exact ⟨0, k, xs, hdr, by omega, rfl, rfl, hk0, Lib.hid rfl, Lib.hid rfl, Lib.hid ⟨HN.out, rfl, rfl⟩, HH, Lib.hid (Turn.refl _ _ _)⟩
  case round =>
    obtain ⟨j, q, ys, hdr, hj, rfl, rfl, hq0, HQ, HM, HY, HKD, HT⟩ := hrel
    by_cases hlt : j < n
    · obtain ⟨x, hx⟩ := at_some (show j < xs.length by rw [HN.out]; exact hlt)
      have hdc := drop_cons hx
      have hyl : ys.length = n := HY.out.1
      have hyx : ys[j]? = some x := by
        have e : (ys.drop j)[0]? = some x := by rw [HY.out.2.2, hdc]; rfl
        rw [List.getElem?_drop] at e
        exact e
      have HQ2 := Lib.hid (show q + wT x + wL (xs.drop (j + 1)) = k + wL xs by have := HQ.out; rw [hdc] at this; simp only [wL] at this; omega)
      have HM2 := Lib.hid (show (markL xs k).drop j = markT x q :: markL (xs.drop (j + 1)) (q + wT x) by rw [HM.out, hdc]; simp only [markL])
      obtain ⟨hp1, hp3, _⟩ := (HD.out x (List.mem_of_getElem? hx)).open_
      have hih := HI.out x (List.mem_of_getElem? hx)
      have hqb : q + 3 + 4 * x.ps.length + wL x.ks ≤ 50000000 := by have := HQ2.out; have := HK.out; rw [wT_eq] at *; omega
      obtain ⟨g, L, rfl, r1, r2, r3, hown, hLh⟩ := HKD.out.row (by omega)
      have hgP := r3 j (by omega)
      obtain ⟨i1, i2, i3⟩ := HKD.out.inn j (by omega)
      obtain ⟨m2, A0, c0, A1, c1, hdr2, P2, Q2, hm1, hm2, hcs, hpr, hkd2⟩ := (HKD.out.kid j x hyx).open_
      rw [hyl] at hown
      have hLl : L.length = n * 5 := hown.1
      have hh := hLh j (by omega)
      rw [hcs] at hh
      have e3 := (hown.cellAt (j * 5 + 3) (by omega)).trans (hh 3 (by omega))
      have e4 := (hown.cellAt (j * 5 + 4) (by omega)).trans (hh 4 (by omega))
      simp only [List.getElem?_cons_succ, List.getElem?_cons_zero] at e3 e4
      have HO2 := Lib.hid hown
      have hgw : g < wr.heap.size := (hown.lt g rfl).2
      have hhr : hi ≤ wr.heap.size := Nat.le_trans hhi HT.out.size
      obtain ⟨u0, d0⟩ : ∃ u, wr.cell? ⟨g, j * 5, none⟩ = some u := ⟨_, (HO2.out.cellAt (j * 5) (by omega)).trans (List.getElem?_eq_getElem (show j * 5 < L.length by omega))⟩
      have f0 := HO2.out.frozenAt (j * 5)
      obtain ⟨u1, d1⟩ : ∃ u, wr.cell? ⟨g, j * 5 + 1, none⟩ = some u := ⟨_, (HO2.out.cellAt (j * 5 + 1) (by omega)).trans (List.getElem?_eq_getElem (show j * 5 + 1 < L.length by omega))⟩
      have f1 := HO2.out.frozenAt (j * 5 + 1)
      have HLH := Lib.hid (fun i hi => hLh i (by omega : i < ys.length))
      have HCS := Lib.hid hcs
      have HPR := Lib.hid hpr
      have HKD2 := Lib.hid hkd2
      have HX := Lib.hid hx
      have HYX := Lib.hid hyx
      have HIH := Lib.hid hih
      have HLl := Lib.hid hLl
      obtain ⟨np, hnp⟩ : ∃ u, x.ps.length = u := ⟨_, rfl⟩
      obtain ⟨nk, hnk⟩ : ∃ u, x.ks.length = u := ⟨_, rfl⟩
      rw [hnp] at e3 hp1 hqb
      rw [hnk] at e4 hp3
      have HNP := Lib.hid hnp
      have HNK := Lib.hid hnk
      obtain ⟨wk, hwk⟩ : ∃ u, wL x.ks = u := ⟨_, rfl⟩
      rw [hwk] at hqb
      have HWK := Lib.hid hwk
      clear hx hyx hdc hown hcs hh hpr hkd2 hih hnp hnk hwk hLh hLl r3 HH
      go_wp2_with fail
      obtain ⟨s1, g1⟩ := HO2.out.stored (j * 5) (.int .i64 q)
      obtain ⟨s2, g2⟩ := s1.stored (j * 5 + 1) (.int .i64 (q + 1 : Nat))
      have HS2 := Lib.hid s2
      have HG2 := Lib.hid (grown_trans g1 g2)
      clear s1 s2 g1 g2
      refine (markText_any (q + 2) _ (by omega) (by omega)).mono ?_
      rintro e w2 ⟨rfl, hb⟩
      have hO3 := ownsRow_below HS2.out hb
      obtain ⟨u2, d2⟩ : ∃ u, w2.cell? ⟨g, j * 5 + 2, none⟩ = some u := ⟨_, (hO3.cellAt (j * 5 + 2) (by omega)).trans (List.getElem?_eq_getElem (show j * 5 + 2 < _ by have := HLl.out; simp only [List.length_set]; omega))⟩
      have f2 := hO3.frozenAt (j * 5 + 2)
      obtain ⟨s3, g3⟩ := hO3.stored (j * 5 + 2) (.string (markB (q + 2)))
      have hG3 := grown_trans (grown_trans HG2.out (grown_of_below hb _)) g3
      have a3 : (w2.setCell ⟨g, j * 5 + 2, none⟩ (.string (markB (q + 2)))).cell? ⟨g, j * 5 + 3, none⟩ = some (.slice A0 np c0) := (s3.cellAt (j * 5 + 3) (by omega)).trans (by rw [List.getElem?_set_ne (by omega), List.getElem?_set_ne (by omega), List.getElem?_set_ne (by omega), ← HO2.out.cellAt (j * 5 + 3) (by omega)]; exact e3)
      have a4 : (w2.setCell ⟨g, j * 5 + 2, none⟩ (.string (markB (q + 2)))).cell? ⟨g, j * 5 + 4, none⟩ = some (.slice A1 nk c1) := (s3.cellAt (j * 5 + 4) (by omega)).trans (by rw [List.getElem?_set_ne (by omega), List.getElem?_set_ne (by omega), List.getElem?_set_ne (by omega), ← HO2.out.cellAt (j * 5 + 4) (by omega)]; exact e4)
      clear hO3 hb d0 d1 f0 f1 e3 e4
      have HS3 := Lib.hid s3
      have HG3 := Lib.hid hG3
      clear s3 g3 hG3
      go_wp2_with fail
      obtain ⟨w3, hw3⟩ : ∃ v, w2.setCell ⟨g, j * 5 + 2, none⟩ (.string (markB (q + 2))) = v := ⟨_, rfl⟩
      rw [hw3] at a3 a4 HS3 HG3 ⊢
      clear hw3 d2 f2
      have hs3 := HG3.out.size
      have hfar : ∀ b, b < wr.heap.size → b ≠ g → w3.heap[b]? = wr.heap[b]? := fun b h1 h2 => HG3.out.block b h1 (fun e => h2 (Option.some.inj e))
      have HPR3 := Lib.hid (HPR.out.kept (w' := w3) (fun b h1 h2 => hfar b (by omega) (by omega)))
      have HKD3 := Lib.hid (HKD2.out.kept (w' := w3) (fun b h1 h2 => hfar b (by omega) (by omega)))
      have HFAR := Lib.hid hfar
      clear hfar HPR HKD2
      refine (markProps_own (P j) m2 (q + 3) np c0 A0 x.ps _ HPR3.out HNP.out hp1 (by omega) (by omega)).mono ?_
      rintro e w4 ⟨rfl, hpr4, ht4⟩
      have hgw3 : g < w3.heap.size := by omega
      replace a4 := (World.cell?_of_block (a := ⟨g, j * 5 + 4, none⟩) (ht4.block g hgw3 (by omega))).trans a4
      have HS4 := Lib.hid (ht4.own HS3.out (by omega))
      have HKD4 := Lib.hid (HKD3.out.kept (w' := w4) (fun b h1 h2 => ht4.block b (by omega) (by omega)))
      have HPR4 := Lib.hid hpr4
      have HT4 := Lib.hid ht4
      have hs4 := ht4.size
      clear hpr4 ht4 a3 HPR3 HS3 HKD3
      go_wp2_with fail
      refine (HIH.out m2 (Q j) c1 (q + 3 + 4 * np) nk A1 hdr2 P2 Q2 _ HKD4.out HNK.out (by omega) (by omega) (by rw [HWK.out]; omega)).mono ?_
      rintro e w5 ⟨rfl, ⟨hdr3, hkd5⟩, ht5⟩
      have hr5 := ht5.own HS4.out (by omega)
      have HPR5 := Lib.hid (HPR4.out.kept (w' := w5) (fun b h1 h2 => ht5.block b (by omega) (by omega)))
      have HKD5 := Lib.hid hkd5
      have HT5 := Lib.hid ht5
      have HR5 := Lib.hid hr5
      rw [HWK.out]
      clear hkd5 ht5 hr5 a4 HPR4 HS4 HKD4
      go_wp2_with fail
      go_roundw
      case rel =>
        have hwt : q + 3 + 4 * np + wk = q + wT x := by rw [wT_eq, HNP.out, HWK.out]; omega
        have hto : TrO w5 (P j) (Q j) [.int .i64 (q : Nat), .int .i64 (q + 1 : Nat), .string (markB (q + 2)), .slice A0 np c0, .slice A1 nk c1] (markT x q) := by
          have h := TrO.shut (t := markT x q) (w := w5) (lo := P j) (m := m2) (hi := Q j) (A0 := A0) (c0 := c0) (A1 := A1) (c1 := c1) (hdr := hdr3) (P := P2) (Q := Q2) hm1 hm2 (by rw [markT_ps, HNP.out]; exact HPR5.out) (by rw [markT_ks, HNP.out]; exact HKD5.out)
          rw [markT_tag, markT_key, markT_text, markT_ps, markT_ks, markPr_len, markL_len, HNP.out, HNK.out] at h
          exact h
        refine ⟨j + 1, q + 3 + 4 * np + wk, ys.set j (markT x q), fun i => if i = j then [.int .i64 (q : Nat), .int .i64 (q + 1 : Nat), .string (markB (q + 2)), .slice A0 np c0, .slice A1 nk c1] else hdr i, by omega, by go_num, by go_num, by omega, Lib.hid (by rw [hwt]; exact HQ2.out), Lib.hid ?_, Lib.hid ⟨by rw [List.length_set]; exact HY.out.1, set_take HY.out.2.1 ?_ (by omega), by rw [set_drop]; have := HY.out.2.2; rw [drop_cons HX.out, drop_cons HYX.out] at this; injection this⟩, Lib.hid ?_, Lib.hid ?_⟩
        · have e := HM2.out
          rw [hwt]
          have e2 := congrArg (List.drop 1) e
          rw [List.drop_drop] at e2
          simpa [Nat.add_comm] using e2
        · have e := congrArg (fun l => l[0]?) HM2.out
          simp only [List.getElem?_drop, List.getElem?_cons_zero, Nat.add_zero] at e
          exact e
        · refine KdO.step (L5 := ((L.set (j * 5) (.int .i64 q)).set (j * 5 + 1) (.int .i64 (q + 1 : Nat))).set (j * 5 + 2) (.string (markB (q + 2)))) HKD.out (by omega) (by rw [hyl]; exact HR5.out) (fun i hi hij qq hqq => ?_) (fun qq hqq => ?_) hto (fun b h1 h2 h3 h4 => ?_)
          · rw [List.getElem?_set_ne (by omega), List.getElem?_set_ne (by omega), List.getElem?_set_ne (by omega)]
            exact HLH.out i (by omega) qq hqq
          · have hl5 := HLl.out
            have hh := HLH.out j (by omega)
            rw [HCS.out, HNP.out, HNK.out] at hh
            match qq, hqq with
            | 0, _ => (repeat (rw [List.getElem?_set_ne (by omega)])); rw [show j * 5 + 0 = j * 5 from rfl, List.getElem?_set_self (by first | omega | (simp; omega))]; rfl
            | 1, _ => (repeat (rw [List.getElem?_set_ne (by omega)])); rw [List.getElem?_set_self (by first | omega | (simp; omega))]; rfl
            | 2, _ => rw [List.getElem?_set_self (by first | omega | (simp; omega))]; rfl
            | 3, _ => rw [List.getElem?_set_ne (by omega), List.getElem?_set_ne (by omega), List.getElem?_set_ne (by omega)]; exact hh 3 (by omega)
            | 4, _ => rw [List.getElem?_set_ne (by omega), List.getElem?_set_ne (by omega), List.getElem?_set_ne (by omega)]; exact hh 4 (by omega)
          · exact (HT5.out.block b (by omega) (by omega)).trans ((HT4.out.block b (by omega) (by omega)).trans (HFAR.out b (by omega) h3))
        · exact HT.out.trans ((Turn.of_grown HG3.out r1 r2).trans ((HT4.out.mono i1 (by omega)).trans (HT5.out.mono (by omega) i3)))
      case measure => simp [intOf]; omega
    · obtain rfl : j = n := by omega
      have e : ys = markL xs k := by
        have h := HY.out.2.1
        rw [List.take_of_length_le (by rw [HY.out.1]; exact Nat.le_refl _), List.take_of_length_le (by rw [markL_len, HN.out]; exact Nat.le_refl _)] at h
        exact h
      have hq := HQ.out
      rw [List.drop_eq_nil_of_le (by rw [HN.out]; exact Nat.le_refl _)] at hq
      simp only [wL, Nat.add_zero] at hq
      subst hq
      subst e
      go_wp2_with fail
      go_ret
      exact ⟨rfl, ⟨hdr, HKD.out⟩, HT.out⟩
theorem markTrees_any (t : Tr) : BdT t → MkS t.ks := by
  induction t using Tr.by_kids with
  | h t ih =>
  intro hbd
  obtain ⟨_, h2, h3⟩ := hbd.open_
  exact markTrees_of t.ks (fun x hx => ih x hx (h3 x hx)) h3 h2
/-- A tree marked. -/
def MktX (lo hi : Nat) (A0 A1 : Option Addr) (c0 c1 : Nat) (t : Tr) (k : Nat) (w : World) (e : Ending) (w' : World) : Prop :=
  e = .returned (.int .i64 (k + 4 * t.ps.length + wL t.ks : Nat)) ∧ (∃ (m : Nat) (hdr : Nat → List Value) (P Q : Nat → Nat), lo ≤ m ∧ m ≤ hi ∧ PrO w' lo m A0 c0 (markPr t.ps.length k) ∧ KdO w' m hi A1 c1 hdr P Q (markL t.ks (k + 4 * t.ps.length))) ∧ Turn lo hi w w'
set_option maxRecDepth 100000 in
set_option maxHeartbeats 2000000 in
theorem markTree_any (t : Tr) (hbd : BdT t) (lo hi k c0 c1 : Nat) (A0 A1 : Option Addr) (w : World) (h : TrO w lo hi [.int .i64 t.tag, .int .i64 t.key, .string t.text, .slice A0 t.ps.length c0, .slice A1 t.ks.length c1] t) (hhi : hi ≤ w.heap.size) (hk0 : 0 < k) (hk : k + 4 * t.ps.length + wL t.ks ≤ 50000000) :
    Calls Tryd.prog 12 #[.agg #[.int .i64 t.tag, .int .i64 t.key, .string t.text, .slice A0 t.ps.length c0, .slice A1 t.ks.length c1], .int .i64 k] w (MktX lo hi A0 A1 c0 c1 t k w) := by
  obtain ⟨m, A0', c0', A1', c1', hdr, P, Q, h1, h2, e, hp, hkd⟩ := h.open_
  simp only [List.cons.injEq, Value.slice.injEq, and_true, true_and] at e
  obtain ⟨⟨rfl, rfl⟩, rfl, rfl⟩ := e
  obtain ⟨b1, b2, b3⟩ := hbd.open_
  have hm := markTrees_any t hbd
  have HT := Lib.hid (show ∀ e w', e = .returned (.int .i64 (k + 4 * t.ps.length + wL t.ks : Nat)) → (∃ (m : Nat) (hdr : Nat → List Value) (P Q : Nat → Nat), lo ≤ m ∧ m ≤ hi ∧ PrO w' lo m A0 c0 (markPr t.ps.length k) ∧ KdO w' m hi A1 c1 hdr P Q (markL t.ks (k + 4 * t.ps.length))) → Turn lo hi w w' → MktX lo hi A0 A1 c0 c1 t k w e w' from fun e w' a b c => ⟨a, b, c⟩)
  obtain ⟨X, hX⟩ : ∃ X, MktX lo hi A0 A1 c0 c1 t k w = X := ⟨_, rfl⟩
  rw [hX] at HT ⊢
  have HP := Lib.hid hp
  have HK := Lib.hid hkd
  have HM := Lib.hid hm
  clear hX h hp hkd hm hbd b3
  obtain ⟨tag, key, text, ps, ks⟩ := t
  dsimp only [Tr.tag, Tr.key, Tr.text, Tr.ps, Tr.ks] at *
  obtain ⟨np, hnp⟩ : ∃ u, ps.length = u := ⟨_, rfl⟩
  obtain ⟨nk, hnk⟩ : ∃ u, ks.length = u := ⟨_, rfl⟩
  obtain ⟨wk, hwk⟩ : ∃ u, wL ks = u := ⟨_, rfl⟩
  rw [hnp] at b1 hk HT ⊢
  rw [hnk] at b2 ⊢
  rw [hwk] at hk HT
  have HNP := Lib.hid hnp
  have HNK := Lib.hid hnk
  have HWK := Lib.hid hwk
  clear hnp hnk hwk
  have hb0 := Below.alloc (Below.refl w.heap.size w) (Nat.le_refl _) (.cells #[.int .i64 tag, .int .i64 key, .string text, .slice A0 np c0, .slice A1 nk c1] 33)
  have o3 : (w.alloc (.cells #[.int .i64 tag, .int .i64 key, .string text, .slice A0 np c0, .slice A1 nk c1] 33)).cell? ⟨w.heap.size, 3, none⟩ = some (.slice A0 np c0) := by go_simp
  have o4 : (w.alloc (.cells #[.int .i64 tag, .int .i64 key, .string text, .slice A0 np c0, .slice A1 nk c1] 33)).cell? ⟨w.heap.size, 4, none⟩ = some (.slice A1 nk c1) := by go_simp
  have hsz : w.heap.size < (w.alloc (.cells #[.int .i64 tag, .int .i64 key, .string text, .slice A0 np c0, .slice A1 nk c1] 33)).heap.size := by simp
  have HB0 := Lib.hid hb0
  obtain ⟨wb, hwb⟩ : ∃ v, w.alloc (.cells #[.int .i64 tag, .int .i64 key, .string text, .slice A0 np c0, .slice A1 nk c1] 33) = v := ⟨_, rfl⟩
  rw [hwb] at o3 o4 hsz HB0
  have HWB := Lib.hid hwb
  clear hb0 hwb
  have HP0 := Lib.hid (HP.out.kept (w' := wb) (fun b h3 h4 => HB0.out.block b (by omega)))
  have HK0 := Lib.hid (HK.out.kept (w' := wb) (fun b h3 h4 => HB0.out.block b (by omega)))
  go_enter Tryd.func12, Tryd.ntmps12
  go_wp2_with fail
  rw [HWB.out]
  refine (markProps_own lo m k np c0 A0 ps _ HP0.out HNP.out b1 (by omega) hk0).mono ?_
  rintro e w1 ⟨rfl, hp1, ht1⟩
  replace o4 := (World.cell?_of_block (a := ⟨w.heap.size, 4, none⟩) (ht1.block w.heap.size hsz (by omega))).trans o4
  have hs1 := ht1.size
  have HK1 := Lib.hid (HK0.out.kept (w' := w1) (fun b h3 h4 => ht1.block b (by omega) (by omega)))
  have HP1 := Lib.hid hp1
  have HT1 := Lib.hid ht1
  clear hp1 ht1 HWB o3
  go_wp2_with fail
  refine (HM.out m hi c1 (k + 4 * np) nk A1 hdr P Q _ HK1.out HNK.out (by omega) (by omega) (by rw [HWK.out]; omega)).mono ?_
  rintro e w2 ⟨rfl, ⟨hdr2, hk2⟩, ht2⟩
  have HK2 := Lib.hid hk2
  have HP2 := Lib.hid (HP1.out.kept (w' := w2) (fun b h3 h4 => ht2.block b (by omega) (by omega)))
  have HT2 := Lib.hid ht2
  rw [HWK.out]
  clear hk2 ht2 o4
  go_wp2_with fail
  exact HT.out _ _ (by simp) ⟨m, hdr2, P, Q, h1, h2, HP2.out, HK2.out⟩ ((Turn.of_below HB0.out).trans ((HT1.out.mono (Nat.le_refl _) h2).trans (HT2.out.mono h1 (Nat.le_refl _))))
end Go.Proofs.YtcpfjlbicofkeaaDoor
