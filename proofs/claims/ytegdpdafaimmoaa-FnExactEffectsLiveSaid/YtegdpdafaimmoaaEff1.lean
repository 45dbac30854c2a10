/- Rows of things apart; effects and places. -/
import Derived.Test.YtegdpdafaimmoaaPlc8
import Derived.Deep.RegionHeld3
namespace Go.Proofs.Ytegdpdafaimmoaa
open Go.Joins Go.ChangeShapes Go.WideShapes Go.ChangeAt Go.RowKit Go.Deep
set_option linter.unusedVariables false
set_option linter.unusedSimpArgs false

def markSl : List Sl → Nat → List Sl
  | [], _ => []
  | _ :: xs, k => ⟨k, (k + 1 : Nat)⟩ :: markSl xs (k + 2)
theorem markSl_len : ∀ (xs : List Sl) (k : Nat), (markSl xs k).length = xs.length
  | [], _ => rfl
  | _ :: xs, k => by simp [markSl, markSl_len xs (k + 2)]
theorem markSl_at : ∀ (xs : List Sl) (k j : Nat), j < xs.length → (markSl xs k)[j]? = some ⟨(k + 2 * j : Nat), (k + 2 * j + 1 : Nat)⟩
  | [], _, _, h => by simp at h
  | _ :: xs, k, 0, _ => rfl
  | _ :: xs, k, j + 1, h => by
    have := markSl_at xs (k + 2) j (by simpa using h)
    show (markSl xs (k + 2))[j]? = _
    rw [this, show k + 2 + 2 * j = k + 2 * (j + 1) by omega]
theorem grown_trans {a b c : World} {row : Option Nat} (h : a.grownBy b row) (k : b.grownBy c row) : a.grownBy c row :=
  ⟨k.os.trans h.os, k.tape.trans h.tape, k.output.trans h.output, Nat.le_trans h.size k.size, fun i hi hr => (k.block i (Nat.lt_of_lt_of_le hi h.size) hr).trans (h.block i hi hr)⟩
theorem grown_set (w : World) {p : Addr} {g : Nat} (hp : p.block = g) (u : Value) : w.grownBy (w.setCell p u) (some g) :=
  ⟨rfl, rfl, rfl, by simp [World.setCell], fun k _ hk => heap_setCell_other w p k u (fun e => hk (by rw [e, hp]))⟩
theorem grown_of_below {w w' : World} (h : Below w.heap.size w w') (row : Option Nat) : w.grownBy w' row := ⟨h.os, h.tape, h.output, h.size, fun k hk _ => h.block k hk⟩

def MarkX (g base : Nat) (e : TypeId) (sz n c : Nat) (L : List Value) (r : Int) (w : World) (x : Ending) (w' : World) : Prop :=
  x = .returned (.int .i64 r) ∧ w'.ownsRow base e sz (.slice (some ⟨g, 0, none⟩) n c) n L ∧ w.grownBy w' (some g)

set_option maxHeartbeats 1000000 in
theorem markSlots_any (g c base k n : Nat) (xs : List Sl) (w : World) (ho : w.ownsRow base 65 2 (.slice (some ⟨g, 0, none⟩) n c) n (xs.flatMap Sl.cells)) (hn : xs.length = n) (hl : n ≤ 1048576) (hk : k ≤ 50000000) :
    Calls Try.prog 40 #[.slice (some ⟨g, 0, none⟩) n c, .int .i64 k] w (MarkX g base 65 2 n c ((markSl xs k).flatMap Sl.cells) (k + 2 * n : Nat) w) := by
  have HN := Lib.hid hn
  have HO := Lib.hid ho
  clear hn ho
  go_enter Try.func40, Try.ntmps40
  go_wp2_with fail
  go_loopw [1, 5] (fun m i wr => ∃ (j : Nat) (L : List Value), j ≤ n ∧ i = .int .i64 j ∧ m = .int .i64 (k + 2 * j : Nat) ∧ wr.ownsRow base 65 2 (.slice (some ⟨g, 0, none⟩) n c) n L ∧ L.take (j * 2) = ((markSl xs k).take j).flatMap Sl.cells ∧ w.grownBy wr (some g)) (fun _ i _ => n - (intOf i).toNat)
  case atStart => exact ⟨0, _, by omega, rfl, rfl, HO.out, rfl, World.grownBy.refl w _⟩
  case round =>
    obtain ⟨j, L, hj, rfl, rfl, hown, htk, hgr⟩ := hrel
    have HT := Lib.hid htk
    have HO2 := Lib.hid hown
    have HG := Lib.hid hgr
    have hLl : L.length = n * 2 := hown.1
    clear htk hown hgr
    by_cases hlt : j < n
    · have hat := markSl_at xs k j (by rw [HN.out]; exact hlt)
      obtain ⟨u0, d0⟩ : ∃ u, wr.cell? ⟨g, j * 2, none⟩ = some u := ⟨_, (HO2.out.cellAt (j * 2) (by omega)).trans (List.getElem?_eq_getElem (show j * 2 < L.length by omega))⟩
      obtain ⟨u1, d1⟩ : ∃ u, wr.cell? ⟨g, j * 2 + 1, none⟩ = some u := ⟨_, (HO2.out.cellAt (j * 2 + 1) (by omega)).trans (List.getElem?_eq_getElem (show j * 2 + 1 < L.length by omega))⟩
      have f0 := HO2.out.frozenAt (j * 2)
      have f1 := HO2.out.frozenAt (j * 2 + 1)
      have HAT := Lib.hid hat
      have HLl := Lib.hid hLl
      obtain ⟨q, hq⟩ : ∃ q : Nat, q = k + 2 * j := ⟨_, rfl⟩
      have HQ := Lib.hid hq
      have hqb : q ≤ 60000000 := by omega
      rw [← hq]
      clear hat hLl hq
      go_wp2_with fail
      obtain ⟨s1, g1⟩ := HO2.out.stored (j * 2) (.int .i64 q)
      obtain ⟨s2, g2⟩ := s1.stored (j * 2 + 1) (.int .i64 (q + 1 : Nat))
      go_roundw
      case rel => exact ⟨j + 1, _, by omega, by go_num, by rw [HQ.out]; go_num, s2, take_two (x := ⟨(q : Int), (q + 1 : Nat)⟩) (by have := HLl.out; omega) HT.out (by rw [HQ.out]; exact HAT.out), grown_trans (grown_trans HG.out g1) g2⟩
      case measure => simp [intOf]; omega
    · obtain rfl : j = n := by omega
      have e : L = (markSl xs k).flatMap Sl.cells := by
        have := HT.out
        rw [List.take_of_length_le (by rw [hLl]; exact Nat.le_refl _), List.take_of_length_le (by rw [markSl_len, HN.out]; exact Nat.le_refl _)] at this
        exact this
      have HO3 := HO2.out
      rw [e] at HO3
      have HO4 := Lib.hid HO3
      clear HO3 e hLl
      go_wp2_with fail
      go_ret
      exact ⟨rfl, HO4.out, HG.out⟩

set_option maxHeartbeats 1000000 in
theorem heldSlots_any (A : Option Addr) (c k n : Nat) (xs : List Sl) (w : World) (hx : SlL w A (markSl xs k)) (hn : xs.length = n) (hl : n ≤ 1048576) (hk : k ≤ 50000000) :
    Calls Try.prog 41 #[.slice A n c, .int .i64 k] w fun e w' => e = .returned (.int .i64 (k + 2 * n : Nat)) ∧ w = w' := by
  have HN := Lib.hid hn
  have HX := Lib.hid hx
  clear hn hx
  go_enter Try.func41, Try.ntmps41
  go_wp2_with fail
  go_loop [1, 5] (fun m i => ∃ j : Nat, j ≤ n ∧ i = .int .i64 j ∧ m = .int .i64 (k + 2 * j : Nat)) (fun _ i => n - (intOf i).toNat)
  case atStart => exact ⟨0, by omega, rfl, rfl⟩
  case round =>
    obtain ⟨j, hj, rfl, rfl⟩ := hrel
    by_cases hlt : j < n
    · obtain ⟨b, off, rfl, hblt, hcell⟩ := SlL.at_ HX.out (by rw [markSl_len, HN.out]; omega)
      obtain ⟨c0, c1⟩ := hcell j _ (markSl_at xs k j (by rw [HN.out]; exact hlt))
      obtain ⟨q, hq⟩ : ∃ q : Nat, q = k + 2 * j := ⟨_, rfl⟩
      have HQ := Lib.hid hq
      have hqb : q ≤ 60000000 := by omega
      dsimp only at c0 c1
      rw [← hq] at c0 c1 ⊢
      clear hcell hq
      go_wp2_with fail
      go_round
      case rel => exact ⟨j + 1, by omega, by go_num, by rw [HQ.out]; go_num⟩
      case measure => simp [intOf]; omega
    · obtain rfl : j = n := by omega
      go_wp2_with fail
      go_ret
      exact ⟨rfl, rfl⟩

/-- Only blocks from lo on and below hi have turned, of those that were there. -/
structure Turn (lo hi : Nat) (w w' : World) : Prop where
  os : w'.os = w.os
  tape : w'.tape = w.tape
  output : w'.output = w.output
  size : w.heap.size ≤ w'.heap.size
  block : ∀ b, b < w.heap.size → (b < lo ∨ hi ≤ b) → w'.heap[b]? = w.heap[b]?
theorem Turn.refl (lo hi : Nat) (w : World) : Turn lo hi w w := ⟨rfl, rfl, rfl, Nat.le_refl _, fun _ _ _ => rfl⟩
theorem Turn.trans {lo hi : Nat} {a b c : World} (h : Turn lo hi a b) (k : Turn lo hi b c) : Turn lo hi a c :=
  ⟨k.os.trans h.os, k.tape.trans h.tape, k.output.trans h.output, Nat.le_trans h.size k.size, fun i hi' hr => (k.block i (Nat.lt_of_lt_of_le hi' h.size) hr).trans (h.block i hi' hr)⟩
theorem Turn.of_grown {lo hi g : Nat} {a b : World} (h : a.grownBy b (some g)) (h0 : lo ≤ g) (h1 : g < hi) : Turn lo hi a b :=
  ⟨h.os, h.tape, h.output, h.size, fun i hi' hr => h.block i hi' (fun e => by injection e with e; omega)⟩
theorem Turn.of_below {lo hi : Nat} {a b : World} (h : Below a.heap.size a b) : Turn lo hi a b := ⟨h.os, h.tape, h.output, h.size, fun i hi' _ => h.block i hi'⟩
theorem Turn.below {lo hi : Nat} {a b : World} (h : Turn lo hi a b) {B : Nat} (hB : B ≤ lo) (hs : B ≤ a.heap.size) : Below B a b := ⟨h.os, h.tape, h.output, h.size, fun i hi' => h.block i (by omega) (.inl (by omega))⟩
theorem Turn.mono {lo hi lo' hi' : Nat} {a b : World} (h : Turn lo hi a b) (h0 : lo' ≤ lo) (h1 : hi ≤ hi') : Turn lo' hi' a b := ⟨h.os, h.tape, h.output, h.size, fun i hi hr => h.block i hi (by omega)⟩
theorem Turn.cell {lo hi : Nat} {a b : World} (h : Turn lo hi a b) {k o : Nat} (hk : k < a.heap.size) (hr : k < lo ∨ hi ≤ k) : b.cell? ⟨k, o, none⟩ = a.cell? ⟨k, o, none⟩ := World.cell?_of_block (a := ⟨k, o, none⟩) (h.block k hk hr)
/-- Rows outside stay the call's own. -/
theorem Turn.own {lo hi : Nat} {a b : World} (h : Turn lo hi a b) {base n m cap g : Nat} {e : TypeId} {xs : List Value} (ho : a.ownsRow base e n (.slice (some ⟨g, 0, none⟩) m cap) m xs) (hr : g < lo ∨ hi ≤ g) : b.ownsRow base e n (.slice (some ⟨g, 0, none⟩) m cap) m xs := by
  have hlt := (ho.lt g rfl).2
  have hbl := h.block g hlt hr
  rcases ho.2 with ⟨h', _⟩ | ⟨g', cap', cur, h', hb, hg, rest⟩
  · simp at h'
  · simp only [Value.slice.injEq, Option.some.injEq, Addr.mk.injEq, and_true, true_and] at h'
    obtain ⟨rfl, rfl⟩ := h'
    exact ⟨ho.1, .inr ⟨g, cap, cur, rfl, hb, hbl.trans hg, rest⟩⟩
/-- What a thing has stands as long as its blocks do. -/
def TurnOk {α : Type} (own : World → Nat → Nat → List Value → α → Prop) : Prop :=
  ∀ (w w' : World) (lo hi l2 h2 : Nat) (cs : List Value) (x : α), own w lo hi cs x → Turn l2 h2 w w' → (hi ≤ l2 ∨ h2 ≤ lo) → own w' lo hi cs x
/-- Things in a row, each in blocks of its own. -/
structure ApD {α : Type} (own : World → Nat → Nat → List Value → α → Prop) (m : Nat) (w : World) (lo hi g : Nat) (L : List Value) (P Q : Nat → Nat) (xs : List α) : Prop where
  row : ∀ i x, xs[i]? = some x → ∃ cs : List Value, cs.length = m ∧ (∀ j u, cs[j]? = some u → L[i * m + j]? = some u) ∧ own w (P i) (Q i) cs x
  inn : ∀ i, i < xs.length → lo ≤ P i ∧ P i ≤ Q i ∧ Q i ≤ hi ∧ (g < P i ∨ Q i ≤ g)
  apart : ∀ i j, i < xs.length → j < xs.length → i ≠ j → Q i ≤ P j ∨ Q j ≤ P i
def ApR {α : Type} (own : World → Nat → Nat → List Value → α → Prop) (m : Nat) (e : TypeId) (w : World) (lo hi : Nat) (A : Option Addr) (c : Nat) (xs : List α) : Prop :=
  0 < xs.length → ∃ g L P Q, A = some ⟨g, 0, none⟩ ∧ lo ≤ g ∧ g < hi ∧ w.ownsRow 0 e m (.slice (some ⟨g, 0, none⟩) xs.length c) xs.length L ∧ ApD own m w lo hi g L P Q xs
variable {α : Type} {own : World → Nat → Nat → List Value → α → Prop}
theorem ApD.turn (ho : TurnOk own) {m lo hi g l2 h2 : Nat} {w w' : World} {L : List Value} {P Q : Nat → Nat} {xs : List α} (h : ApD own m w lo hi g L P Q xs) (ht : Turn l2 h2 w w') (hr : hi ≤ l2 ∨ h2 ≤ lo) : ApD own m w' lo hi g L P Q xs :=
  ⟨fun i x hx => by
    obtain ⟨cs, a, b, c⟩ := h.row i x hx
    obtain ⟨q1, q2, q3, _⟩ := h.inn i (List.getElem?_eq_some_iff.1 hx).1
    exact ⟨cs, a, b, ho _ _ _ _ _ _ _ _ c ht (by omega)⟩, h.inn, h.apart⟩
theorem ApD.step (ho : TurnOk own) {m lo hi g j : Nat} {w w5 : World} {L cs : List Value} {P Q : Nat → Nat} {xs : List α} {x y : α} (h : ApD own m w lo hi g L P Q xs) (hj : xs[j]? = some x) (hcs : cs.length = m) (hL : ∀ i u, cs[i]? = some u → L[j * m + i]? = some u) (hy : own w5 (P j) (Q j) cs y) (ht : Turn (P j) (Q j) w w5) : ApD own m w5 lo hi g L P Q (xs.set j y) := by
  have hjl := (List.getElem?_eq_some_iff.1 hj).1
  refine ⟨fun i z hz => ?_, fun i hi => h.inn i (by simpa using hi), fun i k hi hk2 => h.apart i k (by simpa using hi) (by simpa using hk2)⟩
  by_cases hij : i = j
  · subst hij
    rw [List.getElem?_set_self hjl] at hz
    injection hz with hz
    subst hz
    exact ⟨cs, hcs, hL, hy⟩
  · rw [List.getElem?_set_ne (fun e => hij e.symm)] at hz
    obtain ⟨c2, a, b, c⟩ := h.row i z hz
    exact ⟨c2, a, b, ho _ _ _ _ _ _ _ _ c ht (h.apart i j (List.getElem?_eq_some_iff.1 hz).1 hjl hij)⟩
/-- One more at the end: its blocks are behind all others. -/
theorem ApD.more (ho : TurnOk own) {m lo g k h5 : Nat} {w w5 : World} {L L' cs : List Value} {P Q : Nat → Nat} {xs : List α} {x : α} (h : ApD own m w lo w.heap.size g L P Q (xs.take k)) (hx : xs[k]? = some x) (hcs : cs.length = m) (hL1 : ∀ i, i < k * m → L'[i]? = L[i]?) (hL2 : ∀ i u, cs[i]? = some u → L'[k * m + i]? = some u) (hg : g < w.heap.size) (hlo : lo ≤ w.heap.size) (ht : Turn g (g + 1) w w5) (hy : own w5 w.heap.size h5 cs x) (h5s : w.heap.size ≤ h5) (h5e : h5 ≤ w5.heap.size) :
    ApD own m w5 lo w5.heap.size g L' (fun i => if i = k then w.heap.size else P i) (fun i => if i = k then h5 else Q i) (xs.take (k + 1)) := by
  have hk := (List.getElem?_eq_some_iff.1 hx).1
  have hlt : (xs.take k).length = k := by rw [List.length_take]; omega
  have hl2 : (xs.take (k + 1)).length = k + 1 := by rw [List.length_take]; omega
  refine ⟨fun i z hz => ?_, fun i hi => ?_, fun i j hi hj hij => ?_⟩
  · rw [List.getElem?_take] at hz
    split at hz
    · rename_i hik
      by_cases hie : i = k
      · subst hie
        rw [hx] at hz
        injection hz with hz
        subst hz
        simp only [if_pos]
        exact ⟨cs, hcs, hL2, hy⟩
      · simp only [if_neg hie]
        obtain ⟨c2, a, b, c⟩ := h.row i z (by rw [List.getElem?_take, if_pos (by omega)]; exact hz)
        obtain ⟨q1, q2, q3, q4⟩ := h.inn i (by omega)
        refine ⟨c2, a, fun j u hu => ?_, ho _ _ _ _ _ _ _ _ c ht (by omega)⟩
        have hj : j < m := by rw [← a]; exact (List.getElem?_eq_some_iff.1 hu).1
        have : i * m + j < k * m := by
          have h1 : (i + 1) * m ≤ k * m := Nat.mul_le_mul_right m (by omega)
          rw [Nat.add_mul] at h1
          omega
        rw [hL1 _ this]
        exact b j u hu
    · cases hz
  · rw [hl2] at hi
    have hs := ht.size
    by_cases hie : i = k
    · subst hie
      simp only [if_pos]
      omega
    · simp only [if_neg hie]
      obtain ⟨q1, q2, q3, q4⟩ := h.inn i (by omega)
      omega
  · rw [hl2] at hi hj
    by_cases hie : i = k
    · subst hie
      obtain ⟨q1, q2, q3, q4⟩ := h.inn j (by omega)
      simp only [if_pos, if_neg (fun e => hij e.symm : ¬ j = i)]
      omega
    · by_cases hje : j = k
      · subst hje
        obtain ⟨q1, q2, q3, q4⟩ := h.inn i (by omega)
        simp only [if_pos, if_neg hie]
        omega
      · simp only [if_neg hie, if_neg hje]
        exact h.apart i j (by omega) (by omega) hij
theorem ApD.zero {m lo hi g : Nat} {w : World} {L : List Value} {xs : List α} : ApD own m w lo hi g L (fun _ => 0) (fun _ => 0) (xs.take 0) := ⟨fun i x h => by simp at h, fun i h => by simp at h, fun i j h => by simp at h⟩
theorem ApR.turn (ho : TurnOk own) {m lo hi c l2 h2 : Nat} {e : TypeId} {w w' : World} {A : Option Addr} {xs : List α} (h : ApR own m e w lo hi A c xs) (ht : Turn l2 h2 w w') (hr : hi ≤ l2 ∨ h2 ≤ lo) : ApR own m e w' lo hi A c xs := fun h0 => by
  obtain ⟨g, L, P, Q, rfl, a, b, hown, hd⟩ := h h0
  exact ⟨g, L, P, Q, rfl, a, b, ht.own hown (by omega), hd.turn ho ht hr⟩
theorem ApR.below (ho : TurnOk own) {m lo hi c : Nat} {e : TypeId} {w w' : World} {A : Option Addr} {xs : List α} (h : ApR own m e w lo hi A c xs) (hb : Below w.heap.size w w') : ApR own m e w' lo hi A c xs :=
  h.turn ho (Turn.of_below (lo := hi) (hi := hi) hb) (.inl (Nat.le_refl _))
theorem ApR.mono {m lo hi lo' hi' c : Nat} {e : TypeId} {w : World} {A : Option Addr} {xs : List α} (h : ApR own m e w lo hi A c xs) (h1 : lo' ≤ lo) (h2 : hi ≤ hi') : ApR own m e w lo' hi' A c xs := fun h0 => by
  obtain ⟨g, L, P, Q, rfl, a, b, hown, hd⟩ := h h0
  exact ⟨g, L, P, Q, rfl, by omega, by omega, hown, ⟨hd.row, fun i hi => by have := hd.inn i hi; omega, hd.apart⟩⟩
/-- A row of plain things, in a block of its own. -/
def FlR (c : α → List Value) (m : Nat) (e : TypeId) (w : World) (lo hi : Nat) (A : Option Addr) (cap : Nat) (xs : List α) : Prop :=
  0 < xs.length → ∃ g, A = some ⟨g, 0, none⟩ ∧ lo ≤ g ∧ g < hi ∧ w.ownsRow 0 e m (.slice (some ⟨g, 0, none⟩) xs.length cap) xs.length (xs.flatMap c)
theorem FlR.turn {c : α → List Value} {m : Nat} {e : TypeId} {w w' : World} {lo hi cap l2 h2 : Nat} {A : Option Addr} {xs : List α} (h : FlR c m e w lo hi A cap xs) (ht : Turn l2 h2 w w') (hr : hi ≤ l2 ∨ h2 ≤ lo) : FlR c m e w' lo hi A cap xs := fun h0 => by
  obtain ⟨g, rfl, a, b, hown⟩ := h h0
  exact ⟨g, rfl, a, b, ht.own hown (by omega)⟩
theorem FlR.lies {c : α → List Value} {m : Nat} {e : TypeId} {w : World} {lo hi cap : Nat} {A : Option Addr} {xs : List α} (hc : ∀ x, (c x).length = m) (h : FlR c m e w lo hi A cap xs) : Lie c m w A xs := fun h0 => by
  obtain ⟨g, rfl, a, b, hown⟩ := h h0
  exact Lie.of_own hc hown h0
theorem row_capG {w : World} {base n c g : Nat} {e : TypeId} {sz : Nat} {L : List Value} (h : w.ownsRow base e sz (.slice (some ⟨g, 0, none⟩) n c) n L) : n ≤ c := by
  rcases h.2 with ⟨h, _⟩ | ⟨g', cap, cur, h, _, _, hc, _⟩
  · simp at h
  · simp only [Value.slice.injEq, Option.some.injEq, Addr.mk.injEq, and_true, true_and] at h
    obtain ⟨_, rfl⟩ := h
    exact hc
theorem FlR.cap {c : α → List Value} {m : Nat} {e : TypeId} {w : World} {lo hi cap : Nat} {A : Option Addr} {xs : List α} (h : FlR c m e w lo hi A cap xs) : xs.length ≤ cap := by
  rcases Nat.eq_zero_or_pos xs.length with h0 | h0
  · omega
  · obtain ⟨g, rfl, a, b, hown⟩ := h h0
    exact row_capG hown
theorem FlR.mono {α : Type} {c : α → List Value} {m : Nat} {e : TypeId} {w : World} {lo hi lo' hi' cap : Nat} {A : Option Addr} {xs : List α} (h : FlR c m e w lo hi A cap xs) (h1 : lo' ≤ lo) (h2 : hi ≤ hi') : FlR c m e w lo' hi' A cap xs := fun h0 => by
  obtain ⟨g, rfl, a, b, ho⟩ := h h0
  exact ⟨g, rfl, by omega, by omega, ho⟩
theorem FlR.below {α : Type} {c : α → List Value} {m : Nat} {e : TypeId} {w w' : World} {lo hi cap : Nat} {A : Option Addr} {xs : List α} (h : FlR c m e w lo hi A cap xs) (hb : Below w.heap.size w w') : FlR c m e w' lo hi A cap xs := h.turn (Turn.of_below (lo := hi) (hi := hi) hb) (.inl (Nat.le_refl _))
theorem turn_set (w : World) (p : Addr) (u : Value) : Turn p.block (p.block + 1) w (w.setCell p u) := Turn.of_grown (grown_set w rfl u) (Nat.le_refl _) (Nat.lt_succ_self _)
theorem set_takeG {α : Type} {ys zs : List α} {j : Nat} {y : α} (h1 : ys.take j = zs.take j) (h2 : zs[j]? = some y) (h3 : j < ys.length) : (ys.set j y).take (j + 1) = zs.take (j + 1) := by
  apply List.ext_getElem?
  intro i
  rw [List.getElem?_take, List.getElem?_take]
  by_cases hi : i < j + 1
  · rw [if_pos hi, if_pos hi]
    by_cases hij : i = j
    · subst hij
      rw [List.getElem?_set_self h3, h2]
    · rw [List.getElem?_set_ne (fun e => hij e.symm)]
      have e := congrArg (fun l => l[i]?) h1
      simp only [List.getElem?_take, if_pos (show i < j by omega)] at e
      exact e
  · rw [if_neg hi, if_neg hi]
theorem set_dropG {α : Type} {ys : List α} {j : Nat} (y : α) : (ys.set j y).drop (j + 1) = ys.drop (j + 1) := by
  apply List.ext_getElem?
  intro i
  rw [List.getElem?_drop, List.getElem?_drop, List.getElem?_set_ne (by omega)]
set_option maxHeartbeats 400000 in
theorem markSl_nil (A : Option Addr) (c : Nat) (k : Int) (w : World) : Calls Try.prog 40 #[.slice A 0 c, .int .i64 k] w fun e w' => e = .returned (.int .i64 k) ∧ w = w' := by
  go_enter Try.func40, Try.ntmps40
  go_wp2_with fail
  refine wp_loop_rounds 1 ?_
  rw [rounds_succ]
  go_wp2_with fail
  go_ret
  exact ⟨rfl, rfl⟩
theorem markSl_own (lo hi k n c r : Nat) (A : Option Addr) (xs : List Sl) (w : World) (hp : FlR Sl.cells 2 65 w lo hi A c xs) (hn : xs.length = n) (hl : n ≤ 1048576) (hk : k ≤ 50000000) (hr : k + 2 * n = r) :
    Calls Try.prog 40 #[.slice A n c, .int .i64 k] w fun e w' => e = .returned (.int .i64 r) ∧ FlR Sl.cells 2 65 w' lo hi A c (markSl xs k) ∧ Turn lo hi w w' := by
  subst hr
  rcases Nat.eq_zero_or_pos n with rfl | h0
  · refine (markSl_nil A c k w).mono ?_
    rintro e w' ⟨rfl, rfl⟩
    refine ⟨by simp, fun h => ?_, Turn.refl _ _ _⟩
    rw [markSl_len, hn] at h
    exact absurd h (by omega)
  · obtain ⟨g, rfl, a, b, ho⟩ := hp (by omega)
    rw [hn] at ho
    refine (markSlots_any g c 0 k n xs w ho hn hl hk).mono ?_
    rintro e w' ⟨rfl, ho, hg⟩
    exact ⟨rfl, fun _ => ⟨g, rfl, a, b, by rw [markSl_len, hn]; exact ho⟩, Turn.of_grown hg a b⟩
theorem scells_len (x : Sl) : x.cells.length = 2 := rfl
/-- An effect. -/
structure Ef where
  k : Int
  pl : List Sl
/-- An effect in blocks of its own. -/
def EfV (w : World) (lo hi : Nat) (cs : List Value) (x : Ef) : Prop := ∃ ad c, cs = [.int .i64 x.k, .slice (some ad) x.pl.length c] ∧ FlR Sl.cells 2 65 w lo hi (some ad) c x.pl
theorem EfV.turn : TurnOk EfV := fun w w' lo hi l2 h2 cs x h ht hr => by
  obtain ⟨A, c, e, h⟩ := h
  exact ⟨A, c, e, h.turn ht hr⟩
def EfsO (w : World) (lo hi : Nat) (A : Option Addr) (c : Nat) (xs : List Ef) : Prop := ApR EfV 2 55 w lo hi A c xs
/-- A place in blocks of its own. -/
def PlV (w : World) (lo hi : Nat) (cs : List Value) (p : List Sl) : Prop := ∃ A c, cs = [.slice A p.length c] ∧ FlR Sl.cells 2 65 w lo hi A c p
theorem PlV.turn : TurnOk PlV := fun w w' lo hi l2 h2 cs x h ht hr => by
  obtain ⟨A, c, e, h⟩ := h
  exact ⟨A, c, e, h.turn ht hr⟩
def PssO (w : World) (lo hi : Nat) (A : Option Addr) (c : Nat) (ps : List (List Sl)) : Prop := ApR PlV 1 37 w lo hi A c ps
/-- Effects lie in memory. -/
def EfL (w : World) (A : Option Addr) (xs : List Ef) : Prop :=
  0 < xs.length → ∃ b off, A = some ⟨b, off, none⟩ ∧ b < w.heap.size ∧ ∀ i (x : Ef), xs[i]? = some x → ∃ A0 c0, w.cell? ⟨b, off + i * 2, none⟩ = some (.int .i64 x.k) ∧ w.cell? ⟨b, off + i * 2 + 1, none⟩ = some (.slice A0 x.pl.length c0) ∧ SlL w A0 x.pl ∧ x.pl.length ≤ c0 ∧ x.pl.length ≤ maxLen
theorem EfL.below {w w' : World} {A : Option Addr} {xs : List Ef} (h : EfL w A xs) (hb : Below w.heap.size w w') : EfL w' A xs := fun h0 => by
  obtain ⟨b, off, e, hlt, hc⟩ := h h0
  refine ⟨b, off, e, Nat.lt_of_lt_of_le hlt hb.size, fun i x hx => ?_⟩
  obtain ⟨A0, c0, h1, h2, h3, h4⟩ := hc i x hx
  exact ⟨A0, c0, (hb.cell (p := ⟨b, _, none⟩) hlt).trans h1, (hb.cell (p := ⟨b, _, none⟩) hlt).trans h2, h3.below hb, h4⟩
/-- Places lie in memory. -/
def PsL (w : World) (A : Option Addr) (ps : List (List Sl)) : Prop :=
  0 < ps.length → ∃ b off, A = some ⟨b, off, none⟩ ∧ b < w.heap.size ∧ ∀ i (p : List Sl), ps[i]? = some p → ∃ A0 c0, w.cell? ⟨b, off + i, none⟩ = some (.slice A0 p.length c0) ∧ SlL w A0 p
theorem PsL.below {w w' : World} {A : Option Addr} {ps : List (List Sl)} (h : PsL w A ps) (hb : Below w.heap.size w w') : PsL w' A ps := fun h0 => by
  obtain ⟨b, off, e, hlt, hc⟩ := h h0
  refine ⟨b, off, e, Nat.lt_of_lt_of_le hlt hb.size, fun i x hx => ?_⟩
  obtain ⟨A0, c0, h1, h2⟩ := hc i x hx
  exact ⟨A0, c0, (hb.cell (p := ⟨b, _, none⟩) hlt).trans h1, h2.below hb⟩
/-- No place is longer than a million. -/
def SmE (xs : List Ef) : Prop := xs.length ≤ 1048576 ∧ ∀ x ∈ xs, x.pl.length ≤ 1048576
def SmP (ps : List (List Sl)) : Prop := ps.length ≤ 1048576 ∧ ∀ p ∈ ps, p.length ≤ 1048576
theorem EfsO.lies {w : World} {lo hi c : Nat} {A : Option Addr} {xs : List Ef} (h : EfsO w lo hi A c xs) (hs : SmE xs) : EfL w A xs := fun h0 => by
  obtain ⟨g, L, P, Q, rfl, _, _, ho, hd⟩ := h h0
  refine ⟨g, 0, rfl, (ho.lt g rfl).2, fun i x hx => ?_⟩
  obtain ⟨cs, _, hcs, A0, c0, rfl, h3⟩ := hd.row i x hx
  have hi := (List.getElem?_eq_some_iff.1 hx).1
  have hL := ho.1
  have h4 := hs.2 x (List.mem_of_getElem? hx)
  refine ⟨some A0, c0, ?_, ?_, h3.lies scells_len, h3.cap, by unfold maxLen; omega⟩
  · rw [Nat.zero_add, ho.cellAt (i * 2) (by omega)]
    exact hcs 0 _ rfl
  · rw [Nat.zero_add, ho.cellAt (i * 2 + 1) (by omega)]
    exact hcs 1 _ rfl
/-- Effects lie in memory, none of their places is nil. -/
def EfN (w : World) (A : Option Addr) (xs : List Ef) : Prop :=
  0 < xs.length → ∃ b off, A = some ⟨b, off, none⟩ ∧ b < w.heap.size ∧ ∀ i (x : Ef), xs[i]? = some x → ∃ A0 c0, w.cell? ⟨b, off + i * 2, none⟩ = some (.int .i64 x.k) ∧ w.cell? ⟨b, off + i * 2 + 1, none⟩ = some (.slice (some A0) x.pl.length c0) ∧ SlL w (some A0) x.pl ∧ x.pl.length ≤ c0 ∧ x.pl.length ≤ maxLen
theorem EfN.below {w w' : World} {A : Option Addr} {xs : List Ef} (h : EfN w A xs) (hb : Below w.heap.size w w') : EfN w' A xs := fun h0 => by
  obtain ⟨b, off, e, hlt, hc⟩ := h h0
  refine ⟨b, off, e, Nat.lt_of_lt_of_le hlt hb.size, fun i x hx => ?_⟩
  obtain ⟨A0, c0, h1, h2, h3, h4⟩ := hc i x hx
  exact ⟨A0, c0, (hb.cell (p := ⟨b, _, none⟩) hlt).trans h1, (hb.cell (p := ⟨b, _, none⟩) hlt).trans h2, h3.below hb, h4⟩
theorem EfsO.liesN {w : World} {lo hi c : Nat} {A : Option Addr} {xs : List Ef} (h : EfsO w lo hi A c xs) (hs : SmE xs) : EfN w A xs := fun h0 => by
  obtain ⟨g, L, P, Q, rfl, _, _, ho, hd⟩ := h h0
  refine ⟨g, 0, rfl, (ho.lt g rfl).2, fun i x hx => ?_⟩
  obtain ⟨cs, _, hcs, A0, c0, rfl, h3⟩ := hd.row i x hx
  have hi := (List.getElem?_eq_some_iff.1 hx).1
  have hL := ho.1
  have h4 := hs.2 x (List.mem_of_getElem? hx)
  refine ⟨A0, c0, ?_, ?_, h3.lies scells_len, h3.cap, by unfold maxLen; omega⟩
  · rw [Nat.zero_add, ho.cellAt (i * 2) (by omega)]
    exact hcs 0 _ rfl
  · rw [Nat.zero_add, ho.cellAt (i * 2 + 1) (by omega)]
    exact hcs 1 _ rfl
theorem PssO.lies {w : World} {lo hi c : Nat} {A : Option Addr} {ps : List (List Sl)} (h : PssO w lo hi A c ps) : PsL w A ps := fun h0 => by
  obtain ⟨g, L, P, Q, rfl, _, _, ho, hd⟩ := h h0
  refine ⟨g, 0, rfl, (ho.lt g rfl).2, fun i x hx => ?_⟩
  obtain ⟨cs, _, hcs, A0, c0, rfl, h3⟩ := hd.row i x hx
  have hi := (List.getElem?_eq_some_iff.1 hx).1
  have hL := ho.1
  refine ⟨A0, c0, ?_, h3.lies scells_len⟩
  rw [Nat.zero_add, ho.cellAt i (by omega)]
  exact (by rw [← Nat.mul_one i]; exact hcs 0 _ rfl)
end Go.Proofs.Ytegdpdafaimmoaa
