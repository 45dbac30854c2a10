/- What the laws' own source of numbers does: whatever it is asked, it answers a small number, and turns only its own block. -/
import Derived.Test.YtcpfjlbicofkeaaDoorBase
import Derived.Test.YtcpfjlbicofkeaaDoorValid
import Derived.OwnWalk
import Derived.IntWalk
import Derived.BigQuiet
import Derived.Deep.QuietTactic
namespace Go.Proofs.YtcpfjlbicofkeaaDoor
open Go.Joins Go.ChangeShapes Go.WideShapes Go.ChangeAt Go.RowKit Go.Deep
set_option linter.unusedVariables false

/-- Below block B only block g has turned. -/
structure Keep (g B : Nat) (w w' : World) : Prop where
  os : w'.os = w.os
  tape : w'.tape = w.tape
  output : w'.output = w.output
  size : w.heap.size ≤ w'.heap.size
  block : ∀ k, k < B → k ≠ g → w'.heap[k]? = w.heap[k]?
theorem Keep.refl (g B : Nat) (w : World) : Keep g B w w := ⟨rfl, rfl, rfl, Nat.le_refl _, fun _ _ _ => rfl⟩
theorem Keep.trans {g B : Nat} {a b c : World} (h : Keep g B a b) (k : Keep g B b c) : Keep g B a c :=
  ⟨k.os.trans h.os, k.tape.trans h.tape, k.output.trans h.output, Nat.le_trans h.size k.size, fun i hi hg => (k.block i hi hg).trans (h.block i hi hg)⟩
theorem Keep.mono {g B B' : Nat} {a b : World} (h : Keep g B a b) (hB : B' ≤ B) : Keep g B' a b := ⟨h.os, h.tape, h.output, h.size, fun k hk => h.block k (Nat.lt_of_lt_of_le hk hB)⟩
theorem Keep.alloc {g B : Nat} {a b : World} (h : Keep g B a b) (hB : B ≤ b.heap.size) (o : Obj) : Keep g B a (b.alloc o) :=
  h.trans ⟨rfl, rfl, rfl, by simp, fun k hk _ => Below.heap_alloc _ _ _ (by omega)⟩
theorem Keep.drew {g B : Nat} {a b : World} (h : Keep g B a b) : Keep g B a b.drew := ⟨h.os, h.tape, h.output, h.size, h.block⟩
theorem Keep.drewN {g B : Nat} {a b : World} (h : Keep g B a b) (n : Nat) : Keep g B a (b.drewN n) := ⟨h.os, h.tape, h.output, h.size, h.block⟩
theorem Keep.set_ {g B : Nat} {a b : World} (h : Keep g B a b) {p : Addr} (hp : p.block = g ∨ B ≤ p.block) (u : Value) : Keep g B a (b.setCell p u) :=
  h.trans ⟨rfl, rfl, rfl, by simp [World.setCell], fun k hk hg => Below.heap_setCell _ _ _ _ (by omega)⟩
theorem Keep.below {g B : Nat} {a b : World} (h : Keep g B a b) (hg : B ≤ g) : Below B a b :=
  ⟨h.os, h.tape, h.output, h.size, fun k hk => h.block k hk (by omega)⟩
theorem Keep.of_below {g B : Nat} {a b : World} (h : Below B a b) : Keep g B a b := ⟨h.os, h.tape, h.output, h.size, fun k hk _ => h.block k hk⟩
/-- One call more: it turns its source alone. -/
theorem Keep.more {g B : Nat} {a b c : World} (h : Keep g B a b) (h0 : B ≤ a.heap.size) (k : Keep g b.heap.size b c) : Keep g B a c := h.trans (k.mono (Nat.le_trans h0 h.size))
theorem Keep.cell {g B : Nat} {a b : World} (h : Keep g B a b) :
    (∀ k o, k < B → k ≠ g → b.cell? ⟨k, o, none⟩ = a.cell? ⟨k, o, none⟩) ∧ (∀ k o, k < B → k ≠ g → b.frozen? ⟨k, o, none⟩ = a.frozen? ⟨k, o, none⟩) :=
  ⟨fun k o hk hg => World.cell?_of_block (a := ⟨k, o, none⟩) (h.block k hk hg), fun k o hk hg => World.frozen?_of_block (a := ⟨k, o, none⟩) (h.block k hk hg)⟩

/-- The source's block: the code, how far it has been read, how many answers are left. -/
def Src (w : World) (g : Nat) (A : Option Addr) (len cap : Nat) (p l : Int) : Prop :=
  w.heap[g]? = some (.cells #[.slice A len cap, .int .i64 p, .int .i64 l] 83 (0, 0)) ∧ 0 ≤ p ∧ 0 ≤ l ∧ p + 2 * l ≤ 8000
/-- The code's bytes. -/
def Code (w : World) (g : Nat) (A : Option Addr) (len : Nat) : Prop :=
  0 < len → ∃ b off, A = some ⟨b, off, none⟩ ∧ b < g ∧ ∀ i, i < len → ∃ c : Int, 0 ≤ c ∧ c ≤ 255 ∧ w.cell? ⟨b, off + i, none⟩ = some (.int .u8 c)
/-- A source that may be asked. -/
def St (g : Nat) (A : Option Addr) (len cap : Nat) (w : World) : Prop := (∃ p l, Src w g A len cap p l) ∧ Code w g A len ∧ len ≤ maxLen
/-- What a pick leaves. -/
def Picked (g : Nat) (A : Option Addr) (len cap : Nat) (n : Int) (w : World) (e : Ending) (w' : World) : Prop :=
  ∃ r : Int, e = .returned (.int .i64 r) ∧ 0 ≤ r ∧ (r < n ∨ r = 0) ∧ St g A len cap w' ∧ Keep g w.heap.size w w'

theorem Src.lt {w : World} {g : Nat} {A : Option Addr} {len cap : Nat} {p l : Int} (h : Src w g A len cap p l) : g < w.heap.size := by
  rcases Nat.lt_or_ge g w.heap.size with hlt | hge
  · exact hlt
  · have := h.1; rw [Array.getElem?_eq_none hge] at this; cases this
theorem St.lt {w : World} {g : Nat} {A : Option Addr} {len cap : Nat} (h : St g A len cap w) : g < w.heap.size := by
  obtain ⟨⟨p, l, h⟩, _⟩ := h
  exact h.lt
theorem Code.of_block {w w' : World} {g : Nat} {A : Option Addr} {len : Nat} (h : Code w g A len) (hb : ∀ k, k < g → w'.heap[k]? = w.heap[k]?) : Code w' g A len := fun h0 => by
  obtain ⟨b, off, rfl, hbg, hc⟩ := h h0
  refine ⟨b, off, rfl, hbg, fun i hi => ?_⟩
  obtain ⟨c, h1, h2, h3⟩ := hc i hi
  exact ⟨c, h1, h2, (World.cell?_of_block (a := ⟨b, off + i, none⟩) (hb b hbg)).trans h3⟩
theorem St.of_block {w w' : World} {g : Nat} {A : Option Addr} {len cap : Nat} (h : St g A len cap w) (hb : ∀ k, k < g + 1 → w'.heap[k]? = w.heap[k]?) : St g A len cap w' := by
  obtain ⟨⟨p, l, h1, h2⟩, hc, hl⟩ := h
  exact ⟨⟨p, l, (hb g (by omega)).trans h1, h2⟩, hc.of_block (fun k hk => hb k (by omega)), hl⟩
theorem St.alloc {w : World} {g : Nat} {A : Option Addr} {len cap : Nat} (h : St g A len cap w) (o : Obj) : St g A len cap (w.alloc o) :=
  h.of_block fun k hk => Below.heap_alloc _ _ _ (by have := h.lt; omega)
theorem St.drew {w : World} {g : Nat} {A : Option Addr} {len cap : Nat} (h : St g A len cap w) : St g A len cap w.drew := h.of_block fun _ _ => rfl
theorem St.drewN {w : World} {g : Nat} {A : Option Addr} {len cap : Nat} (h : St g A len cap w) (n : Nat) : St g A len cap (w.drewN n) := h.of_block fun _ _ => rfl
theorem St.set_ {w : World} {g : Nat} {A : Option Addr} {len cap : Nat} (h : St g A len cap w) {p : Addr} (hp : g < p.block) (u : Value) : St g A len cap (w.setCell p u) :=
  h.of_block fun k hk => Below.heap_setCell _ _ _ _ (by omega)
theorem St.below {w w' : World} {g : Nat} {A : Option Addr} {len cap : Nat} (h : St g A len cap w) (hb : Below w.heap.size w w') : St g A len cap w' :=
  h.of_block fun k hk => hb.block k (by have := h.lt; omega)

theorem src_cell {w : World} {g : Nat} {A : Option Addr} {len cap : Nat} {p l : Int} (h : Src w g A len cap p l) :
    w.cell? ⟨g, 0, none⟩ = some (.slice A len cap) ∧ w.cell? ⟨g, 1, none⟩ = some (.int .i64 p) ∧ w.cell? ⟨g, 2, none⟩ = some (.int .i64 l) ∧ ∀ i, w.frozen? ⟨g, i, none⟩ = false := by
  have h0 := h.1
  refine ⟨by simp [World.cell?, h0], by simp [World.cell?, h0], by simp [World.cell?, h0], fun i => by simp [World.frozen?, h0]⟩

theorem set_block {w : World} {g : Nat} {cs : Array Value} {t : TypeId} (h : w.heap[g]? = some (.cells cs t (0, 0))) (i : Nat) (u : Value) : (w.setCell ⟨g, i, none⟩ u).heap[g]? = some (.cells (cs.setIfInBounds i u) t (0, 0)) := by
  simp [World.setCell, Array.getElem?_modify, h]
theorem src_step {w : World} {g : Nat} {v : Value} {p l p' l' : Int} (h : w.heap[g]? = some (.cells #[v, .int .i64 p, .int .i64 l] 83 (0, 0))) (nq : Nat) :
    (((w.setCell ⟨g, 2, none⟩ (.int .i64 l')).drewN nq).setCell ⟨g, 1, none⟩ (.int .i64 p')).heap[g]? = some (.cells #[v, .int .i64 p', .int .i64 l'] 83 (0, 0)) := by
  exact set_block (w := (w.setCell ⟨g, 2, none⟩ (.int .i64 l')).drewN nq) (cs := #[v, .int .i64 p, .int .i64 l']) (set_block h 2 _) 1 _

set_option maxHeartbeats 400000 in
theorem pick_any (g : Nat) (A : Option Addr) (len cap : Nat) (n : Int) (w : World) (hs0 : St g A len cap w) (hn2 : n ≤ 256) :
    Calls Tryd.prog 34 #[.pointer (some ⟨g, 0, none⟩), .int .i64 n] w (Picked g A len cap n w) := by
  by_cases hn : n ≤ 1
  · go_enter Tryd.func34, Tryd.ntmps34
    go_wp2_with fail
    go_ret
    exact ⟨0, rfl, by omega, .inr rfl, hs0, Keep.refl _ _ _⟩
  have HS := Lib.hid hs0
  obtain ⟨⟨p, l, hs⟩, hc, hlen⟩ := hs0
  unfold maxLen at hlen
  obtain ⟨c0, c1, c2, cf⟩ := src_cell hs
  obtain ⟨hb, hp, hl, hpl⟩ := hs
  have HB := Lib.hid hb
  clear hb
  have d1 : decide (n ≤ 1) = false := by simp; omega
  have n2 : 2 ≤ n := by omega
  clear hn
  by_cases l0 : l ≤ 0
  · go_enter Tryd.func34, Tryd.ntmps34
    go_wp2_with fail
    go_ret
    exact ⟨0, rfl, by omega, .inr rfl, HS.out, Keep.refl _ _ _⟩
  · have d2 : decide (l ≤ 0) = false := by simp; omega
    by_cases hlen0 : len = 0
    · subst hlen0
      go_enter Tryd.func34, Tryd.ntmps34
      go_wp2_with fail
      go_ret
      exact ⟨0, rfl, by omega, .inr rfl, HS.out, Keep.refl _ _ _⟩
    · obtain ⟨b, off, rfl, hbg, hcells⟩ := hc (by omega)
      have HC := Lib.hid hc
      clear hc
      have d3 : ((len : Int) == 0) = false := by simp; omega
      have m0 : 0 ≤ p % len := Int.emod_nonneg _ (by omega)
      have m1 : p % len < len := Int.emod_lt_of_pos _ (by omega)
      obtain ⟨c, k0, k1, hcc⟩ := hcells (p % len).toNat (by omega)
      have q0 : 0 ≤ p / len := Int.ediv_nonneg hp (by omega)
      have q1 : p / len ≤ 8000 := by
        have := Int.ediv_le_self len hp
        omega
      have w1 : IntKind.i64.wrap (p / len * 31) = p / len * 31 := IntWalk.i64_in _ (by omega)
      have w2 : IntKind.i64.wrap (c + p / len * 31) = c + p / len * 31 := IntWalk.i64_in _ (by omega)
      go_enter Tryd.func34, Tryd.ntmps34
      go_wp2_with fail
      go_quiet (fail)
      go_wp2_with fail
      go_ret
      have hk := (((Keep.refl g w.heap.size w).set_ (p := ⟨g, 2, none⟩) (.inl rfl) (.int .i64 (l - 1))).drewN nq).set_ (p := ⟨g, 1, none⟩) (.inl rfl) (.int .i64 (p + 1))
      refine ⟨(c + p / len * 31) % n, rfl, Int.emod_nonneg _ (by omega), .inl (Int.emod_lt_of_pos _ (by omega)), ⟨⟨p + 1, l - 1, src_step HB.out nq, by omega, by omega, by omega⟩, ?_, ?_⟩, hk⟩
      · exact HC.out.of_block fun k hk' => hk.block k (by have := HS.out.lt; omega) (by omega)
      · unfold maxLen; omega

set_option maxHeartbeats 400000 in
theorem rarely_any (g : Nat) (A : Option Addr) (len cap : Nat) (w : World) (hs : St g A len cap w) :
    Calls Tryd.prog 52 #[.pointer (some ⟨g, 0, none⟩)] w fun e w' => ∃ b : Bool, e = .returned (.bool b) ∧ St g A len cap w' ∧ Keep g w.heap.size w w' := by
  have HS := Lib.hid hs
  clear hs
  go_enter Tryd.func52, Tryd.ntmps52
  go_wp2_with (go_at_call 34; refine (pick_any g A len cap 40 _ HS.out (by omega)).mono ?_; rintro e w' ⟨r, rfl, hr0, hr1, hs', hk⟩)
  go_ret
  exact ⟨_, rfl, hs', hk⟩

/-- A list of small numbers, in a block of its own. -/
def Small (w : World) (b n : Nat) (lo hi : Int) : Prop := ∀ i, i < n → ∃ z : Int, lo ≤ z ∧ z ≤ hi ∧ w.cell? ⟨b, i, none⟩ = some (.int .i64 z)
theorem Small.at_ {w : World} {b n : Nat} {lo hi : Int} (h : Small w b n lo hi) {i : Nat} (hi' : i < n) : ∃ z : Int, lo ≤ z ∧ z ≤ hi ∧ w.cell? ⟨b, i, none⟩ = some (.int .i64 z) := h i hi'

set_option maxHeartbeats 400000 in
theorem one_any (g : Nat) (A : Option Addr) (len cap : Nat) (b n c : Nat) (lo hi : Int) (w : World) (hs : St g A len cap w) (hb : b < w.heap.size) (hbg : b ≠ g) (hl : Small w b n lo hi) (h1 : 1 ≤ n) (h2 : n ≤ 256) :
    Calls Tryd.prog 53 #[.pointer (some ⟨g, 0, none⟩), .slice (some ⟨b, 0, none⟩) n c] w fun e w' => ∃ z : Int, e = .returned (.int .i64 z) ∧ lo ≤ z ∧ z ≤ hi ∧ St g A len cap w' ∧ Keep g w.heap.size w w' := by
  have HS := Lib.hid hs
  have HL := Lib.hid hl
  clear hs hl
  go_enter Tryd.func53, Tryd.ntmps53
  go_wp2_with fail
  refine (pick_any g A len cap n _ HS.out (by omega)).mono ?_
  rintro e w' ⟨r, rfl, hr0, hr1, hs', hk⟩
  have hr2 : r < n := by omega
  obtain ⟨z, z0, z1, hz0⟩ := Small.at_ HL.out (show r.toNat < n by omega)
  have hz := (hk.cell.1 b r.toNat hb hbg).trans hz0
  have HS' := Lib.hid hs'
  clear hs' hz0
  go_wp2_with fail
  go_ret
  exact ⟨_, rfl, z0, z1, HS'.out, hk⟩

theorem str6 (w : World) (r : Int) (h0 : 0 ≤ r) (h6 : r < 6) : ∃ t : ByteArray, t.size ≤ 4 ∧ (w.alloc (.cells #[.string ⟨#[97]⟩, .string ⟨#[98]⟩, .string ⟨#[122, 57]⟩, .string ⟨#[32]⟩, .string ⟨#[48]⟩, .string ⟨#[108, 111, 110, 103]⟩] 9)).cell? ⟨w.heap.size, r.toNat, none⟩ = some (.string t) := by
  rcases (by omega : r = 0 ∨ r = 1 ∨ r = 2 ∨ r = 3 ∨ r = 4 ∨ r = 5) with rfl | rfl | rfl | rfl | rfl | rfl
  all_goals exact ⟨_, by decide, cell_of_row _ _ _ _ _ _ (heap_alloc_new w _)⟩

set_option maxHeartbeats 400000 in
theorem text_any (g : Nat) (A : Option Addr) (len cap : Nat) (w : World) (hs : St g A len cap w) :
    Calls Tryd.prog 83 #[.pointer (some ⟨g, 0, none⟩)] w fun e w' => ∃ s : ByteArray, e = .returned (.string s) ∧ s.size ≤ 100 ∧ St g A len cap w' ∧ Keep g w.heap.size w w' := by
  have HS := Lib.hid hs
  have HG := Lib.hid hs.lt
  clear hs
  go_enter Tryd.func83, Tryd.ntmps83
  go_wp2_with (go_at_call 34; refine (pick_any g A len cap 4 _ HS.out (by omega)).mono ?_; rintro e w1 ⟨r, rfl, hr0, hr1, hs1, hk1⟩)
  have HS1 := Lib.hid hs1
  have HK1 := Lib.hid hk1
  clear hs1 hk1
  go_loopw [3, 4] (fun o i wr => ∃ (s : ByteArray) (k : Nat), o = .string s ∧ i = .int .i64 k ∧ s.size + 4 * k ≤ 12 ∧ St g A len cap wr ∧ Keep g w.heap.size w wr) (fun _ i _ => (intOf i).toNat)
  case atStart => exact ⟨⟨#[]⟩, r.toNat, rfl, by rw [show (r.toNat : Int) = r by omega], by have : (⟨#[]⟩ : ByteArray).size = 0 := rfl; omega, HS1.out, HK1.out⟩
  case round =>
    obtain ⟨s, k, rfl, rfl, hsz, hs2, hk2⟩ := hrel
    by_cases hk0 : k = 0
    · subst hk0
      have HS2 := Lib.hid hs2
      have HK2 := Lib.hid hk2
      clear hs2 hk2
      go_wp2_with (go_at_call 52; refine (rarely_any g A len cap _ HS2.out).mono ?_; rintro e w2 ⟨b, rfl, hs3, hk3⟩; have HS3 := Lib.hid hs3; have HK3 := Lib.hid hk3; clear hs3 hk3)
      all_goals
        go_ret
        exact ⟨_, rfl, by have e1 : (⟨#[81]⟩ : ByteArray).size = 1 := rfl; first | (simp only [ByteArray.size_append]; omega) | omega, HS3.out, HK2.out.more (Nat.le_refl _) HK3.out⟩
    · have HA := Lib.hid (hs2.alloc (.cells #[.string ⟨#[97]⟩, .string ⟨#[98]⟩, .string ⟨#[122, 57]⟩, .string ⟨#[32]⟩, .string ⟨#[48]⟩, .string ⟨#[108, 111, 110, 103]⟩] 9))
      have HK := Lib.hid (hk2.alloc hk2.size (.cells #[.string ⟨#[97]⟩, .string ⟨#[98]⟩, .string ⟨#[122, 57]⟩, .string ⟨#[32]⟩, .string ⟨#[48]⟩, .string ⟨#[108, 111, 110, 103]⟩] 9))
      have HN : ¬ wr.heap.size = g := by have := hs2.lt; omega
      have kp : 0 < (k : Int) := by omega
      clear hs2 hk2
      go_wp2_with fail
      refine (pick_any g A len cap 6 _ HA.out (by omega)).mono ?_
      rintro e w2 ⟨r, rfl, hr0, hr1, hs3, hk3⟩
      have hr2 : r < 6 := by omega
      obtain ⟨tt, ht1, ht0⟩ := str6 wr r hr0 hr2
      have ht := (hk3.cell.1 wr.heap.size r.toNat (by simp) HN).trans ht0
      have HS3 := Lib.hid hs3
      have HK3 := Lib.hid hk3
      clear hs3 hk3 ht0
      go_wp2_with fail
      go_roundw
      case rel => exact ⟨s ++ tt, k - 1, rfl, by go_num, by simp; omega, HS3.out, HK.out.more (Nat.le_refl _) (HK3.out.mono (by simp))⟩
      case measure => simp [intOf]; omega

theorem small7 (w : World) : Small (w.alloc (.cells #[.int .i64 0, .int .i64 1, .int .i64 (-1), .int .i64 1000, .int .i64 (-1000), .int .i64 500, .int .i64 1001] 3)) w.heap.size 7 (-1001) 1001 := by
  intro i hi
  rcases (by omega : i = 0 ∨ i = 1 ∨ i = 2 ∨ i = 3 ∨ i = 4 ∨ i = 5 ∨ i = 6) with rfl | rfl | rfl | rfl | rfl | rfl | rfl
  all_goals exact ⟨_, by decide, by decide, cell_of_row _ _ _ _ _ _ (heap_alloc_new w _)⟩

/-- A value that was drawn: of small numbers and a short text. -/
def Drawn (k n : Int) (s : ByteArray) : Prop := 0 ≤ k ∧ k ≤ 2 ∧ -1001 ≤ n ∧ n ≤ 1001 ∧ s.size ≤ 100

set_option maxHeartbeats 400000 in
theorem value_any (g : Nat) (A : Option Addr) (len cap : Nat) (w : World) (hs : St g A len cap w) :
    Calls Tryd.prog 75 #[.pointer (some ⟨g, 0, none⟩)] w (fun e w' => ∃ (k n : Int) (s : ByteArray), e = .returned (.agg #[.int .i64 k, .int .i64 n, .string s]) ∧ Drawn k n s ∧ St g A len cap w' ∧ Keep g w.heap.size w w') := by
  have HG := Lib.hid hs.lt
  have HN : ¬ w.heap.size = g := by have := hs.lt; omega
  have HA := Lib.hid (hs.alloc (.cells #[.int .i64 0, .int .i64 0, .string ⟨#[]⟩] 74))
  have HK := Lib.hid ((Keep.refl g w.heap.size w).alloc (Nat.le_refl _) (.cells #[.int .i64 0, .int .i64 0, .string ⟨#[]⟩] 74))
  clear hs
  go_enter Tryd.func75, Tryd.ntmps75
  go_wp2_with fail
  refine (pick_any g A len cap 6 _ HA.out (by omega)).mono ?_
  rintro e w1 ⟨r, rfl, hr0, hr1, hs1, hk1⟩
  have hr2 : r < 6 := by omega
  have hc := hk1.cell.1 w.heap.size
  have hf := hk1.cell.2 w.heap.size
  simp only [show w.heap.size < (w.alloc (.cells #[.int .i64 0, .int .i64 0, .string ⟨#[]⟩] 74)).heap.size by simp, HN, not_false_eq_true, ne_eq, forall_const] at hc hf
  have HS1 := Lib.hid hs1
  have HK1 := Lib.hid (HK.out.more (Nat.le_refl _) (hk1.mono (by simp)))
  have HW1 := Lib.hid (show w.heap.size < w1.heap.size by have := hk1.size; simp at this; omega)
  have HZ1 : ¬ w1.heap.size = g := by have := hs1.lt; omega
  clear hs1 hk1 hr1
  rcases (by omega : r = 0 ∨ r = 1 ∨ r = 2 ∨ (3 ≤ r)) with rfl | rfl | rfl | h3
  · go_wp2_with fail
    refine bodyPost_ret (v := .agg #[.int .i64 0, .int .i64 0, .string ⟨#[]⟩]) (by simp [results, Tryd.results75, go_sem, hc]) rfl ⟨0, 0, ⟨#[]⟩, rfl, ⟨by omega, by omega, by omega, by omega, by first | omega | decide⟩, ?_, ?_⟩
    · exact ((HS1.out.set_ HG.out _).set_ HG.out _).set_ HG.out _
    · exact ((HK1.out.set_ (.inr (Nat.le_refl _)) _).set_ (.inr (Nat.le_refl _)) _).set_ (.inr (Nat.le_refl _)) _
  · have HT := Lib.hid (text_any g A len cap w1 HS1.out)
    go_wp2_with fail
    refine HT.out.mono ?_
    rintro e w2 ⟨s, rfl, hsz, hs2, hk2⟩
    have hW2 := hk2.cell.1 w.heap.size
    have hF2 := hk2.cell.2 w.heap.size
    have hlt : w.heap.size < w1.heap.size := by have := HK1.out.size; have := HW1.out; omega
    simp only [hlt, HN, not_false_eq_true, ne_eq, forall_const] at hW2 hF2
    have HS2 := Lib.hid hs2
    have HK2 := Lib.hid (HK1.out.more (Nat.le_refl _) hk2)
    clear hs2 hk2 hlt
    go_wp2_with fail
    refine bodyPost_ret (v := .agg #[.int .i64 2, .int .i64 0, .string s]) (by simp [results, Tryd.results75, go_sem, hc, hW2]) rfl ⟨2, 0, s, rfl, ⟨by omega, by omega, by omega, by omega, by first | omega | decide⟩, ?_, ?_⟩
    · exact ((HS2.out.set_ HG.out _).set_ HG.out _).set_ HG.out _
    · exact ((HK2.out.set_ (.inr (Nat.le_refl _)) _).set_ (.inr (Nat.le_refl _)) _).set_ (.inr (Nat.le_refl _)) _
  · have HL := Lib.hid (small7 w1)
    have HS1a := Lib.hid (HS1.out.alloc (.cells #[.int .i64 0, .int .i64 1, .int .i64 (-1), .int .i64 1000, .int .i64 (-1000), .int .i64 500, .int .i64 1001] 3))
    have HK1a := Lib.hid ((Keep.refl g w1.heap.size w1).alloc (Nat.le_refl _) (.cells #[.int .i64 0, .int .i64 1, .int .i64 (-1), .int .i64 1000, .int .i64 (-1000), .int .i64 500, .int .i64 1001] 3))
    go_wp2_with fail
    refine (one_any g A len cap w1.heap.size 7 7 (-1001) 1001 _ HS1a.out (by simp) HZ1 HL.out (by omega) (by omega)).mono ?_
    rintro e w2 ⟨z, rfl, z0, z1, hs2, hk3⟩
    have hk2 := HK1a.out.more (Nat.le_refl _) (hk3.mono (by simp))
    clear hk3
    have hW2 := hk2.cell.1 w.heap.size
    have hF2 := hk2.cell.2 w.heap.size
    have hlt : w.heap.size < w1.heap.size := by have := HK1.out.size; have := HW1.out; omega
    simp only [hlt, HN, not_false_eq_true, ne_eq, forall_const] at hW2 hF2
    have HS2 := Lib.hid hs2
    have HK2 := Lib.hid (HK1.out.more (Nat.le_refl _) hk2)
    clear hs2 hk2 hlt
    go_wp2_with fail
    refine bodyPost_ret (v := .agg #[.int .i64 1, .int .i64 z, .string ⟨#[]⟩]) (by simp [results, Tryd.results75, go_sem, hc, hW2]) rfl ⟨1, z, ⟨#[]⟩, rfl, ⟨by omega, by omega, by omega, by omega, by first | omega | decide⟩, ?_, ?_⟩
    · exact ((HS2.out.set_ HG.out _).set_ HG.out _).set_ HG.out _
    · exact ((HK2.out.set_ (.inr (Nat.le_refl _)) _).set_ (.inr (Nat.le_refl _)) _).set_ (.inr (Nat.le_refl _)) _
  · have e0 : (r == 0) = false := by simp; omega
    have e1 : (r == 1) = false := by simp; omega
    have e2 : (r == 2) = false := by simp; omega
    have HP := Lib.hid (pick_any g A len cap 6 w1 HS1.out (by omega))
    go_wp2_with fail
    refine HP.out.mono ?_
    rintro e w2 ⟨z, rfl, z0, z1, hs2, hk2⟩
    have z2 : z < 6 := by omega
    clear z1
    have hW2 := hk2.cell.1 w.heap.size
    have hF2 := hk2.cell.2 w.heap.size
    have hlt : w.heap.size < w1.heap.size := by have := HK1.out.size; have := HW1.out; omega
    simp only [hlt, HN, not_false_eq_true, ne_eq, forall_const] at hW2 hF2
    have HS2 := Lib.hid hs2
    have HK2 := Lib.hid (HK1.out.more (Nat.le_refl _) hk2)
    clear hs2 hk2 hlt
    go_wp2_with fail
    refine bodyPost_ret (v := .agg #[.int .i64 1, .int .i64 (z - 1), .string ⟨#[]⟩]) (by simp [results, Tryd.results75, go_sem, hc, hW2]) rfl ⟨1, (z - 1), ⟨#[]⟩, rfl, ⟨by omega, by omega, by omega, by omega, by first | omega | decide⟩, ?_, ?_⟩
    · exact ((HS2.out.set_ HG.out _).set_ HG.out _).set_ HG.out _
    · exact ((HK2.out.set_ (.inr (Nat.le_refl _)) _).set_ (.inr (Nat.le_refl _)) _).set_ (.inr (Nat.le_refl _)) _

end Go.Proofs.YtcpfjlbicofkeaaDoor
