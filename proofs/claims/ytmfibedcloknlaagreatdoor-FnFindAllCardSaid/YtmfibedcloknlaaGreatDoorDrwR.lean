/- What the laws draw of rules. -/
import Derived.Test.YtmfibedcloknlaaGreatDoorRulM
import Derived.Test.YtmfibedcloknlaaGreatDoorDrwV
import Derived.Maps.AppendAt
import Derived.Deep.AppendLies
import Derived.Deep.Onto
namespace Go.Proofs.YtmfibedcloknlaaGreatDoor
open Go.Joins Go.ChangeShapes Go.WideShapes Go.ChangeAt Go.RowKit Go.Deep
set_option linter.unusedVariables false
set_option linter.unusedSimpArgs false

/-- Rules in a row of the call's own. -/
def OwnR (w : World) (base b c : Nat) (xs : List Ru) : Prop := w.ownsRow base 42 8 (.slice (some ⟨b, 0, none⟩) xs.length c) xs.length (xs.flatMap Ru.cells)
theorem rone_cells (xs : List Ru) : ∀ u ∈ xs.flatMap Ru.cells, u.oneCell' = true := by
 intro u hu
 rw [List.mem_flatMap] at hu
 obtain ⟨x, _, hx⟩ := hu
 simp [Ru.cells] at hx
 rcases hx with rfl | rfl | rfl | rfl | rfl | rfl | rfl | rfl <;> rfl
theorem OwnR.lt {w : World} {base b c : Nat} {xs : List Ru} (h : OwnR w base b c xs) : base ≤ b ∧ b < w.heap.size := World.ownsRow.lt h b rfl
theorem OwnR.keep {w w' : World} {base b c g : Nat} {xs : List Ru} (h : OwnR w base b c xs) (hk : Keep g w.heap.size w w') (hg : g < base) : OwnR w' base b c xs :=
 World.ownsRow.kept h (row := some g) ⟨hk.os, hk.tape, hk.output, hk.size, fun k hk' hn => hk.block k hk' (fun e => hn (by rw [e]))⟩ (.inr (by have := h.lt; simp [Value.ownBlock]; omega))
theorem OwnR.grown {w w' : World} {base b c : Nat} {xs : List Ru} {row : Nat} (h : OwnR w base b c xs) (hg : w.grownBy w' (some row)) (hn : b ≠ row) : OwnR w' base b c xs :=
 World.ownsRow.kept h hg (.inr (by simpa [Value.ownBlock] using hn))
theorem OwnR.set_ {w : World} {base b c : Nat} {xs : List Ru} (h : OwnR w base b c xs) {p : Addr} (hn : b ≠ p.block) (u : Value) : OwnR (w.setCell p u) base b c xs :=
 h.grown (row := p.block) ⟨rfl, rfl, rfl, by simp [World.setCell], fun k _ hk => heap_setCell_other w p k u (fun e => hk (by rw [e]))⟩ hn
theorem OwnR.alloc {w : World} {base b c : Nat} {xs : List Ru} (h : OwnR w base b c xs) (o : Obj) : OwnR (w.alloc o) base b c xs := World.ownsRow.alloc h o
theorem OwnR.mono {w : World} {base base' b c : Nat} {xs : List Ru} (h : OwnR w base b c xs) (hb : base' ≤ base) : OwnR w base' b c xs := World.ownsRow.mono h hb
theorem OwnR.news {w : World} {base b c : Nat} {xs : List Ru} (h : OwnR w base b c xs) : ∀ j u, (xs.flatMap Ru.cells)[j]? = some u → w.cell? ((⟨b, 0, none⟩ : Addr).add j) = some u := World.ownsRow.cells h rfl
theorem OwnR.lit (w : World) (x : Ru) {base : Nat} (hb : base ≤ w.heap.size) : OwnR (w.alloc (.cells x.cells.toArray 42)) base w.heap.size 1 [x] :=
 World.ownsRow_lit (e := 42) (size := 8) w x.cells.toArray 1 hb (by decide) (by rw [List.size_toArray, Ru.cells_len])
theorem OwnR.none_ (w : World) {base : Nat} (hb : base ≤ w.heap.size) : OwnR (w.alloc (.cells #[] 42)) base w.heap.size 0 [] :=
 World.ownsRow_lit (e := 42) (size := 8) w #[] 0 hb (by decide) rfl
theorem OwnR.lies {w : World} {base b c : Nat} {xs : List Ru} (h : OwnR w base b c xs) : RuL w (some ⟨b, 0, none⟩) xs := Lie.of_own (c := Ru.cells) Ru.cells_len h
theorem OwnR.cap {w : World} {base b c : Nat} {xs : List Ru} (h : OwnR w base b c xs) : xs.length ≤ c := by
 rcases h.2 with ⟨h', _⟩ | ⟨g', cap', cur, h', _, _, hnc, _⟩
 ·simp at h'
 ·simp only [Value.slice.injEq, Option.some.injEq, Addr.mk.injEq, and_true, true_and] at h'
  obtain ⟨rfl, rfl⟩ := h'
  exact hnc
theorem wp_append_rules {w : World} {ops : Array Oper} {rest : List Oper} {o : Oper} {a : Act} {Q : Exit → Act → World → Prop} (hgd : o.guard = none) (s x : Operand)
  (ho : o.op = .call { callee := .builtin .append, args := #[s, x], argTypes := #[27, 27] }) (base b c : Nat) (xs : List Ru) (hs : a.eval s = .slice (some ⟨b, 0, none⟩) xs.length c) (hown : OwnR w base b c xs)
  (ad : Addr) (c2 : Nat) (ys : List Ru) (m : Nat) (hx : a.eval x = .slice (some ad) m c2) (hm : ys.length = m) (hcells : ∀ j u, (ys.flatMap Ru.cells)[j]? = some u → w.cell? (ad.add j) = some u)
  (hlen : xs.length + ys.length ≤ 1000) (hbase : base ≤ w.heap.size)
  (h : ∀ b' c' zs w', Hid (zs = xs ++ ys) → OwnR w' base b' c' zs → w.grownBy w' (some b) → Hid (b' = b ∨ b' = w.heap.size) → wpList Tryz.prog ops Q rest (a.put o.dst (.slice (some ⟨b', 0, none⟩) zs.length c')) w') :
  wpList Tryz.prog ops Q (o :: rest) a w := by
 subst hm
 obtain ⟨i0, hi0, hz0, hz1, hz2⟩ := info_parts infoRu
 refine wpList_append_own_at w hgd s x _ ho base 42 i0 _ 8 72 Tryz.underlying27 hi0 hz0 hz1 hz2 rfl (by omega) _ xs.length _ hs hown ad ys.length c2 _ hx (flat_len Ru.cells_len ys) hcells (rone_cells ys) (by simp only [maxLen]; omega) (by omega) hbase ?_
 intro v' w' hown' hg hnil hat
 rw [← List.length_append, ← List.flatMap_append] at hown'
 have hform : ∃ b' c', v' = .slice (some ⟨b', 0, none⟩) (xs ++ ys).length c' := by
  rcases hown'.2 with ⟨rfl, _⟩ | ⟨g', cap', cur, rfl, _⟩
  ·simp [Value.ownBlock] at hat
  ·exact ⟨g', cap', rfl⟩
 obtain ⟨b', c', rfl⟩ := hform
 exact h b' c' _ w' (Lib.hid rfl) hown' hg (Lib.hid (by simpa [Value.ownBlock] using hat))
/-- A rule in a box of the call's own. -/
def BoxR (w : World) (bx : Nat) (x : Ru) : Prop := (∀ j u, x.cells[j]? = some u → w.cell? ⟨bx, j, none⟩ = some u) ∧ (∀ o, w.frozen? ⟨bx, o, none⟩ = false) ∧ bx < w.heap.size
theorem BoxR.keep {w w' : World} {bx g : Nat} {x : Ru} (h : BoxR w bx x) (hk : Keep g w.heap.size w w') (hg : bx ≠ g) : BoxR w' bx x :=
 ⟨fun j u hu => (hk.cell.1 bx j h.2.2 hg).trans (h.1 j u hu), fun o => (hk.cell.2 bx o h.2.2 hg).trans (h.2.1 o), Nat.lt_of_lt_of_le h.2.2 hk.size⟩
theorem BoxR.alloc {w : World} {bx : Nat} {x : Ru} (h : BoxR w bx x) (o : Obj) : BoxR (w.alloc o) bx x :=
 ⟨fun j u hu => (World.cell?_alloc_lt w _ _ h.2.2).trans (h.1 j u hu), fun k => (World.frozen?_of_block (a := ⟨bx, k, none⟩) (Below.heap_alloc w _ _ h.2.2)).trans (h.2.1 k), by have := h.2.2; simp; omega⟩
theorem BoxR.new (w : World) (x : Ru) : BoxR (w.alloc (.cells x.cells.toArray 42)) w.heap.size x := by
 refine ⟨fun j u hu => ?_, fun o => ?_, by simp⟩
 ·rw [cell_of_row _ w.heap.size j _ _ _ (heap_alloc_new w _)]
  simpa using hu
 ·have h0 := heap_alloc_new w (.cells x.cells.toArray 42)
  simp only [World.frozen?, h0]
  simp
theorem BoxR.grown {w w' : World} {bx row : Nat} {x : Ru} (h : BoxR w bx x) (hg : w.grownBy w' (some row)) (hn : bx ≠ row) : BoxR w' bx x :=
 ⟨fun j u hu => (World.cell?_of_block (a := ⟨bx, j, none⟩) (hg.block bx h.2.2 (by simpa using hn))).trans (h.1 j u hu), fun o => (World.frozen?_of_block (a := ⟨bx, o, none⟩) (hg.block bx h.2.2 (by simpa using hn))).trans (h.2.1 o), Nat.lt_of_lt_of_le h.2.2 hg.size⟩
theorem BoxR.set_ {w : World} {bx j : Nat} {x y : Ru} (h : BoxR w bx x) (u : Value) (hj : j < 8) (hy : y.cells = x.cells.set j u) : BoxR (w.setCell ⟨bx, j, none⟩ u) bx y := by
 refine ⟨fun i v hv => ?_, fun o => by rw [World.frozen?_setCell]; exact h.2.1 o, by simpa [World.setCell] using h.2.2⟩
 rw [hy] at hv
 have hlen : x.cells.length = 8 := Ru.cells_len x
 by_cases hij : i = j
 ·subst hij
  rw [List.getElem?_set_self (by omega)] at hv
  injection hv with hv
  subst hv
  have hi : i < x.cells.length := by omega
  exact World.cell?_setCell_same' _ _ _ (by rw [h.1 i _ (List.getElem?_eq_getElem hi)]; rfl)
 ·rw [List.getElem?_set_ne (by omega)] at hv
  rw [World.cell?_setCell_other _ _ _ _ (by simp <;> omega)]
  exact h.1 i v hv
theorem smallr_a (w : World) (r1 : Int) (h0 : 0 ≤ r1) (h1 : r1 ≤ 4) : Small (w.alloc (.cells #[.int .i64 (-1), .int .i64 r1] 3)) w.heap.size 2 (-1) 4 := by
 intro i hi
 have hc := fun j => cell_of_row (w.alloc (.cells #[.int .i64 (-1), .int .i64 r1] 3)) w.heap.size j _ _ _ (heap_alloc_new w _)
 rcases (by omega : i = 0 ∨ i = 1) with rfl | rfl
 ·exact ⟨-1, by omega, by omega, hc 0⟩
 ·exact ⟨r1, by omega, by omega, hc 1⟩
theorem smallr_b (w : World) (r2 : Int) (h0 : 0 ≤ r2) (h1 : r2 ≤ 4) : Small (w.alloc (.cells #[.int .i64 (-1), .int .i64 (-1), .int .i64 r2] 3)) w.heap.size 3 (-1) 4 := by
 intro i hi
 have hc := fun j => cell_of_row (w.alloc (.cells #[.int .i64 (-1), .int .i64 (-1), .int .i64 r2] 3)) w.heap.size j _ _ _ (heap_alloc_new w _)
 rcases (by omega : i = 0 ∨ i = 1 ∨ i = 2) with rfl | rfl | rfl
 ·exact ⟨-1, by omega, by omega, hc 0⟩
 ·exact ⟨-1, by omega, by omega, hc 1⟩
 ·exact ⟨r2, by omega, by omega, hc 2⟩
theorem smallr_c (w : World) (r6 : Int) (h0 : 0 ≤ r6) (h1 : r6 ≤ 60) : Small (w.alloc (.cells #[.int .i64 0, .int .i64 1, .int .i64 2, .int .i64 3, .int .i64 10, .int .i64 30, .int .i64 r6] 3)) w.heap.size 7 (0) 60 := by
 intro i hi
 have hc := fun j => cell_of_row (w.alloc (.cells #[.int .i64 0, .int .i64 1, .int .i64 2, .int .i64 3, .int .i64 10, .int .i64 30, .int .i64 r6] 3)) w.heap.size j _ _ _ (heap_alloc_new w _)
 rcases (by omega : i = 0 ∨ i = 1 ∨ i = 2 ∨ i = 3 ∨ i = 4 ∨ i = 5 ∨ i = 6) with rfl | rfl | rfl | rfl | rfl | rfl | rfl
 ·exact ⟨0, by omega, by omega, hc 0⟩
 ·exact ⟨1, by omega, by omega, hc 1⟩
 ·exact ⟨2, by omega, by omega, hc 2⟩
 ·exact ⟨3, by omega, by omega, hc 3⟩
 ·exact ⟨10, by omega, by omega, hc 4⟩
 ·exact ⟨30, by omega, by omega, hc 5⟩
 ·exact ⟨r6, by omega, by omega, hc 6⟩
theorem smallr_d (w : World) : Small (w.alloc (.cells #[.int .i64 0, .int .i64 1, .int .i64 1, .int .i64 2, .int .i64 5] 3)) w.heap.size 5 (0) 5 := by
 intro i hi
 have hc := fun j => cell_of_row (w.alloc (.cells #[.int .i64 0, .int .i64 1, .int .i64 1, .int .i64 2, .int .i64 5] 3)) w.heap.size j _ _ _ (heap_alloc_new w _)
 rcases (by omega : i = 0 ∨ i = 1 ∨ i = 2 ∨ i = 3 ∨ i = 4) with rfl | rfl | rfl | rfl | rfl
 ·exact ⟨0, by omega, by omega, hc 0⟩
 ·exact ⟨1, by omega, by omega, hc 1⟩
 ·exact ⟨1, by omega, by omega, hc 2⟩
 ·exact ⟨2, by omega, by omega, hc 3⟩
 ·exact ⟨5, by omega, by omega, hc 4⟩
theorem smallr_e (w : World) : Small (w.alloc (.cells #[.int .i64 (-2), .int .i64 (-1), .int .i64 4, .int .i64 5] 3)) w.heap.size 4 (-2) 5 := by
 intro i hi
 have hc := fun j => cell_of_row (w.alloc (.cells #[.int .i64 (-2), .int .i64 (-1), .int .i64 4, .int .i64 5] 3)) w.heap.size j _ _ _ (heap_alloc_new w _)
 rcases (by omega : i = 0 ∨ i = 1 ∨ i = 2 ∨ i = 3) with rfl | rfl | rfl | rfl
 ·exact ⟨-2, by omega, by omega, hc 0⟩
 ·exact ⟨-1, by omega, by omega, hc 1⟩
 ·exact ⟨4, by omega, by omega, hc 2⟩
 ·exact ⟨5, by omega, by omega, hc 3⟩
/-- What is drawn of rules. -/
def RulesX (g : Nat) (A : Option Addr) (len cap : Nat) (w : World) (e : Ending) (w' : World) : Prop :=
 ∃ b c xs, e = .returned (.slice (some ⟨b, 0, none⟩) xs.length c) ∧ OwnR w' w.heap.size b c xs ∧ xs.length ≤ 9 ∧ St g A len cap w' ∧ Keep g w.heap.size w w'
set_option maxHeartbeats 8000000 in
theorem rules_any (g : Nat) (A : Option Addr) (len cap : Nat) (w : World) (hs : St g A len cap w) :
  Calls Tryz.prog 34 #[.pointer (some ⟨g, 0, none⟩)] w (RulesX g A len cap w) := by
 have hgw := hs.lt
 have HO := Lib.hid (OwnR.none_ w (Nat.le_refl _))
 have HS := Lib.hid (hs.alloc (.cells #[] 42))
 have HK := Lib.hid ((Keep.refl g w.heap.size w).alloc (Nat.le_refl _) (.cells #[] 42))
 clear hs
 go_enter Tryz.func34, Tryz.ntmps34
 go_wp2_with fail
 refine (pick_any g A len cap 9 _ HS.out (by omega)).mono ?_
 rintro e w1 ⟨r, rfl, r0, r1, hs', hk'⟩
 have r2 : r ≤ 8 := by omega
 replace HO := Lib.hid (HO.out.keep hk' hgw)
 replace HK := Lib.hid (HK.out.more (Nat.le_refl _) hk')
 replace HS := Lib.hid hs'
 have hzw1 := hk'.size
 clear hs' hk' r1
 go_wp2_with fail
 go_loopw [3, 4] (fun v i wr => ∃ (b c : Nat) (xs : List Ru) (k : Nat), v = .slice (some ⟨b, 0, none⟩) xs.length c ∧ i = .int .i64 k ∧ xs.length + k ≤ 8 ∧ OwnR wr w.heap.size b c xs ∧ St g A len cap wr ∧ Keep g w.heap.size w wr) (fun _ i _ => (intOf i).toNat)
 case atStart => exact ⟨w.heap.size, 0, [], r.toNat, rfl, by rw [show (r.toNat : Int) = r by omega], by simp; omega, HO.out, HS.out, HK.out⟩
 case round =>
  obtain ⟨b, c, xs, k, rfl, rfl, hlen, ho, hs, hk⟩ := hrel
  clear HO HS HK
  have HO := Lib.hid ho
  have HS := Lib.hid hs
  have HK := Lib.hid hk
  have hbw := ho.lt
  have hwr := hk.size
  clear ho hs hk
  by_cases hk0 : k = 0
  ·subst hk0
   go_wp2_with fail
   refine (rarely_any g A len cap _ HS.out).mono ?_
   rintro e wq ⟨bq, rfl, hs', hk'⟩
   replace HO := Lib.hid (HO.out.keep hk' hgw)
   replace HK := Lib.hid (HK.out.more (Nat.le_refl _) hk')
   replace HS := Lib.hid hs'
   have hzq := hk'.size
   clear hs' hk'
   cases bq
   ·go_wp2_with fail
    go_ret
    exact ⟨b, c, xs, rfl, HO.out, by omega, HS.out, HK.out⟩
   ·skip
    have HNx := Lib.hid (OwnR.lit wq ⟨9, 0, 0, ⟨0, 0, ⟨#[]⟩⟩, 1, 0⟩ (Nat.le_refl _)).news
    replace HS := Lib.hid (HS.out.alloc (.cells #[.int .i64 9, .int .i64 0, .int .i64 0, .int .i64 0, .int .i64 0, .string ⟨#[]⟩, .int .i64 1, .int .i64 0] 42))
    replace HK := Lib.hid (HK.out.alloc HK.out.size (.cells #[.int .i64 9, .int .i64 0, .int .i64 0, .int .i64 0, .int .i64 0, .string ⟨#[]⟩, .int .i64 1, .int .i64 0] 42))
    replace HO := Lib.hid (HO.out.alloc (.cells #[.int .i64 9, .int .i64 0, .int .i64 0, .int .i64 0, .int .i64 0, .string ⟨#[]⟩, .int .i64 1, .int .i64 0] 42))
    have hlx : xs.length + ([⟨9, 0, 0, ⟨0, 0, ⟨#[]⟩⟩, 1, 0⟩] : List Ru).length ≤ 1000 := by simp; omega
    have hbb := HO.out.lt
    go_wp2_with (at_builtin; refine wp_append_rules rfl (.tmp 59) (.tmp 61) rfl w.heap.size b c xs rfl HO.out ⟨wq.heap.size, 0, none⟩ 1 [⟨9, 0, 0, ⟨0, 0, ⟨#[]⟩⟩, 1, 0⟩] 1 rfl rfl HNx.out hlx HK.out.size ?_; intro b2 c2 zs wx HQ ho hgr HAT; have HO2 := Lib.hid ho; have HS2 := Lib.hid (HS.out.grown hgr (by omega)); have HK2 := Lib.hid (HK.out.grown hgr HK.out.size (by omega)); have hL : zs.length = xs.length + 1 := (by rw [HQ.out, List.length_append]; rfl); have HLL := Lib.hid hL; clear ho hgr hL)
    go_wp2_with fail
    go_ret
    exact ⟨b2, c2, zs, rfl, HO2.out, by have := HLL.out; omega, HS2.out, HK2.out⟩
  ·have kp : 0 < (k : Int) := by omega
   go_wp2_with fail
   refine (pick_any g A len cap 5 _ HS.out (by omega)).mono ?_
   rintro e wa ⟨r1, rfl, r10, r11, hs', hk'⟩
   have r12 : r1 ≤ 4 := by omega
   replace HO := Lib.hid (HO.out.keep hk' hgw)
   replace HK := Lib.hid (HK.out.more (Nat.le_refl _) hk')
   replace HS := Lib.hid hs'
   have hzwa := hk'.size
   clear hs' hk' r11
   have HSM := Lib.hid (smallr_a wa r1 r10 r12)
   have hne : wa.heap.size ≠ g := by have := HS.out.lt; omega
   replace HS := Lib.hid (HS.out.alloc (.cells #[.int .i64 (-1), .int .i64 r1] 3))
   replace HK := Lib.hid (HK.out.alloc HK.out.size (.cells #[.int .i64 (-1), .int .i64 r1] 3))
   replace HO := Lib.hid (HO.out.alloc (.cells #[.int .i64 (-1), .int .i64 r1] 3))
   go_wp2_with fail
   refine (one_any g A len cap wa.heap.size 2 2 (-1) 4 _ HS.out (by simp) hne HSM.out (by omega) (by omega)).mono ?_
   rintro e wb ⟨z1, rfl, z10, z11, hs', hk'⟩
   replace HO := Lib.hid (HO.out.keep hk' hgw)
   replace HK := Lib.hid (HK.out.more (Nat.le_refl _) hk')
   replace HS := Lib.hid hs'
   have hzwb := hk'.size
   simp at hzwb
   clear hs' hk' HSM hne
   go_wp2_with fail
   refine (pick_any g A len cap 5 _ HS.out (by omega)).mono ?_
   rintro e wc ⟨r2, rfl, r20, r21, hs', hk'⟩
   have r22 : r2 ≤ 4 := by omega
   replace HO := Lib.hid (HO.out.keep hk' hgw)
   replace HK := Lib.hid (HK.out.more (Nat.le_refl _) hk')
   replace HS := Lib.hid hs'
   have hzwc := hk'.size
   clear hs' hk' r21
   have HSM := Lib.hid (smallr_b wc r2 r20 r22)
   have hne : wc.heap.size ≠ g := by have := HS.out.lt; omega
   replace HS := Lib.hid (HS.out.alloc (.cells #[.int .i64 (-1), .int .i64 (-1), .int .i64 r2] 3))
   replace HK := Lib.hid (HK.out.alloc HK.out.size (.cells #[.int .i64 (-1), .int .i64 (-1), .int .i64 r2] 3))
   replace HO := Lib.hid (HO.out.alloc (.cells #[.int .i64 (-1), .int .i64 (-1), .int .i64 r2] 3))
   go_wp2_with fail
   refine (one_any g A len cap wc.heap.size 3 3 (-1) 4 _ HS.out (by simp) hne HSM.out (by omega) (by omega)).mono ?_
   rintro e wd ⟨z2, rfl, z20, z21, hs', hk'⟩
   replace HO := Lib.hid (HO.out.keep hk' hgw)
   replace HK := Lib.hid (HK.out.more (Nat.le_refl _) hk')
   replace HS := Lib.hid hs'
   have hzwd := hk'.size
   simp at hzwd
   clear hs' hk' HSM hne
   go_wp2_with fail
   refine (pick_any g A len cap 5 _ HS.out (by omega)).mono ?_
   rintro e we ⟨r3, rfl, r30, r31, hs', hk'⟩
   have r32 : r3 ≤ 4 := by omega
   replace HO := Lib.hid (HO.out.keep hk' hgw)
   replace HK := Lib.hid (HK.out.more (Nat.le_refl _) hk')
   replace HS := Lib.hid hs'
   have hzwe := hk'.size
   clear hs' hk' r31
   obtain ⟨bx, hbx⟩ : ∃ bx, we.heap.size = bx := ⟨_, rfl⟩
   have HX := Lib.hid (BoxR.new we ⟨z1, z2, -1, ⟨0, 0, ⟨#[]⟩⟩, r3, 0⟩)
   have hlt1 := HO.out.lt
   have hlt2 := HS.out.lt
   have hlt3 := HK.out.size
   replace HS := Lib.hid (HS.out.alloc (.cells #[.int .i64 z1, .int .i64 z2, .int .i64 (-1), .int .i64 0, .int .i64 0, .string ⟨#[]⟩, .int .i64 r3, .int .i64 0] 42))
   replace HK := Lib.hid (HK.out.alloc HK.out.size (.cells #[.int .i64 z1, .int .i64 z2, .int .i64 (-1), .int .i64 0, .int .i64 0, .string ⟨#[]⟩, .int .i64 r3, .int .i64 0] 42))
   replace HO := Lib.hid (HO.out.alloc (.cells #[.int .i64 z1, .int .i64 z2, .int .i64 (-1), .int .i64 0, .int .i64 0, .string ⟨#[]⟩, .int .i64 r3, .int .i64 0] 42))
   rw [hbx] at HX
   have hne1 : b ≠ bx := by omega
   have hne2 : g < bx := by omega
   have hne3 : w.heap.size ≤ bx := by omega
   clear hlt1 hlt2 hlt3
   go_wp2_with fail
   refine (pick_any g A len cap 3 _ HS.out (by omega)).mono ?_
   rintro e wf ⟨r4, rfl, r40, r41, hs', hk'⟩
   have r42 : r4 ≤ 2 := by omega
   replace HO := Lib.hid (HO.out.keep hk' hgw)
   replace HK := Lib.hid (HK.out.more (Nat.le_refl _) hk')
   replace HS := Lib.hid hs'
   replace HX := Lib.hid (HX.out.keep hk' (by omega))
   have hzwf := hk'.size
   clear hs' hk' r41
   by_cases h40 : r4 = 0
   case neg =>
    have hd4 : (r4 == 0) = false := by simpa using h40
    clear h40
    go_wp2_with fail
    refine (pick_any g A len cap 61 _ HS.out (by omega)).mono ?_
    rintro e wg ⟨r6, rfl, r60, r61, hs', hk'⟩
    have r62 : r6 ≤ 60 := by omega
    replace HO := Lib.hid (HO.out.keep hk' hgw)
    replace HK := Lib.hid (HK.out.more (Nat.le_refl _) hk')
    replace HS := Lib.hid hs'
    replace HX := Lib.hid (HX.out.keep hk' (by omega))
    have hzwg := hk'.size
    clear hs' hk' r61
    have HSM := Lib.hid (smallr_c wg r6 r60 r62)
    have hne : wg.heap.size ≠ g := by have := HS.out.lt; omega
    replace HS := Lib.hid (HS.out.alloc (.cells #[.int .i64 0, .int .i64 1, .int .i64 2, .int .i64 3, .int .i64 10, .int .i64 30, .int .i64 r6] 3))
    replace HK := Lib.hid (HK.out.alloc HK.out.size (.cells #[.int .i64 0, .int .i64 1, .int .i64 2, .int .i64 3, .int .i64 10, .int .i64 30, .int .i64 r6] 3))
    replace HO := Lib.hid (HO.out.alloc (.cells #[.int .i64 0, .int .i64 1, .int .i64 2, .int .i64 3, .int .i64 10, .int .i64 30, .int .i64 r6] 3))
    replace HX := Lib.hid (HX.out.alloc (.cells #[.int .i64 0, .int .i64 1, .int .i64 2, .int .i64 3, .int .i64 10, .int .i64 30, .int .i64 r6] 3))
    go_wp2_with fail
    refine (one_any g A len cap wg.heap.size 7 7 (0) 60 _ HS.out (by simp) hne HSM.out (by omega) (by omega)).mono ?_
    rintro e wh ⟨z3, rfl, z30, z31, hs', hk'⟩
    replace HO := Lib.hid (HO.out.keep hk' hgw)
    replace HK := Lib.hid (HK.out.more (Nat.le_refl _) hk')
    replace HS := Lib.hid hs'
    replace HX := Lib.hid (HX.out.keep hk' (by omega))
    have hzwh := hk'.size
    simp at hzwh
    clear hs' hk' HSM hne
    have c7 := HX.out.1 7 _ rfl
    have f7 := HX.out.2.1 7
    go_upto_region 10 with (fail)
    replace HS := Lib.hid (HS.out.set_ (p := ⟨bx, 7, none⟩) (by show g < bx; omega) (.int .i64 z3))
    replace HK := Lib.hid (HK.out.set_ (p := ⟨bx, 7, none⟩) (.inr (by show w.heap.size ≤ bx; omega)) (.int .i64 z3))
    replace HO := Lib.hid (HO.out.set_ (p := ⟨bx, 7, none⟩) (by show b ≠ bx; omega) (.int .i64 z3))
    replace HX := Lib.hid (HX.out.set_ (j := 7) (y := ⟨z1, z2, -1, ⟨0, 0, ⟨#[]⟩⟩, r3, z3⟩) (.int .i64 z3) (by omega) rfl)
    clear c7 f7
    have hzwi : bx < (wh.setCell ⟨bx, 7, none⟩ (.int .i64 z3)).heap.size := HX.out.2.2
    obtain ⟨wi, hww⟩ : ∃ ww, (wh.setCell ⟨bx, 7, none⟩ (.int .i64 z3)) = ww := ⟨_, rfl⟩
    rw [hww] at HS HK HO HX hzwi ⊢
    clear hww
    have c6 : wi.cell? ⟨bx, 6, none⟩ = some (.int .i64 r3) := HX.out.1 6 _ rfl
    by_cases hl2 : r3 = 2
    ·subst hl2
     have HSM := Lib.hid (smallr_d wi)
     have hne : wi.heap.size ≠ g := by have := HS.out.lt; omega
     replace HS := Lib.hid (HS.out.alloc (.cells #[.int .i64 0, .int .i64 1, .int .i64 1, .int .i64 2, .int .i64 5] 3))
     replace HK := Lib.hid (HK.out.alloc HK.out.size (.cells #[.int .i64 0, .int .i64 1, .int .i64 1, .int .i64 2, .int .i64 5] 3))
     replace HO := Lib.hid (HO.out.alloc (.cells #[.int .i64 0, .int .i64 1, .int .i64 1, .int .i64 2, .int .i64 5] 3))
     replace HX := Lib.hid (HX.out.alloc (.cells #[.int .i64 0, .int .i64 1, .int .i64 1, .int .i64 2, .int .i64 5] 3))
     go_wp2_with fail
     refine (one_any g A len cap wi.heap.size 5 5 (0) 5 _ HS.out (by simp) hne HSM.out (by omega) (by omega)).mono ?_
     rintro e wj ⟨z4, rfl, z40, z41, hs', hk'⟩
     replace HO := Lib.hid (HO.out.keep hk' hgw)
     replace HK := Lib.hid (HK.out.more (Nat.le_refl _) hk')
     replace HS := Lib.hid hs'
     replace HX := Lib.hid (HX.out.keep hk' (by omega))
     have hzwj := hk'.size
     simp at hzwj
     clear hs' hk' HSM hne
     have c7 := HX.out.1 7 _ rfl
     have f7 := HX.out.2.1 7
     go_upto_region 12 with (fail)
     replace HS := Lib.hid (HS.out.set_ (p := ⟨bx, 7, none⟩) (by show g < bx; omega) (.int .i64 z4))
     replace HK := Lib.hid (HK.out.set_ (p := ⟨bx, 7, none⟩) (.inr (by show w.heap.size ≤ bx; omega)) (.int .i64 z4))
     replace HO := Lib.hid (HO.out.set_ (p := ⟨bx, 7, none⟩) (by show b ≠ bx; omega) (.int .i64 z4))
     replace HX := Lib.hid (HX.out.set_ (j := 7) (y := ⟨z1, z2, -1, ⟨0, 0, ⟨#[]⟩⟩, 2, z4⟩) (.int .i64 z4) (by omega) rfl)
     clear c7 f7
     have hzwk : bx < (wj.setCell ⟨bx, 7, none⟩ (.int .i64 z4)).heap.size := HX.out.2.2
     obtain ⟨wk, hww⟩ : ∃ ww, (wj.setCell ⟨bx, 7, none⟩ (.int .i64 z4)) = ww := ⟨_, rfl⟩
     rw [hww] at HS HK HO HX hzwk ⊢
     clear hww
     have c0 : wk.cell? ⟨bx, 0, none⟩ = some (.int .i64 z1) := HX.out.1 0 _ rfl
     have c1 : wk.cell? ⟨bx, 1, none⟩ = some (.int .i64 z2) := HX.out.1 1 _ rfl
     have c2 : wk.cell? ⟨bx, 2, none⟩ = some (.int .i64 (-1)) := HX.out.1 2 _ rfl
     have c3 : wk.cell? ⟨bx, 3, none⟩ = some (.int .i64 0) := HX.out.1 3 _ rfl
     have c4 : wk.cell? ⟨bx, 4, none⟩ = some (.int .i64 0) := HX.out.1 4 _ rfl
     have c5 : wk.cell? ⟨bx, 5, none⟩ = some (.string ⟨#[]⟩) := HX.out.1 5 _ rfl
     have c6 : wk.cell? ⟨bx, 6, none⟩ = some (.int .i64 2) := HX.out.1 6 _ rfl
     have c7 : wk.cell? ⟨bx, 7, none⟩ = some (.int .i64 z4) := HX.out.1 7 _ rfl
     have HNx := Lib.hid (OwnR.lit wk ⟨z1, z2, -1, ⟨0, 0, ⟨#[]⟩⟩, 2, z4⟩ (Nat.le_refl _)).news
     replace HS := Lib.hid (HS.out.alloc (.cells #[.int .i64 z1, .int .i64 z2, .int .i64 (-1), .int .i64 0, .int .i64 0, .string ⟨#[]⟩, .int .i64 2, .int .i64 z4] 42))
     replace HK := Lib.hid (HK.out.alloc HK.out.size (.cells #[.int .i64 z1, .int .i64 z2, .int .i64 (-1), .int .i64 0, .int .i64 0, .string ⟨#[]⟩, .int .i64 2, .int .i64 z4] 42))
     replace HO := Lib.hid (HO.out.alloc (.cells #[.int .i64 z1, .int .i64 z2, .int .i64 (-1), .int .i64 0, .int .i64 0, .string ⟨#[]⟩, .int .i64 2, .int .i64 z4] 42))
     replace HX := Lib.hid (HX.out.alloc (.cells #[.int .i64 z1, .int .i64 z2, .int .i64 (-1), .int .i64 0, .int .i64 0, .string ⟨#[]⟩, .int .i64 2, .int .i64 z4] 42))
     have hlx : xs.length + ([⟨z1, z2, -1, ⟨0, 0, ⟨#[]⟩⟩, 2, z4⟩] : List Ru).length ≤ 1000 := by simp; omega
     have hbb := HO.out.lt
     go_wp2_with (at_builtin; refine wp_append_rules rfl (.tmp 53) (.tmp 55) rfl w.heap.size b c xs rfl HO.out ⟨wk.heap.size, 0, none⟩ 1 [⟨z1, z2, -1, ⟨0, 0, ⟨#[]⟩⟩, 2, z4⟩] 1 rfl rfl HNx.out hlx HK.out.size ?_; intro b2 c2 zs wx HQ ho hgr HAT; have HO2 := Lib.hid ho; have HS2 := Lib.hid (HS.out.grown hgr (by omega)); have HK2 := Lib.hid (HK.out.grown hgr HK.out.size (by omega)); have hL : zs.length = xs.length + 1 := (by rw [HQ.out, List.length_append]; rfl); have HLL := Lib.hid hL; clear ho hgr hL)
     go_wp2_with fail
     go_roundw
     case rel => exact ⟨b2, c2, zs, k - 1, rfl, by first | go_num | (rw [Int.ofNat_sub (by omega)]; rfl) | (congr 1; omega), by have := HLL.out; omega, HO2.out, HS2.out, HK2.out⟩
     case measure => simp [intOf]; omega
    by_cases hl1 : r3 = 1
    ·subst hl1
     have HSM := Lib.hid (smallr_d wi)
     have hne : wi.heap.size ≠ g := by have := HS.out.lt; omega
     replace HS := Lib.hid (HS.out.alloc (.cells #[.int .i64 0, .int .i64 1, .int .i64 1, .int .i64 2, .int .i64 5] 3))
     replace HK := Lib.hid (HK.out.alloc HK.out.size (.cells #[.int .i64 0, .int .i64 1, .int .i64 1, .int .i64 2, .int .i64 5] 3))
     replace HO := Lib.hid (HO.out.alloc (.cells #[.int .i64 0, .int .i64 1, .int .i64 1, .int .i64 2, .int .i64 5] 3))
     replace HX := Lib.hid (HX.out.alloc (.cells #[.int .i64 0, .int .i64 1, .int .i64 1, .int .i64 2, .int .i64 5] 3))
     go_wp2_with fail
     refine (one_any g A len cap wi.heap.size 5 5 (0) 5 _ HS.out (by simp) hne HSM.out (by omega) (by omega)).mono ?_
     rintro e wj ⟨z4, rfl, z40, z41, hs', hk'⟩
     replace HO := Lib.hid (HO.out.keep hk' hgw)
     replace HK := Lib.hid (HK.out.more (Nat.le_refl _) hk')
     replace HS := Lib.hid hs'
     replace HX := Lib.hid (HX.out.keep hk' (by omega))
     have hzwj := hk'.size
     simp at hzwj
     clear hs' hk' HSM hne
     have c7 := HX.out.1 7 _ rfl
     have f7 := HX.out.2.1 7
     go_upto_region 12 with (fail)
     replace HS := Lib.hid (HS.out.set_ (p := ⟨bx, 7, none⟩) (by show g < bx; omega) (.int .i64 z4))
     replace HK := Lib.hid (HK.out.set_ (p := ⟨bx, 7, none⟩) (.inr (by show w.heap.size ≤ bx; omega)) (.int .i64 z4))
     replace HO := Lib.hid (HO.out.set_ (p := ⟨bx, 7, none⟩) (by show b ≠ bx; omega) (.int .i64 z4))
     replace HX := Lib.hid (HX.out.set_ (j := 7) (y := ⟨z1, z2, -1, ⟨0, 0, ⟨#[]⟩⟩, 1, z4⟩) (.int .i64 z4) (by omega) rfl)
     clear c7 f7
     have hzwk : bx < (wj.setCell ⟨bx, 7, none⟩ (.int .i64 z4)).heap.size := HX.out.2.2
     obtain ⟨wk, hww⟩ : ∃ ww, (wj.setCell ⟨bx, 7, none⟩ (.int .i64 z4)) = ww := ⟨_, rfl⟩
     rw [hww] at HS HK HO HX hzwk ⊢
     clear hww
     have c0 : wk.cell? ⟨bx, 0, none⟩ = some (.int .i64 z1) := HX.out.1 0 _ rfl
     have c1 : wk.cell? ⟨bx, 1, none⟩ = some (.int .i64 z2) := HX.out.1 1 _ rfl
     have c2 : wk.cell? ⟨bx, 2, none⟩ = some (.int .i64 (-1)) := HX.out.1 2 _ rfl
     have c3 : wk.cell? ⟨bx, 3, none⟩ = some (.int .i64 0) := HX.out.1 3 _ rfl
     have c4 : wk.cell? ⟨bx, 4, none⟩ = some (.int .i64 0) := HX.out.1 4 _ rfl
     have c5 : wk.cell? ⟨bx, 5, none⟩ = some (.string ⟨#[]⟩) := HX.out.1 5 _ rfl
     have c6 : wk.cell? ⟨bx, 6, none⟩ = some (.int .i64 1) := HX.out.1 6 _ rfl
     have c7 : wk.cell? ⟨bx, 7, none⟩ = some (.int .i64 z4) := HX.out.1 7 _ rfl
     have HNx := Lib.hid (OwnR.lit wk ⟨z1, z2, -1, ⟨0, 0, ⟨#[]⟩⟩, 1, z4⟩ (Nat.le_refl _)).news
     replace HS := Lib.hid (HS.out.alloc (.cells #[.int .i64 z1, .int .i64 z2, .int .i64 (-1), .int .i64 0, .int .i64 0, .string ⟨#[]⟩, .int .i64 1, .int .i64 z4] 42))
     replace HK := Lib.hid (HK.out.alloc HK.out.size (.cells #[.int .i64 z1, .int .i64 z2, .int .i64 (-1), .int .i64 0, .int .i64 0, .string ⟨#[]⟩, .int .i64 1, .int .i64 z4] 42))
     replace HO := Lib.hid (HO.out.alloc (.cells #[.int .i64 z1, .int .i64 z2, .int .i64 (-1), .int .i64 0, .int .i64 0, .string ⟨#[]⟩, .int .i64 1, .int .i64 z4] 42))
     replace HX := Lib.hid (HX.out.alloc (.cells #[.int .i64 z1, .int .i64 z2, .int .i64 (-1), .int .i64 0, .int .i64 0, .string ⟨#[]⟩, .int .i64 1, .int .i64 z4] 42))
     have hlx : xs.length + ([⟨z1, z2, -1, ⟨0, 0, ⟨#[]⟩⟩, 1, z4⟩] : List Ru).length ≤ 1000 := by simp; omega
     have hbb := HO.out.lt
     go_wp2_with (at_builtin; refine wp_append_rules rfl (.tmp 53) (.tmp 55) rfl w.heap.size b c xs rfl HO.out ⟨wk.heap.size, 0, none⟩ 1 [⟨z1, z2, -1, ⟨0, 0, ⟨#[]⟩⟩, 1, z4⟩] 1 rfl rfl HNx.out hlx HK.out.size ?_; intro b2 c2 zs wx HQ ho hgr HAT; have HO2 := Lib.hid ho; have HS2 := Lib.hid (HS.out.grown hgr (by omega)); have HK2 := Lib.hid (HK.out.grown hgr HK.out.size (by omega)); have hL : zs.length = xs.length + 1 := (by rw [HQ.out, List.length_append]; rfl); have HLL := Lib.hid hL; clear ho hgr hL)
     go_wp2_with fail
     go_roundw
     case rel => exact ⟨b2, c2, zs, k - 1, rfl, by first | go_num | (rw [Int.ofNat_sub (by omega)]; rfl) | (congr 1; omega), by have := HLL.out; omega, HO2.out, HS2.out, HK2.out⟩
     case measure => simp [intOf]; omega
    have hd2 : (r3 == 2) = false := by simpa using hl2
    have hd1 : (r3 == 1) = false := by simpa using hl1
    clear hl1 hl2
    have c0 : wi.cell? ⟨bx, 0, none⟩ = some (.int .i64 z1) := HX.out.1 0 _ rfl
    have c1 : wi.cell? ⟨bx, 1, none⟩ = some (.int .i64 z2) := HX.out.1 1 _ rfl
    have c2 : wi.cell? ⟨bx, 2, none⟩ = some (.int .i64 (-1)) := HX.out.1 2 _ rfl
    have c3 : wi.cell? ⟨bx, 3, none⟩ = some (.int .i64 0) := HX.out.1 3 _ rfl
    have c4 : wi.cell? ⟨bx, 4, none⟩ = some (.int .i64 0) := HX.out.1 4 _ rfl
    have c5 : wi.cell? ⟨bx, 5, none⟩ = some (.string ⟨#[]⟩) := HX.out.1 5 _ rfl
    have c6 : wi.cell? ⟨bx, 6, none⟩ = some (.int .i64 r3) := HX.out.1 6 _ rfl
    have c7 : wi.cell? ⟨bx, 7, none⟩ = some (.int .i64 z3) := HX.out.1 7 _ rfl
    have HNx := Lib.hid (OwnR.lit wi ⟨z1, z2, -1, ⟨0, 0, ⟨#[]⟩⟩, r3, z3⟩ (Nat.le_refl _)).news
    replace HS := Lib.hid (HS.out.alloc (.cells #[.int .i64 z1, .int .i64 z2, .int .i64 (-1), .int .i64 0, .int .i64 0, .string ⟨#[]⟩, .int .i64 r3, .int .i64 z3] 42))
    replace HK := Lib.hid (HK.out.alloc HK.out.size (.cells #[.int .i64 z1, .int .i64 z2, .int .i64 (-1), .int .i64 0, .int .i64 0, .string ⟨#[]⟩, .int .i64 r3, .int .i64 z3] 42))
    replace HO := Lib.hid (HO.out.alloc (.cells #[.int .i64 z1, .int .i64 z2, .int .i64 (-1), .int .i64 0, .int .i64 0, .string ⟨#[]⟩, .int .i64 r3, .int .i64 z3] 42))
    replace HX := Lib.hid (HX.out.alloc (.cells #[.int .i64 z1, .int .i64 z2, .int .i64 (-1), .int .i64 0, .int .i64 0, .string ⟨#[]⟩, .int .i64 r3, .int .i64 z3] 42))
    have hlx : xs.length + ([⟨z1, z2, -1, ⟨0, 0, ⟨#[]⟩⟩, r3, z3⟩] : List Ru).length ≤ 1000 := by simp; omega
    have hbb := HO.out.lt
    go_wp2_with (at_builtin; refine wp_append_rules rfl (.tmp 53) (.tmp 55) rfl w.heap.size b c xs rfl HO.out ⟨wi.heap.size, 0, none⟩ 1 [⟨z1, z2, -1, ⟨0, 0, ⟨#[]⟩⟩, r3, z3⟩] 1 rfl rfl HNx.out hlx HK.out.size ?_; intro b2 c2 zs wx HQ ho hgr HAT; have HO2 := Lib.hid ho; have HS2 := Lib.hid (HS.out.grown hgr (by omega)); have HK2 := Lib.hid (HK.out.grown hgr HK.out.size (by omega)); have hL : zs.length = xs.length + 1 := (by rw [HQ.out, List.length_append]; rfl); have HLL := Lib.hid hL; clear ho hgr hL)
    go_wp2_with fail
    go_roundw
    case rel => exact ⟨b2, c2, zs, k - 1, rfl, by first | go_num | (rw [Int.ofNat_sub (by omega)]; rfl) | (congr 1; omega), by have := HLL.out; omega, HO2.out, HS2.out, HK2.out⟩
    case measure => simp [intOf]; omega
   subst h40
   go_wp2_with fail
   refine (pick_any g A len cap 4 _ HS.out (by omega)).mono ?_
   rintro e wl ⟨r5, rfl, r50, r51, hs', hk'⟩
   have r52 : r5 ≤ 3 := by omega
   replace HO := Lib.hid (HO.out.keep hk' hgw)
   replace HK := Lib.hid (HK.out.more (Nat.le_refl _) hk')
   replace HS := Lib.hid hs'
   replace HX := Lib.hid (HX.out.keep hk' (by omega))
   have hzwl := hk'.size
   clear hs' hk' r51
   have c2 := HX.out.1 2 _ rfl
   have f2 := HX.out.2.1 2
   go_wp2_with fail
   replace HS := Lib.hid (HS.out.set_ (p := ⟨bx, 2, none⟩) (by show g < bx; omega) (.int .i64 r5))
   replace HK := Lib.hid (HK.out.set_ (p := ⟨bx, 2, none⟩) (.inr (by show w.heap.size ≤ bx; omega)) (.int .i64 r5))
   replace HO := Lib.hid (HO.out.set_ (p := ⟨bx, 2, none⟩) (by show b ≠ bx; omega) (.int .i64 r5))
   replace HX := Lib.hid (HX.out.set_ (j := 2) (y := ⟨z1, z2, r5, ⟨0, 0, ⟨#[]⟩⟩, r3, 0⟩) (.int .i64 r5) (by omega) rfl)
   clear c2 f2
   have hzwm : bx < (wl.setCell ⟨bx, 2, none⟩ (.int .i64 r5)).heap.size := HX.out.2.2
   obtain ⟨wm, hww⟩ : ∃ ww, (wl.setCell ⟨bx, 2, none⟩ (.int .i64 r5)) = ww := ⟨_, rfl⟩
   rw [hww] at HS HK HO HX hzwm ⊢
   clear hww
   refine (good_any g A len cap _ HS.out).mono ?_
   rintro e wn ⟨vk, vn, vs, rfl, _, hs', hk'⟩
   replace HO := Lib.hid (HO.out.keep hk' hgw)
   replace HK := Lib.hid (HK.out.more (Nat.le_refl _) hk')
   replace HS := Lib.hid hs'
   replace HX := Lib.hid (HX.out.keep hk' (by omega))
   clear hs' hk'
   have c3 := HX.out.1 3 _ rfl
   have f3 := HX.out.2.1 3
   have c4 := HX.out.1 4 _ rfl
   have f4 := HX.out.2.1 4
   have c5 := HX.out.1 5 _ rfl
   have f5 := HX.out.2.1 5
   go_wp2_with fail
   replace HS := Lib.hid (HS.out.set_ (p := ⟨bx, 3, none⟩) (by show g < bx; omega) (.int .i64 vk))
   replace HK := Lib.hid (HK.out.set_ (p := ⟨bx, 3, none⟩) (.inr (by show w.heap.size ≤ bx; omega)) (.int .i64 vk))
   replace HO := Lib.hid (HO.out.set_ (p := ⟨bx, 3, none⟩) (by show b ≠ bx; omega) (.int .i64 vk))
   replace HX := Lib.hid (HX.out.set_ (j := 3) (y := ⟨z1, z2, r5, ⟨vk, 0, ⟨#[]⟩⟩, r3, 0⟩) (.int .i64 vk) (by omega) rfl)
   replace HS := Lib.hid (HS.out.set_ (p := ⟨bx, 4, none⟩) (by show g < bx; omega) (.int .i64 vn))
   replace HK := Lib.hid (HK.out.set_ (p := ⟨bx, 4, none⟩) (.inr (by show w.heap.size ≤ bx; omega)) (.int .i64 vn))
   replace HO := Lib.hid (HO.out.set_ (p := ⟨bx, 4, none⟩) (by show b ≠ bx; omega) (.int .i64 vn))
   replace HX := Lib.hid (HX.out.set_ (j := 4) (y := ⟨z1, z2, r5, ⟨vk, vn, ⟨#[]⟩⟩, r3, 0⟩) (.int .i64 vn) (by omega) rfl)
   replace HS := Lib.hid (HS.out.set_ (p := ⟨bx, 5, none⟩) (by show g < bx; omega) (.string vs))
   replace HK := Lib.hid (HK.out.set_ (p := ⟨bx, 5, none⟩) (.inr (by show w.heap.size ≤ bx; omega)) (.string vs))
   replace HO := Lib.hid (HO.out.set_ (p := ⟨bx, 5, none⟩) (by show b ≠ bx; omega) (.string vs))
   replace HX := Lib.hid (HX.out.set_ (j := 5) (y := ⟨z1, z2, r5, ⟨vk, vn, vs⟩, r3, 0⟩) (.string vs) (by omega) rfl)
   clear c3 c4 c5 f3 f4 f5
   have hzwo : bx < (((wn.setCell ⟨bx, 3, none⟩ (.int .i64 vk)).setCell ⟨bx, 4, none⟩ (.int .i64 vn)).setCell ⟨bx, 5, none⟩ (.string vs)).heap.size := HX.out.2.2
   obtain ⟨wo, hww⟩ : ∃ ww, (((wn.setCell ⟨bx, 3, none⟩ (.int .i64 vk)).setCell ⟨bx, 4, none⟩ (.int .i64 vn)).setCell ⟨bx, 5, none⟩ (.string vs)) = ww := ⟨_, rfl⟩
   rw [hww] at HS HK HO HX hzwo ⊢
   clear hww
   go_wp2_with fail
   refine (pick_any g A len cap 61 _ HS.out (by omega)).mono ?_
   rintro e wg ⟨r6, rfl, r60, r61, hs', hk'⟩
   have r62 : r6 ≤ 60 := by omega
   replace HO := Lib.hid (HO.out.keep hk' hgw)
   replace HK := Lib.hid (HK.out.more (Nat.le_refl _) hk')
   replace HS := Lib.hid hs'
   replace HX := Lib.hid (HX.out.keep hk' (by omega))
   have hzwg := hk'.size
   clear hs' hk' r61
   have HSM := Lib.hid (smallr_c wg r6 r60 r62)
   have hne : wg.heap.size ≠ g := by have := HS.out.lt; omega
   replace HS := Lib.hid (HS.out.alloc (.cells #[.int .i64 0, .int .i64 1, .int .i64 2, .int .i64 3, .int .i64 10, .int .i64 30, .int .i64 r6] 3))
   replace HK := Lib.hid (HK.out.alloc HK.out.size (.cells #[.int .i64 0, .int .i64 1, .int .i64 2, .int .i64 3, .int .i64 10, .int .i64 30, .int .i64 r6] 3))
   replace HO := Lib.hid (HO.out.alloc (.cells #[.int .i64 0, .int .i64 1, .int .i64 2, .int .i64 3, .int .i64 10, .int .i64 30, .int .i64 r6] 3))
   replace HX := Lib.hid (HX.out.alloc (.cells #[.int .i64 0, .int .i64 1, .int .i64 2, .int .i64 3, .int .i64 10, .int .i64 30, .int .i64 r6] 3))
   go_wp2_with fail
   refine (one_any g A len cap wg.heap.size 7 7 (0) 60 _ HS.out (by simp) hne HSM.out (by omega) (by omega)).mono ?_
   rintro e wh ⟨z3, rfl, z30, z31, hs', hk'⟩
   replace HO := Lib.hid (HO.out.keep hk' hgw)
   replace HK := Lib.hid (HK.out.more (Nat.le_refl _) hk')
   replace HS := Lib.hid hs'
   replace HX := Lib.hid (HX.out.keep hk' (by omega))
   have hzwh := hk'.size
   simp at hzwh
   clear hs' hk' HSM hne
   have c7 := HX.out.1 7 _ rfl
   have f7 := HX.out.2.1 7
   go_upto_region 10 with (fail)
   replace HS := Lib.hid (HS.out.set_ (p := ⟨bx, 7, none⟩) (by show g < bx; omega) (.int .i64 z3))
   replace HK := Lib.hid (HK.out.set_ (p := ⟨bx, 7, none⟩) (.inr (by show w.heap.size ≤ bx; omega)) (.int .i64 z3))
   replace HO := Lib.hid (HO.out.set_ (p := ⟨bx, 7, none⟩) (by show b ≠ bx; omega) (.int .i64 z3))
   replace HX := Lib.hid (HX.out.set_ (j := 7) (y := ⟨z1, z2, r5, ⟨vk, vn, vs⟩, r3, z3⟩) (.int .i64 z3) (by omega) rfl)
   clear c7 f7
   have hzwi : bx < (wh.setCell ⟨bx, 7, none⟩ (.int .i64 z3)).heap.size := HX.out.2.2
   obtain ⟨wi, hww⟩ : ∃ ww, (wh.setCell ⟨bx, 7, none⟩ (.int .i64 z3)) = ww := ⟨_, rfl⟩
   rw [hww] at HS HK HO HX hzwi ⊢
   clear hww
   have c6 : wi.cell? ⟨bx, 6, none⟩ = some (.int .i64 r3) := HX.out.1 6 _ rfl
   by_cases hl2 : r3 = 2
   ·subst hl2
    have HSM := Lib.hid (smallr_d wi)
    have hne : wi.heap.size ≠ g := by have := HS.out.lt; omega
    replace HS := Lib.hid (HS.out.alloc (.cells #[.int .i64 0, .int .i64 1, .int .i64 1, .int .i64 2, .int .i64 5] 3))
    replace HK := Lib.hid (HK.out.alloc HK.out.size (.cells #[.int .i64 0, .int .i64 1, .int .i64 1, .int .i64 2, .int .i64 5] 3))
    replace HO := Lib.hid (HO.out.alloc (.cells #[.int .i64 0, .int .i64 1, .int .i64 1, .int .i64 2, .int .i64 5] 3))
    replace HX := Lib.hid (HX.out.alloc (.cells #[.int .i64 0, .int .i64 1, .int .i64 1, .int .i64 2, .int .i64 5] 3))
    go_wp2_with fail
    refine (one_any g A len cap wi.heap.size 5 5 (0) 5 _ HS.out (by simp) hne HSM.out (by omega) (by omega)).mono ?_
    rintro e wj ⟨z4, rfl, z40, z41, hs', hk'⟩
    replace HO := Lib.hid (HO.out.keep hk' hgw)
    replace HK := Lib.hid (HK.out.more (Nat.le_refl _) hk')
    replace HS := Lib.hid hs'
    replace HX := Lib.hid (HX.out.keep hk' (by omega))
    have hzwj := hk'.size
    simp at hzwj
    clear hs' hk' HSM hne
    have c7 := HX.out.1 7 _ rfl
    have f7 := HX.out.2.1 7
    go_upto_region 12 with (fail)
    replace HS := Lib.hid (HS.out.set_ (p := ⟨bx, 7, none⟩) (by show g < bx; omega) (.int .i64 z4))
    replace HK := Lib.hid (HK.out.set_ (p := ⟨bx, 7, none⟩) (.inr (by show w.heap.size ≤ bx; omega)) (.int .i64 z4))
    replace HO := Lib.hid (HO.out.set_ (p := ⟨bx, 7, none⟩) (by show b ≠ bx; omega) (.int .i64 z4))
    replace HX := Lib.hid (HX.out.set_ (j := 7) (y := ⟨z1, z2, r5, ⟨vk, vn, vs⟩, 2, z4⟩) (.int .i64 z4) (by omega) rfl)
    clear c7 f7
    have hzwk : bx < (wj.setCell ⟨bx, 7, none⟩ (.int .i64 z4)).heap.size := HX.out.2.2
    obtain ⟨wk, hww⟩ : ∃ ww, (wj.setCell ⟨bx, 7, none⟩ (.int .i64 z4)) = ww := ⟨_, rfl⟩
    rw [hww] at HS HK HO HX hzwk ⊢
    clear hww
    have c0 : wk.cell? ⟨bx, 0, none⟩ = some (.int .i64 z1) := HX.out.1 0 _ rfl
    have c1 : wk.cell? ⟨bx, 1, none⟩ = some (.int .i64 z2) := HX.out.1 1 _ rfl
    have c2 : wk.cell? ⟨bx, 2, none⟩ = some (.int .i64 r5) := HX.out.1 2 _ rfl
    have c3 : wk.cell? ⟨bx, 3, none⟩ = some (.int .i64 vk) := HX.out.1 3 _ rfl
    have c4 : wk.cell? ⟨bx, 4, none⟩ = some (.int .i64 vn) := HX.out.1 4 _ rfl
    have c5 : wk.cell? ⟨bx, 5, none⟩ = some (.string vs) := HX.out.1 5 _ rfl
    have c6 : wk.cell? ⟨bx, 6, none⟩ = some (.int .i64 2) := HX.out.1 6 _ rfl
    have c7 : wk.cell? ⟨bx, 7, none⟩ = some (.int .i64 z4) := HX.out.1 7 _ rfl
    have HNx := Lib.hid (OwnR.lit wk ⟨z1, z2, r5, ⟨vk, vn, vs⟩, 2, z4⟩ (Nat.le_refl _)).news
    replace HS := Lib.hid (HS.out.alloc (.cells #[.int .i64 z1, .int .i64 z2, .int .i64 r5, .int .i64 vk, .int .i64 vn, .string vs, .int .i64 2, .int .i64 z4] 42))
    replace HK := Lib.hid (HK.out.alloc HK.out.size (.cells #[.int .i64 z1, .int .i64 z2, .int .i64 r5, .int .i64 vk, .int .i64 vn, .string vs, .int .i64 2, .int .i64 z4] 42))
    replace HO := Lib.hid (HO.out.alloc (.cells #[.int .i64 z1, .int .i64 z2, .int .i64 r5, .int .i64 vk, .int .i64 vn, .string vs, .int .i64 2, .int .i64 z4] 42))
    replace HX := Lib.hid (HX.out.alloc (.cells #[.int .i64 z1, .int .i64 z2, .int .i64 r5, .int .i64 vk, .int .i64 vn, .string vs, .int .i64 2, .int .i64 z4] 42))
    have hlx : xs.length + ([⟨z1, z2, r5, ⟨vk, vn, vs⟩, 2, z4⟩] : List Ru).length ≤ 1000 := by simp; omega
    have hbb := HO.out.lt
    go_wp2_with (at_builtin; refine wp_append_rules rfl (.tmp 53) (.tmp 55) rfl w.heap.size b c xs rfl HO.out ⟨wk.heap.size, 0, none⟩ 1 [⟨z1, z2, r5, ⟨vk, vn, vs⟩, 2, z4⟩] 1 rfl rfl HNx.out hlx HK.out.size ?_; intro b2 c2 zs wx HQ ho hgr HAT; have HO2 := Lib.hid ho; have HS2 := Lib.hid (HS.out.grown hgr (by omega)); have HK2 := Lib.hid (HK.out.grown hgr HK.out.size (by omega)); have hL : zs.length = xs.length + 1 := (by rw [HQ.out, List.length_append]; rfl); have HLL := Lib.hid hL; clear ho hgr hL)
    go_wp2_with fail
    go_roundw
    case rel => exact ⟨b2, c2, zs, k - 1, rfl, by first | go_num | (rw [Int.ofNat_sub (by omega)]; rfl) | (congr 1; omega), by have := HLL.out; omega, HO2.out, HS2.out, HK2.out⟩
    case measure => simp [intOf]; omega
   by_cases hl1 : r3 = 1
   ·subst hl1
    have HSM := Lib.hid (smallr_d wi)
    have hne : wi.heap.size ≠ g := by have := HS.out.lt; omega
    replace HS := Lib.hid (HS.out.alloc (.cells #[.int .i64 0, .int .i64 1, .int .i64 1, .int .i64 2, .int .i64 5] 3))
    replace HK := Lib.hid (HK.out.alloc HK.out.size (.cells #[.int .i64 0, .int .i64 1, .int .i64 1, .int .i64 2, .int .i64 5] 3))
    replace HO := Lib.hid (HO.out.alloc (.cells #[.int .i64 0, .int .i64 1, .int .i64 1, .int .i64 2, .int .i64 5] 3))
    replace HX := Lib.hid (HX.out.alloc (.cells #[.int .i64 0, .int .i64 1, .int .i64 1, .int .i64 2, .int .i64 5] 3))
    go_wp2_with fail
    refine (one_any g A len cap wi.heap.size 5 5 (0) 5 _ HS.out (by simp) hne HSM.out (by omega) (by omega)).mono ?_
    rintro e wj ⟨z4, rfl, z40, z41, hs', hk'⟩
    replace HO := Lib.hid (HO.out.keep hk' hgw)
    replace HK := Lib.hid (HK.out.more (Nat.le_refl _) hk')
    replace HS := Lib.hid hs'
    replace HX := Lib.hid (HX.out.keep hk' (by omega))
    have hzwj := hk'.size
    simp at hzwj
    clear hs' hk' HSM hne
    have c7 := HX.out.1 7 _ rfl
    have f7 := HX.out.2.1 7
    go_upto_region 12 with (fail)
    replace HS := Lib.hid (HS.out.set_ (p := ⟨bx, 7, none⟩) (by show g < bx; omega) (.int .i64 z4))
    replace HK := Lib.hid (HK.out.set_ (p := ⟨bx, 7, none⟩) (.inr (by show w.heap.size ≤ bx; omega)) (.int .i64 z4))
    replace HO := Lib.hid (HO.out.set_ (p := ⟨bx, 7, none⟩) (by show b ≠ bx; omega) (.int .i64 z4))
    replace HX := Lib.hid (HX.out.set_ (j := 7) (y := ⟨z1, z2, r5, ⟨vk, vn, vs⟩, 1, z4⟩) (.int .i64 z4) (by omega) rfl)
    clear c7 f7
    have hzwk : bx < (wj.setCell ⟨bx, 7, none⟩ (.int .i64 z4)).heap.size := HX.out.2.2
    obtain ⟨wk, hww⟩ : ∃ ww, (wj.setCell ⟨bx, 7, none⟩ (.int .i64 z4)) = ww := ⟨_, rfl⟩
    rw [hww] at HS HK HO HX hzwk ⊢
    clear hww
    have c0 : wk.cell? ⟨bx, 0, none⟩ = some (.int .i64 z1) := HX.out.1 0 _ rfl
    have c1 : wk.cell? ⟨bx, 1, none⟩ = some (.int .i64 z2) := HX.out.1 1 _ rfl
    have c2 : wk.cell? ⟨bx, 2, none⟩ = some (.int .i64 r5) := HX.out.1 2 _ rfl
    have c3 : wk.cell? ⟨bx, 3, none⟩ = some (.int .i64 vk) := HX.out.1 3 _ rfl
    have c4 : wk.cell? ⟨bx, 4, none⟩ = some (.int .i64 vn) := HX.out.1 4 _ rfl
    have c5 : wk.cell? ⟨bx, 5, none⟩ = some (.string vs) := HX.out.1 5 _ rfl
    have c6 : wk.cell? ⟨bx, 6, none⟩ = some (.int .i64 1) := HX.out.1 6 _ rfl
    have c7 : wk.cell? ⟨bx, 7, none⟩ = some (.int .i64 z4) := HX.out.1 7 _ rfl
    have HNx := Lib.hid (OwnR.lit wk ⟨z1, z2, r5, ⟨vk, vn, vs⟩, 1, z4⟩ (Nat.le_refl _)).news
    replace HS := Lib.hid (HS.out.alloc (.cells #[.int .i64 z1, .int .i64 z2, .int .i64 r5, .int .i64 vk, .int .i64 vn, .string vs, .int .i64 1, .int .i64 z4] 42))
    replace HK := Lib.hid (HK.out.alloc HK.out.size (.cells #[.int .i64 z1, .int .i64 z2, .int .i64 r5, .int .i64 vk, .int .i64 vn, .string vs, .int .i64 1, .int .i64 z4] 42))
    replace HO := Lib.hid (HO.out.alloc (.cells #[.int .i64 z1, .int .i64 z2, .int .i64 r5, .int .i64 vk, .int .i64 vn, .string vs, .int .i64 1, .int .i64 z4] 42))
    replace HX := Lib.hid (HX.out.alloc (.cells #[.int .i64 z1, .int .i64 z2, .int .i64 r5, .int .i64 vk, .int .i64 vn, .string vs, .int .i64 1, .int .i64 z4] 42))
    have hlx : xs.length + ([⟨z1, z2, r5, ⟨vk, vn, vs⟩, 1, z4⟩] : List Ru).length ≤ 1000 := by simp; omega
    have hbb := HO.out.lt
    go_wp2_with (at_builtin; refine wp_append_rules rfl (.tmp 53) (.tmp 55) rfl w.heap.size b c xs rfl HO.out ⟨wk.heap.size, 0, none⟩ 1 [⟨z1, z2, r5, ⟨vk, vn, vs⟩, 1, z4⟩] 1 rfl rfl HNx.out hlx HK.out.size ?_; intro b2 c2 zs wx HQ ho hgr HAT; have HO2 := Lib.hid ho; have HS2 := Lib.hid (HS.out.grown hgr (by omega)); have HK2 := Lib.hid (HK.out.grown hgr HK.out.size (by omega)); have hL : zs.length = xs.length + 1 := (by rw [HQ.out, List.length_append]; rfl); have HLL := Lib.hid hL; clear ho hgr hL)
    go_wp2_with fail
    go_roundw
    case rel => exact ⟨b2, c2, zs, k - 1, rfl, by first | go_num | (rw [Int.ofNat_sub (by omega)]; rfl) | (congr 1; omega), by have := HLL.out; omega, HO2.out, HS2.out, HK2.out⟩
    case measure => simp [intOf]; omega
   have hd2 : (r3 == 2) = false := by simpa using hl2
   have hd1 : (r3 == 1) = false := by simpa using hl1
   clear hl1 hl2
   have c0 : wi.cell? ⟨bx, 0, none⟩ = some (.int .i64 z1) := HX.out.1 0 _ rfl
   have c1 : wi.cell? ⟨bx, 1, none⟩ = some (.int .i64 z2) := HX.out.1 1 _ rfl
   have c2 : wi.cell? ⟨bx, 2, none⟩ = some (.int .i64 r5) := HX.out.1 2 _ rfl
   have c3 : wi.cell? ⟨bx, 3, none⟩ = some (.int .i64 vk) := HX.out.1 3 _ rfl
   have c4 : wi.cell? ⟨bx, 4, none⟩ = some (.int .i64 vn) := HX.out.1 4 _ rfl
   have c5 : wi.cell? ⟨bx, 5, none⟩ = some (.string vs) := HX.out.1 5 _ rfl
   have c6 : wi.cell? ⟨bx, 6, none⟩ = some (.int .i64 r3) := HX.out.1 6 _ rfl
   have c7 : wi.cell? ⟨bx, 7, none⟩ = some (.int .i64 z3) := HX.out.1 7 _ rfl
   have HNx := Lib.hid (OwnR.lit wi ⟨z1, z2, r5, ⟨vk, vn, vs⟩, r3, z3⟩ (Nat.le_refl _)).news
   replace HS := Lib.hid (HS.out.alloc (.cells #[.int .i64 z1, .int .i64 z2, .int .i64 r5, .int .i64 vk, .int .i64 vn, .string vs, .int .i64 r3, .int .i64 z3] 42))
   replace HK := Lib.hid (HK.out.alloc HK.out.size (.cells #[.int .i64 z1, .int .i64 z2, .int .i64 r5, .int .i64 vk, .int .i64 vn, .string vs, .int .i64 r3, .int .i64 z3] 42))
   replace HO := Lib.hid (HO.out.alloc (.cells #[.int .i64 z1, .int .i64 z2, .int .i64 r5, .int .i64 vk, .int .i64 vn, .string vs, .int .i64 r3, .int .i64 z3] 42))
   replace HX := Lib.hid (HX.out.alloc (.cells #[.int .i64 z1, .int .i64 z2, .int .i64 r5, .int .i64 vk, .int .i64 vn, .string vs, .int .i64 r3, .int .i64 z3] 42))
   have hlx : xs.length + ([⟨z1, z2, r5, ⟨vk, vn, vs⟩, r3, z3⟩] : List Ru).length ≤ 1000 := by simp; omega
   have hbb := HO.out.lt
   go_wp2_with (at_builtin; refine wp_append_rules rfl (.tmp 53) (.tmp 55) rfl w.heap.size b c xs rfl HO.out ⟨wi.heap.size, 0, none⟩ 1 [⟨z1, z2, r5, ⟨vk, vn, vs⟩, r3, z3⟩] 1 rfl rfl HNx.out hlx HK.out.size ?_; intro b2 c2 zs wx HQ ho hgr HAT; have HO2 := Lib.hid ho; have HS2 := Lib.hid (HS.out.grown hgr (by omega)); have HK2 := Lib.hid (HK.out.grown hgr HK.out.size (by omega)); have hL : zs.length = xs.length + 1 := (by rw [HQ.out, List.length_append]; rfl); have HLL := Lib.hid hL; clear ho hgr hL)
   go_wp2_with fail
   go_roundw
   case rel => exact ⟨b2, c2, zs, k - 1, rfl, by first | go_num | (rw [Int.ofNat_sub (by omega)]; rfl) | (congr 1; omega), by have := HLL.out; omega, HO2.out, HS2.out, HK2.out⟩
   case measure => simp [intOf]; omega
end Go.Proofs.YtmfibedcloknlaaGreatDoor
