/- What the laws draw of places. -/
import Derived.Test.YtfdejmdhcjfboaaPlc4
import Derived.Test.YtfdejmdhcjfboaaSrc
import Derived.Maps.AppendAt
import Derived.Deep.AppendLies
import Derived.Deep.Onto
namespace Go.Proofs.Ytfdejmdhcjfboaa
open Go.Joins Go.ChangeShapes Go.WideShapes Go.ChangeAt Go.RowKit Go.Deep
set_option linter.unusedVariables false
set_option linter.unusedSimpArgs false

/-- Slots in a row of the call's own. -/
def OwnS (w : World) (base b c : Nat) (xs : List Sl) : Prop := w.ownsRow base 66 2 (.slice (some ⟨b, 0, none⟩) xs.length c) xs.length (xs.flatMap Sl.cells)
theorem slone_cells (xs : List Sl) : ∀ u ∈ xs.flatMap Sl.cells, u.oneCell' = true := by
  intro u hu
  rw [List.mem_flatMap] at hu
  obtain ⟨x, _, hx⟩ := hu
  simp [Sl.cells] at hx
  rcases hx with rfl | rfl <;> rfl
theorem OwnS.lt {w : World} {base b c : Nat} {xs : List Sl} (h : OwnS w base b c xs) : base ≤ b ∧ b < w.heap.size := World.ownsRow.lt h b rfl
theorem OwnS.keep {w w' : World} {base b c g : Nat} {xs : List Sl} (h : OwnS w base b c xs) (hk : Keep g w.heap.size w w') (hg : g < base) : OwnS w' base b c xs :=
  World.ownsRow.kept h (row := some g) ⟨hk.os, hk.tape, hk.output, hk.size, fun k hk' hn => hk.block k hk' (fun e => hn (by rw [e]))⟩ (.inr (by have := h.lt; simp [Value.ownBlock]; omega))
theorem OwnS.grown {w w' : World} {base b c : Nat} {xs : List Sl} {row : Nat} (h : OwnS w base b c xs) (hg : w.grownBy w' (some row)) (hn : b ≠ row) : OwnS w' base b c xs :=
  World.ownsRow.kept h hg (.inr (by simpa [Value.ownBlock] using hn))
theorem OwnS.alloc {w : World} {base b c : Nat} {xs : List Sl} (h : OwnS w base b c xs) (o : Obj) : OwnS (w.alloc o) base b c xs := World.ownsRow.alloc h o
theorem OwnS.mono {w : World} {base base' b c : Nat} {xs : List Sl} (h : OwnS w base b c xs) (hb : base' ≤ base) : OwnS w base' b c xs := World.ownsRow.mono h hb
theorem OwnS.news {w : World} {base b c : Nat} {xs : List Sl} (h : OwnS w base b c xs) : ∀ j u, (xs.flatMap Sl.cells)[j]? = some u → w.cell? ((⟨b, 0, none⟩ : Addr).add j) = some u := World.ownsRow.cells h rfl
theorem OwnS.lit (w : World) (x : Sl) {base : Nat} (hb : base ≤ w.heap.size) : OwnS (w.alloc (.cells #[.int .i64 x.p, .int .i64 x.s] 66)) base w.heap.size 1 [x] :=
  World.ownsRow_lit (e := 66) (size := 2) w #[.int .i64 x.p, .int .i64 x.s] 1 hb (by decide) rfl
theorem OwnS.none_ (w : World) {base : Nat} (hb : base ≤ w.heap.size) : OwnS (w.alloc (.cells #[] 66)) base w.heap.size 0 [] :=
  World.ownsRow_lit (e := 66) (size := 2) w #[] 0 hb (by decide) rfl
theorem OwnS.lies {w : World} {base b c : Nat} {xs : List Sl} (h : OwnS w base b c xs) : SlL w (some ⟨b, 0, none⟩) xs := Lie.of_own (c := Sl.cells) (fun _ => rfl) h
theorem OwnS.cap {w : World} {base b c : Nat} {xs : List Sl} (h : OwnS w base b c xs) : xs.length ≤ c := by
  rcases h.2 with ⟨h', _⟩ | ⟨g', cap', cur, h', _, _, hnc, _⟩
  · simp at h'
  · simp only [Value.slice.injEq, Option.some.injEq, Addr.mk.injEq, and_true, true_and] at h'
    obtain ⟨rfl, rfl⟩ := h'
    exact hnc
theorem Keep.grown {g B : Nat} {a b c : World} {row : Nat} (h : Keep g B a b) (hg : b.grownBy c (some row)) (hB : B ≤ b.heap.size) (hr : B ≤ row) : Keep g B a c :=
  h.trans ⟨hg.os, hg.tape, hg.output, hg.size, fun k hk hn => hg.block k (by omega) (by simp; omega)⟩
theorem St.grown {w w' : World} {g : Nat} {A : Option Addr} {len cap : Nat} {row : Nat} (h : St g A len cap w) (hg : w.grownBy w' (some row)) (hr : g < row) : St g A len cap w' :=
  h.of_block fun k hk => hg.block k (by have := h.lt; omega) (by simp; omega)

/-- An append of slots onto a row of the call's own. -/
theorem wp_append_slots {w : World} {ops : Array Oper} {rest : List Oper} {o : Oper} {a : Act} {Q : Exit → Act → World → Prop} (hgd : o.guard = none) (s x : Operand)
    (ho : o.op = .call { callee := .builtin .append, args := #[s, x], argTypes := #[25, 25] }) (base b c : Nat) (xs : List Sl) (hs : a.eval s = .slice (some ⟨b, 0, none⟩) xs.length c) (hown : OwnS w base b c xs)
    (ad : Addr) (c2 : Nat) (ys : List Sl) (m : Nat) (hx : a.eval x = .slice (some ad) m c2) (hm : ys.length = m) (hcells : ∀ j u, (ys.flatMap Sl.cells)[j]? = some u → w.cell? (ad.add j) = some u)
    (hlen : xs.length + ys.length ≤ 1000) (hbase : base ≤ w.heap.size)
    (h : ∀ b' c' zs w', Hid (zs = xs ++ ys) → OwnS w' base b' c' zs → w.grownBy w' (some b) → Hid (b' = b ∨ b' = w.heap.size) → wpList Try.prog ops Q rest (a.put o.dst (.slice (some ⟨b', 0, none⟩) zs.length c')) w') :
    wpList Try.prog ops Q (o :: rest) a w := by
  subst hm
  obtain ⟨i0, hi0, hz0, hz1, hz2⟩ := info_parts infoSl
  refine wpList_append_own_at w hgd s x _ ho base 66 i0 _ 2 16 Try.underlying25 hi0 hz0 hz1 hz2 rfl (by omega) _ xs.length _ hs hown ad ys.length c2 _ hx (len_cells ys) hcells (slone_cells ys) (by simp only [maxLen]; omega) (by omega) hbase ?_
  intro v' w' hown' hg hnil hat
  rw [← List.length_append, ← List.flatMap_append] at hown'
  have hform : ∃ b' c', v' = .slice (some ⟨b', 0, none⟩) (xs ++ ys).length c' := by
    rcases hown'.2 with ⟨rfl, _⟩ | ⟨g', cap', cur, rfl, _⟩
    · simp [Value.ownBlock] at hat
    · exact ⟨g', cap', rfl⟩
  obtain ⟨b', c', rfl⟩ := hform
  exact h b' c' _ w' (Lib.hid rfl) hown' hg (Lib.hid (by simpa [Value.ownBlock] using hat))

theorem small_n (w : World) (r : Int) (h0 : 0 ≤ r) (h1 : r ≤ 21) : Small (w.alloc (.cells #[.int .i64 0, .int .i64 1, .int .i64 2, .int .i64 3, .int .i64 r] 3)) w.heap.size 5 0 21 := by
  intro i hi
  have hc := fun j => cell_of_row (w.alloc (.cells #[.int .i64 0, .int .i64 1, .int .i64 2, .int .i64 3, .int .i64 r] 3)) w.heap.size j _ _ _ (heap_alloc_new w _)
  rcases (by omega : i = 0 ∨ i = 1 ∨ i = 2 ∨ i = 3 ∨ i = 4) with rfl | rfl | rfl | rfl | rfl
  · exact ⟨0, by omega, by omega, hc 0⟩
  · exact ⟨1, by omega, by omega, hc 1⟩
  · exact ⟨2, by omega, by omega, hc 2⟩
  · exact ⟨3, by omega, by omega, hc 3⟩
  · exact ⟨r, h0, h1, hc 4⟩
theorem small_pos (w : World) : Small (w.alloc (.cells #[.int .i64 0, .int .i64 0, .int .i64 1, .int .i64 2, .int .i64 3] 3)) w.heap.size 5 0 3 := by
  intro i hi
  have hc := fun j => cell_of_row (w.alloc (.cells #[.int .i64 0, .int .i64 0, .int .i64 1, .int .i64 2, .int .i64 3] 3)) w.heap.size j _ _ _ (heap_alloc_new w _)
  rcases (by omega : i = 0 ∨ i = 1 ∨ i = 2 ∨ i = 3 ∨ i = 4) with rfl | rfl | rfl | rfl | rfl
  · exact ⟨0, by omega, by omega, hc 0⟩
  · exact ⟨0, by omega, by omega, hc 1⟩
  · exact ⟨1, by omega, by omega, hc 2⟩
  · exact ⟨2, by omega, by omega, hc 3⟩
  · exact ⟨3, by omega, by omega, hc 4⟩
theorem small_sub (w : World) : Small (w.alloc (.cells #[.int .i64 0, .int .i64 0, .int .i64 1, .int .i64 3, .int .i64 4, .int .i64 9, .int .i64 103] 3)) w.heap.size 7 0 103 := by
  intro i hi
  have hc := fun j => cell_of_row (w.alloc (.cells #[.int .i64 0, .int .i64 0, .int .i64 1, .int .i64 3, .int .i64 4, .int .i64 9, .int .i64 103] 3)) w.heap.size j _ _ _ (heap_alloc_new w _)
  rcases (by omega : i = 0 ∨ i = 1 ∨ i = 2 ∨ i = 3 ∨ i = 4 ∨ i = 5 ∨ i = 6) with rfl | rfl | rfl | rfl | rfl | rfl | rfl
  · exact ⟨0, by omega, by omega, hc 0⟩
  · exact ⟨0, by omega, by omega, hc 1⟩
  · exact ⟨1, by omega, by omega, hc 2⟩
  · exact ⟨3, by omega, by omega, hc 3⟩
  · exact ⟨4, by omega, by omega, hc 4⟩
  · exact ⟨9, by omega, by omega, hc 5⟩
  · exact ⟨103, by omega, by omega, hc 6⟩
theorem small_bad (w : World) : Small (w.alloc (.cells #[.int .i64 (-1), .int .i64 4] 3)) w.heap.size 2 (-1) 4 := by
  intro i hi
  have hc := fun j => cell_of_row (w.alloc (.cells #[.int .i64 (-1), .int .i64 4] 3)) w.heap.size j _ _ _ (heap_alloc_new w _)
  rcases (by omega : i = 0 ∨ i = 1) with rfl | rfl
  · exact ⟨-1, by omega, by omega, hc 0⟩
  · exact ⟨4, by omega, by omega, hc 1⟩

/-- What is drawn of places. -/
def SlotsX (g : Nat) (A : Option Addr) (len cap : Nat) (w : World) (e : Ending) (w' : World) : Prop :=
  ∃ b c xs, e = .returned (.slice (some ⟨b, 0, none⟩) xs.length c) ∧ OwnS w' w.heap.size b c xs ∧ xs.length ≤ 22 ∧ St g A len cap w' ∧ Keep g w.heap.size w w'

set_option maxHeartbeats 2000000 in
theorem slots_any (g : Nat) (A : Option Addr) (len cap : Nat) (w : World) (hs : St g A len cap w) :
    Calls Try.prog 65 #[.pointer (some ⟨g, 0, none⟩)] w (SlotsX g A len cap w) := by
  have hgw := hs.lt
  have HO := Lib.hid (OwnS.none_ w (Nat.le_refl _))
  have HS := Lib.hid (hs.alloc (.cells #[] 66))
  have HK := Lib.hid ((Keep.refl g w.heap.size w).alloc (Nat.le_refl _) (.cells #[] 66))
  clear hs
  go_enter Try.func65, Try.ntmps65
  go_wp2_with fail
  refine (pick_any g A len cap 22 _ HS.out (by omega)).mono ?_
  rintro e w1 ⟨r, rfl, r0, r1, hs1, hk1⟩
  have r2 : r ≤ 21 := by omega
  have HO1 := Lib.hid (HO.out.keep hk1 hgw)
  have HK1 := Lib.hid (HK.out.more (Nat.le_refl _) (hk1.mono (by simp)))
  have HS1 := Lib.hid (hs1.alloc (.cells #[.int .i64 0, .int .i64 1, .int .i64 2, .int .i64 3, .int .i64 r] 3))
  have hz1 := hk1.size
  simp at hz1
  clear hs1 hk1 r1
  have HSM := Lib.hid (small_n w1 r r0 r2)
  have HK2 := Lib.hid (HK1.out.alloc (by omega) (.cells #[.int .i64 0, .int .i64 1, .int .i64 2, .int .i64 3, .int .i64 r] 3))
  have HO2 := Lib.hid (HO1.out.alloc (.cells #[.int .i64 0, .int .i64 1, .int .i64 2, .int .i64 3, .int .i64 r] 3))
  go_wp2_with fail
  refine (one_any g A len cap w1.heap.size 5 5 0 21 _ HS1.out (by simp) (by omega) HSM.out (by omega) (by omega)).mono ?_
  rintro e w2 ⟨z, rfl, z0, z1, hs2, hk2⟩
  have HO3 := Lib.hid (HO2.out.keep hk2 hgw)
  have HK3 := Lib.hid (HK2.out.more (Nat.le_refl _) (hk2.mono (by first | (simp; done) | (simp; omega))))
  have HS3 := Lib.hid hs2
  have hz2 := hk2.size
  simp at hz2
  clear hs2 hk2
  go_wp2_with fail
  go_loopw [3, 4] (fun v i wr => ∃ (b c : Nat) (xs : List Sl) (k : Nat), v = .slice (some ⟨b, 0, none⟩) xs.length c ∧ i = .int .i64 k ∧ xs.length + k ≤ 21 ∧ OwnS wr w.heap.size b c xs ∧ St g A len cap wr ∧ Keep g w.heap.size w wr) (fun _ i _ => (intOf i).toNat)
  case atStart => exact ⟨w.heap.size, 0, [], z.toNat, rfl, by rw [show (z.toNat : Int) = z by omega], by simp; omega, HO3.out, HS3.out, HK3.out⟩
  case round =>
    obtain ⟨b, c, xs, k, rfl, rfl, hlen, ho, hs, hk⟩ := hrel
    have HO := Lib.hid ho
    have HS := Lib.hid hs
    have HK := Lib.hid hk
    clear ho hs hk
    by_cases hk0 : k = 0
    · subst hk0
      go_wp2_with fail
      refine (rarely_any g A len cap _ HS.out).mono ?_
      rintro e wq ⟨bq, rfl, hs', hk'⟩
      replace HO := Lib.hid (HO.out.keep hk' hgw)
      replace HK := Lib.hid (HK.out.more (Nat.le_refl _) hk')
      replace HS := Lib.hid hs'
      have hzq := hk'.size
      clear hs' hk'
      cases bq
      · go_wp2_with fail
        go_ret
        exact ⟨b, c, xs, rfl, HO.out, by omega, HS.out, HK.out⟩
      · skip
        have HSa := Lib.hid (HS.out.alloc (.cells #[.int .i64 (-1), .int .i64 4] 3))
        have HKa := Lib.hid (HK.out.alloc HK.out.size (.cells #[.int .i64 (-1), .int .i64 4] 3))
        have HOa := Lib.hid (HO.out.alloc (.cells #[.int .i64 (-1), .int .i64 4] 3))
        have HSM := Lib.hid (small_bad wq)
        go_wp2_with fail
        refine (one_any g A len cap wq.heap.size 2 2 (-1) 4 _ HSa.out (by simp) (by have := HK.out.size; omega) HSM.out (by omega) (by omega)).mono ?_
        rintro e wv ⟨z, rfl, z0, z1, hs', hk'⟩
        replace HO := Lib.hid (HOa.out.keep hk' hgw)
        replace HK := Lib.hid (HKa.out.more (Nat.le_refl _) hk')
        replace HS := Lib.hid hs'
        have hzwv := hk'.size
        simp at hzwv
        clear hs' hk' HSa HKa HOa HSM
        have HOx := Lib.hid (HO.out.alloc (.cells #[.int .i64 z, .int .i64 0] 66))
        have HSx := Lib.hid (HS.out.alloc (.cells #[.int .i64 z, .int .i64 0] 66))
        have HKx := Lib.hid (HK.out.alloc HK.out.size (.cells #[.int .i64 z, .int .i64 0] 66))
        have HNx := Lib.hid (OwnS.lit wv ⟨z, 0⟩ (Nat.le_refl _)).news
        have hlx : xs.length + ([⟨z, 0⟩] : List Sl).length ≤ 1000 := by simp; omega
        have hbb := HO.out.lt
        go_wp2_with (at_builtin; refine wp_append_slots rfl (.tmp 27) (.tmp 32) rfl w.heap.size b c xs rfl HOx.out ⟨wv.heap.size, 0, none⟩ 1 [⟨z, 0⟩] 1 rfl rfl HNx.out hlx HKx.out.size ?_; intro b2 c2 zs wx HQ ho hgr HAT; have HO2 := Lib.hid ho; have HS2 := Lib.hid (HSx.out.grown hgr (by omega)); have HK2 := Lib.hid (HKx.out.grown hgr HKx.out.size (by omega)); have hL : zs.length = xs.length + 1 := (by rw [HQ.out, List.length_append]; rfl); have HLL := Lib.hid hL; clear ho hgr hL)
        go_wp2_with fail
        go_ret
        exact ⟨b2, c2, zs, rfl, HO2.out, by have := HLL.out; omega, HS2.out, HK2.out⟩
    · have kp : 0 < (k : Int) := by omega
      have HSa := Lib.hid (HS.out.alloc (.cells #[.int .i64 0, .int .i64 0, .int .i64 1, .int .i64 2, .int .i64 3] 3))
      have HKa := Lib.hid (HK.out.alloc HK.out.size (.cells #[.int .i64 0, .int .i64 0, .int .i64 1, .int .i64 2, .int .i64 3] 3))
      have HOa := Lib.hid (HO.out.alloc (.cells #[.int .i64 0, .int .i64 0, .int .i64 1, .int .i64 2, .int .i64 3] 3))
      have HSM := Lib.hid (small_pos wr)
      go_wp2_with fail
      refine (one_any g A len cap wr.heap.size 5 5 0 3 _ HSa.out (by simp) (by have := HK.out.size; omega) HSM.out (by omega) (by omega)).mono ?_
      rintro e wu ⟨y, rfl, y0, y1, hs', hk'⟩
      replace HO := Lib.hid (HOa.out.keep hk' hgw)
      replace HK := Lib.hid (HKa.out.more (Nat.le_refl _) hk')
      replace HS := Lib.hid hs'
      have hzwu := hk'.size
      simp at hzwu
      clear hs' hk' HSa HKa HOa HSM
      have HSa := Lib.hid (HS.out.alloc (.cells #[.int .i64 0, .int .i64 0, .int .i64 1, .int .i64 3, .int .i64 4, .int .i64 9, .int .i64 103] 3))
      have HKa := Lib.hid (HK.out.alloc HK.out.size (.cells #[.int .i64 0, .int .i64 0, .int .i64 1, .int .i64 3, .int .i64 4, .int .i64 9, .int .i64 103] 3))
      have HOa := Lib.hid (HO.out.alloc (.cells #[.int .i64 0, .int .i64 0, .int .i64 1, .int .i64 3, .int .i64 4, .int .i64 9, .int .i64 103] 3))
      have HSM := Lib.hid (small_sub wu)
      go_wp2_with fail
      refine (one_any g A len cap wu.heap.size 7 7 0 103 _ HSa.out (by simp) (by have := HK.out.size; omega) HSM.out (by omega) (by omega)).mono ?_
      rintro e wv ⟨z, rfl, z0, z1, hs', hk'⟩
      replace HO := Lib.hid (HOa.out.keep hk' hgw)
      replace HK := Lib.hid (HKa.out.more (Nat.le_refl _) hk')
      replace HS := Lib.hid hs'
      have hzwv := hk'.size
      simp at hzwv
      clear hs' hk' HSa HKa HOa HSM
      have HOx := Lib.hid (HO.out.alloc (.cells #[.int .i64 y, .int .i64 z] 66))
      have HSx := Lib.hid (HS.out.alloc (.cells #[.int .i64 y, .int .i64 z] 66))
      have HKx := Lib.hid (HK.out.alloc HK.out.size (.cells #[.int .i64 y, .int .i64 z] 66))
      have HNx := Lib.hid (OwnS.lit wv ⟨y, z⟩ (Nat.le_refl _)).news
      have hlx : xs.length + ([⟨y, z⟩] : List Sl).length ≤ 1000 := by simp; omega
      have hbb := HO.out.lt
      go_wp2_with (at_builtin; refine wp_append_slots rfl (.tmp 15) (.tmp 23) rfl w.heap.size b c xs rfl HOx.out ⟨wv.heap.size, 0, none⟩ 1 [⟨y, z⟩] 1 rfl rfl HNx.out hlx HKx.out.size ?_; intro b2 c2 zs wx HQ ho hgr HAT; have HO2 := Lib.hid ho; have HS2 := Lib.hid (HSx.out.grown hgr (by omega)); have HK2 := Lib.hid (HKx.out.grown hgr HKx.out.size (by omega)); have hL : zs.length = xs.length + 1 := (by rw [HQ.out, List.length_append]; rfl); have HLL := Lib.hid hL; clear ho hgr hL)
      go_wp2_with fail
      go_roundw
      case rel => exact ⟨b2, c2, zs, k - 1, rfl, by first | go_num | (rw [Int.ofNat_sub (by omega)]; rfl) | (congr 1; omega), by have := HLL.out; omega, HO2.out, HS2.out, HK2.out⟩
      case measure => simp [intOf]; omega
end Go.Proofs.Ytfdejmdhcjfboaa
