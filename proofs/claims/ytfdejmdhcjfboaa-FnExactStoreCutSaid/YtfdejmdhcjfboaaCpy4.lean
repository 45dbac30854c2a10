/- What the laws draw of stores: valid values. -/
import Derived.Test.YtfdejmdhcjfboaaCpy3
namespace Go.Proofs.Ytfdejmdhcjfboaa
open Go.Joins Go.ChangeShapes Go.WideShapes Go.ChangeAt Go.RowKit Go.Deep
set_option linter.unusedVariables false
set_option linter.unusedSimpArgs false

/-- What is drawn of valid values. -/
def GoodV (g : Nat) (A : Option Addr) (len cap : Nat) (w : World) (e : Ending) (w' : World) : Prop :=
  ∃ (k n : Int) (s : ByteArray), e = .returned (.agg #[.int .i64 k, .int .i64 n, .string s]) ∧ validB k n s = true ∧ s.size ≤ 100 ∧ St g A len cap w' ∧ Keep g w.heap.size w w'

theorem empty_isEmpty : (⟨#[]⟩ : ByteArray).toList.isEmpty = true := by rw [Lib.toList_data]; rfl
theorem valid_two : validB 1 2 ⟨#[]⟩ = true := by unfold validB; rw [empty_isEmpty]; rfl
/-- A box of a call's own, behind a draw. -/
theorem own_more {g b : Nat} {W w w2 : World} (hk : Keep g w.heap.size w w2) (hlt : b < w.heap.size) (hn : ¬ b = g)
    (o1 : ∀ o, w.cell? ⟨b, o, none⟩ = W.cell? ⟨b, o, none⟩) (p1 : ∀ o, w.frozen? ⟨b, o, none⟩ = W.frozen? ⟨b, o, none⟩) :
    (∀ o, w2.cell? ⟨b, o, none⟩ = W.cell? ⟨b, o, none⟩) ∧ (∀ o, w2.frozen? ⟨b, o, none⟩ = W.frozen? ⟨b, o, none⟩) :=
  ⟨fun o => (hk.cell.1 b o hlt hn).trans (o1 o), fun o => (hk.cell.2 b o hlt hn).trans (p1 o)⟩

set_option maxHeartbeats 400000 in
theorem good_any (g : Nat) (A : Option Addr) (len cap : Nat) (w : World) (hs : St g A len cap w) :
    Calls Try.prog 109 #[.pointer (some ⟨g, 0, none⟩)] w (GoodV g A len cap w) := by
  have HG := Lib.hid hs.lt
  have HN : ¬ w.heap.size = g := by have := hs.lt; omega
  have HA := Lib.hid (hs.alloc (.cells #[.int .i64 0, .int .i64 0, .string ⟨#[]⟩] 90))
  have HK := Lib.hid ((Keep.refl g w.heap.size w).alloc (Nat.le_refl _) (.cells #[.int .i64 0, .int .i64 0, .string ⟨#[]⟩] 90))
  clear hs
  go_enter Try.func109, Try.ntmps109
  go_wp2_with fail
  refine (value_any g A len cap _ HA.out).mono ?_
  rintro e w1 ⟨k, n, s, rfl, hd, hs1, hk1⟩
  have hc := hk1.cell.1 w.heap.size
  have hf := hk1.cell.2 w.heap.size
  simp only [show w.heap.size < (w.alloc (.cells #[.int .i64 0, .int .i64 0, .string ⟨#[]⟩] 90)).heap.size by simp, HN, not_false_eq_true, ne_eq, forall_const] at hc hf
  have HS1 := Lib.hid hs1
  have HK1 := Lib.hid (HK.out.more (Nat.le_refl _) (hk1.mono (by simp)))
  have HW1 : w.heap.size < w1.heap.size := by have := hk1.size; simp at this; omega
  have HZ1 : ¬ w1.heap.size = g := by have := hs1.lt; omega
  have HV := valid_spec k n s
  have HDD := Lib.hid hd.2.2.2.2
  clear hs1 hk1
  have hV3 := HS1.out.alloc (.cells #[.int .i64 k, .int .i64 n, .string s] 90)
  have hK3 := HK1.out.alloc (by omega) (.cells #[.int .i64 k, .int .i64 n, .string s] 90)
  have HV3 := Lib.hid hV3
  have HK3 := Lib.hid hK3
  clear hV3 hK3
  cases hv : validB k n s
  all_goals
    rw [hv] at HV
    have HV1 := Lib.hid HV
    have HVV := Lib.hid hv
    clear HV hv
    go_wp2_with fail
    refine (HV1.out _).mono ?_
    rintro e w2 ⟨rfl, hb⟩
    have HS2 := Lib.hid (HV3.out.below hb)
    have HK2 := Lib.hid (HK3.out.trans ((Keep.of_below hb).mono (by simp; omega)))
    have hz2 := hb.size
    simp at hz2
    have o2 : ∀ o, w2.cell? ⟨w.heap.size, o, none⟩ = (w.alloc (.cells #[.int .i64 0, .int .i64 0, .string ⟨#[]⟩] 90)).cell? ⟨w.heap.size, o, none⟩ := fun o => (hb.cell (p := ⟨w.heap.size, o, none⟩) (by simp; omega)).trans ((World.cell?_alloc_lt w1 _ _ HW1).trans (hc o))
    have p2 : ∀ o, w2.frozen? ⟨w.heap.size, o, none⟩ = (w.alloc (.cells #[.int .i64 0, .int .i64 0, .string ⟨#[]⟩] 90)).frozen? ⟨w.heap.size, o, none⟩ := fun o => (hb.frozen (p := ⟨w.heap.size, o, none⟩) (by simp; omega)).trans ((World.frozen?_of_block (a := ⟨w.heap.size, o, none⟩) (Below.heap_alloc w1 _ _ HW1)).trans (hf o))
    have o3 : ∀ o, w2.cell? ⟨w1.heap.size, o, none⟩ = (w1.alloc (.cells #[.int .i64 k, .int .i64 n, .string s] 90)).cell? ⟨w1.heap.size, o, none⟩ := fun o => hb.cell (p := ⟨w1.heap.size, o, none⟩) (by simp)
    have q2 : w.heap.size < w2.heap.size := by omega
    clear hc hf
    clear hb
    go_wp2_with fail
  · refine bodyPost_ret (v := .agg #[.int .i64 1, .int .i64 2, .string ⟨#[]⟩]) (by simp [results, Try.results109, go_sem, o2]) rfl ⟨1, 2, ⟨#[]⟩, rfl, valid_two, by decide, ?_, ?_⟩
    · exact ((HS2.out.set_ HG.out _).set_ HG.out _).set_ HG.out _
    · exact ((HK2.out.set_ (.inr (Nat.le_refl _)) _).set_ (.inr (Nat.le_refl _)) _).set_ (.inr (Nat.le_refl _)) _
  · refine bodyPost_ret (v := .agg #[.int .i64 k, .int .i64 n, .string s]) (by simp [results, Try.results109, go_sem, o2]) rfl ⟨k, n, s, rfl, HVV.out, HDD.out, ?_, ?_⟩
    · exact ((HS2.out.set_ HG.out _).set_ HG.out _).set_ HG.out _
    · exact ((HK2.out.set_ (.inr (Nat.le_refl _)) _).set_ (.inr (Nat.le_refl _)) _).set_ (.inr (Nat.le_refl _)) _


theorem OwnV.keep {w w' : World} {base b c g : Nat} {xs : List Va} (h : OwnV w base b c xs) (hk : Keep g w.heap.size w w') (hg : g < base) : OwnV w' base b c xs :=
  World.ownsRow.kept h (row := some g) ⟨hk.os, hk.tape, hk.output, hk.size, fun k hk' hn => hk.block k hk' (fun e => hn (by rw [e]))⟩ (.inr (by have := h.lt; simp [Value.ownBlock]; omega))
theorem OwnV.grown {w w' : World} {base b c : Nat} {xs : List Va} {row : Nat} (h : OwnV w base b c xs) (hg : w.grownBy w' (some row)) (hn : b ≠ row) : OwnV w' base b c xs :=
  World.ownsRow.kept h hg (.inr (by simpa [Value.ownBlock] using hn))
theorem OwnV.alloc {w : World} {base b c : Nat} {xs : List Va} (h : OwnV w base b c xs) (o : Obj) : OwnV (w.alloc o) base b c xs := World.ownsRow.alloc h o
theorem OwnV.mono {w : World} {base base' b c : Nat} {xs : List Va} (h : OwnV w base b c xs) (hb : base' ≤ base) : OwnV w base' b c xs := World.ownsRow.mono h hb
theorem OwnV.news {w : World} {base b c : Nat} {xs : List Va} (h : OwnV w base b c xs) : ∀ j u, (xs.flatMap Va.cells)[j]? = some u → w.cell? ((⟨b, 0, none⟩ : Addr).add j) = some u := World.ownsRow.cells h rfl
theorem OwnV.lit (w : World) (x : Va) {base : Nat} (hb : base ≤ w.heap.size) : OwnV (w.alloc (.cells #[.int .i64 x.k, .int .i64 x.n, .string x.s] 90)) base w.heap.size 1 [x] :=
  World.ownsRow_lit (e := 90) (size := 3) w #[.int .i64 x.k, .int .i64 x.n, .string x.s] 1 hb (by decide) rfl
/-- Values that a store may hold. -/
def GoodL (xs : List Va) : Prop := ∀ v ∈ xs, validB v.k v.n v.s = true ∧ v.s.size ≤ 100
/-- What is drawn of a cell's states. -/
def GoodsX (g : Nat) (A : Option Addr) (len cap n : Nat) (w : World) (e : Ending) (w' : World) : Prop :=
  ∃ b c xs, e = .returned (.slice (some ⟨b, 0, none⟩) xs.length c) ∧ OwnV w' w.heap.size b c xs ∧ xs.length = n ∧ GoodL xs ∧ St g A len cap w' ∧ Keep g w.heap.size w w'
theorem GoodL.snoc {xs zs : List Va} {k n : Int} {s : ByteArray} (h : GoodL xs) (hv : validB k n s = true) (hs : s.size ≤ 100) (e : zs = xs ++ [⟨k, n, s⟩]) : GoodL zs := by
  subst e
  intro v hv'
  rcases List.mem_append.1 hv' with h' | h'
  · exact h v h'
  · simp at h'; subst h'; exact ⟨hv, hs⟩

set_option maxHeartbeats 2000000 in
theorem goods_any (g : Nat) (A : Option Addr) (len cap n : Nat) (w : World) (hs : St g A len cap w) (hn : n ≤ 100) :
    Calls Try.prog 94 #[.pointer (some ⟨g, 0, none⟩), .int .i64 n] w (GoodsX g A len cap n w) := by
  have hgw := hs.lt
  have HO := Lib.hid (OwnV.none_ w (Nat.le_refl _))
  have HS := Lib.hid (hs.alloc (.cells #[] 90))
  have HK := Lib.hid ((Keep.refl g w.heap.size w).alloc (Nat.le_refl _) (.cells #[] 90))
  clear hs
  go_enter Try.func94, Try.ntmps94
  go_wp2_with fail
  go_loopw [1, 5] (fun i v wr => ∃ (b c k : Nat) (xs : List Va), v = .slice (some ⟨b, 0, none⟩) xs.length c ∧ i = .int .i64 k ∧ xs.length + k = n ∧ OwnV wr w.heap.size b c xs ∧ Hid (GoodL xs) ∧ St g A len cap wr ∧ Keep g w.heap.size w wr) (fun i _ _ => (intOf i).toNat)
  case atStart => exact ⟨w.heap.size, 0, n, [], rfl, rfl, by simp, HO.out, Lib.hid (by intro v hv; cases hv), HS.out, HK.out⟩
  case round =>
    obtain ⟨b, c, k, xs, rfl, rfl, hlen, ho, HG, hs, hk⟩ := hrel
    have HO := Lib.hid ho
    have HS := Lib.hid hs
    have HK := Lib.hid hk
    clear ho hs hk
    by_cases hk0 : k = 0
    · subst hk0
      go_wp2_with fail
      go_ret
      exact ⟨b, c, xs, rfl, HO.out, by omega, HG.out, HS.out, HK.out⟩
    · have kp : 0 < (k : Int) := by omega
      go_wp2_with fail
      refine (good_any g A len cap wr HS.out).mono ?_
      rintro e wv ⟨vk, vn, vs, rfl, hv, hsz, hs', hk'⟩
      replace HO := Lib.hid (HO.out.keep hk' hgw)
      replace HK := Lib.hid (HK.out.more (Nat.le_refl _) hk')
      replace HS := Lib.hid hs'
      have HV := Lib.hid hv
      have HZ := Lib.hid hsz
      have hzwv := HK.out.size
      clear hs' hk' hv hsz
      have HOx := Lib.hid (HO.out.alloc (.cells #[.int .i64 vk, .int .i64 vn, .string vs] 90))
      have HSx := Lib.hid (HS.out.alloc (.cells #[.int .i64 vk, .int .i64 vn, .string vs] 90))
      have HKx := Lib.hid (HK.out.alloc HK.out.size (.cells #[.int .i64 vk, .int .i64 vn, .string vs] 90))
      have HNx := Lib.hid (OwnV.lit wv ⟨vk, vn, vs⟩ (Nat.le_refl _)).news
      have hlx : xs.length + ([⟨vk, vn, vs⟩] : List Va).length ≤ 4000000 := by simp; omega
      have hbb := HO.out.lt
      go_wp2_with (at_builtin; refine wp_append_vals rfl (.tmp 11) (.tmp 14) rfl w.heap.size b c xs rfl HOx.out ⟨wv.heap.size, 0, none⟩ 1 [⟨vk, vn, vs⟩] 1 rfl rfl HNx.out hlx HKx.out.size ?_; intro b2 c2 zs wx HQ ho hgr HAT; have HO2 := Lib.hid ho; have HG2 := Lib.hid (HG.out.snoc HV.out HZ.out HQ.out); have HS2 := Lib.hid (HSx.out.grown hgr (by omega)); have HK2 := Lib.hid (HKx.out.grown hgr HKx.out.size (by omega)); have hL : zs.length = xs.length + 1 := (by rw [HQ.out, List.length_append]; rfl); have HLL := Lib.hid hL; clear ho hgr hL)
      go_roundw
      case rel => exact ⟨b2, c2, k - 1, zs, rfl, by first | go_num | (rw [Int.ofNat_sub (by omega)]; rfl) | (congr 1; omega), by have := HLL.out; omega, HO2.out, HG2, HS2.out, HK2.out⟩
      case measure => simp [intOf]; omega
end Go.Proofs.Ytfdejmdhcjfboaa
