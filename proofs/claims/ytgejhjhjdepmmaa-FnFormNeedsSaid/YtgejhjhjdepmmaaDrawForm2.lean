/- What the laws draw of whole formulas. -/
import Derived.Test.YtgejhjhjdepmmaaDrawForm
import Derived.Maps.AppendAt
import Derived.Deep.AppendLies
import Derived.Deep.Onto
namespace Go.Proofs.Ytgejhjhjdepmmaa
open Go.Joins Go.ChangeShapes Go.WideShapes Go.ChangeAt Go.RowKit Go.Deep
set_option linter.unusedVariables false
set_option linter.unusedSimpArgs false

/-- Steps in a row of the call's own. -/
def Owns (w : World) (base b c : Nat) (xs : List Stp) : Prop := w.ownsRow base 52 5 (.slice (some ⟨b, 0, none⟩) xs.length c) xs.length (xs.flatMap Stp.cells)
theorem len_cells (xs : List Stp) : (xs.flatMap Stp.cells).length = xs.length * 5 := by
  induction xs with
  | nil => rfl
  | cons x xs ih => rw [List.flatMap_cons, List.length_append, ih]; simp [Stp.cells]; omega
theorem one_cells (xs : List Stp) : ∀ u ∈ xs.flatMap Stp.cells, u.oneCell' = true := by
  intro u hu
  rw [List.mem_flatMap] at hu
  obtain ⟨x, _, hx⟩ := hu
  simp [Stp.cells] at hx
  rcases hx with rfl | rfl | rfl | rfl | rfl <;> rfl
theorem Owns.lt {w : World} {base b c : Nat} {xs : List Stp} (h : Owns w base b c xs) : base ≤ b ∧ b < w.heap.size := World.ownsRow.lt h b rfl
theorem Owns.keep {w w' : World} {base b c g : Nat} {xs : List Stp} (h : Owns w base b c xs) (hk : Keep g w.heap.size w w') (hg : g < base) : Owns w' base b c xs :=
  World.ownsRow.kept h (row := some g) ⟨hk.os, hk.tape, hk.output, hk.size, fun k hk' hn => hk.block k hk' (fun e => hn (by rw [e]))⟩ (.inr (by have := h.lt; simp [Value.ownBlock]; omega))
theorem Owns.grown {w w' : World} {base b c : Nat} {xs : List Stp} {row : Nat} (h : Owns w base b c xs) (hg : w.grownBy w' (some row)) (hn : b ≠ row) : Owns w' base b c xs :=
  World.ownsRow.kept h hg (.inr (by simpa [Value.ownBlock] using hn))
theorem Owns.alloc {w : World} {base b c : Nat} {xs : List Stp} (h : Owns w base b c xs) (o : Obj) : Owns (w.alloc o) base b c xs := World.ownsRow.alloc h o
theorem Owns.mono {w : World} {base base' b c : Nat} {xs : List Stp} (h : Owns w base b c xs) (hb : base' ≤ base) : Owns w base' b c xs := World.ownsRow.mono h hb
theorem Owns.news {w : World} {base b c : Nat} {xs : List Stp} (h : Owns w base b c xs) : ∀ j u, (xs.flatMap Stp.cells)[j]? = some u → w.cell? ((⟨b, 0, none⟩ : Addr).add j) = some u := World.ownsRow.cells h rfl
theorem Owns.lit (w : World) (x : Stp) {base : Nat} (hb : base ≤ w.heap.size) : Owns (w.alloc (.cells #[.int .i64 x.k, .int .i64 x.a, .int .i64 x.vk, .int .i64 x.vn, .string x.vs] 52)) base w.heap.size 1 [x] :=
  World.ownsRow_lit (e := 52) (size := 5) w #[.int .i64 x.k, .int .i64 x.a, .int .i64 x.vk, .int .i64 x.vn, .string x.vs] 1 hb (by decide) rfl
theorem Owns.lies {w : World} {base b c : Nat} {xs : List Stp} (h : Owns w base b c xs) : Lies w (some ⟨b, 0, none⟩) xs := fun h0 => by
  refine ⟨b, 0, rfl, h.lt.2, fun i x hx => ?_⟩
  have hi : i < xs.length := (List.getElem?_eq_some_iff.1 hx).1
  have key : ∀ j, j < 5 → (xs.flatMap Stp.cells)[i * 5 + j]? = x.cells[j]? := by
    clear h h0 hi
    intro j hj
    induction xs generalizing i with
    | nil => simp at hx
    | cons y ys ih =>
      cases i with
      | zero =>
        simp at hx
        subst hx
        rw [List.flatMap_cons, List.getElem?_append_left (by simp [Stp.cells]; omega)]
        simp
      | succ i =>
        rw [List.flatMap_cons, List.getElem?_append_right (by simp [Stp.cells]; omega), show (i + 1) * 5 + j - y.cells.length = i * 5 + j by simp [Stp.cells]; omega]
        exact ih i (by simpa using hx)
  have hc : ∀ j, j < 5 → w.cell? ⟨b, 0 + i * 5 + j, none⟩ = x.cells[j]? := fun j hj => by
    rw [Nat.zero_add]
    exact (World.ownsRow.cellAt h (i * 5 + j) (by omega)).trans (key j hj)
  exact ⟨hc 0 (by omega), hc 1 (by omega), hc 2 (by omega), hc 3 (by omega), hc 4 (by omega)⟩
theorem step_info : (Try.prog.info? 52).map (fun i => (i.zero, i.size, i.bytes)) = some (some (.agg #[.int .i64 0, .int .i64 0, .int .i64 0, .int .i64 0, .string ⟨#[]⟩]), 5, 48) := by kernel_rfl

theorem wp_append_steps {w : World} {ops : Array Oper} {rest : List Oper} {o : Oper} {a : Act} {Q : Exit → Act → World → Prop} (hgd : o.guard = none) (s x : Operand)
    (ho : o.op = .call { callee := .builtin .append, args := #[s, x], argTypes := #[23, 23] }) (base b c : Nat) (xs : List Stp) (hs : a.eval s = .slice (some ⟨b, 0, none⟩) xs.length c) (hown : Owns w base b c xs)
    (ad : Addr) (c2 : Nat) (ys : List Stp) (hx : a.eval x = .slice (some ad) ys.length c2) (hcells : ∀ j u, (ys.flatMap Stp.cells)[j]? = some u → w.cell? (ad.add j) = some u)
    (h0 : 0 < xs.length) (hlen : xs.length + ys.length ≤ 1000) (hbase : base ≤ w.heap.size)
    (h : ∀ b' c' zs w', Hid (zs = xs ++ ys) → Owns w' base b' c' zs → w.grownBy w' (some b) → Hid (b' = b ∨ b' = w.heap.size) → wpList Try.prog ops Q rest (a.put o.dst (.slice (some ⟨b', 0, none⟩) zs.length c')) w') :
    wpList Try.prog ops Q (o :: rest) a w := by
  obtain ⟨i0, hi0, hz0, hz1, hz2⟩ := info_parts step_info
  refine wpList_append_own_at w hgd s x _ ho base 52 i0 _ 5 48 Try.underlying23 hi0 hz0 hz1 hz2 rfl (by omega) _ xs.length _ hs hown ad ys.length c2 _ hx (len_cells ys) hcells (one_cells ys) (by simp only [maxLen]; omega) (by omega) hbase ?_
  intro v' w' hown' hg hnil hat
  rw [← List.length_append, ← List.flatMap_append] at hown'
  obtain ⟨b', c', rfl, hb1, hb2⟩ := World.ownsRow.form hown' (by rw [List.length_append]; omega)
  exact h b' c' _ w' (Lib.hid rfl) hown' hg (Lib.hid (by simpa [Value.ownBlock] using hat))

/-- What may be a step stays one where more operators may be. -/
theorem stepB_more {D : Int → Bool} (hD : ∀ a, opS a = true → D a = true) {x : Stp} {p st t : Int} (h : stepB opS x p st t = true) : stepB D x p st t = true := by
  unfold stepB at h ⊢
  split at h <;> (try split at h) <;> (try split at h) <;> (try split at h) <;> (try split at h) <;> (try split at h) <;> (try split at h) <;> simp_all
/-- What a formula does to the values ahead of it: it leaves one more. -/
structure GoodF (p st t : Int) (xs : List Stp) : Prop where
  run : ∀ (D : Int → Bool), (∀ a, opS a = true → D a = true) → ∀ (m : Int) (ys : List Stp), 0 ≤ m → runB (fun x => stepB D x p st t) m (xs ++ ys) = runB (fun x => stepB D x p st t) (m + 1) ys
  ok : ∀ x ∈ xs, stepB opS x p st t = true
  pos : 0 < xs.length
theorem GoodF.leaf {p st t : Int} {x : Stp} (h : stepB opS x p st t = true) (hk : takesV x.k = 0) : GoodF p st t [x] := by
  refine ⟨fun D hD m ys hm => ?_, fun y hy => by simp at hy; rw [hy]; exact h, by simp⟩
  show (stepB D x p st t && decide (takesV x.k ≤ m) && runB _ (m - takesV x.k + 1) ys) = _
  rw [stepB_more hD h, hk, decide_eq_true (by omega), Int.sub_zero]
  rfl
theorem GoodF.pick {p st t : Int} {a b c : List Stp} (ha : GoodF p st t a) (hb : GoodF p st t b) (hc : GoodF p st t c) : GoodF p st t (a ++ b ++ c ++ [⟨6, 0, 0, 0, ⟨#[]⟩⟩]) := by
  have h6 : stepB opS ⟨6, 0, 0, 0, ⟨#[]⟩⟩ p st t = true := by simp [stepB, zeroB_zero]
  refine ⟨fun D hD m ys hm => ?_, fun x hx => ?_, by simp; omega⟩
  · rw [List.append_assoc, List.append_assoc, List.append_assoc, ha.run D hD m _ hm, hb.run D hD _ _ (by omega), hc.run D hD _ _ (by omega)]
    show (stepB D ⟨6, 0, 0, 0, ⟨#[]⟩⟩ p st t && decide ((3 : Int) ≤ m + 1 + 1 + 1) && runB _ (m + 1 + 1 + 1 - 3 + 1) ys) = _
    rw [stepB_more hD h6, decide_eq_true (by omega), show m + 1 + 1 + 1 - 3 + 1 = m + 1 by omega]
    rfl
  · simp only [List.mem_append, List.mem_singleton] at hx
    rcases hx with ((hx | hx) | hx) | rfl
    · exact ha.ok x hx
    · exact hb.ok x hx
    · exact hc.ok x hx
    · exact h6
theorem GoodF.two {p st t : Int} {a b : List Stp} {z : Int} (ha : GoodF p st t a) (hb : GoodF p st t b) (h0 : 0 ≤ z) (h1 : z ≤ 6) : GoodF p st t (a ++ b ++ [⟨5, z, 0, 0, ⟨#[]⟩⟩]) := by
  have h6 : stepB opS ⟨5, z, 0, 0, ⟨#[]⟩⟩ p st t = true := by simp [stepB, zeroB_zero, opS]; omega
  refine ⟨fun D hD m ys hm => ?_, fun x hx => ?_, by simp; omega⟩
  · rw [List.append_assoc, List.append_assoc, ha.run D hD m _ hm, hb.run D hD _ _ (by omega)]
    show (stepB D ⟨5, z, 0, 0, ⟨#[]⟩⟩ p st t && decide ((2 : Int) ≤ m + 1 + 1) && runB _ (m + 1 + 1 - 2 + 1) ys) = _
    rw [stepB_more hD h6, decide_eq_true (by omega), show m + 1 + 1 - 2 + 1 = m + 1 by omega]
    rfl
  · simp only [List.mem_append, List.mem_singleton] at hx
    rcases hx with (hx | hx) | rfl
    · exact ha.ok x hx
    · exact hb.ok x hx
    · exact h6

theorem Keep.grown {g B : Nat} {a b c : World} {row : Nat} (h : Keep g B a b) (hg : b.grownBy c (some row)) (hB : B ≤ b.heap.size) (hr : B ≤ row) : Keep g B a c :=
  h.trans ⟨hg.os, hg.tape, hg.output, hg.size, fun k hk hn => hg.block k (by omega) (by simp; omega)⟩
theorem St.grown {w w' : World} {g : Nat} {A : Option Addr} {len cap : Nat} {row : Nat} (h : St g A len cap w) (hg : w.grownBy w' (some row)) (hr : g < row) : St g A len cap w' :=
  h.of_block fun k hk => hg.block k (by have := h.lt; omega) (by simp; omega)

/-- What is drawn of formulas. -/
def FormX (g : Nat) (A : Option Addr) (len cap : Nat) (p st t most : Int) (w : World) (e : Ending) (w' : World) : Prop :=
  ∃ (b c : Nat) (xs : List Stp), e = .returned (.slice (some ⟨b, 0, none⟩) xs.length c) ∧ Owns w' w.heap.size b c xs ∧ GoodF p st t xs ∧ (xs.length ≤ 1 ∨ (xs.length : Int) ≤ most) ∧ St g A len cap w' ∧ Keep g w.heap.size w w'

set_option maxHeartbeats 400000 in
theorem form_small (g : Nat) (A : Option Addr) (len cap : Nat) (p st t most : Int) (w : World) (hs : St g A len cap w) (hp : 0 ≤ p ∧ p ≤ 3) (hst : 0 ≤ st ∧ st ≤ 3) (ht : 0 ≤ t ∧ t ≤ 4) (hm : most < 3) :
    Calls Try.prog 27 #[.pointer (some ⟨g, 0, none⟩), .int .i64 p, .int .i64 st, .int .i64 t, .int .i64 most] w (FormX g A len cap p st t most w) := by
  have HP := Lib.hid hp
  have HST := Lib.hid hst
  have HT := Lib.hid ht
  have HS := Lib.hid hs
  have hd : decide (most < 3) = true := by simp; omega
  clear hs hp hst ht
  go_enter Try.func27, Try.ntmps27
  go_wp2_with fail
  refine (leaf_any g A len cap p st t w HS.out HP.out HST.out HT.out).mono ?_
  rintro e wl ⟨x, rfl, hx, hk0, hsl, hkl⟩
  have HX := Lib.hid (GoodF.leaf hx hk0)
  have HSL := Lib.hid hsl
  have HKL := Lib.hid (hkl)
  have HOL := Lib.hid (Owns.lit wl x (base := w.heap.size) HKL.out.size)
  clear hx hk0 hsl hkl
  go_wp2_with fail
  go_ret
  exact ⟨_, 1, [x], rfl, HOL.out, HX.out, .inl (by simp), HSL.out.alloc _, HKL.out.alloc HKL.out.size _⟩

set_option maxHeartbeats 2000000 in
theorem form_any (g : Nat) (A : Option Addr) (len cap : Nat) (p st t : Int) (hp : 0 ≤ p ∧ p ≤ 3) (hst : 0 ≤ st ∧ st ≤ 3) (ht : 0 ≤ t ∧ t ≤ 4) (n : Nat) : ∀ (most : Int), most ≤ n → most ≤ 9 → ∀ w, St g A len cap w →
    Calls Try.prog 27 #[.pointer (some ⟨g, 0, none⟩), .int .i64 p, .int .i64 st, .int .i64 t, .int .i64 most] w (FormX g A len cap p st t most w) := by
  induction n with
  | zero => exact fun most h0 h9 w hs => form_small g A len cap p st t most w hs hp hst ht (by omega)
  | succ n ih =>
  intro most h0 h9 w hs
  by_cases h3 : most < 3
  · exact form_small g A len cap p st t most w hs hp hst ht h3
  have HP := Lib.hid hp
  have HST := Lib.hid hst
  have HT := Lib.hid ht
  have hd : decide (most < 3) = false := by simp; omega
  have hgw := hs.lt
  have HPK := Lib.hid (pick_any g A len cap 2 w hs (by omega))
  clear hp hst ht hs
  go_enter Try.func27, Try.ntmps27
  go_wp2_with fail
  refine HPK.out.mono ?_
  rintro e w1 ⟨r, rfl, r0, r1, hs1, hk1⟩
  have HS1 := Lib.hid hs1
  have HK1 := Lib.hid hk1
  have hz1 := hk1.size
  clear hs1 hk1
  rcases (by omega : r = 0 ∨ r = 1) with rfl | rfl
  · go_wp2_with fail
    refine (leaf_any g A len cap p st t w1 HS1.out HP.out HST.out HT.out).mono ?_
    rintro e wl ⟨x, rfl, hx, hk0, hsl, hkl⟩
    have HX := Lib.hid (GoodF.leaf hx hk0)
    have HSL := Lib.hid hsl
    have HKL := Lib.hid (HK1.out.trans (hkl.mono HK1.out.size))
    have HOL := Lib.hid (Owns.lit wl x (base := w.heap.size) HKL.out.size)
    clear hx hk0 hsl hkl
    go_wp2_with fail
    go_ret
    exact ⟨_, 1, [x], rfl, HOL.out, HX.out, .inl (by simp), HSL.out.alloc _, HKL.out.alloc HKL.out.size _⟩
  · by_cases h4 : most ≤ 3
    · have hd4 : decide (3 < most) = false := by simp; omega
      go_wp2_with fail
      refine (ih 1 (by omega) (by omega) w1 HS1.out).mono ?_
      rintro e wa ⟨ba, ca, xa, rfl, ho, hg, hla, hs, hk⟩
      have HOa := Lib.hid ho
      have HGa := Lib.hid hg
      have HSa := Lib.hid hs
      have HKa := Lib.hid (HK1.out.trans (hk.mono HK1.out.size))
      have hpa := hg.pos
      obtain ⟨hba, hca⟩ := ho.lt
      have hza := hk.size
      clear ho hg hs hk
      go_wp2_with fail
      refine (ih (most - 2) (by omega) (by omega) wa HSa.out).mono ?_
      rintro e wb ⟨bb, cb, xb, rfl, ho, hg, hlb, hs, hk⟩
      have HOb := Lib.hid ho
      have HGb := Lib.hid hg
      have HSb := Lib.hid hs
      have HKb := Lib.hid (HKa.out.trans (hk.mono HKa.out.size))
      have hpb := hg.pos
      obtain ⟨hbb, hcb⟩ := ho.lt
      have hzb := hk.size
      replace HOa := Lib.hid (HOa.out.keep hk (by omega))
      clear ho hg hs hk
      go_wp2_with (at_builtin; refine wp_append_steps rfl (.tmp 73) (.tmp 74) rfl w.heap.size ba ca xa rfl (HOa.out.mono (by omega)) ⟨bb, 0, none⟩ cb xb rfl HOb.out.news (by omega) (by first | omega | (simp; omega)) HKb.out.size ?_; intro bd cd xd wd HQd ho hgr HATd; have HOd := Lib.hid ho; have HSd := Lib.hid (HSb.out.grown hgr (by omega)); have HKd := Lib.hid ((HKb.out).grown hgr HKb.out.size (by omega)); have hbd := ho.lt.1; have hcd := ho.lt.2; have hzd := hgr.size; (try simp at hzd); have hLd : xd.length = xa.length + (xb).length := (by rw [HQd.out, List.length_append]); (try simp at hLd); have hMd : xd.length ≤ xa.length + (xb).length := (by first | omega | (simp; omega)); have hPd : 0 < xd.length := (by omega); replace HQd := Lib.hid (And.intro HQd.out hLd); clear ho hgr hLd)
      refine (pick_any g A len cap 7 wd HSd.out (by omega)).mono ?_
      rintro e we ⟨z, rfl, z0, z1, hs, hk⟩
      have z2 : z ≤ 6 := by omega
      replace HOd := Lib.hid (HOd.out.keep hk (by omega))
      have HSe := Lib.hid hs
      have HKe := Lib.hid (HKd.out.trans (hk.mono HKd.out.size))
      have hze := hk.size
      clear hs hk z1
      have HOx := Lib.hid (HOd.out.alloc (.cells #[.int .i64 5, .int .i64 z, .int .i64 0, .int .i64 0, .string ⟨#[]⟩] 52))
      have HSx := Lib.hid (HSe.out.alloc (.cells #[.int .i64 5, .int .i64 z, .int .i64 0, .int .i64 0, .string ⟨#[]⟩] 52))
      have HKx := Lib.hid (HKe.out.alloc HKe.out.size (.cells #[.int .i64 5, .int .i64 z, .int .i64 0, .int .i64 0, .string ⟨#[]⟩] 52))
      have HNx := Lib.hid (Owns.lit we ⟨5, z, 0, 0, ⟨#[]⟩⟩ (Nat.le_refl _)).news
      have hlx : xd.length + ([⟨5, z, 0, 0, ⟨#[]⟩⟩] : List Stp).length ≤ 1000 := by simp; omega
      go_wp2_with (at_builtin; refine wp_append_steps rfl (.tmp 75) (.tmp 79) rfl w.heap.size bd cd xd rfl HOx.out ⟨we.heap.size, 0, none⟩ 1 [⟨5, z, 0, 0, ⟨#[]⟩⟩] rfl HNx.out (by omega) hlx HKx.out.size ?_; intro bf cf xf wf HQf ho hgr HATf; have HOf := Lib.hid ho; have HSf := Lib.hid (HSx.out.grown hgr (by omega)); have HKf := Lib.hid ((HKx.out).grown hgr HKx.out.size (by omega)); have hbf := ho.lt.1; have hcf := ho.lt.2; have hzf := hgr.size; (try simp at hzf); have hLf : xf.length = xd.length + ([⟨5, z, 0, 0, ⟨#[]⟩⟩] : List Stp).length := (by rw [HQf.out, List.length_append]); (try simp at hLf); have hMf : xf.length ≤ xd.length + ([⟨5, z, 0, 0, ⟨#[]⟩⟩] : List Stp).length := (by first | omega | (simp; omega)); have hPf : 0 < xf.length := (by omega); replace HQf := Lib.hid (And.intro HQf.out hLf); clear ho hgr hLf)
      go_ret
      exact ⟨bf, cf, xf, rfl, HOf.out, (by rw [HQf.out.1, HQd.out.1]; exact GoodF.two HGa.out HGb.out z0 z2), .inr (by have := HQf.out.2; have := HQd.out.2; omega), HSf.out, HKf.out⟩
    · have hd4 : decide (3 < most) = true := by simp; omega
      have HPK := Lib.hid (pick_any g A len cap 4 w1 HS1.out (by omega))
      go_wp2_with fail
      refine HPK.out.mono ?_
      rintro e w2 ⟨r, rfl, r2, r3, hs2, hk2⟩
      have HS2 := Lib.hid hs2
      have HK2 := Lib.hid (HK1.out.trans (hk2.mono HK1.out.size))
      have hz2 := hk2.size
      clear hs2 hk2
      by_cases hr : r = 0
      · subst hr
        go_wp2_with fail
        refine (ih 1 (by omega) (by omega) w2 HS2.out).mono ?_
        rintro e wa ⟨ba, ca, xa, rfl, ho, hg, hla, hs, hk⟩
        have HOa := Lib.hid ho
        have HGa := Lib.hid hg
        have HSa := Lib.hid hs
        have HKa := Lib.hid (HK2.out.trans (hk.mono HK2.out.size))
        have hpa := hg.pos
        obtain ⟨hba, hca⟩ := ho.lt
        have hza := hk.size
        clear ho hg hs hk
        go_wp2_with fail
        refine (ih 1 (by omega) (by omega) wa HSa.out).mono ?_
        rintro e wb ⟨bb, cb, xb, rfl, ho, hg, hlb, hs, hk⟩
        have HOb := Lib.hid ho
        have HGb := Lib.hid hg
        have HSb := Lib.hid hs
        have HKb := Lib.hid (HKa.out.trans (hk.mono HKa.out.size))
        have hpb := hg.pos
        obtain ⟨hbb, hcb⟩ := ho.lt
        have hzb := hk.size
        replace HOa := Lib.hid (HOa.out.keep hk (by omega))
        clear ho hg hs hk
        go_wp2_with fail
        refine (ih (most - 3) (by omega) (by omega) wb HSb.out).mono ?_
        rintro e wc ⟨bc, cc, xc, rfl, ho, hg, hlc, hs, hk⟩
        have HOc := Lib.hid ho
        have HGc := Lib.hid hg
        have HSc := Lib.hid hs
        have HKc := Lib.hid (HKb.out.trans (hk.mono HKb.out.size))
        have hpc := hg.pos
        obtain ⟨hbc, hcc⟩ := ho.lt
        have hzc := hk.size
        replace HOa := Lib.hid (HOa.out.keep hk (by omega))
        replace HOb := Lib.hid (HOb.out.keep hk (by omega))
        clear ho hg hs hk
        go_wp2_with (first
          | (at_builtin; refine wp_append_steps rfl (.tmp 53) (.tmp 54) rfl w.heap.size ba ca xa rfl (HOa.out.mono (by omega)) ⟨bb, 0, none⟩ cb xb rfl HOb.out.news (by omega) (by first | omega | (simp; omega)) HKc.out.size ?_; intro bd cd xd wd HQd ho hgr HATd; have HOd := Lib.hid ho; have HSd := Lib.hid (HSc.out.grown hgr (by omega)); have HKd := Lib.hid ((HKc.out).grown hgr HKc.out.size (by omega)); have hbd := ho.lt.1; have hcd := ho.lt.2; have hzd := hgr.size; (try simp at hzd); have hLd : xd.length = xa.length + (xb).length := (by rw [HQd.out, List.length_append]); (try simp at hLd); have hMd : xd.length ≤ xa.length + (xb).length := (by first | omega | (simp; omega)); have hPd : 0 < xd.length := (by omega); replace HOc := Lib.hid (HOc.out.grown hgr (by omega)); replace HQd := Lib.hid (And.intro HQd.out hLd); clear ho hgr hLd)
          | (at_builtin; refine wp_append_steps rfl (.tmp 55) (.tmp 56) rfl w.heap.size bd cd xd rfl HOd.out ⟨bc, 0, none⟩ cc xc rfl HOc.out.news (by omega) (by first | omega | (simp; omega)) HKd.out.size ?_; intro be ce xe we HQe ho hgr HATe; have HOe := Lib.hid ho; have HSe := Lib.hid (HSd.out.grown hgr (by omega)); have HKe := Lib.hid ((HKd.out).grown hgr HKd.out.size (by omega)); have hbe := ho.lt.1; have hce := ho.lt.2; have hze := hgr.size; (try simp at hze); have hLe : xe.length = xd.length + (xc).length := (by rw [HQe.out, List.length_append]); (try simp at hLe); have hMe : xe.length ≤ xd.length + (xc).length := (by first | omega | (simp; omega)); have hPe : 0 < xe.length := (by omega); replace HQe := Lib.hid (And.intro HQe.out hLe); clear ho hgr hLe; have HOx := Lib.hid (HOe.out.alloc (.cells #[.int .i64 6, .int .i64 0, .int .i64 0, .int .i64 0, .string ⟨#[]⟩] 52)); have HSx := Lib.hid (HSe.out.alloc (.cells #[.int .i64 6, .int .i64 0, .int .i64 0, .int .i64 0, .string ⟨#[]⟩] 52)); have HKx := Lib.hid (HKe.out.alloc HKe.out.size (.cells #[.int .i64 6, .int .i64 0, .int .i64 0, .int .i64 0, .string ⟨#[]⟩] 52)); have HNx := Lib.hid (Owns.lit we ⟨6, 0, 0, 0, ⟨#[]⟩⟩ (Nat.le_refl _)).news; have hlx : xe.length + ([⟨6, 0, 0, 0, ⟨#[]⟩⟩] : List Stp).length ≤ 1000 := (by simp; omega))
          | (at_builtin; refine wp_append_steps rfl (.tmp 57) (.tmp 59) rfl w.heap.size be ce xe rfl HOx.out ⟨we.heap.size, 0, none⟩ 1 [⟨6, 0, 0, 0, ⟨#[]⟩⟩] rfl HNx.out (by omega) hlx HKx.out.size ?_; intro bf cf xf wf HQf ho hgr HATf; have HOf := Lib.hid ho; have HSf := Lib.hid (HSx.out.grown hgr (by omega)); have HKf := Lib.hid ((HKx.out).grown hgr HKx.out.size (by omega)); have hbf := ho.lt.1; have hcf := ho.lt.2; have hzf := hgr.size; (try simp at hzf); have hLf : xf.length = xe.length + ([⟨6, 0, 0, 0, ⟨#[]⟩⟩] : List Stp).length := (by rw [HQf.out, List.length_append]); (try simp at hLf); have hMf : xf.length ≤ xe.length + ([⟨6, 0, 0, 0, ⟨#[]⟩⟩] : List Stp).length := (by first | omega | (simp; omega)); have hPf : 0 < xf.length := (by omega); replace HQf := Lib.hid (And.intro HQf.out hLf); clear ho hgr hLf))
        go_ret
        exact ⟨bf, cf, xf, rfl, HOf.out, (by rw [HQf.out.1, HQe.out.1, HQd.out.1]; exact GoodF.pick HGa.out HGb.out HGc.out), .inr (by have := HQf.out.2; have := HQe.out.2; have := HQd.out.2; omega), HSf.out, HKf.out⟩
      · have hr0 : (r == 0) = false := by simpa using hr
        clear hr r3
        go_wp2_with fail
        refine (ih 1 (by omega) (by omega) w2 HS2.out).mono ?_
        rintro e wa ⟨ba, ca, xa, rfl, ho, hg, hla, hs, hk⟩
        have HOa := Lib.hid ho
        have HGa := Lib.hid hg
        have HSa := Lib.hid hs
        have HKa := Lib.hid (HK2.out.trans (hk.mono HK2.out.size))
        have hpa := hg.pos
        obtain ⟨hba, hca⟩ := ho.lt
        have hza := hk.size
        clear ho hg hs hk
        go_wp2_with fail
        refine (ih (most - 2) (by omega) (by omega) wa HSa.out).mono ?_
        rintro e wb ⟨bb, cb, xb, rfl, ho, hg, hlb, hs, hk⟩
        have HOb := Lib.hid ho
        have HGb := Lib.hid hg
        have HSb := Lib.hid hs
        have HKb := Lib.hid (HKa.out.trans (hk.mono HKa.out.size))
        have hpb := hg.pos
        obtain ⟨hbb, hcb⟩ := ho.lt
        have hzb := hk.size
        replace HOa := Lib.hid (HOa.out.keep hk (by omega))
        clear ho hg hs hk
        go_wp2_with (at_builtin; refine wp_append_steps rfl (.tmp 73) (.tmp 74) rfl w.heap.size ba ca xa rfl (HOa.out.mono (by omega)) ⟨bb, 0, none⟩ cb xb rfl HOb.out.news (by omega) (by first | omega | (simp; omega)) HKb.out.size ?_; intro bd cd xd wd HQd ho hgr HATd; have HOd := Lib.hid ho; have HSd := Lib.hid (HSb.out.grown hgr (by omega)); have HKd := Lib.hid ((HKb.out).grown hgr HKb.out.size (by omega)); have hbd := ho.lt.1; have hcd := ho.lt.2; have hzd := hgr.size; (try simp at hzd); have hLd : xd.length = xa.length + (xb).length := (by rw [HQd.out, List.length_append]); (try simp at hLd); have hMd : xd.length ≤ xa.length + (xb).length := (by first | omega | (simp; omega)); have hPd : 0 < xd.length := (by omega); replace HQd := Lib.hid (And.intro HQd.out hLd); clear ho hgr hLd)
        refine (pick_any g A len cap 7 wd HSd.out (by omega)).mono ?_
        rintro e we ⟨z, rfl, z0, z1, hs, hk⟩
        have z2 : z ≤ 6 := by omega
        replace HOd := Lib.hid (HOd.out.keep hk (by omega))
        have HSe := Lib.hid hs
        have HKe := Lib.hid (HKd.out.trans (hk.mono HKd.out.size))
        have hze := hk.size
        clear hs hk z1
        have HOx := Lib.hid (HOd.out.alloc (.cells #[.int .i64 5, .int .i64 z, .int .i64 0, .int .i64 0, .string ⟨#[]⟩] 52))
        have HSx := Lib.hid (HSe.out.alloc (.cells #[.int .i64 5, .int .i64 z, .int .i64 0, .int .i64 0, .string ⟨#[]⟩] 52))
        have HKx := Lib.hid (HKe.out.alloc HKe.out.size (.cells #[.int .i64 5, .int .i64 z, .int .i64 0, .int .i64 0, .string ⟨#[]⟩] 52))
        have HNx := Lib.hid (Owns.lit we ⟨5, z, 0, 0, ⟨#[]⟩⟩ (Nat.le_refl _)).news
        have hlx : xd.length + ([⟨5, z, 0, 0, ⟨#[]⟩⟩] : List Stp).length ≤ 1000 := by simp; omega
        go_wp2_with (at_builtin; refine wp_append_steps rfl (.tmp 75) (.tmp 79) rfl w.heap.size bd cd xd rfl HOx.out ⟨we.heap.size, 0, none⟩ 1 [⟨5, z, 0, 0, ⟨#[]⟩⟩] rfl HNx.out (by omega) hlx HKx.out.size ?_; intro bf cf xf wf HQf ho hgr HATf; have HOf := Lib.hid ho; have HSf := Lib.hid (HSx.out.grown hgr (by omega)); have HKf := Lib.hid ((HKx.out).grown hgr HKx.out.size (by omega)); have hbf := ho.lt.1; have hcf := ho.lt.2; have hzf := hgr.size; (try simp at hzf); have hLf : xf.length = xd.length + ([⟨5, z, 0, 0, ⟨#[]⟩⟩] : List Stp).length := (by rw [HQf.out, List.length_append]); (try simp at hLf); have hMf : xf.length ≤ xd.length + ([⟨5, z, 0, 0, ⟨#[]⟩⟩] : List Stp).length := (by first | omega | (simp; omega)); have hPf : 0 < xf.length := (by omega); replace HQf := Lib.hid (And.intro HQf.out hLf); clear ho hgr hLf)
        go_ret
        exact ⟨bf, cf, xf, rfl, HOf.out, (by rw [HQf.out.1, HQd.out.1]; exact GoodF.two HGa.out HGb.out z0 z2), .inr (by have := HQf.out.2; have := HQd.out.2; omega), HSf.out, HKf.out⟩

end Go.Proofs.Ytgejhjhjdepmmaa
