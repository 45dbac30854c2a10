/- Key9, Key10, Key11, Key12 in one text. -/
import Derived.Test.YtfdejmdhcjfboaaKey3
import Derived.Test.YtfdejmdhcjfboaaSpc2
import Derived.Test.YtfdejmdhcjfboaaKey7
import Derived.Lib.SlMapFilter
import Derived.Shelf.SlMaps.DeleteFunc
import Derived.Test.YtfdejmdhcjfboaaPlcD
namespace Go.Proofs.Ytfdejmdhcjfboaa
open Go.Joins Go.ChangeShapes Go.WideShapes Go.ChangeAt Go.RowKit Go.Deep
set_option linter.unusedVariables false
set_option linter.unusedSimpArgs false

theorem byte_eq {p q : Int} (h0 : 0 ≤ p) (h1 : p ≤ 255) (h2 : 0 ≤ q) (h3 : q ≤ 255) : (UInt8.ofNat p.toNat == UInt8.ofNat q.toNat) = decide (p = q) := by
  by_cases h : p = q
  · subst h; simp
  · rw [decide_eq_false h, beq_eq_false_iff_ne]
    intro e
    have e1 := congrArg UInt8.toNat e
    rw [UInt8.toNat_ofNat', UInt8.toNat_ofNat'] at e1
    omega
theorem underB_cons (x y : Sl) (xs ys : List Sl) : underB (x :: xs) (y :: ys) = (decide (x = y) && underB xs ys) := by
  unfold underB
  simp only [List.length_cons, List.take_succ_cons, eqSl, Nat.add_le_add_iff_right]
  cases decide (ys.length ≤ xs.length) <;> cases decide (x = y) <;> simp
theorem pre_under : ∀ (ys xs : List Sl), Fits ys → Fits xs → (keyB ys).isPrefixOf (keyB xs) = underB xs ys
  | [], xs, _, _ => by simp [keyB, underB, eqSl]
  | y :: ys, [], _, _ => by rw [keyB_cons]; simp [keyB, underB]
  | y :: ys, x :: xs, hy, hx => by
    have fx := hx x (by simp)
    have fy := hy y (by simp)
    rw [keyB_cons, keyB_cons, underB_cons, ← pre_under ys xs hy.tail hx.tail]
    simp only [List.isPrefixOf]
    rw [byte_eq fy.1 fy.2.1 fx.1 fx.2.1, byte_eq fy.2.2.1 fy.2.2.2 fx.2.2.1 fx.2.2.2]
    have : decide (x = y) = (decide (y.p = x.p) && decide (y.s = x.s)) := by
      obtain ⟨p, s⟩ := x
      obtain ⟨q, t⟩ := y
      simp only [Sl.mk.injEq]
      by_cases h1 : p = q <;> by_cases h2 : s = t <;> simp [h1, h2, eq_comm]
    rw [this, Bool.and_assoc]
end Go.Proofs.Ytfdejmdhcjfboaa

namespace Go.Proofs.Ytfdejmdhcjfboaa
open Go.Joins Go.ChangeShapes Go.WideShapes Go.ChangeAt Go.RowKit Go.Deep Go.Maps Go.Sort Go.Shelf
set_option linter.unusedVariables false
set_option linter.unusedSimpArgs false

/-- Whether a key begins with a text. -/
def preD (t : List UInt8) (kl : Lit) (_ : DataW Value) : Bool := match kl with | .string s => t.isPrefixOf s | _ => false
theorem same_str {kl : Lit} {s : List UInt8} (h : kl.sameKey (.string s) = true) : kl = .string s := by
  cases kl with
  | string a => simp [Lit.sameKey] at h; rw [h]
  | _ => simp [Lit.sameKey] at h
theorem has_del {D : DataW Value} (hD : IsMap D) (t s : List UInt8) : has (Lib.deleteFuncD (preD t) D) (.string s) = (has D (.string s) && !t.isPrefixOf s) := by
  obtain ⟨es, rfl⟩ := hD
  show ((es.filter fun p => !preD t p.1 p.2).any fun p => p.1.sameKey (.string s)) = ((es.any fun p => p.1.sameKey (.string s)) && !t.isPrefixOf s)
  rw [List.any_filter]
  induction es with
  | nil => rfl
  | cons e es ih =>
    rw [List.any_cons, List.any_cons, ih]
    cases hk : e.1.sameKey (.string s)
    · simp
    · have he := same_str hk
      rw [he]
      show (!t.isPrefixOf s && true || _) = _
      cases t.isPrefixOf s <;> simp
theorem at_del {D : DataW Value} (hD : IsMap D) (t s : List UInt8) (hs : t.isPrefixOf s = false) (z : DataW Value) : (Lib.deleteFuncD (preD t) D).atKey (.string s) z = D.atKey (.string s) z := by
  obtain ⟨es, rfl⟩ := hD
  have : (es.filter fun p => !preD t p.1 p.2).find? (fun p => p.1.sameKey (.string s)) = es.find? (fun p => p.1.sameKey (.string s)) := by
    rw [List.find?_filter]
    congr 1
    funext p
    cases hk : p.1.sameKey (.string s)
    · simp
    · have he := same_str hk
      rw [he]
      have hq : preD t (.string s) p.2 = false := hs
      simp [hq]
  show DataW.atKey (.map (es.filter fun p => !preD t p.1 p.2)) (.string s) z = DataW.atKey (.map es) (.string s) z
  simp only [DataW.atKey, this]

set_option maxHeartbeats 400000 in
theorem cut1_any (s t : ByteArray) (u v : Value) (bx : Nat) (w : World) (hx : w.cell? ⟨bx, 0, none⟩ = some (.string t)) :
    Calls Try.prog 88 #[.string s, .agg #[u, v], .pointer (some ⟨bx, 0, none⟩)] w fun e w' => e = .returned (.bool (t.data.toList.isPrefixOf s.data.toList)) ∧ w.grownBy w' none := by
  have hne := World.block_lt_of_cell? w _ hx
  go_enter Try.func88, Try.ntmps88
  go_wp2_with fail
  refine (Try.strings_HasPrefix s t _).mono ?_
  rintro e w1 ⟨rfl, rfl⟩
  go_wp2_with fail
  go_ret
  exact ⟨rfl, World.grownBy_alloc w _ none⟩
end Go.Proofs.Ytfdejmdhcjfboaa

namespace Go.Proofs.Ytfdejmdhcjfboaa
open Go.Joins Go.ChangeShapes Go.WideShapes Go.ChangeAt Go.RowKit Go.Deep Go.Maps Go.Sort Go.Shelf
set_option linter.unusedVariables false
set_option linter.unusedSimpArgs false

theorem at_Fk {es : List (Lit × DataW Value)} {t s : List UInt8} {left : Lit → Bool} (hl : left (.string s) = true) (z : DataW Value) : (Fk (preD t) es left).atKey (.string s) z = (DataW.map es).atKey (.string s) z := by
  have : (es.filter fun p => !preD t p.1 p.2 || left p.1).find? (fun p => p.1.sameKey (.string s)) = es.find? (fun p => p.1.sameKey (.string s)) := by
    rw [List.find?_filter]
    congr 1
    funext p
    cases hk : p.1.sameKey (.string s)
    · simp
    · have he := same_str hk
      rw [he, hl]
      simp
  show DataW.atKey (.map (es.filter fun p => !preD t p.1 p.2 || left p.1)) (.string s) z = DataW.atKey (.map es) (.string s) z
  simp only [DataW.atKey, this]
set_option maxRecDepth 100000 in
set_option maxHeartbeats 2000000 in
theorem strike_any (b n bx : Nat) (t : List UInt8) (D : DataW Value) (w : World) (hown : w.ownsMap Try.prog 9 RV b n D) (hC : ∀ s, has D (.string s) = true → ∃ a0 n0 k0 a1 n1 k1, ∀ z, D.atKey (.string s) z = .held (.agg #[.slice a0 n0 k0, .slice a1 n1 k1])) (hbx : w.cell? ⟨bx, 0, none⟩ = some (.string ⟨t.toArray⟩)) (hne : bx ≠ b) :
    Calls Try.prog 87 #[.map (some b), .func (.func 88) #[] #[.pointer (some ⟨bx, 0, none⟩)]] w fun e w' => e = .returned (.tuple #[]) ∧ w'.ownsMap Try.prog 9 RV b n (Lib.deleteFuncD (preD t) D) ∧ w.grownBy w' (some b) := by
  obtain ⟨es0, rfl, hap, hkeys⟩ := hown.entries lawS
  have HC := Lib.hid hC
  have HBX := Lib.hid hbx
  clear hC hbx
  go_enter Try.func87, Try.ntmps87
  go_wp2_with (at_range; refine wpList_range_own _ rfl _ 98 rfl 9 60 lawS Try.underlying98 RV b n _ rfl hown ?_; intro w0 hrg0 hg0 hs0)
  go_frame
  go_loopw [8] (fun _ wr => ∃ (left : Lit → Bool) (cnt : Nat), wr.ranges Try.prog 9 RV b w.heap.size n (Fk (preD t) es0 left) left cnt ∧ w.grownBy wr (some b)) (fun _ wr => wr.rangeLeft b w.heap.size)
  case atStart => exact ⟨_, _, by rw [Fk_start hkeys]; exact hrg0, hg0.but _⟩
  case round =>
    obtain ⟨left, cnt, hrg, hgw⟩ := hrel
    go_wp2_with (at_next; refine wpList_next_ranges _ rfl _ rfl 9 lawS RV id id (fun key _ _ => ⟨key, rfl⟩) (fun v _ _ => ⟨v, rfl⟩) b w.heap.size n _ _ _ rfl hrg ?_ ?_)
    · intro _ hl0
      go_wp2_with fail
      go_end0
      exact ⟨rfl, by rw [← Fk_end hl0]; exact hrg.owns, hgw⟩
    · intro x c kl yd yp w1 cnt1 hkey hlx hv hat hrg1 hlt hg1 hs1 hen
      obtain ⟨s, rfl, rfl, hsl⟩ := Maps.keyOf_str Try.underlying9 hkey
      have hgw1 := hgw.andThen hg1 (fun j hj => by cases hj; exact Or.inl (Nat.le_refl _))
      have hbl := hrg1.owns.lt
      have hrl := hrg1.lt
      have hbxl := World.block_lt_of_cell? w _ HBX.out
      have hD : ∀ z, (DataW.map es0).atKey (.string s) z = yd := fun z => (at_Fk hlx z).symm.trans (hat z)
      obtain ⟨a0, n0, k0, a1, n1, k1, huv⟩ := HC.out s (has_true_of_atKey hD)
      have hc0 : c = .agg #[.slice a0 n0 k0, .slice a1 n1 k1] := by
        have h1 : (some (DataW.held c, ([] : List MemPlace)) : Option (DataW Value × List MemPlace)) = some (yd, yp) := hv
        have h2 := (hD .nil).symm.trans (huv .nil)
        rw [h2] at h1
        injection h1 with h1
        injection h1 with h1 h1'
        injection h1
      subst hc0
      have hbx1 : w1.cell? ⟨bx, 0, none⟩ = some (.string ⟨t.toArray⟩) := (World.cell?_of_block (a := ⟨bx, 0, none⟩) (hgw1.block bx hbxl (by simp; exact hne))).trans HBX.out
      have hgA := World.grownBy_alloc w1 (.cells #[.slice a0 n0 k0, .slice a1 n1 k1] 60) none
      have hrgA := hrg1.kept hgA (by simp) (by simp)
      have hbxA : (w1.alloc (.cells #[.slice a0 n0 k0, .slice a1 n1 k1] 60)).cell? ⟨bx, 0, none⟩ = some (.string ⟨t.toArray⟩) := (World.cell?_alloc_lt w1 _ _ (World.block_lt_of_cell? w1 _ hbx1)).trans hbx1
      have hgwA := hgw1.andThen hgA (fun j hj => by cases hj)
      have HK := Lib.hid (cut1_any ⟨s.toArray⟩ ⟨t.toArray⟩ (.slice a0 n0 k0) (.slice a1 n1 k1) bx _ hbxA)
      cases hp : t.isPrefixOf s
      · have HP := Lib.hid hp
        rw [show (⟨t.toArray⟩ : ByteArray).data.toList.isPrefixOf (⟨s.toArray⟩ : ByteArray).data.toList = false from hp] at HK
        have HH := Lib.hid (And.intro hrgA (And.intro hgwA (And.intro hlt (And.intro hkey (And.intro hlx hat)))))
        have HRG := Lib.hid hrg
        clear hrgA hgwA hgA hgw1 hp hD huv hv hbxA hat hkey hlx hrg1 hg1 hgw hrg hlt hs1
        go_wp2_with fail
        refine HK.out.mono ?_
        rintro e w2 ⟨rfl, hg2⟩
        obtain ⟨h1, h2, h3, h4, h5, h6⟩ := HH.out
        have hrg2 := h1.kept hg2 (by simp) (by simp)
        have HR2 := Lib.hid (And.intro hrg2 (h2.andThen hg2 (fun j hj => by cases hj)))
        clear hrg2 hg2 h1 h2 h3 h4 h5 h6
        go_wp2_with fail
        go_roundw
        case rel => exact ⟨_, cnt1, by rw [← Fk_stays hap (lawS.key HH.out.2.2.2.1) HH.out.2.2.2.2.1 (show preD t (.string s) yd = false from HP.out) HH.out.2.2.2.2.2]; exact HR2.out.1, HR2.out.2⟩
        case measure => rw [HR2.out.1.left_eq, HRG.out.left_eq]; exact HH.out.2.2.1
      · have HP := Lib.hid hp
        rw [show (⟨t.toArray⟩ : ByteArray).data.toList.isPrefixOf (⟨s.toArray⟩ : ByteArray).data.toList = true from hp] at HK
        have HH := Lib.hid (And.intro hrgA (And.intro hgwA (And.intro hlt (And.intro hkey (And.intro hlx hat)))))
        have HRG := Lib.hid hrg
        clear hrgA hgwA hgA hgw1 hp hD huv hv hbxA hat hkey hlx hrg1 hg1 hgw hrg hlt hs1
        go_wp2_with fail
        refine HK.out.mono ?_
        rintro e w2 ⟨rfl, hg2⟩
        obtain ⟨h1, h2, h3, h4, h5, h6⟩ := HH.out
        have hrg2 := h1.kept hg2 (by simp) (by simp)
        have HG2 := Lib.hid (h2.andThen hg2 (fun j hj => by cases hj))
        clear hg2 h1 h2 h3 h4 h5 h6
        go_wp2_with (at_delete; refine wpList_delete_ranges _ rfl _ _ 98 9 rfl 60 lawS Try.underlying98 RV b w.heap.size n _ _ _ rfl hrg2 _ _ rfl HH.out.2.2.2.1 ?_; intro w3 cnt3 hrg3 hle hturn; go_frame)
        rw [strike_twice] at hrg3
        go_roundw
        case rel => exact ⟨_, cnt3, by rw [← Fk_struck hap (lawS.key HH.out.2.2.2.1) HH.out.2.2.2.2.1 (show preD t (.string s) yd = true from HP.out) HH.out.2.2.2.2.2]; exact hrg3, HG2.out.andThen hturn.grown (fun j hj => by cases hj; exact Or.inr rfl)⟩
        case measure => rw [hrg3.left_eq, HRG.out.left_eq]; have := HH.out.2.2.1; omega
end Go.Proofs.Ytfdejmdhcjfboaa

namespace Go.Proofs.Ytfdejmdhcjfboaa
open Go.Joins Go.ChangeShapes Go.WideShapes Go.ChangeAt Go.RowKit Go.Deep Go.Maps Go.Sort Go.Shelf
set_option linter.unusedVariables false
set_option linter.unusedSimpArgs false

/-- A store handed back, wherever it lies, or nil. -/
def CutIX (r : Option (List Ce)) (w : World) (e : Ending) (w' : World) : Prop :=
  Below w.heap.size w w' ∧ match r with
    | none => e = .returned (.slice none 0 0)
    | some ys => ∃ A c, e = .returned (.slice A ys.length c) ∧ CeN w' A ys ∧ ys.length ≤ c
/-- A store handed back in the call's own memory, its rows apart, or nil. -/
def CutA (r : Option (List Ce)) (w : World) (e : Ending) (w' : World) : Prop :=
  Below w.heap.size w w' ∧ match r with
    | none => e = .returned (.slice none 0 0)
    | some ys => (ys = [] ∧ e = .returned (.slice none 0 0)) ∨ ∃ b c L, e = .returned (.slice (some ⟨b, 0, none⟩) ys.length c) ∧ OwnC w' w.heap.size b c ys.length L ∧ StoA w' w.heap.size L ys
theorem cut_any (p : List Sl) (hp : Fits p) (s : List UInt8) : ∀ (xs : List Ce), (∀ x ∈ xs, Fits x.pl) → ((xs.any fun x => decide (keyB x.pl = s)) && !(keyB p).isPrefixOf s) = (cutL xs p).any fun x => decide (keyB x.pl = s)
  | [], _ => rfl
  | x :: xs, h => by
    have ih := cut_any p hp s xs (fun y hy => h y (List.mem_cons_of_mem _ hy))
    have hx := pre_under p x.pl hp (h x (by simp))
    unfold cutL at *
    rw [List.any_cons, List.filter_cons]
    by_cases e : keyB x.pl = s
    · rw [e] at hx
      cases hu : underB x.pl p
      · rw [hu] at hx
        simp [e, hx]
      · rw [hu] at hx
        rw [hx] at ih ⊢
        simpa using ih
    · cases hu : underB x.pl p
      · simpa [e] using ih
      · simpa [e] using ih
theorem cut_facts {w w3 : World} {b n : Nat} {D : DataW Value} {xs : List Ce} {p : List Sl} (hown : w.ownsMap Try.prog 9 RV b n D) (hD : ∀ t, has D (.string t) = xs.any fun x => decide (keyB x.pl = t)) (hC : ∀ x ∈ xs, CellV w3 D x) (hr : runS none xs = true) (hp : placeB p = true) :
    (∀ t, has (Lib.deleteFuncD (preD (keyB p)) D) (.string t) = (cutL xs p).any fun x => decide (keyB x.pl = t)) ∧ (∀ x ∈ cutL xs p, CellV w3 (Lib.deleteFuncD (preD (keyB p)) D) x) := by
  have hfit : ∀ x ∈ xs, Fits x.pl := fun x hx => Fits.of_place (cell_ok xs none hr x hx).1
  refine ⟨fun t => ?_, fun x hx => ?_⟩
  · rw [has_del hown.isMap, hD t]
    exact cut_any p (Fits.of_place hp) t xs hfit
  · unfold cutL at hx
    rw [List.mem_filter] at hx
    obtain ⟨hx, hu⟩ := hx
    obtain ⟨b0, o0, c0, b1, o1, c1, h0, h1, h2⟩ := hC x hx
    have hpre : (keyB p).isPrefixOf (keyB x.pl) = false := by rw [pre_under p x.pl (Fits.of_place hp) (hfit x hx)]; simpa using hu
    exact ⟨b0, o0, c0, b1, o1, c1, fun z => by rw [at_del hown.isMap _ _ hpre, h0], h1, h2⟩
set_option maxRecDepth 100000 in
set_option maxHeartbeats 2000000 in
theorem icutA_any (A A' : Option Addr) (c c' n m : Nat) (xs : List Ce) (p : List Sl) (w : World) (hx : CeN w A xs) (hp : SlL w A' p) (hn : xs.length = n) (hm : p.length = m) (hl : n ≤ maxLen) (hl' : m ≤ maxLen) :
    Calls Try.prog 47 #[.slice A n c, .slice A' m c'] w (CutA (cutV xs p) w) := by
  have HN := Lib.hid hn
  have HM := Lib.hid hm
  have HX := Lib.hid hx
  have HP := Lib.hid hp
  have HB0 := Lib.hid (Below.refl w.heap.size w)
  obtain ⟨s, hs⟩ : ∃ s, storeB xs = s := ⟨_, rfl⟩
  obtain ⟨t, ht⟩ : ∃ t, placeB p = t := ⟨_, rfl⟩
  have KS := Lib.hid (fun w hx => istore_any A c n xs w hx hn hl)
  have KP := Lib.hid (fun w hx => iplace_n A' c' m p w hx hm hl')
  have HPV := Lib.hid (show cutV xs p = if (s && t) = true then some (cutL xs p) else none by unfold cutV; rw [hs, ht])
  rw [hs] at KS
  rw [ht] at KP
  have HS := Lib.hid hs
  have HT := Lib.hid ht
  unfold maxLen at hl hl'
  clear hx hp hs ht hn hm
  go_enter Try.func47, Try.ntmps47
  go_wp2_with fail
  refine (KS.out w HX.out.cel).mono ?_
  rintro e w1 ⟨rfl, hb⟩
  replace HX := Lib.hid (HX.out.below hb)
  replace HP := Lib.hid (HP.out.below hb)
  have HB1 := Lib.hid (more HB0.out (Nat.le_refl _) hb)
  clear hb
  cases s
  · have HR := Lib.hid (HPV.out.trans rfl)
    go_wp2_with fail
    go_ret
    exact ⟨HB1.out, by rw [HR.out]; rfl⟩
  go_wp2_with fail
  refine (KP.out w1 HP.out).mono ?_
  rintro e w2 ⟨rfl, hb⟩
  replace HX := Lib.hid (HX.out.below hb)
  replace HP := Lib.hid (HP.out.below hb)
  have HB2 := Lib.hid (more HB1.out (Nat.le_refl _) hb)
  clear hb
  cases t
  · have HR := Lib.hid (HPV.out.trans rfl)
    go_wp2_with fail
    go_ret
    exact ⟨HB2.out, by rw [HR.out]; rfl⟩
  have HR := Lib.hid (HPV.out.trans rfl)
  have hn200 : n ≤ 200 := by rw [← HN.out]; exact store_len HS.out
  have hm20 : m ≤ 20 := by rw [← HM.out]; exact place_len HT.out
  have HRS := Lib.hid (show runS none xs = true by have := HS.out; unfold storeB at this; rw [Bool.and_eq_true] at this; exact this.2)
  go_wp2_with fail
  refine (cellsByKey_any A c n xs w2 HX.out HN.out (by omega) HRS.out).mono ?_
  rintro e w3 ⟨bm, nm, D, rfl, hbm, hnm, hown, hD, hC, hb⟩
  rw [HN.out] at hnm
  have hz2 := HB2.out.size
  have HB3 := Lib.hid (more HB2.out (Nat.le_refl _) hb)
  have G3 := Lib.hid hb
  have HO3 := Lib.hid hown
  have HD3 := Lib.hid hD
  have HC3 := Lib.hid hC
  have hbl3 := hown.lt
  have hy3 := hb.size
  clear hb hown hD hC KS KP
  go_wp2_with fail
  refine (keyOf_any A' c' m p w3 (HP.out.below G3.out) HM.out (by omega) (Fits.of_place HT.out)).mono ?_
  rintro e w4 ⟨rfl, hb⟩
  have HB4 := Lib.hid (more HB3.out (Nat.le_refl _) hb)
  have G4 := Lib.hid (G3.out.trans (hb.mono hy3))
  have HO4 := Lib.hid (HO3.out.kept (Below.keeps hb) (by simp))
  have hy4 := hb.size
  clear hb
  have hba := Below.alloc (Below.refl w4.heap.size w4) (Nat.le_refl _) (.cells #[.string ⟨(keyB p).toArray⟩] 9)
  have HO5 := Lib.hid (HO4.out.alloc (.cells #[.string ⟨(keyB p).toArray⟩] 9))
  have HB5 := Lib.hid (HB4.out.trans (hba.mono HB4.out.size))
  have G5 := Lib.hid (G4.out.trans (hba.mono G4.out.size))
  have HKS := Lib.hid (strike_any bm nm w4.heap.size (keyB p) D _ HO5.out (fun s hs => by
    rw [HD3.out s, List.any_eq_true] at hs
    obtain ⟨x, hx, he⟩ := hs
    have he := of_decide_eq_true he
    subst he
    obtain ⟨b0, o0, c0, b1, o1, c1, h0, _⟩ := HC3.out x hx
    exact ⟨_, _, _, _, _, _, h0⟩) (by rw [World.cell?_alloc_at _ _ _ _ (by simp)]; rfl) (by omega))
  clear hba
  go_wp2_with fail
  refine HKS.out.mono ?_
  rintro e w6 ⟨rfl, ho, hgr⟩
  have HF := Lib.hid (cut_facts HO5.out HD3.out HC3.out HRS.out HT.out)
  have HO6 := Lib.hid ho
  have HB6 := Lib.hid (HB5.out.grown hgr HB5.out.size (fun i hi => by injection hi with hi; omega))
  have G6 := Lib.hid (G5.out.grown hgr G5.out.size (fun i hi => by injection hi with hi; omega))
  have HPW := Lib.hid (show ((cutL xs p).map fun x => keyB x.pl).Pairwise (· < ·) from (keys_rise xs none HRS.out).sublist (List.filter_sublist.map _))
  have hjl : (cutL xs p).length ≤ n := by rw [← HN.out]; exact List.length_filter_le _ _
  have HSM := Lib.hid (show SmallC (cutL xs p) from fun x hx => SmallC.of_ok HS.out x (List.mem_filter.1 hx).1)
  obtain ⟨j, hj⟩ : ∃ j, (cutL xs p).length = j := ⟨_, rfl⟩
  rw [hj] at hjl
  have HJ := Lib.hid hj
  clear ho hgr HKS hj
  go_wp2_with fail
  refine (store_any bm nm j _ _ w6 HO6.out HF.out.1 (fun x hx => (HF.out.2 x hx).below G6.out) HPW.out (by omega) HJ.out (by omega) HSM.out).mono ?_
  rintro e w7 ⟨hb, v, L, rfl, hrow, hsto⟩
  have HB7 := Lib.hid (more HB6.out (Nat.le_refl _) hb)
  rcases hrow.2 with ⟨rfl, h0⟩ | ⟨g, cap, cur, rfl, _, _, hcap, _⟩
  · clear hb hrow hsto
    go_wp2_with fail
    go_ret
    refine ⟨HB7.out, ?_⟩
    rw [HR.out]
    exact .inl ⟨List.eq_nil_of_length_eq_zero (by rw [HJ.out]; omega), rfl⟩
  · have HO7 := Lib.hid (World.ownsRow.mono hrow HB6.out.size)
    have HW7 := Lib.hid (hsto.mono HB6.out.size)
    clear hb hrow hsto
    go_wp2_with fail
    go_ret
    refine ⟨HB7.out, ?_⟩
    rw [HR.out]
    exact .inr ⟨g, cap, L, by rw [HJ.out]; rfl, by rw [HJ.out]; exact HO7.out, HW7.out⟩
theorem cutV_small {xs : List Ce} {p : List Sl} {ys : List Ce} (h : cutV xs p = some ys) : SmallC ys := by
  unfold cutV at h
  split at h
  · next hc =>
    injection h with h
    subst h
    rw [Bool.and_eq_true] at hc
    exact fun x hx => SmallC.of_ok hc.1 x (List.mem_filter.1 hx).1
  · cases h
theorem icut_any (A A' : Option Addr) (c c' n m : Nat) (xs : List Ce) (p : List Sl) (w : World) (hx : CeN w A xs) (hp : SlL w A' p) (hn : xs.length = n) (hm : p.length = m) (hl : n ≤ maxLen) (hl' : m ≤ maxLen) :
    Calls Try.prog 47 #[.slice A n c, .slice A' m c'] w (CutIX (cutV xs p) w) := by
  refine (icutA_any A A' c c' n m xs p w hx hp hn hm hl hl').mono fun e w' h => ?_
  refine ⟨h.1, ?_⟩
  have h2 := h.2
  have hsm := fun ys h => cutV_small (xs := xs) (p := p) (ys := ys) h
  revert h2 hsm
  generalize cutV xs p = r
  intro h2 hsm
  cases r with
  | none => exact h2
  | some ys =>
    rcases h2 with ⟨rfl, rfl⟩ | ⟨b, c, L, h3, h4, h5⟩
    · exact ⟨none, 0, rfl, fun h => by simp at h, Nat.le_refl _⟩
    · exact ⟨_, c, h3, CeN.of_sto h4 h5.toW rfl (hsm ys rfl), row_cap h4⟩
end Go.Proofs.Ytfdejmdhcjfboaa
