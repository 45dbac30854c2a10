/- What is struck from a map of cells: the library's text, walked at this map. -/
import Derived.Test.YtfdejmdhcjfboaaKey10
import Derived.Shelf.SlMaps.DeleteFunc
namespace Go.Proofs.Ytfdejmdhcjfboaa
open Go.Joins Go.ChangeShapes Go.WideShapes Go.ChangeAt Go.RowKit Go.Deep Go.Maps Go.Sort Go.Shelf
set_option linter.unusedVariables false
set_option linter.unusedSimpArgs false

theorem at_Fk {es : List (Lit × DataW Value)} {t s : List UInt8} {left : Lit → Bool} (hl : left (.string s) = true) (z : DataW Value) : (Fk (preD t) es left).atKey (.string s) z = (DataW.map es).atKey (.string s) z := by
  have : (es.filter fun p => !preD t p.1 p.2 || left p.1).find? (fun p => p.1.sameKey (.string s)) = es.find? (fun p => p.1.sameKey (.string s)) := by
    rw [List.find?_filter]
    congr 1
    funext p
    cases hk : p.1.sameKey (.string s)
    · simp
    · have he := same_str hk
      rw [he, hl]
      simp
  show DataW.atKey (.map (es.filter fun p => !preD t p.1 p.2 || left p.1)) (.string s) z = DataW.atKey (.map es) (.string s) z
  simp only [DataW.atKey, this]
set_option maxRecDepth 100000 in
set_option maxHeartbeats 2000000 in
theorem strike_any (b n bx : Nat) (t : List UInt8) (D : DataW Value) (w : World) (hown : w.ownsMap Try.prog 9 RV b n D) (hC : ∀ s, has D (.string s) = true → ∃ a0 n0 k0 a1 n1 k1, ∀ z, D.atKey (.string s) z = .held (.agg #[.slice a0 n0 k0, .slice a1 n1 k1])) (hbx : w.cell? ⟨bx, 0, none⟩ = some (.string ⟨t.toArray⟩)) (hne : bx ≠ b) :
    Calls Try.prog 87 #[.map (some b), .func (.func 88) #[] #[.pointer (some ⟨bx, 0, none⟩)]] w fun e w' => e = .returned (.tuple #[]) ∧ w'.ownsMap Try.prog 9 RV b n (Lib.deleteFuncD (preD t) D) ∧ w.grownBy w' (some b) := by
  obtain ⟨es0, rfl, hap, hkeys⟩ := hown.entries lawS
  have HC := Lib.hid hC
  have HBX := Lib.hid hbx
  clear hC hbx
  go_enter Try.func87, Try.ntmps87
  go_wp2_with (at_range; refine wpList_range_own _ rfl _ 98 rfl 9 60 lawS Try.underlying98 RV b n _ rfl hown ?_; intro w0 hrg0 hg0 hs0)
  go_frame
  go_loopw [8] (fun _ wr => ∃ (left : Lit → Bool) (cnt : Nat), wr.ranges Try.prog 9 RV b w.heap.size n (Fk (preD t) es0 left) left cnt ∧ w.grownBy wr (some b)) (fun _ wr => wr.rangeLeft b w.heap.size)
  case atStart => exact ⟨_, _, by rw [Fk_start hkeys]; exact hrg0, hg0.but _⟩
  case round =>
    obtain ⟨left, cnt, hrg, hgw⟩ := hrel
    go_wp2_with (at_next; refine wpList_next_ranges _ rfl _ rfl 9 lawS RV id id (fun key _ _ => ⟨key, rfl⟩) (fun v _ _ => ⟨v, rfl⟩) b w.heap.size n _ _ _ rfl hrg ?_ ?_)
    · intro _ hl0
      go_wp2_with fail
      go_end0
      exact ⟨rfl, by rw [← Fk_end hl0]; exact hrg.owns, hgw⟩
    · intro x c kl yd yp w1 cnt1 hkey hlx hv hat hrg1 hlt hg1 hs1 hen
      obtain ⟨s, rfl, rfl, hsl⟩ := Maps.keyOf_str Try.underlying9 hkey
      have hgw1 := hgw.andThen hg1 (fun j hj => by cases hj; exact Or.inl (Nat.le_refl _))
      have hbl := hrg1.owns.lt
      have hrl := hrg1.lt
      have hbxl := World.block_lt_of_cell? w _ HBX.out
      have hD : ∀ z, (DataW.map es0).atKey (.string s) z = yd := fun z => (at_Fk hlx z).symm.trans (hat z)
      obtain ⟨a0, n0, k0, a1, n1, k1, huv⟩ := HC.out s (has_true_of_atKey hD)
      have hc0 : c = .agg #[.slice a0 n0 k0, .slice a1 n1 k1] := by
        have h1 : (some (DataW.held c, ([] : List MemPlace)) : Option (DataW Value × List MemPlace)) = some (yd, yp) := hv
        have h2 := (hD .nil).symm.trans (huv .nil)
        rw [h2] at h1
        injection h1 with h1
        injection h1 with h1 h1'
        injection h1
      subst hc0
      have hbx1 : w1.cell? ⟨bx, 0, none⟩ = some (.string ⟨t.toArray⟩) := (World.cell?_of_block (a := ⟨bx, 0, none⟩) (hgw1.block bx hbxl (by simp; exact hne))).trans HBX.out
      have hgA := World.grownBy_alloc w1 (.cells #[.slice a0 n0 k0, .slice a1 n1 k1] 60) none
      have hrgA := hrg1.kept hgA (by simp) (by simp)
      have hbxA : (w1.alloc (.cells #[.slice a0 n0 k0, .slice a1 n1 k1] 60)).cell? ⟨bx, 0, none⟩ = some (.string ⟨t.toArray⟩) := (World.cell?_alloc_lt w1 _ _ (World.block_lt_of_cell? w1 _ hbx1)).trans hbx1
      have hgwA := hgw1.andThen hgA (fun j hj => by cases hj)
      have HK := Lib.hid (cut1_any ⟨s.toArray⟩ ⟨t.toArray⟩ (.slice a0 n0 k0) (.slice a1 n1 k1) bx _ hbxA)
      cases hp : t.isPrefixOf s
      · have HP := Lib.hid hp
        rw [show (⟨t.toArray⟩ : ByteArray).data.toList.isPrefixOf (⟨s.toArray⟩ : ByteArray).data.toList = false from hp] at HK
        have HH := Lib.hid (And.intro hrgA (And.intro hgwA (And.intro hlt (And.intro hkey (And.intro hlx hat)))))
        have HRG := Lib.hid hrg
        clear hrgA hgwA hgA hgw1 hp hD huv hv hbxA hat hkey hlx hrg1 hg1 hgw hrg hlt hs1
        go_wp2_with fail
        refine HK.out.mono ?_
        rintro e w2 ⟨rfl, hg2⟩
        obtain ⟨h1, h2, h3, h4, h5, h6⟩ := HH.out
        have hrg2 := h1.kept hg2 (by simp) (by simp)
        have HR2 := Lib.hid (And.intro hrg2 (h2.andThen hg2 (fun j hj => by cases hj)))
        clear hrg2 hg2 h1 h2 h3 h4 h5 h6
        go_wp2_with fail
        go_roundw
        case rel => exact ⟨_, cnt1, by rw [← Fk_stays hap (lawS.key HH.out.2.2.2.1) HH.out.2.2.2.2.1 (show preD t (.string s) yd = false from HP.out) HH.out.2.2.2.2.2]; exact HR2.out.1, HR2.out.2⟩
        case measure => rw [HR2.out.1.left_eq, HRG.out.left_eq]; exact HH.out.2.2.1
      · have HP := Lib.hid hp
        rw [show (⟨t.toArray⟩ : ByteArray).data.toList.isPrefixOf (⟨s.toArray⟩ : ByteArray).data.toList = true from hp] at HK
        have HH := Lib.hid (And.intro hrgA (And.intro hgwA (And.intro hlt (And.intro hkey (And.intro hlx hat)))))
        have HRG := Lib.hid hrg
        clear hrgA hgwA hgA hgw1 hp hD huv hv hbxA hat hkey hlx hrg1 hg1 hgw hrg hlt hs1
        go_wp2_with fail
        refine HK.out.mono ?_
        rintro e w2 ⟨rfl, hg2⟩
        obtain ⟨h1, h2, h3, h4, h5, h6⟩ := HH.out
        have hrg2 := h1.kept hg2 (by simp) (by simp)
        have HG2 := Lib.hid (h2.andThen hg2 (fun j hj => by cases hj))
        clear hg2 h1 h2 h3 h4 h5 h6
        go_wp2_with (at_delete; refine wpList_delete_ranges _ rfl _ _ 98 9 rfl 60 lawS Try.underlying98 RV b w.heap.size n _ _ _ rfl hrg2 _ _ rfl HH.out.2.2.2.1 ?_; intro w3 cnt3 hrg3 hle hturn; go_frame)
        rw [strike_twice] at hrg3
        go_roundw
        case rel => exact ⟨_, cnt3, by rw [← Fk_struck hap (lawS.key HH.out.2.2.2.1) HH.out.2.2.2.2.1 (show preD t (.string s) yd = true from HP.out) HH.out.2.2.2.2.2]; exact hrg3, HG2.out.andThen hturn.grown (fun j hj => by cases hj; exact Or.inr rfl)⟩
        case measure => rw [hrg3.left_eq, HRG.out.left_eq]; have := HH.out.2.2.1; omega
end Go.Proofs.Ytfdejmdhcjfboaa
