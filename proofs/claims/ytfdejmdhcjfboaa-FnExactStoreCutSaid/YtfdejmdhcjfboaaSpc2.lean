/- Stores: what is cut, in the document's own text. -/
import Derived.Test.YtfdejmdhcjfboaaSpc1
import Derived.Test.YtfdejmdhcjfboaaPlc9
namespace Go.Proofs.Ytfdejmdhcjfboaa
open Go.Joins Go.ChangeShapes Go.WideShapes Go.ChangeAt Go.RowKit Go.Deep
set_option linter.unusedVariables false
set_option linter.unusedSimpArgs false

def cutL (xs : List Ce) (p : List Sl) : List Ce := xs.filter fun x => !underB x.pl p
def cutV (xs : List Ce) (p : List Sl) : Option (List Ce) := if (storeB xs && placeB p) = true then some (cutL xs p) else none
/-- What is answered where a store is handed back, or nil. -/
def CutX (r : Option (List Ce)) (w : World) (e : Ending) (w' : World) : Prop :=
  Below w.heap.size w w' ∧ match r with
    | none => e = .returned (.slice none 0 0)
    | some ys => ∃ b c L, e = .returned (.slice (some ⟨b, 0, none⟩) ys.length c) ∧ OwnC w' w.heap.size b c ys.length L ∧ StoW w' w.heap.size L ys
theorem cutL_snoc {xs : List Ce} {p : List Sl} {k : Nat} {x : Ce} (hx : xs[k]? = some x) : cutL (xs.take (k + 1)) p = cutL (xs.take k) p ++ (if underB x.pl p = true then [] else [x]) := by
  obtain ⟨hk, e⟩ := List.getElem?_eq_some_iff.1 hx
  unfold cutL
  rw [List.take_succ_eq_append_getElem hk, List.filter_append, e]
  congr 1
  cases h : underB x.pl p <;> simp [h]
theorem under_n (A A' : Option Addr) (c c' n m : Nat) (xs ys : List Sl) (v : Bool) (w : World) (hx : SlL w A xs) (hy : SlL w A' ys) (hn : xs.length = n) (hm : ys.length = m) (hl : n ≤ maxLen) (hl' : m ≤ maxLen) (hc : n ≤ c) (hv : underB xs ys = v) :
    Calls Try.prog 62 #[.slice A n c, .slice A' m c'] w fun e w' => e = .returned (.bool v) ∧ Below w.heap.size w w' := by
  subst hn hm hv; exact under_any A A' c c' xs ys w hx hy hl hl' hc

set_option maxHeartbeats 2000000 in
theorem scut_any (A A' : Option Addr) (c c' n m : Nat) (xs : List Ce) (p : List Sl) (w : World) (hx : CeN w A xs) (hp : SlL w A' p) (hn : xs.length = n) (hm : p.length = m) (hl : n ≤ maxLen) (hl' : m ≤ maxLen) :
    Calls Try.prog 46 #[.slice A n c, .slice A' m c'] w (CutX (cutV xs p) w) := by
  have HN := Lib.hid hn
  have HM := Lib.hid hm
  have HLM := Lib.hid hl'
  have HX := Lib.hid hx
  have HP := Lib.hid hp
  have HB0 := Lib.hid (Below.refl w.heap.size w)
  obtain ⟨s, hs⟩ : ∃ s, storeB xs = s := ⟨_, rfl⟩
  obtain ⟨t, ht⟩ : ∃ t, placeB p = t := ⟨_, rfl⟩
  have KS := Lib.hid (fun w hx => vstore_any A c n xs w hx hn hl)
  have KP := Lib.hid (fun w hx => vplace_n A' c' m p w hx hm hl')
  have HPV := Lib.hid (show cutV xs p = if (s && t) = true then some (cutL xs p) else none by unfold cutV; rw [hs, ht])
  rw [hs] at KS
  rw [ht] at KP
  have HS := Lib.hid hs
  have HT := Lib.hid ht
  unfold maxLen at hl hl'
  clear hx hp hs ht hn hm
  go_enter Try.func46, Try.ntmps46
  go_wp2_with fail
  refine (KS.out w HX.out.cel).mono ?_
  rintro e w1 ⟨rfl, hb⟩
  replace HX := Lib.hid (HX.out.below hb)
  replace HP := Lib.hid (HP.out.below hb)
  have HB1 := Lib.hid (more HB0.out (Nat.le_refl _) hb)
  clear hb
  cases s
  · have HR := Lib.hid (HPV.out.trans rfl)
    go_wp2_with fail
    go_ret
    exact ⟨HB1.out, by rw [HR.out]; rfl⟩
  go_wp2_with fail
  refine (KP.out w1 HP.out).mono ?_
  rintro e w2 ⟨rfl, hb⟩
  replace HX := Lib.hid (HX.out.below hb)
  replace HP := Lib.hid (HP.out.below hb)
  have HB2 := Lib.hid (more HB1.out (Nat.le_refl _) hb)
  clear hb
  cases t
  · have HR := Lib.hid (HPV.out.trans rfl)
    go_wp2_with fail
    go_ret
    exact ⟨HB2.out, by rw [HR.out]; rfl⟩
  have HR := Lib.hid (HPV.out.trans rfl)
  have hn200 : n ≤ 200 := by rw [← HN.out]; exact store_len HS.out
  have HSM := Lib.hid (SmallC.of_ok HS.out)
  have hz2 := HB2.out.size
  have HE := Lib.hid (OwnC.none_ w2 (base := w.heap.size) hz2)
  have HBa := Lib.hid (HB2.out.alloc hz2 (.cells #[] 60))
  have HX2 := Lib.hid (HX.out.below (show Below w2.heap.size w2 (w2.alloc (.cells #[] 60)) from Below.alloc (Below.refl _ _) (Nat.le_refl _) _))
  go_wp2_with fail
  go_loopw [5, 6] (fun v i wr => ∃ (k j b c : Nat) (L : List Value), k ≤ n ∧ j ≤ k ∧ j = (cutL (xs.take k) p).length ∧ v = .slice (some ⟨b, 0, none⟩) j c ∧ i = .int .i64 k ∧ Hid (OwnC wr w2.heap.size b c j L) ∧ Hid (StoW wr w2.heap.size L (cutL (xs.take k) p)) ∧ Hid (Below w2.heap.size w2 wr)) (fun _ i _ => n - (intOf i).toNat)
  case atStart => exact ⟨0, 0, w2.heap.size, 0, [], by omega, by omega, rfl, rfl, rfl, Lib.hid (OwnC.none_ w2 (Nat.le_refl _)), Lib.hid (fun i x hx => by simp [cutL] at hx), Lib.hid (Below.alloc (Below.refl _ _) (Nat.le_refl _) _)⟩
  case round =>
    obtain ⟨k, j, b, cc, L, hk, hjk, hj, rfl, rfl, HO, HW, HB⟩ := hrel
    have HJ := Lib.hid hj
    clear hj
    by_cases hlt : k < n
    · obtain ⟨b', off, rfl, hblt, hcell⟩ := (HX.out.below HB.out) (by have := HN.out; omega)
      obtain ⟨x, hx⟩ := at_some (show k < xs.length by rw [HN.out]; exact hlt)
      obtain ⟨b0, o0, c0, b1, o1, c1, hat⟩ := hcell k x hx
      have e0 := hat.e0
      have e1 := hat.e1
      have hsz := HSM.out x (List.mem_of_getElem? hx)
      have HLK := Lib.hid (cutL_snoc (p := p) hx)
      obtain ⟨v, hv⟩ : ∃ v, underB x.pl p = v := ⟨_, rfl⟩
      have HAT := Lib.hid hat
      have KC := Lib.hid (under_n (some ⟨b0, o0, none⟩) A' c0 c' _ m x.pl p v wr hat.pl (HP.out.below HB.out) rfl HM.out hat.n0 HLM.out hat.m0 hv)
      have HV := Lib.hid hv
      have hzr := HB.out.size
      have hi1 : (0 : Int) ≤ (k : Int) := by omega
      have hi2 : (k : Int) < (n : Int) := by omega
      clear hcell hx hat hv
      go_wp2_with fail
      refine KC.out.mono ?_
      rintro e w3 ⟨rfl, hb1⟩
      replace e0 := (hb1.cell (p := ⟨b', off + k * 2, none⟩) hblt).trans e0
      replace e1 := (hb1.cell (p := ⟨b', off + k * 2 + 1, none⟩) hblt).trans e1
      have HB1 := Lib.hid (HB.out.trans (hb1.mono hzr))
      have HO1 := Lib.hid (ownsRow_below HO.out hb1)
      have HW1 := Lib.hid (HW.out.below hb1)
      have K := Lib.hid (copyCell_any b0 o0 b1 o1 c0 c1 x.pl.length x.st.length x w3 (HAT.out.pl.below hb1) (HAT.out.st.below hb1) rfl rfl (by omega) (by omega))
      clear hb1 KC
      cases v
      case true =>
        go_wp2_with fail
        go_roundw
        case rel => exact ⟨k + 1, j, b, cc, L, by omega, by omega, by rw [HLK.out, HV.out, HJ.out]; simp, rfl, by go_num, HO1, Lib.hid (by rw [HLK.out, HV.out]; simpa using HW1.out), HB1⟩
        case measure => simp [intOf]; omega
      case false =>
        go_wp2_with fail
        refine K.out.mono ?_
        rintro e w4 ⟨hb, g0, d0, g1, d1, rfl, hcw⟩
        have HB2' := Lib.hid (HB1.out.trans (hb.mono HB1.out.size))
        have HO2 := Lib.hid (World.ownsRow.alloc (ownsRow_below HO1.out hb) (.cells #[.slice (some ⟨g0, 0, none⟩) x.pl.length d0, .slice (some ⟨g1, 0, none⟩) x.st.length d1] 60))
        have hba := Below.alloc (Below.refl w4.heap.size w4) (Nat.le_refl _) (.cells #[.slice (some ⟨g0, 0, none⟩) x.pl.length d0, .slice (some ⟨g1, 0, none⟩) x.st.length d1] 60)
        have HW2 := Lib.hid ((HW1.out.below hb).below hba)
        have HC2 := Lib.hid ((hcw.mono HB1.out.size).below hba)
        have HB3 := Lib.hid (HB2'.out.trans (hba.mono HB2'.out.size))
        have HLL := Lib.hid (show L.length = (cutL (xs.take k) p).length * 2 by rw [HO.out.1, HJ.out])
        have HNW := Lib.hid (World.news_of_block (cs := #[.slice (some ⟨g0, 0, none⟩) x.pl.length d0, .slice (some ⟨g1, 0, none⟩) x.st.length d1]) (t := 60) (fr := (0, 0)) (heap_alloc_new w4 _))
        have hsz2 := HB2'.out.size
        clear hb hcw e0 e1 hba
        go_wp2_with (at_builtin; refine wp_append_cells rfl (.tmp 30) (.tmp 36) rfl w2.heap.size b cc j L rfl HO2.out ⟨w4.heap.size, 0, none⟩ 1 1 [.slice (some ⟨g0, 0, none⟩) x.pl.length d0, .slice (some ⟨g1, 0, none⟩) x.st.length d1] rfl rfl HNW.out (two_one _ _ rfl rfl) (by omega) (by simp; omega) ?_; intro b3 c3 w5 ho hgr HAT2; have HO3 := Lib.hid ho; have HW3 := Lib.hid (StoW.append (HW2.out.grown hgr HO2.out) (StoW.one (HC2.out.grown hgr HO2.out)) HLL.out); have HB4 := Lib.hid (HB3.out.grown hgr HB3.out.size (fun k hk => by injection hk with hk; have := (World.ownsRow.lt HO2.out b rfl).1; omega)); clear ho hgr)
        go_roundw
        case rel => exact ⟨k + 1, j + 1, b3, c3, _, by omega, by omega, by rw [HLK.out, HV.out, List.length_append, ← HJ.out]; rfl, rfl, by go_num, HO3, Lib.hid (by rw [HLK.out, HV.out]; exact HW3.out), HB4⟩
        case measure => simp [intOf]; omega
    · obtain rfl : k = n := by omega
      have HTT := Lib.hid (show xs.take k = xs by rw [List.take_of_length_le (by rw [HN.out]; exact Nat.le_refl _)])
      rw [HTT.out] at HJ HW
      go_wp2_with fail
      go_ret
      refine ⟨HB2.out.trans (HB.out.mono hz2), ?_⟩
      rw [HR.out]
      exact ⟨b, cc, L, by rw [← HJ.out]; rfl, by rw [← HJ.out]; exact World.ownsRow.mono HO.out hz2, HW.out.mono hz2⟩
end Go.Proofs.Ytfdejmdhcjfboaa
