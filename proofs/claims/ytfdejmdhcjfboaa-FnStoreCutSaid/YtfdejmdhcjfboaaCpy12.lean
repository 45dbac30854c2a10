/- A store without a place's cell, in the law's own text. -/
import Derived.Test.YtfdejmdhcjfboaaCpy11
namespace Go.Proofs.Ytfdejmdhcjfboaa
open Go.Joins Go.ChangeShapes Go.WideShapes Go.ChangeAt Go.RowKit Go.Deep
set_option linter.unusedVariables false
set_option linter.unusedSimpArgs false

def lackV (xs : List Ce) (p : List Sl) : List Ce := xs.filter fun x => decide (cmpP x.pl p ≠ 0)
theorem lackV_snoc {xs : List Ce} {p : List Sl} {k : Nat} {x : Ce} (hx : xs[k]? = some x) : lackV (xs.take (k + 1)) p = lackV (xs.take k) p ++ (if cmpP x.pl p ≠ 0 then [x] else []) := by
  obtain ⟨hk, e⟩ := List.getElem?_eq_some_iff.1 hx
  unfold lackV
  rw [List.take_succ_eq_append_getElem hk, List.filter_append, e]
  congr 1
  by_cases h : cmpP x.pl p = 0 <;> simp [h]

set_option maxHeartbeats 2000000 in
theorem lacking_any (A A' : Option Addr) (c c' n m : Nat) (xs : List Ce) (p : List Sl) (w : World) (hx : CeN w A xs) (hp : SlL w A' p) (hn : xs.length = n) (hm : p.length = m) (hl : n ≤ 10000) (hl' : m ≤ maxLen) (hs : SmallC xs) :
    Calls Try.prog 53 #[.slice A n c, .slice A' m c'] w (StoreX (lackV xs p) w) := by
  have HN := Lib.hid hn
  have HM := Lib.hid hm
  have HLM := Lib.hid hl'
  have HX := Lib.hid hx
  have HP := Lib.hid hp
  have HS := Lib.hid hs
  have HE := Lib.hid (OwnC.none_ w (base := w.heap.size) (Nat.le_refl _))
  have HB0 := Lib.hid (Below.alloc (Below.refl w.heap.size w) (Nat.le_refl _) (.cells #[] 60))
  unfold maxLen at hl'
  clear hx hp hn hm hs
  go_enter Try.func53, Try.ntmps53
  go_wp2_with fail
  go_loopw [5, 6] (fun v i wr => ∃ (k j b c : Nat) (L : List Value), k ≤ n ∧ j ≤ k ∧ j = (lackV (xs.take k) p).length ∧ v = .slice (some ⟨b, 0, none⟩) j c ∧ i = .int .i64 k ∧ Hid (OwnC wr w.heap.size b c j L) ∧ Hid (StoW wr w.heap.size L (lackV (xs.take k) p)) ∧ Hid (Below w.heap.size w wr)) (fun _ i _ => n - (intOf i).toNat)
  case atStart => exact ⟨0, 0, w.heap.size, 0, [], by omega, by omega, rfl, rfl, rfl, HE, Lib.hid (fun i x hx => by simp [lackV] at hx), HB0⟩
  case round =>
    obtain ⟨k, j, b, cc, L, hk, hjk, hj, rfl, rfl, HO, HW, HB⟩ := hrel
    have HJ := Lib.hid hj
    clear hj
    by_cases hlt : k < n
    · obtain ⟨b', off, rfl, hblt, hcell⟩ := (HX.out.below HB.out) (by have := HN.out; omega)
      obtain ⟨x, hx⟩ := at_some (show k < xs.length by rw [HN.out]; exact hlt)
      obtain ⟨b0, o0, c0, b1, o1, c1, hat⟩ := hcell k x hx
      have e0 := hat.e0
      have e1 := hat.e1
      have hsz := HS.out x (List.mem_of_getElem? hx)
      have HLK := Lib.hid (lackV_snoc (p := p) hx)
      obtain ⟨v, hv⟩ : ∃ v, cmpP x.pl p = v := ⟨_, rfl⟩
      have HAT := Lib.hid hat
      have KC := Lib.hid (cmpPlaces_v (some ⟨b0, o0, none⟩) A' c0 c' _ m x.pl p v wr hat.pl (HP.out.below HB.out) rfl HM.out hat.n0 HLM.out hv)
      have HV := Lib.hid hv
      have hzr := HB.out.size
      have hi1 : (0 : Int) ≤ (k : Int) := by omega
      have hi2 : (k : Int) < (n : Int) := by omega
      clear hcell hx hat hv
      go_wp2_with fail
      refine KC.out.mono ?_
      rintro e w1 ⟨rfl, hb1⟩
      replace e0 := (hb1.cell (p := ⟨b', off + k * 2, none⟩) hblt).trans e0
      replace e1 := (hb1.cell (p := ⟨b', off + k * 2 + 1, none⟩) hblt).trans e1
      have HB1 := Lib.hid (HB.out.trans (hb1.mono hzr))
      have HO1 := Lib.hid (ownsRow_below HO.out hb1)
      have HW1 := Lib.hid (HW.out.below hb1)
      have K := Lib.hid (copyCell_any b0 o0 b1 o1 c0 c1 x.pl.length x.st.length x w1 (HAT.out.pl.below hb1) (HAT.out.st.below hb1) rfl rfl (by omega) (by omega))
      clear hb1 KC
      by_cases hv0 : v = 0
      · subst hv0
        go_wp2_with fail
        go_roundw
        case rel => exact ⟨k + 1, j, b, cc, L, by omega, by omega, by rw [HLK.out, HV.out, HJ.out]; simp, rfl, by go_num, HO1, Lib.hid (by rw [HLK.out, HV.out]; simpa using HW1.out), HB1⟩
        case measure => simp [intOf]; omega
      · have hv1 : (v == 0) = false := by simpa using hv0
        have hv2 : (v != 0) = true := by simpa using hv0
        go_wp2_with fail
        refine K.out.mono ?_
        rintro e w2 ⟨hb, g0, d0, g1, d1, rfl, hcw⟩
        have HB2 := Lib.hid (more HB1.out (Nat.le_refl _) hb)
        have HO2 := Lib.hid (World.ownsRow.alloc (ownsRow_below HO1.out hb) (.cells #[.slice (some ⟨g0, 0, none⟩) x.pl.length d0, .slice (some ⟨g1, 0, none⟩) x.st.length d1] 60))
        have hba := Below.alloc (Below.refl w2.heap.size w2) (Nat.le_refl _) (.cells #[.slice (some ⟨g0, 0, none⟩) x.pl.length d0, .slice (some ⟨g1, 0, none⟩) x.st.length d1] 60)
        have HW2 := Lib.hid ((HW1.out.below hb).below hba)
        have HC2 := Lib.hid ((hcw.mono HB1.out.size).below hba)
        have HB3 := Lib.hid (HB2.out.trans (hba.mono HB2.out.size))
        have HLL := Lib.hid (show L.length = (lackV (xs.take k) p).length * 2 by rw [HO.out.1, HJ.out])
        have HNW := Lib.hid (World.news_of_block (cs := #[.slice (some ⟨g0, 0, none⟩) x.pl.length d0, .slice (some ⟨g1, 0, none⟩) x.st.length d1]) (t := 60) (fr := (0, 0)) (heap_alloc_new w2 _))
        have hsz2 := HB2.out.size
        clear hb hcw e0 e1 hba
        go_wp2_with (at_builtin; refine wp_append_cells rfl (.tmp 22) (.tmp 28) rfl w.heap.size b cc j L rfl HO2.out ⟨w2.heap.size, 0, none⟩ 1 1 [.slice (some ⟨g0, 0, none⟩) x.pl.length d0, .slice (some ⟨g1, 0, none⟩) x.st.length d1] rfl rfl HNW.out (two_one _ _ rfl rfl) (by omega) (by simp; omega) ?_; intro b3 c3 w3 ho hgr HAT; have HO3 := Lib.hid ho; have HW3 := Lib.hid (StoW.append (HW2.out.grown hgr HO2.out) (StoW.one (HC2.out.grown hgr HO2.out)) HLL.out); have HB4 := Lib.hid (HB3.out.grown hgr HB3.out.size (fun k hk => by injection hk with hk; have := (World.ownsRow.lt HO2.out b rfl).1; omega)); clear ho hgr)
        go_roundw
        case rel => exact ⟨k + 1, j + 1, b3, c3, _, by omega, by omega, by rw [HLK.out, HV.out, if_pos hv0, List.length_append, ← HJ.out]; rfl, rfl, by go_num, HO3, Lib.hid (by rw [HLK.out, HV.out, if_pos hv0]; exact HW3.out), HB4⟩
        case measure => simp [intOf]; omega
    · obtain rfl : k = n := by omega
      have HT := Lib.hid (show xs.take k = xs by rw [List.take_of_length_le (by rw [HN.out]; exact Nat.le_refl _)])
      rw [HT.out] at HJ HW
      go_wp2_with fail
      go_ret
      exact ⟨HB.out, b, cc, L, by rw [← HJ.out]; rfl, by rw [← HJ.out]; exact HO.out, HW.out⟩
end Go.Proofs.Ytfdejmdhcjfboaa
