/- Effects compared with equal ones, copied by the laws. -/
import Derived.Test.YtegdpdafaimmoaaEff2
namespace Go.Proofs.Ytegdpdafaimmoaa
open Go.Joins Go.ChangeShapes Go.WideShapes Go.ChangeAt Go.RowKit Go.Deep
set_option linter.unusedVariables false
set_option linter.unusedSimpArgs false

set_option maxHeartbeats 1000000 in
theorem eqEffect_same (x : Ef) (A B : Option Addr) (c d : Nat) (w : World) (hx : SlL w A x.pl) (hy : SlL w B x.pl) (hl : x.pl.length ≤ maxLen) :
    Calls Try.prog 39 #[.agg #[.int .i64 x.k, .slice A x.pl.length c], .agg #[.int .i64 x.k, .slice B x.pl.length d]] w fun e w' => e = .returned (.bool true) ∧ Below w.heap.size w w' := by
  obtain ⟨k, hk⟩ : ∃ k, x.k = k := ⟨_, rfl⟩
  obtain ⟨n, hn⟩ : ∃ n, x.pl.length = n := ⟨_, rfl⟩
  have k1 := fun w h1 h2 => eqSlots_any A B c d x.pl x.pl w h1 h2 hl hl
  rw [eqSl_refl, hn] at k1
  have K := Lib.hid k1
  have HX := Lib.hid hx
  have HY := Lib.hid hy
  rw [hk, hn]
  clear k1 hx hy hl hk hn
  go_enter Try.func39, Try.ntmps39
  go_wp2_with fail
  refine (K.out _ (HX.out.below (by go_grown)) (HY.out.below (by go_grown))).mono ?_
  rintro e w1 ⟨rfl, hb⟩
  have HB := Lib.hid (more (W1 := _) (B := w.heap.size) (W0 := w) (by go_grown) (Nat.le_refl _) hb)
  clear hb
  go_wp2_with fail
  go_ret
  exact ⟨rfl, HB.out⟩
set_option maxHeartbeats 1000000 in
theorem eqEffects_same (A A' : Option Addr) (c c' n : Nat) (xs : List Ef) (w : World) (hx : EfL w A xs) (hy : EfL w A' xs) (hn : xs.length = n) (hl : n ≤ maxLen) :
    Calls Try.prog 13 #[.slice A n c, .slice A' n c'] w fun e w' => e = .returned (.bool true) ∧ Below w.heap.size w w' := by
  unfold maxLen at hl
  have HN := Lib.hid hn
  have HX := Lib.hid hx
  have HY := Lib.hid hy
  clear hx hy hn
  go_enter Try.func13, Try.ntmps13
  go_wp2_with fail
  go_loopw [5] (fun i w2 => ∃ k : Nat, k ≤ n ∧ i = .int .i64 k ∧ Below w.heap.size w w2) (fun i _ => n - (intOf i).toNat)
  case atStart => exact ⟨0, by omega, rfl, by go_grown⟩
  case round =>
    obtain ⟨k, hk, rfl, hB⟩ := hrel
    by_cases hlt : k < n
    · obtain ⟨b, off, rfl, hblt, hcell⟩ := (HX.out.below hB) (by have := HN.out; omega)
      obtain ⟨b', off', rfl, hblt', hcell'⟩ := (HY.out.below hB) (by have := HN.out; omega)
      obtain ⟨x, hx⟩ := at_some (show k < xs.length by rw [HN.out]; exact hlt)
      obtain ⟨A0, c0, e0, e1, hat, hc0, hm0⟩ := hcell k x hx
      obtain ⟨B0, d0, f0, f1, hat', hd0, _⟩ := hcell' k x hx
      have HA := Lib.hid hat
      have HA' := Lib.hid hat'
      have hs := fun w h1 h2 => eqEffect_same x A0 B0 c0 d0 w h1 h2 hm0
      have HS1 := Lib.hid hs
      clear hcell hx hcell' hat hat' hs
      have hi1 : (0 : Int) ≤ (k : Int) := by omega
      have hi2 : (k : Int) < (n : Int) := by omega
      go_wp2_with fail
      go_region_held3 (fun w' => w'.cell? ⟨b, off + k * 2, none⟩ = some (.int .i64 x.k) ∧ w'.cell? ⟨b, off + k * 2 + 1, none⟩ = some (.slice A0 x.pl.length c0) ∧ w'.cell? ⟨b', off' + k * 2, none⟩ = some (.int .i64 x.k) ∧ w'.cell? ⟨b', off' + k * 2 + 1, none⟩ = some (.slice B0 x.pl.length d0)) (go_keep) (first | (go_at_call 39; ((with_reducible refine (HS1.out _ (HA.out.below (by go_grown)) (HA'.out.below (by go_grown))).mono ?_); rintro e w' ⟨rfl, hb⟩); replace e0 := (hb.cell (p := ⟨b, _, none⟩) (by first | omega | (simp; done) | (simp; omega))).trans e0; replace e1 := (hb.cell (p := ⟨b, _, none⟩) (by first | omega | (simp; done) | (simp; omega))).trans e1; replace f0 := (hb.cell (p := ⟨b', _, none⟩) (by first | omega | (simp; done) | (simp; omega))).trans f0; replace f1 := (hb.cell (p := ⟨b', _, none⟩) (by first | omega | (simp; done) | (simp; omega))).trans f1; replace hB := more (W1 := _) (B := w.heap.size) (W0 := w) (by go_grown) (Nat.le_refl _) hb; clear hb))
      go_wp2_with fail
      go_roundw
      case rel => exact ⟨k + 1, by omega, by go_num, hB⟩
      case measure => simp [intOf]; omega
    · go_wp2_with fail
      go_ret
      exact ⟨rfl, hB⟩
theorem infoEf : (Try.prog.info? 55).map (fun i => (i.zero, i.size, i.bytes)) = some (some (.agg #[.int .i64 0, .slice none 0 0]), 2, 32) := by kernel_rfl
set_option maxRecDepth 100000 in
theorem toEffects_own (A : Option Addr) (c n : Nat) (xss : List Ef) (w : World) (hx : EfL w A xss) (hn : xss.length = n) (hl : n ≤ 1048576) (hs : ∀ x ∈ xss, x.pl.length ≤ 1048576) :
    Calls Try.prog 10 #[.slice A n c] w fun e w' => e = .returned (.slice (some ⟨w.heap.size, 0, none⟩) n n) ∧ EfsO w' w.heap.size w'.heap.size (some ⟨w.heap.size, 0, none⟩) n xss ∧ Below w.heap.size w w' := by
  have HN := Lib.hid hn
  have HX := Lib.hid hx
  have HS := Lib.hid hs
  clear hx hn hs
  obtain ⟨i0, hi, hz0, hz1, hz2⟩ := info_parts infoEf
  have HZ2 := Lib.hid hz2
  clear hz2
  go_enter Try.func10, Try.ntmps10
  go_wp2_with (at_make; refine wpList_make_full _ rfl _ _ 27 rfl w.heap.size 55 i0 (.agg #[.int .i64 0, .slice none 0 0]) 2 Try.underlying27 hi hz0 hz1 .i64 .i64 _ _ n rfl rfl rfl rfl (by rw [HZ2.out]; omega) (by unfold maxLen; omega) (Nat.le_refl _) ?_; rintro w1 hown hgrow)
  have hB1 : Below w.heap.size w w1 := grown_below hgrow
  have hg1 : w.heap.size < w1.heap.size := (hown.lt _ rfl).2
  have HO := Lib.hid hown
  clear hown hgrow hi hz0 hz1
  go_loopw [4] (fun i wr => ∃ (k : Nat) (L : List Value) (P Q : Nat → Nat), k ≤ n ∧ i = .int .i64 k ∧ wr.ownsRow w.heap.size 55 2 (.slice (some ⟨w.heap.size, 0, none⟩) n n) n L ∧ ApD EfV 2 wr (w.heap.size + 1) wr.heap.size w.heap.size L P Q (xss.take k) ∧ Below w.heap.size w wr) (fun i _ => n - (intOf i).toNat)
  case atStart => exact ⟨0, _, _, _, by omega, rfl, HO.out, ApD.zero, hB1⟩
  case round =>
    obtain ⟨k, L, P, Q, hk, rfl, hown, hces, hB⟩ := hrel
    have HC := Lib.hid hces
    have HO2 := Lib.hid hown
    have hgl : w.heap.size < wr.heap.size := (hown.lt _ rfl).2
    clear hces hown
    by_cases hlt : k < n
    · obtain ⟨b, off, rfl, hblt, hcell⟩ := (HX.out.below hB) (by have := HN.out; omega)
      obtain ⟨x, hx⟩ := at_some (show k < xss.length by rw [HN.out]; exact hlt)
      obtain ⟨A0, c0, e0, e1, hat, hc0, hm0⟩ := hcell k x hx
      have hsz := HS.out x (List.mem_of_getElem? hx)
      have hs := toEffect_own A0 x.pl.length c0 x wr hat rfl hsz
      have HXK := Lib.hid hx
      clear hcell hx hat hsz
      go_wp2_with fail
      refine hs.mono ?_
      rintro e w2 ⟨Z, rfl, hce, hb⟩
      have hO3 := ownsRow_below HO2.out hb
      have hLl : L.length = n * 2 := hO3.1
      obtain ⟨u0, d0⟩ : ∃ u, w2.cell? ⟨w.heap.size, k * 2, none⟩ = some u := ⟨_, (hO3.cellAt (k * 2) (by omega)).trans (List.getElem?_eq_getElem (show k * 2 < L.length by omega))⟩
      obtain ⟨u1, d1⟩ : ∃ u, w2.cell? ⟨w.heap.size, k * 2 + 1, none⟩ = some u := ⟨_, (hO3.cellAt (k * 2 + 1) (by omega)).trans (List.getElem?_eq_getElem (show k * 2 + 1 < L.length by omega))⟩
      have f0 := hO3.frozenAt (k * 2)
      have f1 := hO3.frozenAt (k * 2 + 1)
      have HO3 := Lib.hid hO3
      have HLl := Lib.hid hLl
      have HB2 := Lib.hid (more hB (Nat.le_refl _) hb)
      have HC2 := Lib.hid hce
      have hb2 := hb
      have HBB := Lib.hid hb2
      clear hb2
      clear hO3 hLl hb hs e0 e1 hce
      go_wp2_with fail
      obtain ⟨s1, q1⟩ := HO3.out.stored (k * 2) (.int .i64 x.k)
      obtain ⟨s2, q2⟩ := s1.stored (k * 2 + 1) (.slice (some Z) x.pl.length x.pl.length)
      go_roundw
      case rel =>
        have ht3 : Turn w.heap.size (w.heap.size + 1) w2 ((w2.setCell ⟨w.heap.size, k * 2, none⟩ (.int .i64 x.k)).setCell ⟨w.heap.size, k * 2 + 1, none⟩ (.slice (some Z) x.pl.length x.pl.length)) := (turn_set w2 ⟨w.heap.size, k * 2, none⟩ _).trans (turn_set _ ⟨w.heap.size, k * 2 + 1, none⟩ _)
        have hsz3 : ((w2.setCell ⟨w.heap.size, k * 2, none⟩ (.int .i64 x.k)).setCell ⟨w.heap.size, k * 2 + 1, none⟩ (.slice (some Z) x.pl.length x.pl.length)).heap.size = w2.heap.size := by simp [World.setCell]
        have hsb := HBB.out.size
        refine ⟨k + 1, _, _, _, by omega, by go_num, s2, ApD.more EfV.turn HC.out HXK.out (cs := [(.int .i64 x.k), (.slice (some Z) x.pl.length x.pl.length)]) rfl (fun i hi => ?_) (fun i u hu => ?_) hgl hgl ((Turn.of_below HBB.out).trans ht3) ⟨_, _, rfl, HC2.out.turn ht3 (.inr (by omega))⟩ hsb (by rw [hsz3]; exact Nat.le_refl _), (HB2.out.setCell (Nat.le_refl _) _).setCell (Nat.le_refl _) _⟩
        · rw [List.getElem?_set_ne (by omega), List.getElem?_set_ne (by omega)]
        · match i, hu with
          | 0, hu =>
            simp at hu
            subst hu
            show (List.set (List.set L (k * 2) _) (k * 2 + 1) _)[k * 2]? = _
            rw [List.getElem?_set_ne (by omega), List.getElem?_set_self (by have := HLl.out; omega)]
          | 1, hu =>
            simp at hu
            subst hu
            rw [List.getElem?_set_self (by rw [List.length_set]; have := HLl.out; omega)]
          | i + 2, hu => simp at hu
      case measure => simp [intOf]; omega
    · obtain rfl : k = n := by omega
      go_wp2_with fail
      go_ret
      refine ⟨rfl, fun h0 => ⟨w.heap.size, L, P, Q, rfl, Nat.le_refl _, hgl, ?_, ?_⟩, hB⟩
      · rw [HN.out]; exact World.ownsRow.mono HO2.out (Nat.zero_le _)
      · have hd := HC.out
        rw [List.take_of_length_le (by rw [HN.out]; exact Nat.le_refl _)] at hd
        exact ⟨hd.row, fun i hi => by have := hd.inn i hi; omega, hd.apart⟩
end Go.Proofs.Ytegdpdafaimmoaa
