/- Trees: the way to the part with a number, by the document's PartWay. -/
import Derived.Test.YtpkhpaioddommaaDoorWy2
namespace Go.Proofs.YtpkhpaioddommaaDoor
open Go.Joins Go.ChangeShapes Go.WideShapes Go.ChangeAt Go.RowKit Go.Deep
set_option linter.unusedVariables false
set_option linter.unusedSimpArgs false

theorem wayP_is {t : Tr} (h : treeOkB t = true) (n : Int) : wayP t n = if 0 ≤ n ∧ n ≤ (sizeT t : Int) - 1 then wayN t n.toNat else none := by
  unfold wayP wayN
  rw [h]
  by_cases h0 : 0 ≤ n
  · rw [if_pos ⟨rfl, h0⟩]
    by_cases h1 : n ≤ (sizeT t : Int) - 1
    · rw [if_pos ⟨h0, h1⟩]
    · rw [if_neg (by omega), List.getElem?_eq_none (by rw [partsT_length]; omega)]
      rfl
  · rw [if_neg (by omega), if_neg (by omega)]
set_option maxRecDepth 100000 in
set_option maxHeartbeats 2000000 in
theorem sPartWay_any (t : Tr) (hsm : SmT t) (n : Int) : ∀ (A0 A1 : Option Addr) (c0 c1 : Nat) (w : World), PrL w A0 t.ps → TrL w 0 A1 t.ks →
    Calls Tryd.prog 35 #[.agg #[.int .i64 t.tag, .int .i64 t.key, .string t.text, .slice A0 t.ps.length c0, .slice A1 t.ks.length c1], .int .i64 n] w (WyX t n w) := by
  intro A0 A1 c0 c1 w hp hk
  have k1 := fun w hp hk => svalidTree_any t hsm A0 A1 c0 c1 w hp hk
  have k2 := fun (hok : treeOkB t = true) w (hk : TrL w 0 A1 t.ks) => show Calls Tryd.prog 49 #[.agg #[.int .i64 t.tag, .int .i64 t.key, .string t.text, .slice A0 t.ps.length c0, .slice A1 t.ks.length c1], .int .i64 1] w fun e w' => e = .returned (.int .i64 (sizeT t : Nat)) ∧ Below w.heap.size w w' by
    have := streeSize_any t hsm 1 A0 A1 c0 c1 w hk (by omega)
    rw [valid_size hok] at this
    exact this
  have k3 := fun (hok : treeOkB t = true) (m : Nat) w hk hm => wayTo_any t hsm hok A0 A1 c0 c1 m w hk hm
  have h200 : treeOkB t = true → sizeT t ≤ 200 := size_le200
  have hv : wayP t n = if treeOkB t = true then (if 0 ≤ n ∧ n ≤ (sizeT t : Int) - 1 then wayN t n.toNat else none) else none := by
    by_cases h : treeOkB t = true
    · rw [if_pos h, wayP_is h]
    · rw [if_neg h]; unfold wayP; rw [if_neg (fun h' => h h'.1)]
  unfold WyX
  obtain ⟨Q, hQ⟩ : ∃ Q, wayP t n = Q := ⟨_, rfl⟩
  rw [hQ]
  rw [hQ] at hv
  clear hQ
  unfold WtX at k3
  generalize treeOkB t = v at k1 k2 k3 h200 hv
  generalize wayN t = wn at k3 hv
  generalize sizeT t = sz at k2 k3 h200 hv
  have HQ := Lib.hid hv
  clear hv
  have S0 := Lib.hid (fun z a b w => (inRange_any z a b w).mono (fun e w' h => And.intro h.1 h.2.symm))
  obtain ⟨tag, key, text, ps, ks⟩ := t
  dsimp only [Tr.tag, Tr.key, Tr.text, Tr.ps, Tr.ks] at k1 k2 k3 hp hk ⊢
  generalize ps.length = np at *
  generalize ks.length = nk at *
  have hb0 := Below.alloc (Below.refl w.heap.size w) (Nat.le_refl _) (.cells #[.int .i64 tag, .int .i64 key, .string text, .slice A0 np c0, .slice A1 nk c1] 26)
  have HB0 := Lib.hid hb0
  have HP := Lib.hid (hp.below hb0)
  have HK := Lib.hid (hk.below hb0)
  have K1 := Lib.hid k1
  have K2 := Lib.hid k2
  have K3 := Lib.hid k3
  have H200 := Lib.hid h200
  clear hp hk k1 k2 k3 hb0 h200
  cases v
  · go_enter Tryd.func35, Tryd.ntmps35
    go_wp2_with fail
    refine (K1.out _ HP.out HK.out).mono ?_
    rintro e w1 ⟨rfl, hb⟩
    have HB1 := Lib.hid (more HB0.out (Nat.le_refl _) hb)
    clear hb
    go_wp2_with fail
    go_ret2
    refine ⟨HB1.out, Or.inl ⟨?_, rfl⟩⟩
    have := HQ.out
    rwa [if_neg (by simp)] at this
  · have hs200 := H200.out (by trivial)
    go_enter Tryd.func35, Tryd.ntmps35
    go_wp2_with fail
    refine (K1.out _ HP.out HK.out).mono ?_
    rintro e w1 ⟨rfl, hb⟩
    have HB1 := Lib.hid (more HB0.out (Nat.le_refl _) hb)
    have HK1 := Lib.hid (HK.out.below hb)
    have hsz : w.heap.size < w1.heap.size := by have := hb.size; simp at this; omega
    have o0 := (hb.cell (p := ⟨w.heap.size, 0, none⟩) (by simp)).trans (by rw [World.cell?_alloc_new]; rfl : _ = some (.int .i64 tag))
    have o1 := (hb.cell (p := ⟨w.heap.size, 1, none⟩) (by simp)).trans (by rw [World.cell?_alloc_new]; rfl : _ = some (.int .i64 key))
    have o2 := (hb.cell (p := ⟨w.heap.size, 2, none⟩) (by simp)).trans (by rw [World.cell?_alloc_new]; rfl : _ = some (.string text))
    have o3 := (hb.cell (p := ⟨w.heap.size, 3, none⟩) (by simp)).trans (by rw [World.cell?_alloc_new]; rfl : _ = some (.slice A0 np c0))
    have o4 := (hb.cell (p := ⟨w.heap.size, 4, none⟩) (by simp)).trans (by rw [World.cell?_alloc_new]; rfl : _ = some (.slice A1 nk c1))
    clear hb
    have K2' := Lib.hid (K2.out (by trivial))
    go_wp2_with fail
    refine (K2'.out _ HK1.out).mono ?_
    rintro e w2 ⟨rfl, hb⟩
    have HB2 := Lib.hid (more HB1.out (Nat.le_refl _) hb)
    have HK2 := Lib.hid (HK1.out.below hb)
    replace o0 := (hb.cell (p := ⟨w.heap.size, 0, none⟩) hsz).trans o0
    replace o1 := (hb.cell (p := ⟨w.heap.size, 1, none⟩) hsz).trans o1
    replace o2 := (hb.cell (p := ⟨w.heap.size, 2, none⟩) hsz).trans o2
    replace o3 := (hb.cell (p := ⟨w.heap.size, 3, none⟩) hsz).trans o3
    replace o4 := (hb.cell (p := ⟨w.heap.size, 4, none⟩) hsz).trans o4
    replace hsz := Nat.lt_of_lt_of_le hsz hb.size
    clear hb HK1 HB1
    have hw1 : IntKind.i64.wrap ((sz : Int) - 1) = (sz : Int) - 1 := wrapI (by omega) (by omega)
    by_cases hin : 0 ≤ n ∧ n ≤ (sz : Int) - 1
    · obtain ⟨m, rfl⟩ : ∃ m : Nat, n = (m : Int) := ⟨n.toNat, by omega⟩
      have S1 := Lib.hid (fun w => (show Calls Tryd.prog 66 #[.int .i64 m, .int .i64 0, .int .i64 ((sz : Int) - 1)] w fun e w' => e = .returned (.bool true) ∧ w = w' by have := inRange_any m 0 ((sz : Int) - 1) w; rwa [decide_eq_true hin] at this))
      have K3' := Lib.hid (fun w hk => K3.out (by trivial) m w hk (by omega))
      have hif : (if 0 ≤ (m : Int) ∧ (m : Int) ≤ (sz : Int) - 1 then wn ((m : Int)).toNat else none) = wn m := by rw [if_pos hin]; rfl
      have hq := HQ.out
      rw [if_pos trivial, hif] at hq
      have HQ' := Lib.hid hq
      clear hq
      clear hin hif S0
      go_wp2_with fail
      refine (S1.out _).mono ?_
      rintro e w3 ⟨rfl, rfl⟩
      go_wp2_with fail
      refine (K3'.out _ HK2.out).mono ?_
      rintro e w3 ⟨way, g, c, z, rfl, hwy, _, hrow, hb⟩
      have HB3 := Lib.hid (more HB2.out (Nat.le_refl _) hb)
      have HWY := Lib.hid hwy
      have HRW := Lib.hid hrow
      have hle : w.heap.size ≤ w2.heap.size := HB2.out.size
      clear hb hwy hrow
      go_wp2_with fail
      go_ret2
      exact ⟨HB3.out, Or.inr ⟨way, some ⟨g, 0, none⟩, c, HQ'.out.trans HWY.out, rfl, row_mono HRW.out hle⟩⟩
    · have S1 := Lib.hid (fun w => (show Calls Tryd.prog 66 #[.int .i64 n, .int .i64 0, .int .i64 ((sz : Int) - 1)] w fun e w' => e = .returned (.bool false) ∧ w = w' by have := inRange_any n 0 ((sz : Int) - 1) w; rwa [decide_eq_false hin] at this))
      have hq := HQ.out
      rw [if_pos trivial, if_neg hin] at hq
      have HQ' := Lib.hid hq
      clear hq
      clear hin S0
      go_wp2_with fail
      refine (S1.out _).mono ?_
      rintro e w3 ⟨rfl, rfl⟩
      go_wp2_with fail
      go_ret2
      exact ⟨HB2.out, Or.inl ⟨HQ'.out, rfl⟩⟩
end Go.Proofs.YtpkhpaioddommaaDoor
