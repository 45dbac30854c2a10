/- Stores: a cell put into a store, in the document's own text. -/
import Derived.Test.YtfdejmdhcjfboaaCpy2
namespace Go.Proofs.Ytfdejmdhcjfboaa
open Go.Joins Go.ChangeShapes Go.WideShapes Go.ChangeAt Go.RowKit Go.Deep
set_option linter.unusedVariables false
set_option linter.unusedSimpArgs false

/-- A cell's states put into a store. -/
def putS (xs : List Ce) (x : Ce) : List Ce := xs.take (atS xs x.pl) ++ [x] ++ xs.drop (if hasS xs x.pl = true then atS xs x.pl + 1 else atS xs x.pl)
theorem hasS_lt {xs : List Ce} {p : List Sl} (h : hasS xs p = true) : atS xs p < xs.length := by
  unfold hasS at h
  split at h
  · rename_i x hx
    exact (List.getElem?_eq_some_iff.1 hx).1
  · cases h
theorem SmallC.take {xs : List Ce} (h : SmallC xs) (k : Nat) : SmallC (xs.take k) := fun x hx => h x (List.mem_of_mem_take hx)
theorem SmallC.drop {xs : List Ce} (h : SmallC xs) (k : Nat) : SmallC (xs.drop k) := fun x hx => h x (List.mem_of_mem_drop hx)
theorem CeN.dropA {w : World} {b : Nat} {xs : List Ce} (h : CeN w (some ⟨b, 0, none⟩) xs) (k : Nat) (A : Option Addr) (hA : k < xs.length → A = some ⟨b, k * 2, none⟩) : CeN w A (xs.drop k) := fun h0 => by
  have hl : k < xs.length := by rw [List.length_drop] at h0; omega
  obtain ⟨b', off, he, hlt, hc⟩ := h (by omega)
  simp only [Option.some.injEq, Addr.mk.injEq, and_true] at he
  obtain ⟨rfl, rfl⟩ := he
  refine ⟨b, k * 2, hA hl, hlt, fun i x hx => ?_⟩
  rw [List.getElem?_drop] at hx
  have := hc (k + i) x hx
  rw [show 0 + (k + i) * 2 = k * 2 + i * 2 by omega] at this
  exact this
theorem StoW.ones {w : World} {lo : Nat} {L : List Value} {xs : List Ce} (h : StoW w lo L xs) (hl : L.length = xs.length * 2) : ∀ u ∈ L, u.oneCell' = true := by
  intro u hu
  obtain ⟨j, hj⟩ := List.getElem?_of_mem hu
  have hlt := (List.getElem?_eq_some_iff.1 hj).1
  obtain ⟨x, hx⟩ := at_some (show j / 2 < xs.length by omega)
  obtain ⟨g0, c0, g1, c1, h0, h1, _⟩ := h _ x hx
  rcases (by omega : j = j / 2 * 2 ∨ j = j / 2 * 2 + 1) with e | e
  · rw [← e, hj] at h0; injection h0 with h0; subst h0; rfl
  · rw [← e, hj] at h1; injection h1 with h1; subst h1; rfl

set_option maxHeartbeats 2000000 in
theorem put_any (b c n p o c0 q r c1 k : Nat) (hh : Bool) (xs : List Ce) (x : Ce) (w : World) (hx : CeN w (some ⟨b, 0, none⟩) xs) (hn : xs.length = n) (hc : n ≤ c) (hl : n ≤ 1000) (hs : SmallC xs)
    (hp : SlL w (some ⟨p, o, none⟩) x.pl) (hv : VaL w (some ⟨q, r, none⟩) x.st) (h0 : x.pl.length ≤ 1000) (h1 : x.st.length ≤ 1000) (hk : atS xs x.pl = k) (hhe : hasS xs x.pl = hh) :
    Calls Try.prog 80 #[.slice (some ⟨b, 0, none⟩) n c, .agg #[.slice (some ⟨p, o, none⟩) x.pl.length c0, .slice (some ⟨q, r, none⟩) x.st.length c1]] w (StoreX (putS xs x) w) := by
  have hle : k ≤ n := by rw [← hk, ← hn]; exact atS_le xs x.pl
  have hlt : hh = true → k < n := fun e => by rw [← hk, ← hn]; exact hasS_lt (by rw [hhe, e])
  have HB0 := Lib.hid (Below.alloc (Below.refl w.heap.size w) (Nat.le_refl _) (.cells #[.slice (some ⟨p, o, none⟩) x.pl.length c0, .slice (some ⟨q, r, none⟩) x.st.length c1] 60))
  have HX0 := Lib.hid hx
  have HX := Lib.hid (hx.below HB0.out)
  have HP := Lib.hid (hp.below HB0.out)
  have HV := Lib.hid (hv.below HB0.out)
  have HN := Lib.hid hn
  have HS := Lib.hid hs
  have HK := Lib.hid hk
  have HH := Lib.hid hhe
  have K1 := Lib.hid (cellAt_any (some ⟨b, 0, none⟩) (some ⟨p, o, none⟩) c c0 n _ xs x.pl _ HX.out.cel HP.out hn rfl (by unfold maxLen; omega) (by unfold maxLen; omega))
  rw [hk, hhe] at K1
  clear hx hp hv hn hs hk hhe
  go_enter Try.func80, Try.ntmps80
  go_wp2_with fail
  refine K1.out.mono ?_
  rintro e w1 ⟨rfl, hb1⟩
  have q0 : w1.cell? ⟨w.heap.size, 0, none⟩ = some (.slice (some ⟨p, o, none⟩) x.pl.length c0) := (hb1.cell (p := ⟨w.heap.size, 0, none⟩) (by simp)).trans (by go_simp)
  have q1 : w1.cell? ⟨w.heap.size, 1, none⟩ = some (.slice (some ⟨q, r, none⟩) x.st.length c1) := (hb1.cell (p := ⟨w.heap.size, 1, none⟩) (by simp)).trans (by go_simp)
  have HB1 := Lib.hid (HB0.out.trans (hb1.mono (by simp)))
  have HX1 := Lib.hid (HX.out.below hb1)
  have HP1 := Lib.hid (HP.out.below hb1)
  have HV1 := Lib.hid (HV.out.below hb1)
  have hz1 := hb1.size
  simp at hz1
  clear hb1 K1
  have K2 := Lib.hid (copyStore_any (some ⟨b, 0, none⟩) c k (xs.take k) w1 (HX1.out.take k) (by rw [List.length_take, HN.out]; omega) (by omega) (HS.out.take k))
  go_wp2_with fail
  refine K2.out.mono ?_
  rintro e w2 ⟨hb2, b2, c2, L, rfl, ho2, hw2⟩
  have HTL : (xs.take k).length = k := by rw [List.length_take, HN.out]; omega
  rw [HTL] at ho2 ⊢
  have q2 : w2.cell? ⟨w.heap.size, 0, none⟩ = some (.slice (some ⟨p, o, none⟩) x.pl.length c0) := (hb2.cell (p := ⟨w.heap.size, 0, none⟩) (by show w.heap.size < _; omega)).trans q0
  have q3 : w2.cell? ⟨w.heap.size, 1, none⟩ = some (.slice (some ⟨q, r, none⟩) x.st.length c1) := (hb2.cell (p := ⟨w.heap.size, 1, none⟩) (by show w.heap.size < _; omega)).trans q1
  have HB2 := Lib.hid (HB1.out.trans (hb2.mono HB1.out.size))
  have HO2 := Lib.hid (World.ownsRow.mono ho2 HB1.out.size)
  have HW2 := Lib.hid (hw2.mono HB1.out.size)
  have K3 := Lib.hid (copyCell_any p o q r c0 c1 _ _ x w2 (HP1.out.below hb2) (HV1.out.below hb2) rfl rfl (by omega) (by omega))
  have hz2 := hb2.size
  have HTK := Lib.hid HTL
  clear hb2 ho2 hw2 K2 q0 q1 HTL
  go_wp2_with fail
  refine K3.out.mono ?_
  rintro e w3 ⟨hb, g0, d0, g1, d1, rfl, hcw⟩
  have HB3 := Lib.hid (HB2.out.trans (hb.mono HB2.out.size))
  have HO3 := Lib.hid (World.ownsRow.alloc (ownsRow_below HO2.out hb) (.cells #[.slice (some ⟨g0, 0, none⟩) x.pl.length d0, .slice (some ⟨g1, 0, none⟩) x.st.length d1] 60))
  have hba := Below.alloc (Below.refl w3.heap.size w3) (Nat.le_refl _) (.cells #[.slice (some ⟨g0, 0, none⟩) x.pl.length d0, .slice (some ⟨g1, 0, none⟩) x.st.length d1] 60)
  have HW3 := Lib.hid ((HW2.out.below hb).below hba)
  have HC3 := Lib.hid ((hcw.mono HB2.out.size).below hba)
  have HB3a := Lib.hid (HB3.out.trans (hba.mono HB3.out.size))
  have HLL := Lib.hid (show L.length = (xs.take k).length * 2 by rw [HO2.out.1, HTK.out])
  have HNW := Lib.hid (World.news_of_block (cs := #[.slice (some ⟨g0, 0, none⟩) x.pl.length d0, .slice (some ⟨g1, 0, none⟩) x.st.length d1]) (t := 60) (fr := (0, 0)) (heap_alloc_new w3 _))
  have hsz3 := HB3.out.size
  clear hb hcw hba K3
  cases hh
  · skip
    have HPUT := Lib.hid (show putS xs x = xs.take k ++ [x] ++ xs.drop (k) by unfold putS; rw [HK.out, HH.out]; rfl)
    clear hlt
    go_wp2_with (at_builtin; refine wp_append_cells rfl (.tmp 19) (.tmp 22) rfl w.heap.size b2 c2 k L rfl HO3.out ⟨w3.heap.size, 0, none⟩ 1 1 [.slice (some ⟨g0, 0, none⟩) x.pl.length d0, .slice (some ⟨g1, 0, none⟩) x.st.length d1] rfl rfl HNW.out (two_one _ _ rfl rfl) (by omega) (by simp; omega) ?_; intro b3 c3 w4 ho hgr HAT; have HO4 := Lib.hid ho; have HW4 := Lib.hid (StoW.append (HW3.out.grown hgr HO3.out) (StoW.one (HC3.out.grown hgr HO3.out)) HLL.out); have HB4 := Lib.hid (HB3a.out.grown hgr HB3a.out.size (fun k hk => by injection hk with hk; have := (World.ownsRow.lt HO3.out b2 rfl).1; omega)); clear ho hgr HAT)
    all_goals
      have HX4 := Lib.hid (HX0.out.below HB4.out)
      refine (copyStore_any _ _ _ (xs.drop (k)) w4 (HX4.out.dropA (k) _ (by intro h; first | rfl | (exfalso; have := HN.out; omega))) (by rw [List.length_drop, HN.out]) (by omega) (HS.out.drop (k))).mono ?_
      rintro e w5 ⟨hb5, b5, c5, L5, rfl, ho5, hw5⟩
      have hdl : (xs.drop (k)).length = n - (k) := by rw [List.length_drop, HN.out]
      rw [hdl] at ho5 ⊢
      have HB5 := Lib.hid (HB4.out.trans (hb5.mono HB4.out.size))
      have HO5 := Lib.hid (ownsRow_below HO4.out hb5)
      have HW5 := Lib.hid (HW4.out.below hb5)
      have HL5 := Lib.hid (show L5.length = (n - (k)) * 2 from ho5.1)
      have HC5 := Lib.hid (World.ownsRow.cells ho5 rfl)
      have HV5 := Lib.hid (hw5.mono HB4.out.size)
      have HU5 := Lib.hid (hw5.ones (by rw [ho5.1, hdl]))
      have HL6 := Lib.hid (show (L ++ ([.slice (some ⟨g0, 0, none⟩) x.pl.length d0, .slice (some ⟨g1, 0, none⟩) x.st.length d1] : List Value)).length = (xs.take k ++ [x]).length * 2 by rw [List.length_append, List.length_append, HLL.out]; simp; omega)
      have HLP := Lib.hid (show (putS xs x).length = k + 1 + (n - (k)) by rw [HPUT.out, List.length_append, List.length_append, hdl, HTK.out]; rfl)
      have hz5 := HB5.out.size
      clear hb5 ho5 hw5 hdl
      go_wp2_with (at_builtin; refine wp_append_cells rfl (.tmp 27) (.tmp 31) rfl w.heap.size b3 c3 (k + 1) (L ++ ([.slice (some ⟨g0, 0, none⟩) x.pl.length d0, .slice (some ⟨g1, 0, none⟩) x.st.length d1] : List Value)) rfl HO5.out ⟨b5, 0, none⟩ c5 (n - (k)) L5 rfl HL5.out HC5.out HU5.out (by omega) (by omega) ?_; intro b6 c6 w6 ho hgr HAT; have HO6 := Lib.hid ho; have HW6 := Lib.hid (StoW.append (HW5.out.grown hgr HO5.out) (HV5.out.grown hgr HO5.out) HL6.out); have HB6 := Lib.hid (HB5.out.grown hgr HB5.out.size (fun k hk => by injection hk with hk; have := (World.ownsRow.lt HO5.out b3 rfl).1; omega)); clear ho hgr HAT)
      go_ret
      refine ⟨HB6.out, b6, c6, L ++ ([.slice (some ⟨g0, 0, none⟩) x.pl.length d0, .slice (some ⟨g1, 0, none⟩) x.st.length d1] : List Value) ++ L5, by rw [HLP.out]; rfl, ?_, ?_⟩
      · rw [HLP.out]; exact HO6.out
      · rw [HPUT.out]; exact HW6.out
  · have hlt2 := hlt rfl
    have HPUT := Lib.hid (show putS xs x = xs.take k ++ [x] ++ xs.drop (k + 1) by unfold putS; rw [HK.out, HH.out]; rfl)
    clear hlt
    go_wp2_with (at_builtin; refine wp_append_cells rfl (.tmp 19) (.tmp 22) rfl w.heap.size b2 c2 k L rfl HO3.out ⟨w3.heap.size, 0, none⟩ 1 1 [.slice (some ⟨g0, 0, none⟩) x.pl.length d0, .slice (some ⟨g1, 0, none⟩) x.st.length d1] rfl rfl HNW.out (two_one _ _ rfl rfl) (by omega) (by simp; omega) ?_; intro b3 c3 w4 ho hgr HAT; have HO4 := Lib.hid ho; have HW4 := Lib.hid (StoW.append (HW3.out.grown hgr HO3.out) (StoW.one (HC3.out.grown hgr HO3.out)) HLL.out); have HB4 := Lib.hid (HB3a.out.grown hgr HB3a.out.size (fun k hk => by injection hk with hk; have := (World.ownsRow.lt HO3.out b2 rfl).1; omega)); clear ho hgr HAT)
    all_goals
      have HX4 := Lib.hid (HX0.out.below HB4.out)
      refine (copyStore_any _ _ _ (xs.drop (k + 1)) w4 (HX4.out.dropA (k + 1) _ (by intro h; first | rfl | (exfalso; have := HN.out; omega))) (by rw [List.length_drop, HN.out]) (by omega) (HS.out.drop (k + 1))).mono ?_
      rintro e w5 ⟨hb5, b5, c5, L5, rfl, ho5, hw5⟩
      have hdl : (xs.drop (k + 1)).length = n - (k + 1) := by rw [List.length_drop, HN.out]
      rw [hdl] at ho5 ⊢
      have HB5 := Lib.hid (HB4.out.trans (hb5.mono HB4.out.size))
      have HO5 := Lib.hid (ownsRow_below HO4.out hb5)
      have HW5 := Lib.hid (HW4.out.below hb5)
      have HL5 := Lib.hid (show L5.length = (n - (k + 1)) * 2 from ho5.1)
      have HC5 := Lib.hid (World.ownsRow.cells ho5 rfl)
      have HV5 := Lib.hid (hw5.mono HB4.out.size)
      have HU5 := Lib.hid (hw5.ones (by rw [ho5.1, hdl]))
      have HL6 := Lib.hid (show (L ++ ([.slice (some ⟨g0, 0, none⟩) x.pl.length d0, .slice (some ⟨g1, 0, none⟩) x.st.length d1] : List Value)).length = (xs.take k ++ [x]).length * 2 by rw [List.length_append, List.length_append, HLL.out]; simp; omega)
      have HLP := Lib.hid (show (putS xs x).length = k + 1 + (n - (k + 1)) by rw [HPUT.out, List.length_append, List.length_append, hdl, HTK.out]; rfl)
      have hz5 := HB5.out.size
      clear hb5 ho5 hw5 hdl
      go_wp2_with (at_builtin; refine wp_append_cells rfl (.tmp 27) (.tmp 31) rfl w.heap.size b3 c3 (k + 1) (L ++ ([.slice (some ⟨g0, 0, none⟩) x.pl.length d0, .slice (some ⟨g1, 0, none⟩) x.st.length d1] : List Value)) rfl HO5.out ⟨b5, 0, none⟩ c5 (n - (k + 1)) L5 rfl HL5.out HC5.out HU5.out (by omega) (by omega) ?_; intro b6 c6 w6 ho hgr HAT; have HO6 := Lib.hid ho; have HW6 := Lib.hid (StoW.append (HW5.out.grown hgr HO5.out) (HV5.out.grown hgr HO5.out) HL6.out); have HB6 := Lib.hid (HB5.out.grown hgr HB5.out.size (fun k hk => by injection hk with hk; have := (World.ownsRow.lt HO5.out b3 rfl).1; omega)); clear ho hgr HAT)
      go_ret
      refine ⟨HB6.out, b6, c6, L ++ ([.slice (some ⟨g0, 0, none⟩) x.pl.length d0, .slice (some ⟨g1, 0, none⟩) x.st.length d1] : List Value) ++ L5, by rw [HLP.out]; rfl, ?_, ?_⟩
      · rw [HLP.out]; exact HO6.out
      · rw [HPUT.out]; exact HW6.out
end Go.Proofs.Ytfdejmdhcjfboaa
