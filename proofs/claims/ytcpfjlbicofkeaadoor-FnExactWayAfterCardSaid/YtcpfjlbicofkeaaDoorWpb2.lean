/- The document's partners. -/
import Derived.Test.YtcpfjlbicofkeaaDoorWpb1
import Derived.Shelf.RegionOpenPlain
namespace Go.Proofs.YtcpfjlbicofkeaaDoor
open Go.Joins Go.ChangeShapes Go.WideShapes Go.ChangeAt Go.RowKit Go.Deep
set_option linter.unusedVariables false
set_option linter.unusedSimpArgs false

theorem infoBool : (Tryd.prog.info? 4).map (fun i => (i.zero, i.size, i.bytes)) = some (some (.bool false), 1, 1) := by kernel_rfl
def boolV (n : Nat) (tk : List Nat) : List Value := (List.range n).map (fun j => Value.bool (tk.contains j))
theorem boolV_len (n : Nat) (tk : List Nat) : (boolV n tk).length = n := by simp [boolV]
theorem boolV_at {n j : Nat} (tk : List Nat) (h : j < n) : (boolV n tk)[j]? = some (.bool (tk.contains j)) := by
  unfold boolV
  rw [List.getElem?_map, List.getElem?_range h]
  rfl
theorem boolV_set (n p : Nat) (tk : List Nat) : (boolV n tk).set p (.bool true) = boolV n (p :: tk) := by
  refine List.ext_getElem? (fun i => ?_)
  rw [List.getElem?_set]
  by_cases hi : i < n
  · rw [boolV_at _ hi, boolV_at _ hi, boolV_len]
    by_cases h : p = i
    · subst h
      simp [hi]
    · rw [if_neg h]
      simp only [List.contains_cons]
      rw [show (i == p) = false by simpa using fun e => h e.symm]
      rfl
  · have e1 : (boolV n tk)[i]? = none := List.getElem?_eq_none (by rw [boolV_len]; omega)
    have e2 : (boolV n (p :: tk))[i]? = none := List.getElem?_eq_none (by rw [boolV_len]; omega)
    rw [e1, e2]
    split
    · rename_i h
      rw [boolV_len, if_neg (by omega)]
    · rfl
theorem boolV_made (n : Nat) : (madeCells (Value.bool false).cells (n * 1)).toList = boolV n [] := by
  refine List.ext_getElem? (fun i => ?_)
  unfold madeCells boolV
  rw [Nat.mul_one]
  simp [Value.cells, Nat.mod_one]
theorem kin_at {a : List Tr} {j : Nat} {x : Tr} (h : a[j]? = some x) : (a.map kin)[j]? = some (kin x) := by rw [List.getElem?_map, h]; rfl
theorem map_drop_cons {b : List Tr} {k : Nat} {y : Tr} (h : b[k]? = some y) : (b.map kin).drop k = kin y :: (b.map kin).drop (k + 1) := by
  obtain ⟨hk, e⟩ := List.getElem?_eq_some_iff.1 (kin_at h)
  rw [List.drop_eq_getElem_cons hk, e]
set_option maxRecDepth 100000 in
set_option maxHeartbeats 4000000 in
theorem spartners_any (a b : List Tr) (n m : Nat) (hn : a.length = n) (hm : b.length = m) (hl : n ≤ 1000) (hl2 : m ≤ 1000) (A B : Option Addr) (c d : Nat) (w : World) (ha : TrL w 0 A a) (hb : TrL w 0 B b) :
    Calls Tryd.prog 43 #[.slice A n c, .slice B m d] w (PrtX (prtT a b) w) := by
  have HN := Lib.hid hn
  have HM := Lib.hid hm
  have HA := Lib.hid ha
  have HB := Lib.hid hb
  have hzl := prtT_len a b
  obtain ⟨Z, hZ⟩ : ∃ q, prtT a b = q := ⟨_, rfl⟩
  rw [hZ] at hzl ⊢
  have HZ := Lib.hid (show [] ++ prtV (a.map kin) [] ((b.map kin).drop 0) = Z from hZ)
  have HZL := Lib.hid (hzl.trans hm)
  obtain ⟨X, hX⟩ : ∃ X, PrtX Z w = X := ⟨_, rfl⟩
  have HX := Lib.hid hX
  rw [hX]
  obtain ⟨i0, hi0, hz0, hz1, hz2⟩ := info_parts infoBool
  have mixed : Tryd.prog.follows .mixedOrders = true := by kernel_rfl
  have hb1 := Below.alloc (Below.refl w.heap.size w) (Nat.le_refl _) (.cells #[] 3)
  obtain ⟨w2, hrun, hrow, hg⟩ := run_make_full (P := Tryd.prog) (w.alloc (.cells #[] 3)) w.heap.size 94 4 i0 _ 1 Tryd.underlying94 hi0 hz0 hz1 .i64 .i64 n (by rw [hz2]; omega) (by unfold maxLen; omega) (by simp)
  rw [boolV_made] at hrow
  simp only [World.size_alloc] at hrun hrow
  obtain ⟨tb, htb⟩ : ∃ q, w.heap.size + 1 = q := ⟨_, rfl⟩
  rw [htb] at hrun hrow
  have HO0 := Lib.hid (show w2.ownsRow w.heap.size 3 1 (.slice (some ⟨w.heap.size, 0, none⟩) ([] : List Int).length 0) ([] : List Int).length (zV []) from own_at (show (w.alloc (.cells #[] 3)).ownsRow w.heap.size 3 1 (.slice (some ⟨w.heap.size, 0, none⟩) 0 0) 0 [] from ⟨rfl, .inr ⟨w.heap.size, 0, #[], rfl, Nat.le_refl _, World.alloc_heap_new w _, Nat.le_refl _, by decide, rfl, rfl⟩⟩) (fun g cur e hg2 => hg.block g (Array.getElem?_eq_some_iff.1 hg2).1 (by simp)))
  have HT0 := Lib.hid hrow
  have HB0 := Lib.hid (hb1.grown hg hb1.size (fun k e => by cases e))
  clear hn hm ha hb hzl hZ hX hrow hg hb1 hi0 hz0 hz1 hz2 htb
  go_enter Tryd.func43, Tryd.ntmps43
  go_wp2_with fail
  go_loopw [5, 7] (fun o i wr => ∃ (k : Nat) (tk : List Nat) (zs : List Int) (R : Option Addr) (c1 : Nat), k ≤ m ∧ i = .int .i64 k ∧ o = .slice R zs.length c1 ∧ Hid (wr.ownsRow w.heap.size 3 1 (.slice R zs.length c1) zs.length (zV zs)) ∧ Hid (wr.ownsRow w.heap.size 4 1 (.slice (some ⟨tb, 0, none⟩) n n) n (boolV n tk)) ∧ Hid (zs ++ prtV (a.map kin) tk ((b.map kin).drop k) = Z) ∧ Hid (zs.length = k) ∧ Hid (Below w.heap.size w wr)) (fun _ i _ => m - (intOf i).toNat)
  case atStart => exact ⟨0, [], [], some ⟨w.heap.size, 0, none⟩, 0, by omega, rfl, rfl, HO0, HT0, HZ, Lib.hid rfl, HB0⟩
  case round =>
    obtain ⟨k, tk, zs, R, c1, hk, rfl, rfl, HO, HT, HE, HZK, HBW⟩ := hrel
    by_cases hlt : k < m
    · obtain ⟨y, hy⟩ := at_some (show k < b.length by rw [HM.out]; exact hlt)
      have hxb := hy
      have hE := HE.out
      rw [map_drop_cons hy] at hE
      have HE2 := Lib.hid hE
      have hk1 : (0 : Int) ≤ (k : Int) := by omega
      have hk2 : (k : Int) < (m : Int) := by omega
      rw [HZK.out]
      clear hE HE
      obtain ⟨wo, rfl⟩ : ∃ v, v = wr := ⟨_, rfl⟩
      go_wp2_with fail
      go_loopw [8, 9] (fun f j wi => ∃ jn : Nat, jn ≤ n ∧ j = .int .i64 jn ∧ Hid (Below wo.heap.size wo wi) ∧ ((f = .int .i64 (-1) ∧ Hid (∀ i ∈ freeQ (a.map kin) tk (kin y), jn ≤ i)) ∨ ∃ (p : Nat) (ps : List Nat), f = .int .i64 p ∧ Hid (freeQ (a.map kin) tk (kin y) = p :: ps) ∧ p < n)) (fun _ j _ => n - (intOf j).toNat)
      case atStart => exact ⟨0, by omega, rfl, Lib.hid (Below.refl _ _), .inl ⟨rfl, Lib.hid (fun i _ => Nat.zero_le i)⟩⟩
      case round =>
        obtain ⟨j, hj, rfl, HBI, hf⟩ := hrel
        rcases hf with ⟨rfl, HALL⟩ | ⟨p, ps, rfl, HQ, hpn⟩
        · by_cases hjn : j < n
          · obtain ⟨x, hxa⟩ := at_some (show j < a.length by rw [HN.out]; exact hjn)
            have HBL := Lib.hid (HBW.out.trans (HBI.out.mono HBW.out.size))
            have t0 : wr.cell? ⟨tb, j, none⟩ = some (.bool (tk.contains j)) := ((ownsRow_below HT.out HBI.out).cellAt j (by omega)).trans (boolV_at tk hjn)
            obtain ⟨ba, offa, E0, g0, E1, g1, rfl, hblta, _, a0, a1, _, _, _, _, _, _⟩ := HA.out.at_ hxa
            obtain ⟨bb, offb, G0, q0, G1, q1, rfl, hbltb, _, b0, b1, _, _, _, _, _, _⟩ := HB.out.at_ hxb
            replace a0 := (HBL.out.cell (p := ⟨ba, _, none⟩) hblta).trans a0
            replace a1 := (HBL.out.cell (p := ⟨ba, _, none⟩) hblta).trans a1
            replace b0 := (HBL.out.cell (p := ⟨bb, _, none⟩) hbltb).trans b0
            replace b1 := (HBL.out.cell (p := ⟨bb, _, none⟩) hbltb).trans b1
            have hj1 : (0 : Int) ≤ (j : Int) := by omega
            have hj2 : (j : Int) < (n : Int) := by omega
            have hka := kin_at hxa
            have HH : kin x = kin y → tk.contains j = false → Hid (∃ ps, freeQ (a.map kin) tk (kin y) = j :: ps) := fun e1 e2 => Lib.hid (free_head HALL.out (by rw [hka, e1]) (by simpa using e2))
            have HNX : kin x ≠ kin y ∨ tk.contains j = true → Hid (∀ i ∈ freeQ (a.map kin) tk (kin y), j + 1 ≤ i) := fun h => Lib.hid (free_next HALL.out (h.imp (fun h1 e => by rw [hka] at e; injection e with e; exact h1 e) (fun h1 => by simpa using h1)))
            clear hxa hxb hy hka HALL HBL
            obtain ⟨tkj, htk⟩ : ∃ q, tk.contains j = q := ⟨_, rfl⟩
            rw [htk] at t0 HH HNX
            unfold kin at HH HNX
            simp only [Prod.mk.injEq, ne_eq] at HH HNX
            clear htk
            cases tkj
            · by_cases h0 : x.tag = y.tag
              · by_cases h1 : x.key = y.key
                · obtain ⟨ps, hps⟩ := (HH ⟨h0, h1⟩ rfl).out
                  have HPS := Lib.hid hps
                  rw [h0] at a0
                  rw [h1] at a1
                  clear hps HH HNX h0 h1
                  go_wp2_with fail
                  go_big_region_o
                  all_goals go_wp2_with fail
                  go_roundw
                  case rel => exact ⟨j + 1, by omega, by go_num, Lib.hid HBI.out.drew, .inr ⟨j, ps, rfl, HPS, hjn⟩⟩
                  case measure => simp [intOf]; omega
                · have HNXT := HNX (.inl (fun e => h1 e.2))
                  have hq : (x.key == y.key) = false := by simpa using h1
                  rw [h0] at a0
                  clear HH HNX h0
                  go_wp2_with fail
                  go_big_region_o
                  all_goals go_wp2_with fail
                  go_roundw
                  case rel => exact ⟨j + 1, by omega, by go_num, Lib.hid HBI.out.drew, .inl ⟨rfl, HNXT⟩⟩
                  case measure => simp [intOf]; omega
              · have HNXT := HNX (.inl (fun e => h0 e.1))
                have hq : (x.tag == y.tag) = false := by simpa using h0
                clear HH HNX
                go_wp2_with fail
                go_big_region_o
                all_goals go_wp2_with fail
                go_roundw
                case rel => exact ⟨j + 1, by omega, by go_num, Lib.hid HBI.out.drew, .inl ⟨rfl, HNXT⟩⟩
                case measure => simp [intOf]; omega
            · have HNXT := HNX (.inr rfl)
              clear HH HNX
              go_wp2_with fail
              go_big_region_o
              all_goals go_wp2_with fail
              go_roundw
              case rel => exact ⟨j + 1, by omega, by go_num, Lib.hid HBI.out.drew, .inl ⟨rfl, HNXT⟩⟩
              case measure => simp [intOf]; omega
          · obtain rfl : n = j := by omega
            have hq := free_none (A := a.map kin) (tk := tk) (b := kin y) (fun i hi => by rw [List.length_map, HN.out]; exact HALL.out i hi)
            have hE := HE2.out
            rw [prtV_no hq] at hE
            have HNX := Lib.hid hE
            have HO2 := Lib.hid (ownsRow_below HO.out HBI.out)
            have HT2 := Lib.hid (ownsRow_below HT.out HBI.out)
            have HB2 := Lib.hid (HBW.out.trans (HBI.out.mono HBW.out.size))
            clear hq hE HALL HE2 hy hxb HO HT HBW HBI
            have HT3 := HT2
            have HO3 := HO2
            have HB3 := HB2
            clear HT2 HO2 HB2
            have hzs : zs.length = k := HZK.out
            have hba := Below.alloc (Below.refl (wr).heap.size (wr)) (Nat.le_refl _) (.cells #[.int .i64 (-1)] 3)
            have HO4 := Lib.hid (ownsRow_below HO3.out hba)
            have HT4 := Lib.hid (ownsRow_below HT3.out hba)
            have HB4 := Lib.hid (HB3.out.trans (hba.mono HB3.out.size))
            have hc4 : ((wr).alloc (.cells #[.int .i64 (-1)] 3)).cell? ⟨(wr).heap.size, 0, none⟩ = some (.int .i64 (-1)) := by rw [World.cell?_alloc_new]; rfl
            clear hba HO3 HT3 HB3
            go_wp2_with (at_builtin; refine wp_add_num rfl (.tmp 67) (.tmp 69) rfl w.heap.size k R c1 zs rfl HZK.out (by rw [← HZK.out]; exact HO4.out) ⟨wr.heap.size, 0, none⟩ 1 ((-1)) rfl hc4 (by omega) HB4.out.size ?_)
            intro g2 c2 w5 ho5 hg5 hat5
            have HT5 := Lib.hid (own_at HT4.out (fun g cur e hg => hg5.block g (Array.getElem?_eq_some_iff.1 hg).1 (fun e2 => by
              obtain ⟨cur2, h2⟩ := own_cells HO4.out (by rw [HZK.out]; exact e2.symm)
              rw [hg] at h2
              injection h2 with h2
              injection h2 with _ h2 _
              cases h2)))
            have HB5 := Lib.hid (HB4.out.grown hg5 HB4.out.size (fun g e => (HO4.out.lt g (by rw [HZK.out]; exact e)).1))
            have hl5 : (zs ++ [((-1) : Int)]).length = k + 1 := by rw [List.length_append, HZK.out]; rfl
            have HO5 := Lib.hid (show w5.ownsRow w.heap.size 3 1 (.slice (some ⟨g2, 0, none⟩) (zs ++ [((-1) : Int)]).length c2) (zs ++ [((-1) : Int)]).length (zV (zs ++ [((-1) : Int)])) by rw [hl5]; exact ho5)
            clear ho5 hg5 hat5 HO4 HT4 HB4 hc4
            go_wp2_with fail
            go_roundw
            case rel => exact ⟨k + 1, tk, zs ++ [((-1) : Int)], some ⟨g2, 0, none⟩, c2, by omega, by go_num, by rw [hl5], HO5, HT5, Lib.hid (by rw [List.append_assoc]; exact HNX.out), Lib.hid hl5, HB5⟩
            case measure => simp [intOf]; omega
        · have hE := HE2.out
          rw [prtV_yes HQ.out] at hE
          have HNX := Lib.hid hE
          have HO2 := Lib.hid (ownsRow_below HO.out HBI.out)
          have HT2 := Lib.hid (ownsRow_below HT.out HBI.out)
          have HB2 := Lib.hid (HBW.out.trans (HBI.out.mono HBW.out.size))
          have hpf : decide ((p : Int) < 0) = false := by simp
          have hpg : decide ((0 : Int) ≤ (p : Int)) = true := by simp
          clear hE HE2 hy hxb HO HT HBW HBI HQ
          by_cases hjn : j < n
          · skip
            obtain ⟨u0, d0⟩ : ∃ u, wr.cell? ⟨tb, p, none⟩ = some u := ⟨_, (HT2.out.cellAt p (by omega)).trans (List.getElem?_eq_getElem (show p < _ by rw [boolV_len]; omega))⟩
            have f0 := HT2.out.frozenAt p
            obtain ⟨s1, g1⟩ := HT2.out.stored p (.bool true)
            rw [boolV_set] at s1
            have hp0 : (0 : Int) ≤ (p : Int) := by omega
            have hp2 : (p : Int) < (n : Int) := by omega
            have HT3 := Lib.hid s1
            have HO3 := Lib.hid (own_at HO2.out (fun g cur e hg => g1.block g (Array.getElem?_eq_some_iff.1 hg).1 (fun e2 => by
              injection e2 with e2
              obtain ⟨cur2, h2⟩ := own_cells HT2.out (g := tb) rfl
              rw [← e2, hg] at h2
              injection h2 with h2
              injection h2 with _ h2 _
              cases h2)))
            have HB3 := Lib.hid (HB2.out.grown g1 HB2.out.size (fun k e => by cases e; exact (HT2.out.lt tb rfl).1))
            clear s1 g1 HT2 HO2 HB2
            have hzs : zs.length = k := HZK.out
            have hba := Below.alloc (Below.refl ((wr.setCell ⟨tb, p, none⟩ (.bool true))).heap.size ((wr.setCell ⟨tb, p, none⟩ (.bool true)))) (Nat.le_refl _) (.cells #[.int .i64 (p : Int)] 3)
            have HO4 := Lib.hid (ownsRow_below HO3.out hba)
            have HT4 := Lib.hid (ownsRow_below HT3.out hba)
            have HB4 := Lib.hid (HB3.out.trans (hba.mono HB3.out.size))
            have hc4 : (((wr.setCell ⟨tb, p, none⟩ (.bool true))).alloc (.cells #[.int .i64 (p : Int)] 3)).cell? ⟨((wr.setCell ⟨tb, p, none⟩ (.bool true))).heap.size, 0, none⟩ = some (.int .i64 (p : Int)) := by rw [World.cell?_alloc_new]; rfl
            have hsw : ((wr.setCell ⟨tb, p, none⟩ (.bool true))).heap.size = wr.heap.size := by simp [World.setCell]
            rw [hsw] at hc4
            clear hba HO3 HT3 HB3
            go_wp2_with (at_builtin; refine wp_add_num rfl (.tmp 67) (.tmp 69) rfl w.heap.size k R c1 zs rfl HZK.out (by rw [← HZK.out]; exact HO4.out) ⟨wr.heap.size, 0, none⟩ 1 ((p : Int)) rfl hc4 (by omega) HB4.out.size ?_)
            intro g2 c2 w5 ho5 hg5 hat5
            have HT5 := Lib.hid (own_at HT4.out (fun g cur e hg => hg5.block g (Array.getElem?_eq_some_iff.1 hg).1 (fun e2 => by
              obtain ⟨cur2, h2⟩ := own_cells HO4.out (by rw [HZK.out]; exact e2.symm)
              rw [hg] at h2
              injection h2 with h2
              injection h2 with _ h2 _
              cases h2)))
            have HB5 := Lib.hid (HB4.out.grown hg5 HB4.out.size (fun g e => (HO4.out.lt g (by rw [HZK.out]; exact e)).1))
            have hl5 : (zs ++ [((p : Int) : Int)]).length = k + 1 := by rw [List.length_append, HZK.out]; rfl
            have HO5 := Lib.hid (show w5.ownsRow w.heap.size 3 1 (.slice (some ⟨g2, 0, none⟩) (zs ++ [((p : Int) : Int)]).length c2) (zs ++ [((p : Int) : Int)]).length (zV (zs ++ [((p : Int) : Int)])) by rw [hl5]; exact ho5)
            clear ho5 hg5 hat5 HO4 HT4 HB4 hc4
            go_wp2_with fail
            go_roundw
            case rel => exact ⟨k + 1, (p :: tk), zs ++ [((p : Int) : Int)], some ⟨g2, 0, none⟩, c2, by omega, by go_num, by rw [hl5], HO5, HT5, Lib.hid (by rw [List.append_assoc]; exact HNX.out), Lib.hid hl5, HB5⟩
            case measure => simp [intOf]; omega
          · obtain rfl : n = j := by omega
            obtain ⟨u0, d0⟩ : ∃ u, wr.cell? ⟨tb, p, none⟩ = some u := ⟨_, (HT2.out.cellAt p (by omega)).trans (List.getElem?_eq_getElem (show p < _ by rw [boolV_len]; omega))⟩
            have f0 := HT2.out.frozenAt p
            obtain ⟨s1, g1⟩ := HT2.out.stored p (.bool true)
            rw [boolV_set] at s1
            have hp0 : (0 : Int) ≤ (p : Int) := by omega
            have hp2 : (p : Int) < (n : Int) := by omega
            have HT3 := Lib.hid s1
            have HO3 := Lib.hid (own_at HO2.out (fun g cur e hg => g1.block g (Array.getElem?_eq_some_iff.1 hg).1 (fun e2 => by
              injection e2 with e2
              obtain ⟨cur2, h2⟩ := own_cells HT2.out (g := tb) rfl
              rw [← e2, hg] at h2
              injection h2 with h2
              injection h2 with _ h2 _
              cases h2)))
            have HB3 := Lib.hid (HB2.out.grown g1 HB2.out.size (fun k e => by cases e; exact (HT2.out.lt tb rfl).1))
            clear s1 g1 HT2 HO2 HB2
            have hzs : zs.length = k := HZK.out
            have hba := Below.alloc (Below.refl ((wr.setCell ⟨tb, p, none⟩ (.bool true))).heap.size ((wr.setCell ⟨tb, p, none⟩ (.bool true)))) (Nat.le_refl _) (.cells #[.int .i64 (p : Int)] 3)
            have HO4 := Lib.hid (ownsRow_below HO3.out hba)
            have HT4 := Lib.hid (ownsRow_below HT3.out hba)
            have HB4 := Lib.hid (HB3.out.trans (hba.mono HB3.out.size))
            have hc4 : (((wr.setCell ⟨tb, p, none⟩ (.bool true))).alloc (.cells #[.int .i64 (p : Int)] 3)).cell? ⟨((wr.setCell ⟨tb, p, none⟩ (.bool true))).heap.size, 0, none⟩ = some (.int .i64 (p : Int)) := by rw [World.cell?_alloc_new]; rfl
            have hsw : ((wr.setCell ⟨tb, p, none⟩ (.bool true))).heap.size = wr.heap.size := by simp [World.setCell]
            rw [hsw] at hc4
            clear hba HO3 HT3 HB3
            go_wp2_with (at_builtin; refine wp_add_num rfl (.tmp 67) (.tmp 69) rfl w.heap.size k R c1 zs rfl HZK.out (by rw [← HZK.out]; exact HO4.out) ⟨wr.heap.size, 0, none⟩ 1 ((p : Int)) rfl hc4 (by omega) HB4.out.size ?_)
            intro g2 c2 w5 ho5 hg5 hat5
            have HT5 := Lib.hid (own_at HT4.out (fun g cur e hg => hg5.block g (Array.getElem?_eq_some_iff.1 hg).1 (fun e2 => by
              obtain ⟨cur2, h2⟩ := own_cells HO4.out (by rw [HZK.out]; exact e2.symm)
              rw [hg] at h2
              injection h2 with h2
              injection h2 with _ h2 _
              cases h2)))
            have HB5 := Lib.hid (HB4.out.grown hg5 HB4.out.size (fun g e => (HO4.out.lt g (by rw [HZK.out]; exact e)).1))
            have hl5 : (zs ++ [((p : Int) : Int)]).length = k + 1 := by rw [List.length_append, HZK.out]; rfl
            have HO5 := Lib.hid (show w5.ownsRow w.heap.size 3 1 (.slice (some ⟨g2, 0, none⟩) (zs ++ [((p : Int) : Int)]).length c2) (zs ++ [((p : Int) : Int)]).length (zV (zs ++ [((p : Int) : Int)])) by rw [hl5]; exact ho5)
            clear ho5 hg5 hat5 HO4 HT4 HB4 hc4
            go_wp2_with fail
            go_roundw
            case rel => exact ⟨k + 1, (p :: tk), zs ++ [((p : Int) : Int)], some ⟨g2, 0, none⟩, c2, by omega, by go_num, by rw [hl5], HO5, HT5, Lib.hid (by rw [List.append_assoc]; exact HNX.out), Lib.hid hl5, HB5⟩
            case measure => simp [intOf]; omega
    · obtain rfl : k = m := by omega
      have hE := HE.out
      rw [List.drop_of_length_le (by rw [List.length_map, HM.out]; exact Nat.le_refl _)] at hE
      simp only [prtV, List.append_nil] at hE
      subst hE
      clear HE
      go_wp2_with fail
      rw [← HX.out]
      exact ⟨R, c1, rfl, HO.out, HBW.out⟩
end Go.Proofs.YtcpfjlbicofkeaaDoor
