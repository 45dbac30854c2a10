/- What the laws draw of stores: cells. -/
import Derived.Test.YtfdejmdhcjfboaaCpy4
namespace Go.Proofs.Ytfdejmdhcjfboaa
open Go.Joins Go.ChangeShapes Go.WideShapes Go.ChangeAt Go.RowKit Go.Deep
set_option linter.unusedVariables false
set_option linter.unusedSimpArgs false

theorem row_keep {w w' : World} {base g n m c b : Nat} {e : TypeId} {L : List Value} (h : w.ownsRow base e n (.slice (some ⟨b, 0, none⟩) m c) m L) (hk : Keep g w.heap.size w w') (hg : g < base) : w'.ownsRow base e n (.slice (some ⟨b, 0, none⟩) m c) m L :=
  World.ownsRow.kept h (row := some g) ⟨hk.os, hk.tape, hk.output, hk.size, fun k hk' hn => hk.block k hk' (fun e => hn (by rw [e]))⟩ (.inr (by have := (World.ownsRow.lt h b rfl).1; simp [Value.ownBlock]; omega))
theorem CeW.keep {w w' : World} {lo n m g0 c0 g1 c1 g : Nat} {x : Ce} (h : CeW w lo x n m g0 c0 g1 c1) (hk : Keep g w.heap.size w w') (hg : g < lo) : CeW w' lo x n m g0 c0 g1 c1 := ⟨row_keep h.pl hk hg, row_keep h.st hk hg⟩
theorem StoW.keep {w w' : World} {lo g : Nat} {L : List Value} {xs : List Ce} (h : StoW w lo L xs) (hk : Keep g w.heap.size w w') (hg : g < lo) : StoW w' lo L xs := fun i x hx => by
  obtain ⟨g0, c0, g1, c1, h0, h1, hc⟩ := h i x hx
  exact ⟨g0, c0, g1, c1, h0, h1, hc.keep hk hg⟩
/-- Cells as they are drawn. -/
def GoodC (xs : List Ce) : Prop := ∀ x ∈ xs, x.pl.length ≤ 22 ∧ placeB x.pl = true ∧ x.st.length ≤ 3 ∧ GoodL x.st
theorem GoodC.small {xs : List Ce} (h : GoodC xs) : SmallC xs := fun x hx => by have := h x hx; exact ⟨by omega, by omega⟩
theorem GoodC.put {xs : List Ce} {x : Ce} (h : GoodC xs) (h0 : x.pl.length ≤ 22) (h1 : placeB x.pl = true) (h2 : x.st.length ≤ 3) (h3 : GoodL x.st) : GoodC (putS xs x) := fun y hy => by
  unfold putS at hy
  rcases List.mem_append.1 hy with hy | hy
  · rcases List.mem_append.1 hy with hy | hy
    · exact h y (List.mem_of_mem_take hy)
    · simp at hy; subst hy; exact ⟨h0, h1, h2, h3⟩
  · exact h y (List.mem_of_mem_drop hy)
theorem putS_len (xs : List Ce) (x : Ce) : (putS xs x).length ≤ xs.length + 1 := by
  unfold putS
  have := atS_le xs x.pl
  simp only [List.length_append, List.length_take, List.length_drop, List.length_singleton]
  split <;> omega
/-- A drawn store, in the call's own memory. -/
def DCellsX (g : Nat) (A : Option Addr) (len cap : Nat) (w : World) (e : Ending) (w' : World) : Prop :=
  ∃ b c L xs, e = .returned (.slice (some ⟨b, 0, none⟩) xs.length c) ∧ xs.length ≤ 4 ∧ OwnC w' w.heap.size b c xs.length L ∧ StoW w' w.heap.size L xs ∧ GoodC xs ∧ St g A len cap w' ∧ Keep g w.heap.size w w'

set_option maxHeartbeats 2000000 in
theorem cells_any (g : Nat) (A : Option Addr) (len cap : Nat) (w : World) (hs : St g A len cap w) :
    Calls Try.prog 90 #[.pointer (some ⟨g, 0, none⟩)] w (DCellsX g A len cap w) := by
  have hgw := hs.lt
  have HO := Lib.hid (OwnC.none_ w (Nat.le_refl _))
  have HS := Lib.hid (hs.alloc (.cells #[] 60))
  have HK := Lib.hid ((Keep.refl g w.heap.size w).alloc (Nat.le_refl _) (.cells #[] 60))
  clear hs
  go_enter Try.func90, Try.ntmps90
  go_wp2_with fail
  refine (pick_any g A len cap 5 _ HS.out (by omega)).mono ?_
  rintro e w1 ⟨r, rfl, r0, r1, hs1, hk1⟩
  have r2 : r ≤ 4 := by omega
  have HO1 := Lib.hid (row_keep HO.out hk1 hgw)
  have HK1 := Lib.hid (HK.out.more (Nat.le_refl _) (hk1.mono (by simp)))
  have HS1 := Lib.hid hs1
  clear hs1 hk1 r1
  go_wp2_with fail
  go_loopw [3, 4] (fun v i wr => ∃ (b c k : Nat) (L : List Value) (xs : List Ce), v = .slice (some ⟨b, 0, none⟩) xs.length c ∧ i = .int .i64 k ∧ xs.length + k ≤ 4 ∧ Hid (OwnC wr w.heap.size b c xs.length L) ∧ Hid (StoW wr w.heap.size L xs) ∧ Hid (GoodC xs) ∧ Hid (St g A len cap wr) ∧ Hid (Keep g w.heap.size w wr)) (fun _ i _ => (intOf i).toNat)
  case atStart => exact ⟨w.heap.size, 0, r.toNat, [], [], rfl, by rw [show (r.toNat : Int) = r by omega], by simp; omega, HO1, Lib.hid (fun i x hx => by simp at hx), Lib.hid (fun x hx => by simp at hx), HS1, HK1⟩
  case round =>
    obtain ⟨b, c, k, L, xs, rfl, rfl, hlen, HO, HW, HG, HS, HK⟩ := hrel
    by_cases hk0 : k = 0
    · subst hk0
      go_wp2_with fail
      go_ret
      exact ⟨b, c, L, xs, rfl, by omega, HO.out, HW.out, HG.out, HS.out, HK.out⟩
    · have kp : 0 < (k : Int) := by omega
      have hzr := HK.out.size
      go_wp2_with fail
      refine (slots_any g A len cap wr HS.out).mono ?_
      rintro e wa ⟨b0, c0, ps, rfl, hp, hpl, hs', hk'⟩
      replace HO := Lib.hid (row_keep HO.out hk' hgw)
      replace HW := Lib.hid (HW.out.keep hk' hgw)
      replace HK := Lib.hid (HK.out.more (Nat.le_refl _) hk')
      replace HS := Lib.hid hs'
      have HP := Lib.hid (hp.mono hzr)
      have hza := HK.out.size
      clear hs' hk' hp
      go_wp2_with fail
      refine (pick_any g A len cap 4 _ HS.out (by omega)).mono ?_
      rintro e wb ⟨m, rfl, m0, m1, hs', hk'⟩
      obtain ⟨m, rfl⟩ : ∃ j : Nat, m = (j : Int) := ⟨m.toNat, by omega⟩
      have m2 : m ≤ 3 := by omega
      replace HO := Lib.hid (row_keep HO.out hk' hgw)
      replace HW := Lib.hid (HW.out.keep hk' hgw)
      replace HP := Lib.hid (HP.out.keep hk' hgw)
      replace HK := Lib.hid (HK.out.more (Nat.le_refl _) hk')
      replace HS := Lib.hid hs'
      have hzb := HK.out.size
      clear hs' hk' m0 m1
      go_wp2_with fail
      refine (goods_any g A len cap m wb HS.out (by omega)).mono ?_
      rintro e wv ⟨b1, c1, vs, rfl, hv, hvl, hgl, hs', hk'⟩
      replace HO := Lib.hid (row_keep HO.out hk' hgw)
      replace HW := Lib.hid (HW.out.keep hk' hgw)
      replace HP := Lib.hid (HP.out.keep hk' hgw)
      replace HK := Lib.hid (HK.out.more (Nat.le_refl _) hk')
      replace HS := Lib.hid hs'
      have HV := Lib.hid (hv.mono hzb)
      have HGL := Lib.hid hgl
      have hvl3 : vs.length ≤ 3 := by omega
      have hzv := HK.out.size
      clear hs' hk' hv hgl hvl
      have hba := Below.alloc (Below.refl wv.heap.size wv) (Nat.le_refl _) (.cells #[.slice (some ⟨b0, 0, none⟩) ps.length c0, .slice (some ⟨b1, 0, none⟩) vs.length c1] 60)
      have K := Lib.hid (vplace_n (some ⟨b0, 0, none⟩) c0 _ ps _ (HP.out.lies.below hba) rfl (by unfold maxLen; omega))
      have HO2 := Lib.hid (ownsRow_below HO.out hba)
      have HW2 := Lib.hid (HW.out.below hba)
      have HP2 := Lib.hid (ownsRow_below HP.out hba)
      have HV2 := Lib.hid (ownsRow_below HV.out hba)
      have HS2 := Lib.hid (HS.out.below hba)
      have HK2 := Lib.hid (HK.out.alloc hzv (.cells #[.slice (some ⟨b0, 0, none⟩) ps.length c0, .slice (some ⟨b1, 0, none⟩) vs.length c1] 60))
      clear hba HO HW HP HV HS HK
      cases hpb : placeB ps
      · rw [hpb] at K
        clear hpb
        go_wp2_with fail
        refine K.out.mono ?_
        rintro e w3 ⟨rfl, hb⟩
        have HO3 := Lib.hid (ownsRow_below HO2.out hb)
        have HW3 := Lib.hid (HW2.out.below hb)
        have HS3 := Lib.hid (HS2.out.below hb)
        have HK3 := Lib.hid (HK2.out.trans ((Keep.of_below hb).mono (by simp; omega)))
        clear hb K
        go_wp2_with fail
        go_roundw
        case rel => exact ⟨b, c, k - 1, L, xs, rfl, by first | go_num | (rw [Int.ofNat_sub (by omega)]; rfl) | (congr 1; omega), by omega, HO3, HW3, HG, HS3, HK3⟩
        case measure => simp [intOf]; omega
      · rw [hpb] at K
        have HPB := Lib.hid hpb
        clear hpb
        go_wp2_with fail
        refine K.out.mono ?_
        rintro e w3 ⟨rfl, hb⟩
        have q0 : w3.cell? ⟨wv.heap.size, 0, none⟩ = some (.slice (some ⟨b0, 0, none⟩) ps.length c0) := (hb.cell (p := ⟨wv.heap.size, 0, none⟩) (by simp)).trans (by go_simp)
        have q1 : w3.cell? ⟨wv.heap.size, 1, none⟩ = some (.slice (some ⟨b1, 0, none⟩) vs.length c1) := (hb.cell (p := ⟨wv.heap.size, 1, none⟩) (by simp)).trans (by go_simp)
        have HO3 := Lib.hid (ownsRow_below HO2.out hb)
        have HW3 := Lib.hid (HW2.out.below hb)
        have HP3 := Lib.hid (OwnS.lies (ownsRow_below HP2.out hb))
        have HV3 := Lib.hid (OwnV.lies (ownsRow_below HV2.out hb))
        have HS3 := Lib.hid (HS2.out.below hb)
        have HK3 := Lib.hid (HK2.out.trans ((Keep.of_below hb).mono (by simp; omega)))
        have hz3 := HK3.out.size
        clear hb K HO2 HW2 HP2 HV2 HS2 HK2
        have HPU := Lib.hid (put_any b c xs.length b0 0 c0 b1 0 c1 _ _ xs ⟨ps, vs⟩ w3 (CeN.of_sto HO3.out HW3.out rfl HG.out.small) rfl (row_cap HO3.out) (by omega) HG.out.small HP3.out HV3.out (by show ps.length ≤ 1000; omega) (by show vs.length ≤ 1000; omega) rfl rfl)
        go_wp2_with fail
        refine HPU.out.mono ?_
        rintro e w4 ⟨hb, b4, c4, L4, rfl, ho, hw⟩
        have HO4 := Lib.hid (World.ownsRow.mono ho hz3)
        have HW4 := Lib.hid (hw.mono hz3)
        have HS4 := Lib.hid (HS3.out.below hb)
        have HK4 := Lib.hid (HK3.out.trans ((Keep.of_below hb).mono hz3))
        have HG4 := Lib.hid (GoodC.put (x := ⟨ps, vs⟩) HG.out hpl HPB.out hvl3 HGL.out)
        have hpn := putS_len xs ⟨ps, vs⟩
        clear hb ho hw HPU
        go_wp2_with fail
        go_roundw
        case rel => exact ⟨b4, c4, k - 1, L4, putS xs ⟨ps, vs⟩, rfl, by first | go_num | (rw [Int.ofNat_sub (by omega)]; rfl) | (congr 1; omega), by omega, HO4, HW4, HG4, HS4, HK4⟩
        case measure => simp [intOf]; omega
end Go.Proofs.Ytfdejmdhcjfboaa
