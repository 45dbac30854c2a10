/- A store and a place drawn out of bytes. -/
import Derived.Test.YtfdejmdhcjfboaaCpy7
namespace Go.Proofs.Ytfdejmdhcjfboaa
open Go.Joins Go.ChangeShapes Go.WideShapes Go.ChangeAt Go.RowKit Go.Deep
set_option linter.unusedVariables false
set_option linter.unusedSimpArgs false

/-- What is drawn of a store and a place. -/
def DrawGX (w : World) (e : Ending) (w' : World) : Prop :=
  ∃ b c L xs b' c' p, e = .returned (.tuple #[.slice (some ⟨b, 0, none⟩) xs.length c, .slice (some ⟨b', 0, none⟩) p.length c']) ∧ OwnC w' w.heap.size b c xs.length L ∧ StoW w' w.heap.size L xs ∧ xs.length ≤ 4 ∧ GoodC xs ∧ OwnS w' w.heap.size b' c' p ∧ p.length ≤ 22 ∧ Below w.heap.size w w'

set_option maxHeartbeats 2000000 in
theorem DrawStoreGet_any (A : Option Addr) (len cap : Nat) (w : World) (hc : Code w w.heap.size A len) (hl : len ≤ maxLen) :
    Calls Try.prog 50 #[.slice A len cap] w (DrawGX w) := by
  have HS := Lib.hid (St.new (cap := cap) hc hl)
  clear hc
  go_enter Try.func50, Try.ntmps50
  go_wp2_with fail
  refine (newSource_any A len cap w).mono ?_
  rintro e w1 ⟨rfl, rfl⟩
  go_wp2_with fail
  refine (cells_any w.heap.size A len cap _ HS.out).mono ?_
  rintro e w2 ⟨b, c, L, xs, rfl, hx4, ho, hw, hg, hs, hk⟩
  obtain ⟨n, hn⟩ : ∃ n, xs.length = n := ⟨_, rfl⟩
  rw [hn] at hx4 ho ⊢
  have hz2 := hk.size
  simp at hz2
  have HK2 := Lib.hid (show Keep w.heap.size w.heap.size w w2 from ((Keep.refl w.heap.size w.heap.size w).alloc (Nat.le_refl _) _).trans (hk.mono (by simp)))
  have HO2 := Lib.hid (World.ownsRow.mono ho (show w.heap.size + 1 ≤ _ by simp))
  have HW2 := Lib.hid (hw.mono (show w.heap.size + 1 ≤ _ by simp))
  have HG := Lib.hid hg
  have HS2 := Lib.hid hs
  have HN := Lib.hid hn
  clear ho hw hg hs hk hn HS
  by_cases h0 : n = 0
  · subst h0
    go_wp2_with fail
    refine (slots_any w.heap.size A len cap _ HS2.out).mono ?_
    rintro e w4 ⟨b0, c0, ps, rfl, hp, hpl, hs, hk⟩
    have HO4 := Lib.hid (row_keep HO2.out hk (by omega))
    have HW4 := Lib.hid (HW2.out.keep hk (by omega))
    have HK4 := Lib.hid (HK2.out.trans (hk.mono (by omega)))
    have HP := Lib.hid hp
    clear hs hk hp
    go_wp2_with fail
    go_ret2
    exact ⟨b, c, L, xs, b0, c0, ps, by rw [HN.out]; rfl, by rw [HN.out]; exact World.ownsRow.mono HO4.out (by omega), HW4.out.mono (by omega), by rw [HN.out]; exact hx4, HG.out, HP.out.mono (by omega), hpl, HK4.out.below (Nat.le_refl _)⟩

  have hn1 : (0 : Int) < n := by omega
  go_wp2_with fail
  refine (pick_any w.heap.size A len cap 3 _ HS2.out (by omega)).mono ?_
  rintro e w3 ⟨r, rfl, r0, r1, hs, hk⟩
  have HO3 := Lib.hid (row_keep HO2.out hk (by omega))
  have HW3 := Lib.hid (HW2.out.keep hk (by omega))
  have HK3 := Lib.hid (HK2.out.trans (hk.mono (by omega)))
  have HS3 := Lib.hid hs
  have hz3 := hk.size
  clear hs hk HO2 HW2 HK2 HS2
  by_cases hr : r = 0
  · subst hr
    go_wp2_with fail
    refine (slots_any w.heap.size A len cap _ HS3.out).mono ?_
    rintro e w4 ⟨b0, c0, ps, rfl, hp, hpl, hs, hk⟩
    have HO4 := Lib.hid (row_keep HO3.out hk (by omega))
    have HW4 := Lib.hid (HW3.out.keep hk (by omega))
    have HK4 := Lib.hid (HK3.out.trans (hk.mono (by omega)))
    have HP := Lib.hid hp
    clear hs hk hp
    go_wp2_with fail
    go_ret2
    exact ⟨b, c, L, xs, b0, c0, ps, by rw [HN.out]; rfl, by rw [HN.out]; exact World.ownsRow.mono HO4.out (by omega), HW4.out.mono (by omega), by rw [HN.out]; exact hx4, HG.out, HP.out.mono (by omega), hpl, HK4.out.below (Nat.le_refl _)⟩

  · have hr1 : 0 < r := by omega
    have HSa := Lib.hid (HS3.out.alloc (.cells #[] 66))
    have KA := Lib.hid ((Keep.refl w.heap.size w3.heap.size w3).alloc (Nat.le_refl _) (.cells #[] 66))
    have HE := Lib.hid (OwnS.none_ w3 (Nat.le_refl _))
    go_wp2_with fail
    refine (pick_any w.heap.size A len cap n _ HSa.out (by omega)).mono ?_
    rintro e w4 ⟨i, rfl, i0, i1, hs, hk⟩
    obtain ⟨j, rfl⟩ : ∃ j : Nat, i = (j : Int) := ⟨i.toNat, by omega⟩
    have hjn : j < n := by omega
    have KB := Lib.hid (KA.out.more (Nat.le_refl _) hk)
    have HE4 := Lib.hid (HE.out.keep hk (by omega))
    have hz4 := KB.out.size
    have HO4 := Lib.hid (row_keep HO3.out KB.out (by omega))
    have HW4 := Lib.hid (HW3.out.keep KB.out (by omega))
    obtain ⟨x, hx⟩ := at_some (show j < xs.length by rw [HN.out]; exact hjn)
    obtain ⟨g0, c0, g1, c1, a0, a1, a2⟩ := HW4.out j x hx
    have e0 : w4.cell? ⟨b, j * 2, none⟩ = some _ := (World.ownsRow.cellAt HO4.out (j * 2) (by omega)).trans a0
    have hxp := (HG.out x (List.mem_of_getElem? hx)).1
    have HP := Lib.hid (SlL.news (Lie.of_own (c := Sl.cells) (fun _ => rfl) a2.pl))
    have hi1 : (0 : Int) ≤ (j : Int) := by omega
    have hi2 : (j : Int) < (n : Int) := by omega
    clear hs hk i0 i1 a0 a1 a2 hx HSa KA HE HO4 HW4
    go_wp2_with (at_builtin; refine wp_append_slots rfl (.tmp 19) (.tmp 27) rfl w3.heap.size w3.heap.size 0 [] rfl HE4.out ⟨g0, 0, none⟩ c0 x.pl _ rfl rfl HP.out (by simp; omega) hz4 ?_; intro b2 c2 zs wx HQ ho hgr HAT; have HO5 := Lib.hid ho; have KC := Lib.hid (KB.out.grown hgr hz4 (Nat.le_refl _)); have hL : zs.length = x.pl.length := (by rw [HQ.out]; rfl); have HLL := Lib.hid hL; clear ho hgr hL)
    go_wp2_with fail
    go_ret2
    exact ⟨b, c, L, xs, b2, c2, zs, by rw [HN.out]; rfl, by rw [HN.out]; exact World.ownsRow.mono (row_keep HO3.out KC.out (by omega)) (by omega), (HW3.out.keep KC.out (by omega)).mono (by omega), by rw [HN.out]; exact hx4, HG.out, HO5.out.mono (by omega), by rw [HLL.out]; exact hxp, (HK3.out.trans (KC.out.mono (by omega))).below (Nat.le_refl _)⟩

/-- What is drawn of a store, a place and states. -/
def DrawPX (w : World) (e : Ending) (w' : World) : Prop :=
  ∃ b c L xs b' c' p b2 c2 vs, e = .returned (.tuple #[.slice (some ⟨b, 0, none⟩) xs.length c, .slice (some ⟨b', 0, none⟩) p.length c', .slice (some ⟨b2, 0, none⟩) vs.length c2]) ∧ OwnC w' w.heap.size b c xs.length L ∧ StoW w' w.heap.size L xs ∧ xs.length ≤ 4 ∧ GoodC xs ∧ OwnS w' w.heap.size b' c' p ∧ p.length ≤ 22 ∧ OwnV w' w.heap.size b2 c2 vs ∧ vs.length ≤ 4 ∧ GoodL vs ∧ Below w.heap.size w w'

set_option maxHeartbeats 2000000 in
theorem DrawStorePut_any (A : Option Addr) (len cap : Nat) (w : World) (hc : Code w w.heap.size A len) (hl : len ≤ maxLen) :
    Calls Try.prog 52 #[.slice A len cap] w (DrawPX w) := by
  have HS := Lib.hid (St.new (cap := cap) hc hl)
  have HC := Lib.hid (hc.more (Below.alloc (Below.refl w.heap.size w) (Nat.le_refl _) (.cells #[.slice A len cap, .int .i64 0, .int .i64 4000] 112)))
  have HL := Lib.hid hl
  clear hc hl
  go_enter Try.func52, Try.ntmps52
  go_wp2_with fail
  refine (newSource_any A len cap w).mono ?_
  rintro e w1 ⟨rfl, rfl⟩
  go_wp2_with fail
  refine (DrawStoreGet_any A len cap _ HC.out HL.out).mono ?_
  rintro e w2 ⟨b, c, L, xs, b', c', p, rfl, ho, hw, hx4, hg, hp, hp22, hB⟩
  obtain ⟨n, hn⟩ : ∃ n, xs.length = n := ⟨_, rfl⟩
  obtain ⟨m, hm⟩ : ∃ m, p.length = m := ⟨_, rfl⟩
  rw [hn] at hx4 ho ⊢
  rw [hm] at hp22 ⊢
  have hz2 := hB.size
  simp at hz2
  have HK2 := Lib.hid (show Keep w.heap.size w.heap.size w w2 from ((Keep.refl w.heap.size w.heap.size w).alloc (Nat.le_refl _) _).trans ((Keep.of_below hB).mono (by simp)))
  have HO2 := Lib.hid (World.ownsRow.mono ho (show w.heap.size + 1 ≤ _ by simp))
  have HW2 := Lib.hid (hw.mono (show w.heap.size + 1 ≤ _ by simp))
  have HP2 := Lib.hid (OwnS.mono hp (show w.heap.size + 1 ≤ _ by simp))
  have HG := Lib.hid hg
  have HS2 := Lib.hid (HS.out.below hB)
  have HN := Lib.hid hn
  have HM := Lib.hid hm
  clear ho hw hg hp hB hn hm HS
  go_wp2_with fail
  refine (pick_any w.heap.size A len cap 2 _ HS2.out (by omega)).mono ?_
  rintro e w3 ⟨r, rfl, r0, r1, hs, hk⟩
  have HO3 := Lib.hid (row_keep HO2.out hk (by omega))
  have HW3 := Lib.hid (HW2.out.keep hk (by omega))
  have HP3 := Lib.hid (HP2.out.keep hk (by omega))
  have HK3 := Lib.hid (HK2.out.trans (hk.mono (by omega)))
  have HS3 := Lib.hid hs
  have hz3 := hk.size
  clear hs hk HO2 HW2 HP2 HK2 HS2
  go_wp2_with fail
  refine (pick_any w.heap.size A len cap 4 _ HS3.out (by omega)).mono ?_
  rintro e w4 ⟨q, rfl, q0, q1, hs, hk⟩
  obtain ⟨k, rfl⟩ : ∃ k : Nat, q = (k : Int) := ⟨q.toNat, by omega⟩
  have hk3 : k ≤ 3 := by omega
  have HO4 := Lib.hid (row_keep HO3.out hk (by omega))
  have HW4 := Lib.hid (HW3.out.keep hk (by omega))
  have HP4 := Lib.hid (HP3.out.keep hk (by omega))
  have HK4 := Lib.hid (HK3.out.trans (hk.mono (by omega)))
  have HS4 := Lib.hid hs
  have hz4 := hk.size
  clear hs hk HO3 HW3 HP3 HK3 HS3
  clear q0 q1 r0 r1
  go_wp2_with fail
  refine (rarely_any w.heap.size A len cap _ HS4.out).mono ?_
  rintro e w5 ⟨bq, rfl, hs, hk⟩
  have HO5 := Lib.hid (row_keep HO4.out hk (by omega))
  have HW5 := Lib.hid (HW4.out.keep hk (by omega))
  have HP5 := Lib.hid (HP4.out.keep hk (by omega))
  have HK5 := Lib.hid (HK4.out.trans (hk.mono (by omega)))
  have HS5 := Lib.hid hs
  have hz5 := hk.size
  clear hs hk HO4 HW4 HP4 HK4 HS4
  cases bq
  · go_wp2_with fail
    refine (goods_any w.heap.size A len cap k _ HS5.out (by omega)).mono ?_
    rintro e w6 ⟨b2, c2, vs, rfl, hv, hvl, hgl, hs, hk⟩
    have HO6 := Lib.hid (row_keep HO5.out hk (by omega))
    have HW6 := Lib.hid (HW5.out.keep hk (by omega))
    have HP6 := Lib.hid (HP5.out.keep hk (by omega))
    have HK6 := Lib.hid (HK5.out.trans (hk.mono (by omega)))
    have HV := Lib.hid hv
    have HGL := Lib.hid hgl
    have HVL := Lib.hid hvl
    clear hs hk hv hgl hvl
    go_wp2_with fail
    go_ret3
    exact ⟨b, c, L, xs, b', c', p, b2, c2, vs, by rw [HN.out, HM.out]; rfl, by rw [HN.out]; exact World.ownsRow.mono HO6.out (by omega), HW6.out.mono (by omega), by rw [HN.out]; exact hx4, HG.out, HP6.out.mono (by omega), by rw [HM.out]; exact hp22, HV.out.mono (by omega), by rw [HVL.out]; omega, HGL.out, HK6.out.below (Nat.le_refl _)⟩
  · go_wp2_with fail
    refine (goods_any w.heap.size A len cap 4 _ HS5.out (by omega)).mono ?_
    rintro e w6 ⟨b2, c2, vs, rfl, hv, hvl, hgl, hs, hk⟩
    have HO6 := Lib.hid (row_keep HO5.out hk (by omega))
    have HW6 := Lib.hid (HW5.out.keep hk (by omega))
    have HP6 := Lib.hid (HP5.out.keep hk (by omega))
    have HK6 := Lib.hid (HK5.out.trans (hk.mono (by omega)))
    have HV := Lib.hid hv
    have HGL := Lib.hid hgl
    have HVL := Lib.hid hvl
    clear hs hk hv hgl hvl
    go_wp2_with fail
    go_ret3
    exact ⟨b, c, L, xs, b', c', p, b2, c2, vs, by rw [HN.out, HM.out]; rfl, by rw [HN.out]; exact World.ownsRow.mono HO6.out (by omega), HW6.out.mono (by omega), by rw [HN.out]; exact hx4, HG.out, HP6.out.mono (by omega), by rw [HM.out]; exact hp22, HV.out.mono (by omega), by rw [HVL.out]; omega, HGL.out, HK6.out.below (Nat.le_refl _)⟩
end Go.Proofs.Ytfdejmdhcjfboaa
