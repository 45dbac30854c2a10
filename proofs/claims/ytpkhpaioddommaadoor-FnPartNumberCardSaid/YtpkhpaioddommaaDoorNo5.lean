/- Trees: the number of the part at a way, by the document's PartNumber. -/
import Derived.Test.YtpkhpaioddommaaDoorNoM
import Derived.Test.YtpkhpaioddommaaDoorNo2
namespace Go.Proofs.YtpkhpaioddommaaDoor
open Go.Joins Go.ChangeShapes Go.WideShapes Go.ChangeAt Go.RowKit Go.Deep
set_option linter.unusedVariables false
set_option linter.unusedSimpArgs false

set_option maxRecDepth 100000 in
set_option maxHeartbeats 2000000 in
theorem sPartNumber_any (t : Tr) (hsm : SmT t) (zs : List Int) (hzl : zs.length ≤ maxLen) : ∀ (A A0 A1 : Option Addr) (c c0 c1 : Nat) (w : World), PrL w A0 t.ps → TrL w 0 A1 t.ks → IntL w A zs →
    Calls Tryd.prog 31 #[.agg #[.int .i64 t.tag, .int .i64 t.key, .string t.text, .slice A0 t.ps.length c0, .slice A1 t.ks.length c1], .slice A zs.length c] w fun e w' => e = .returned (.int .i64 (noPV t zs)) ∧ Below w.heap.size w w' := by
  intro A A0 A1 c c0 c1 w hp hk hz
  have k1 := fun w hp hk => svalidTree_any t hsm A0 A1 c0 c1 w hp hk
  have k2 := fun w hp hk hz => partAt_any t hsm zs hzl A A0 A1 c c0 c1 w hp hk hz
  have k3 := fun (hok : treeOkB t = true) (hat : atT t zs ≠ none) w hp hk hz => numberOf_any t hsm hok zs hzl hat A A0 A1 c c0 c1 w hp hk hz
  have hv : noPV t zs = if treeOkB t = true then (atT t zs).elim (-1) (fun _ => (numT t zs : Int)) else -1 := by unfold noPV; rw [noP_is]
  rw [hv]
  clear hv
  generalize treeOkB t = v at k1 k3 ⊢
  unfold PAtX at k2
  generalize hq : atT t zs = q at k2 k3 ⊢
  clear hq
  generalize numT t zs = nn at k3 ⊢
  generalize zs.length = n at k2 k3 ⊢
  obtain ⟨tag, key, text, ps, ks⟩ := t
  dsimp only [Tr.tag, Tr.key, Tr.text, Tr.ps, Tr.ks] at k1 k2 k3 hp hk ⊢
  generalize ps.length = np at *
  generalize ks.length = nk at *
  have hb0 := Below.alloc (Below.refl w.heap.size w) (Nat.le_refl _) (.cells #[.int .i64 tag, .int .i64 key, .string text, .slice A0 np c0, .slice A1 nk c1] 26)
  have HB0 := Lib.hid hb0
  have HP := Lib.hid (hp.below hb0)
  have HK := Lib.hid (hk.below hb0)
  have HZ := Lib.hid (hz.below hb0)
  have K1 := Lib.hid k1
  have K2 := Lib.hid k2
  have K3 := Lib.hid k3
  clear hp hk hz k1 k2 k3 hb0
  cases v
  · go_enter Tryd.func31, Tryd.ntmps31
    go_wp2_with fail
    refine (K1.out _ HP.out HK.out).mono ?_
    rintro e w1 ⟨rfl, hb⟩
    have HB1 := Lib.hid (more HB0.out (Nat.le_refl _) hb)
    clear hb
    go_wp2_with fail
    go_ret
    exact ⟨rfl, HB1.out⟩
  · go_enter Tryd.func31, Tryd.ntmps31
    go_wp2_with fail
    refine (K1.out _ HP.out HK.out).mono ?_
    rintro e w1 ⟨rfl, hb⟩
    have HB1 := Lib.hid (more HB0.out (Nat.le_refl _) hb)
    have HP1 := Lib.hid (HP.out.below hb)
    have HK1 := Lib.hid (HK.out.below hb)
    have HZ1 := Lib.hid (HZ.out.below hb)
    have hsz : w.heap.size < w1.heap.size := by have := hb.size; simp at this; omega
    have o0 := (hb.cell (p := ⟨w.heap.size, 0, none⟩) (by simp)).trans (by rw [World.cell?_alloc_new]; rfl : _ = some (.int .i64 tag))
    have o1 := (hb.cell (p := ⟨w.heap.size, 1, none⟩) (by simp)).trans (by rw [World.cell?_alloc_new]; rfl : _ = some (.int .i64 key))
    have o2 := (hb.cell (p := ⟨w.heap.size, 2, none⟩) (by simp)).trans (by rw [World.cell?_alloc_new]; rfl : _ = some (.string text))
    have o3 := (hb.cell (p := ⟨w.heap.size, 3, none⟩) (by simp)).trans (by rw [World.cell?_alloc_new]; rfl : _ = some (.slice A0 np c0))
    have o4 := (hb.cell (p := ⟨w.heap.size, 4, none⟩) (by simp)).trans (by rw [World.cell?_alloc_new]; rfl : _ = some (.slice A1 nk c1))
    clear hb
    go_wp2_with fail
    refine (K2.out _ HP1.out HK1.out HZ1.out).mono ?_
    rintro e w2 ⟨hb, ⟨hq, rfl⟩ | ⟨x, E0, E1, g0, g1, hq, _, _, _, rfl⟩⟩
    · have HB2 := Lib.hid (more HB1.out (Nat.le_refl _) hb)
      clear hb
      subst hq
      go_wp2_with fail
      go_ret
      exact ⟨rfl, HB2.out.alloc HB2.out.size _⟩
    · have HB2 := Lib.hid (more HB1.out (Nat.le_refl _) hb)
      have hb3 := hb.trans (Below.alloc (Below.refl _ _) (Nat.le_refl _) (.cells #[.int .i64 x.tag, .int .i64 x.key, .string x.text, .slice E0 x.ps.length g0, .slice E1 x.ks.length g1] 26) |>.mono hb.size)
      have HB3 := Lib.hid (more HB1.out (Nat.le_refl _) hb3)
      have HP2 := Lib.hid (HP1.out.below hb3)
      have HK2 := Lib.hid (HK1.out.below hb3)
      have HZ2 := Lib.hid (HZ1.out.below hb3)
      have hsz2 : w.heap.size < w2.heap.size := Nat.lt_of_lt_of_le hsz hb.size
      replace o0 := (hb.cell (p := ⟨w.heap.size, 0, none⟩) hsz).trans o0
      replace o1 := (hb.cell (p := ⟨w.heap.size, 1, none⟩) hsz).trans o1
      replace o2 := (hb.cell (p := ⟨w.heap.size, 2, none⟩) hsz).trans o2
      replace o3 := (hb.cell (p := ⟨w.heap.size, 3, none⟩) hsz).trans o3
      replace o4 := (hb.cell (p := ⟨w.heap.size, 4, none⟩) hsz).trans o4
      subst hq
      clear hb hb3
      have K3' := Lib.hid (K3.out (by trivial) (by simp))
      go_wp2_with fail
      refine (K3'.out _ HP2.out HK2.out HZ2.out).mono ?_
      rintro e w3 ⟨rfl, hb⟩
      have HB4 := Lib.hid (more HB3.out (Nat.le_refl _) hb)
      clear hb
      go_wp2_with fail
      go_ret
      exact ⟨rfl, HB4.out⟩
end Go.Proofs.YtpkhpaioddommaaDoor
