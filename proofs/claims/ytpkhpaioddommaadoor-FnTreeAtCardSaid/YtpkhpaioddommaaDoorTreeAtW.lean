/- The law FnTreeAt answers true at every code, and leaves it as it was, where the library's variables stand. -/
import Derived.Test.YtpkhpaioddommaaDoorDrwW4
import Derived.Test.YtpkhpaioddommaaDoorTat3
import Derived.Test.YtpkhpaioddommaaDoorGd1
import Derived.Deep.RegionHeld3
namespace Go.Proofs.YtpkhpaioddommaaDoor.fnTreeAt
open Go.Joins Go.ChangeShapes Go.WideShapes Go.ChangeAt Go.RowKit Go.Deep
set_option linter.unusedVariables false
set_option linter.unusedSimpArgs false

theorem gd_at : ∀ (zs : List Int) (t x : Tr), GdT t → atT t zs = some x → GdT x
  | [], t, x, h, e => by
    rw [atT] at e
    injection e with e
    subst e
    exact h
  | z :: zs, t, x, h, e => by
    obtain ⟨y, _, h2, h3⟩ := atT_split e
    exact gd_at zs y x ((gks h).2 y h3) h2
theorem gd_atV {zs : List Int} {t x : Tr} (h : GdT t) (e : atV t zs = some x) : GdT x := by
  unfold atV at e
  split at e
  · exact gd_at zs t x h e
  · cases e
theorem way_rest {w : World} {b c m : Nat} {z : Int} {zs : List Int} (h : IntL w (some ⟨b, 0, none⟩) (z :: zs)) (hm : zs.length = m) (hc : m + 1 ≤ c) : IntL w (if c = 1 then some ⟨b, 0, none⟩ else some ⟨b, 1, none⟩) zs := by
  by_cases h1 : c = 1
  · rw [List.eq_nil_of_length_eq_zero (show zs.length = 0 by omega)]
    exact IntL.nil
  · rw [if_neg h1]
    exact h.rest
def NilX (w : World) (e : Ending) (w' : World) : Prop := e = .returned (.tuple #[.agg #[.int .i64 0, .int .i64 0, .string ⟨#[]⟩, .slice none 0 0, .slice none 0 0], .bool false]) ∧ Below w.heap.size w w'
set_option maxRecDepth 100000 in
set_option maxHeartbeats 8000000 in
theorem walk (A : Option Addr) (len cap : Nat) (w : World) (hc0 : Code w w.heap.size A len) (hl : len ≤ maxLen) (hT : Vs w) :
    Calls Tryd.prog 4 #[.slice A len cap] w fun e w' => e = .returned (.bool true) ∧ Below w.heap.size w w' := by
  have HC := Lib.hid hc0
  have HLN := Lib.hid hl
  have HT := Lib.hid hT
  unfold maxLen at hl
  clear hc0 hT
  by_cases hbig : (1048576 : Int) < len
  · go_enter Tryd.func4, Tryd.ntmps4
    go_wp2_with fail
    go_ret
    exact ⟨rfl, by go_grown⟩
  have hd : decide ((1048576 : Int) < len) = false := by simp; omega
  go_enter Tryd.func4, Tryd.ntmps4
  go_wp2_with fail
  refine (DrawTreeAtC_any A len cap w HC.out HLN.out).mono ?_
  rintro e w1 ⟨A0, c0, A1, c1, t, b, c, zs, rfl, hp, hk, hG, hz, hzl, hzc, hB⟩
  have hml : ∀ xs : List Int, xs.length ≤ 5000 → xs.length ≤ maxLen := fun xs h => by unfold maxLen; omega
  have hb1 := Below.alloc (Below.refl w1.heap.size w1) (Nat.le_refl _) (.cells #[.int .i64 t.tag, .int .i64 t.key, .string t.text, .slice A0 t.ps.length c0, .slice A1 t.ks.length c1] 26)
  have hbz : w1.heap.size < (w1.alloc (.cells #[.int .i64 t.tag, .int .i64 t.key, .string t.text, .slice A0 t.ps.length c0, .slice A1 t.ks.length c1] 26)).heap.size := by simp
  have o0 : (w1.alloc (.cells #[.int .i64 t.tag, .int .i64 t.key, .string t.text, .slice A0 t.ps.length c0, .slice A1 t.ks.length c1] 26)).cell? ⟨w1.heap.size, 0, none⟩ = some (.int .i64 t.tag) := by go_simp
  have o1 : (w1.alloc (.cells #[.int .i64 t.tag, .int .i64 t.key, .string t.text, .slice A0 t.ps.length c0, .slice A1 t.ks.length c1] 26)).cell? ⟨w1.heap.size, 1, none⟩ = some (.int .i64 t.key) := by go_simp
  have o2 : (w1.alloc (.cells #[.int .i64 t.tag, .int .i64 t.key, .string t.text, .slice A0 t.ps.length c0, .slice A1 t.ks.length c1] 26)).cell? ⟨w1.heap.size, 2, none⟩ = some (.string t.text) := by go_simp
  have o3 : (w1.alloc (.cells #[.int .i64 t.tag, .int .i64 t.key, .string t.text, .slice A0 t.ps.length c0, .slice A1 t.ks.length c1] 26)).cell? ⟨w1.heap.size, 3, none⟩ = some (.slice A0 t.ps.length c0) := by go_simp
  have o4 : (w1.alloc (.cells #[.int .i64 t.tag, .int .i64 t.key, .string t.text, .slice A0 t.ps.length c0, .slice A1 t.ks.length c1] 26)).cell? ⟨w1.heap.size, 4, none⟩ = some (.slice A1 t.ks.length c1) := by go_simp
  have hzB := hB.size
  have HV := Lib.hid ((HT.out.next hB).next hb1)
  have HP := Lib.hid (hp.below hb1)
  have HK := Lib.hid (hk.below hb1)
  have HZ := Lib.hid (hz.below hb1)
  have HB := Lib.hid (hB.trans (hb1.mono hB.size))
  have HG := Lib.hid hG
  have HML := Lib.hid hml
  clear hp hk hz hB hb1 HT HC hml
  obtain ⟨wd, hwd⟩ : ∃ wd, w1.alloc (.cells #[.int .i64 t.tag, .int .i64 t.key, .string t.text, .slice A0 t.ps.length c0, .slice A1 t.ks.length c1] 26) = wd := ⟨_, rfl⟩
  rw [hwd] at o0 o1 o2 o3 o4 HV HP HK HZ HB hbz
  cases hav : atV t zs with
  | none =>
    have K2 := Lib.hid (fun w hv hp hk hz => (iTreeAt_any Vs shOk t (gsm t hG) (gkw t hG) zs (HML.out zs hzl) (some ⟨b, 0, none⟩) A0 A1 c c0 c1 w hv hp hk hz).mono fun e w' h => (show NilX w e w' from TaX.no h hav))
    have K3 := Lib.hid (fun w hp hk hz => (sTreeAt_any t (gsm t hG) zs (HML.out zs hzl) (some ⟨b, 0, none⟩) A0 A1 c c0 c1 w hp hk hz).mono fun e w' h => (show NilX w e w' from TaX.no h hav))
    have KS := Lib.hid (fun w => SameTree_any (.mk 0 0 ⟨#[]⟩ [] []) (.mk (by decide) (by decide) (fun _ h => absurd h (by simp)) (by decide) (fun _ h => absurd h (by simp))) none none none none 0 0 0 0 w (fun h => absurd h (by simp [Tr.ps])) TrL.nil (fun h => absurd h (by simp [Tr.ps])) TrL.nil)
    clear hG hzl hzc hav HML HG
    obtain ⟨n, hn⟩ : ∃ n, zs.length = n := ⟨_, rfl⟩
    rw [hn] at K2 K3 ⊢
    clear hn
    go_wp2_with fail
    (try rw [hwd])
    refine (K2.out _ HV.out HP.out HK.out HZ.out).mono ?_
    rintro e w2 ⟨rfl, hb⟩
    clear hwd
    replace o0 := (hb.cell (p := ⟨w1.heap.size, 0, none⟩) hbz).trans o0
    replace o1 := (hb.cell (p := ⟨w1.heap.size, 1, none⟩) hbz).trans o1
    replace o2 := (hb.cell (p := ⟨w1.heap.size, 2, none⟩) hbz).trans o2
    replace o3 := (hb.cell (p := ⟨w1.heap.size, 3, none⟩) hbz).trans o3
    replace o4 := (hb.cell (p := ⟨w1.heap.size, 4, none⟩) hbz).trans o4
    have HB2 := Lib.hid (more HB.out (Nat.le_refl _) hb)
    have HP2 := Lib.hid (HP.out.below hb)
    have HK2 := Lib.hid (HK.out.below hb)
    have HZ2 := Lib.hid (HZ.out.below hb)
    have hs2 : w1.heap.size < w2.heap.size := Nat.lt_of_lt_of_le hbz hb.size
    have hb3 := Below.alloc (Below.refl w2.heap.size w2) (Nat.le_refl _) (.cells #[.int .i64 0, .int .i64 0, .string ⟨#[]⟩, .slice none 0 0, .slice none 0 0] 26)
    replace o0 := (hb3.cell (p := ⟨w1.heap.size, 0, none⟩) hs2).trans o0
    replace o1 := (hb3.cell (p := ⟨w1.heap.size, 1, none⟩) hs2).trans o1
    replace o2 := (hb3.cell (p := ⟨w1.heap.size, 2, none⟩) hs2).trans o2
    replace o3 := (hb3.cell (p := ⟨w1.heap.size, 3, none⟩) hs2).trans o3
    replace o4 := (hb3.cell (p := ⟨w1.heap.size, 4, none⟩) hs2).trans o4
    have p0 : (w2.alloc (.cells #[.int .i64 0, .int .i64 0, .string ⟨#[]⟩, .slice none 0 0, .slice none 0 0] 26)).cell? ⟨w2.heap.size, 0, none⟩ = some (.int .i64 0) := by go_simp
    have p1 : (w2.alloc (.cells #[.int .i64 0, .int .i64 0, .string ⟨#[]⟩, .slice none 0 0, .slice none 0 0] 26)).cell? ⟨w2.heap.size, 1, none⟩ = some (.int .i64 0) := by go_simp
    have p2 : (w2.alloc (.cells #[.int .i64 0, .int .i64 0, .string ⟨#[]⟩, .slice none 0 0, .slice none 0 0] 26)).cell? ⟨w2.heap.size, 2, none⟩ = some (.string ⟨#[]⟩) := by go_simp
    have p3 : (w2.alloc (.cells #[.int .i64 0, .int .i64 0, .string ⟨#[]⟩, .slice none 0 0, .slice none 0 0] 26)).cell? ⟨w2.heap.size, 3, none⟩ = some (.slice none 0 0) := by go_simp
    have p4 : (w2.alloc (.cells #[.int .i64 0, .int .i64 0, .string ⟨#[]⟩, .slice none 0 0, .slice none 0 0] 26)).cell? ⟨w2.heap.size, 4, none⟩ = some (.slice none 0 0) := by go_simp
    have HB3 := Lib.hid (more HB2.out (Nat.le_refl _) hb3)
    have HP3 := Lib.hid (HP2.out.below hb3)
    have HK3 := Lib.hid (HK2.out.below hb3)
    have HZ3 := Lib.hid (HZ2.out.below hb3)
    have hs3 : w2.heap.size < (w2.alloc (.cells #[.int .i64 0, .int .i64 0, .string ⟨#[]⟩, .slice none 0 0, .slice none 0 0] 26)).heap.size := by simp
    clear hb hb3 HB HP HK HZ HB2 HP2 HK2 HZ2 K2 HV
    go_wp2_with fail
    obtain ⟨w3, hw3⟩ : ∃ v, w2.alloc (.cells #[.int .i64 0, .int .i64 0, .string ⟨#[]⟩, .slice none 0 0, .slice none 0 0] 26) = v := ⟨_, rfl⟩
    rw [hw3] at o0 o1 o2 o3 o4 p0 p1 p2 p3 p4 HB3 HP3 HK3 HZ3 hs3 ⊢
    refine (K3.out _ HP3.out HK3.out HZ3.out).mono ?_
    rintro e w4 ⟨rfl, hb⟩
    clear hw3
    replace p0 := (hb.cell (p := ⟨w2.heap.size, 0, none⟩) hs3).trans p0
    replace p1 := (hb.cell (p := ⟨w2.heap.size, 1, none⟩) hs3).trans p1
    replace p2 := (hb.cell (p := ⟨w2.heap.size, 2, none⟩) hs3).trans p2
    replace p3 := (hb.cell (p := ⟨w2.heap.size, 3, none⟩) hs3).trans p3
    replace p4 := (hb.cell (p := ⟨w2.heap.size, 4, none⟩) hs3).trans p4
    have HB4 := Lib.hid (more HB3.out (Nat.le_refl _) hb)
    have hs4 : w2.heap.size < w4.heap.size := Nat.lt_of_lt_of_le hs3 hb.size
    have hb5 := Below.alloc (Below.refl w4.heap.size w4) (Nat.le_refl _) (.cells #[.int .i64 0, .int .i64 0, .string ⟨#[]⟩, .slice none 0 0, .slice none 0 0] 26)
    replace p0 := (hb5.cell (p := ⟨w2.heap.size, 0, none⟩) hs4).trans p0
    replace p1 := (hb5.cell (p := ⟨w2.heap.size, 1, none⟩) hs4).trans p1
    replace p2 := (hb5.cell (p := ⟨w2.heap.size, 2, none⟩) hs4).trans p2
    replace p3 := (hb5.cell (p := ⟨w2.heap.size, 3, none⟩) hs4).trans p3
    replace p4 := (hb5.cell (p := ⟨w2.heap.size, 4, none⟩) hs4).trans p4
    have q0 : (w4.alloc (.cells #[.int .i64 0, .int .i64 0, .string ⟨#[]⟩, .slice none 0 0, .slice none 0 0] 26)).cell? ⟨w4.heap.size, 0, none⟩ = some (.int .i64 0) := by go_simp
    have q1 : (w4.alloc (.cells #[.int .i64 0, .int .i64 0, .string ⟨#[]⟩, .slice none 0 0, .slice none 0 0] 26)).cell? ⟨w4.heap.size, 1, none⟩ = some (.int .i64 0) := by go_simp
    have q2 : (w4.alloc (.cells #[.int .i64 0, .int .i64 0, .string ⟨#[]⟩, .slice none 0 0, .slice none 0 0] 26)).cell? ⟨w4.heap.size, 2, none⟩ = some (.string ⟨#[]⟩) := by go_simp
    have q3 : (w4.alloc (.cells #[.int .i64 0, .int .i64 0, .string ⟨#[]⟩, .slice none 0 0, .slice none 0 0] 26)).cell? ⟨w4.heap.size, 3, none⟩ = some (.slice none 0 0) := by go_simp
    have q4 : (w4.alloc (.cells #[.int .i64 0, .int .i64 0, .string ⟨#[]⟩, .slice none 0 0, .slice none 0 0] 26)).cell? ⟨w4.heap.size, 4, none⟩ = some (.slice none 0 0) := by go_simp
    have HB5 := Lib.hid (more HB4.out (Nat.le_refl _) hb5)
    clear hb hb5 HB3 HP3 HK3 HZ3 HB4 K3 o0 o1 o2 o3 o4
    go_wp2_with fail
    obtain ⟨w5, hw5⟩ : ∃ v, w4.alloc (.cells #[.int .i64 0, .int .i64 0, .string ⟨#[]⟩, .slice none 0 0, .slice none 0 0] 26) = v := ⟨_, rfl⟩
    rw [hw5] at p0 p1 p2 p3 p4 q0 q1 q2 q3 q4 HB5 ⊢
    refine (KS.out _).mono ?_
    rintro e w6 ⟨rfl, hb⟩
    have HB6 := Lib.hid (more HB5.out (Nat.le_refl _) hb)
    clear hb hw5 p0 p1 p2 p3 p4 q0 q1 q2 q3 q4
    go_wp2_with fail
    go_ret
    exact ⟨rfl, HB6.out⟩
  | some x =>
    have hGx := gd_atV hG hav
    have K2 := Lib.hid (fun w hv hp hk hz => (iTreeAt_any Vs shOk t (gsm t hG) (gkw t hG) zs (HML.out zs hzl) (some ⟨b, 0, none⟩) A0 A1 c c0 c1 w hv hp hk hz).mono fun e w' h => (show TaS x w e w' from TaX.is h hav))
    have K3 := Lib.hid (fun w hp hk hz => (sTreeAt_any t (gsm t hG) zs (HML.out zs hzl) (some ⟨b, 0, none⟩) A0 A1 c c0 c1 w hp hk hz).mono fun e w' h => (show TaS x w e w' from TaX.is h hav))
    have KS := Lib.hid (fun A0 A1 B0 B1 c0 c1 d0 d1 w hp hk hq hj => SameTree_any x (gsm x hGx) A0 A1 B0 B1 c0 c1 d0 d1 w hp hk hq hj)
    have HAV := Lib.hid hav
    have HZL := Lib.hid hzl
    clear hGx hav
    obtain ⟨n, hn⟩ : ∃ n, zs.length = n := ⟨_, rfl⟩
    have HN := Lib.hid hn
    rw [hn] at K2 K3 hzc hzl ⊢
    clear hn
    go_wp2_with fail
    (try rw [hwd])
    refine (K2.out _ HV.out HP.out HK.out HZ.out).mono ?_
    rintro e w2 ⟨B0, B1, f0, f1, rfl, hpx, _, hkx, hb⟩
    clear hwd
    replace o0 := (hb.cell (p := ⟨w1.heap.size, 0, none⟩) hbz).trans o0
    replace o1 := (hb.cell (p := ⟨w1.heap.size, 1, none⟩) hbz).trans o1
    replace o2 := (hb.cell (p := ⟨w1.heap.size, 2, none⟩) hbz).trans o2
    replace o3 := (hb.cell (p := ⟨w1.heap.size, 3, none⟩) hbz).trans o3
    replace o4 := (hb.cell (p := ⟨w1.heap.size, 4, none⟩) hbz).trans o4
    have HB2 := Lib.hid (more HB.out (Nat.le_refl _) hb)
    have hb3 := Below.alloc (Below.refl w2.heap.size w2) (Nat.le_refl _) (.cells #[.int .i64 x.tag, .int .i64 x.key, .string x.text, .slice B0 x.ps.length f0, .slice B1 x.ks.length f1] 26)
    have hbb := more hb (Nat.le_refl _) hb3
    have hs2 : w1.heap.size < w2.heap.size := Nat.lt_of_lt_of_le hbz hb.size
    replace o0 := (hb3.cell (p := ⟨w1.heap.size, 0, none⟩) hs2).trans o0
    replace o1 := (hb3.cell (p := ⟨w1.heap.size, 1, none⟩) hs2).trans o1
    replace o2 := (hb3.cell (p := ⟨w1.heap.size, 2, none⟩) hs2).trans o2
    replace o3 := (hb3.cell (p := ⟨w1.heap.size, 3, none⟩) hs2).trans o3
    replace o4 := (hb3.cell (p := ⟨w1.heap.size, 4, none⟩) hs2).trans o4
    have p0 : (w2.alloc (.cells #[.int .i64 x.tag, .int .i64 x.key, .string x.text, .slice B0 x.ps.length f0, .slice B1 x.ks.length f1] 26)).cell? ⟨w2.heap.size, 0, none⟩ = some (.int .i64 x.tag) := by go_simp
    have p1 : (w2.alloc (.cells #[.int .i64 x.tag, .int .i64 x.key, .string x.text, .slice B0 x.ps.length f0, .slice B1 x.ks.length f1] 26)).cell? ⟨w2.heap.size, 1, none⟩ = some (.int .i64 x.key) := by go_simp
    have p2 : (w2.alloc (.cells #[.int .i64 x.tag, .int .i64 x.key, .string x.text, .slice B0 x.ps.length f0, .slice B1 x.ks.length f1] 26)).cell? ⟨w2.heap.size, 2, none⟩ = some (.string x.text) := by go_simp
    have p3 : (w2.alloc (.cells #[.int .i64 x.tag, .int .i64 x.key, .string x.text, .slice B0 x.ps.length f0, .slice B1 x.ks.length f1] 26)).cell? ⟨w2.heap.size, 3, none⟩ = some (.slice B0 x.ps.length f0) := by go_simp
    have p4 : (w2.alloc (.cells #[.int .i64 x.tag, .int .i64 x.key, .string x.text, .slice B0 x.ps.length f0, .slice B1 x.ks.length f1] 26)).cell? ⟨w2.heap.size, 4, none⟩ = some (.slice B1 x.ks.length f1) := by go_simp
    have HB3 := Lib.hid (more HB2.out (Nat.le_refl _) hb3)
    have HV3 := Lib.hid (HV.out.next hbb)
    have HP3 := Lib.hid (HP.out.below hbb)
    have HK3 := Lib.hid (HK.out.below hbb)
    have HZ3 := Lib.hid (HZ.out.below hbb)
    have HPX3 := Lib.hid (hpx.below hb3)
    have HKX3 := Lib.hid ((hkx.mono (Nat.zero_le _)).below hb3)
    have hs3 : w2.heap.size < (w2.alloc (.cells #[.int .i64 x.tag, .int .i64 x.key, .string x.text, .slice B0 x.ps.length f0, .slice B1 x.ks.length f1] 26)).heap.size := by simp
    clear hb hb3 hbb hpx hkx HB HP HK HZ HB2 HV K2
    go_wp2_with fail
    obtain ⟨w3, hw3⟩ : ∃ v, w2.alloc (.cells #[.int .i64 x.tag, .int .i64 x.key, .string x.text, .slice B0 x.ps.length f0, .slice B1 x.ks.length f1] 26) = v := ⟨_, rfl⟩
    rw [hw3] at o0 o1 o2 o3 o4 p0 p1 p2 p3 p4 HB3 HV3 HP3 HK3 HZ3 HPX3 HKX3 hs3 ⊢
    refine (K3.out _ HP3.out HK3.out HZ3.out).mono ?_
    rintro e w4 ⟨C0, C1, h0, h1, rfl, hpx, _, hkx, hb⟩
    clear hw3
    replace o0 := (hb.cell (p := ⟨w1.heap.size, 0, none⟩) (by first | omega | (dsimp only; omega))).trans o0
    replace o1 := (hb.cell (p := ⟨w1.heap.size, 1, none⟩) (by first | omega | (dsimp only; omega))).trans o1
    replace o2 := (hb.cell (p := ⟨w1.heap.size, 2, none⟩) (by first | omega | (dsimp only; omega))).trans o2
    replace o3 := (hb.cell (p := ⟨w1.heap.size, 3, none⟩) (by first | omega | (dsimp only; omega))).trans o3
    replace o4 := (hb.cell (p := ⟨w1.heap.size, 4, none⟩) (by first | omega | (dsimp only; omega))).trans o4
    replace p0 := (hb.cell (p := ⟨w2.heap.size, 0, none⟩) hs3).trans p0
    replace p1 := (hb.cell (p := ⟨w2.heap.size, 1, none⟩) hs3).trans p1
    replace p2 := (hb.cell (p := ⟨w2.heap.size, 2, none⟩) hs3).trans p2
    replace p3 := (hb.cell (p := ⟨w2.heap.size, 3, none⟩) hs3).trans p3
    replace p4 := (hb.cell (p := ⟨w2.heap.size, 4, none⟩) hs3).trans p4
    have HB4 := Lib.hid (more HB3.out (Nat.le_refl _) hb)
    have hs4 : w2.heap.size < w4.heap.size := Nat.lt_of_lt_of_le hs3 hb.size
    have hb5 := Below.alloc (Below.refl w4.heap.size w4) (Nat.le_refl _) (.cells #[.int .i64 x.tag, .int .i64 x.key, .string x.text, .slice C0 x.ps.length h0, .slice C1 x.ks.length h1] 26)
    have hbb := more hb (Nat.le_refl _) hb5
    replace o0 := (hb5.cell (p := ⟨w1.heap.size, 0, none⟩) (by first | omega | (dsimp only; omega))).trans o0
    replace o1 := (hb5.cell (p := ⟨w1.heap.size, 1, none⟩) (by first | omega | (dsimp only; omega))).trans o1
    replace o2 := (hb5.cell (p := ⟨w1.heap.size, 2, none⟩) (by first | omega | (dsimp only; omega))).trans o2
    replace o3 := (hb5.cell (p := ⟨w1.heap.size, 3, none⟩) (by first | omega | (dsimp only; omega))).trans o3
    replace o4 := (hb5.cell (p := ⟨w1.heap.size, 4, none⟩) (by first | omega | (dsimp only; omega))).trans o4
    replace p0 := (hb5.cell (p := ⟨w2.heap.size, 0, none⟩) hs4).trans p0
    replace p1 := (hb5.cell (p := ⟨w2.heap.size, 1, none⟩) hs4).trans p1
    replace p2 := (hb5.cell (p := ⟨w2.heap.size, 2, none⟩) hs4).trans p2
    replace p3 := (hb5.cell (p := ⟨w2.heap.size, 3, none⟩) hs4).trans p3
    replace p4 := (hb5.cell (p := ⟨w2.heap.size, 4, none⟩) hs4).trans p4
    have q0 : (w4.alloc (.cells #[.int .i64 x.tag, .int .i64 x.key, .string x.text, .slice C0 x.ps.length h0, .slice C1 x.ks.length h1] 26)).cell? ⟨w4.heap.size, 0, none⟩ = some (.int .i64 x.tag) := by go_simp
    have q1 : (w4.alloc (.cells #[.int .i64 x.tag, .int .i64 x.key, .string x.text, .slice C0 x.ps.length h0, .slice C1 x.ks.length h1] 26)).cell? ⟨w4.heap.size, 1, none⟩ = some (.int .i64 x.key) := by go_simp
    have q2 : (w4.alloc (.cells #[.int .i64 x.tag, .int .i64 x.key, .string x.text, .slice C0 x.ps.length h0, .slice C1 x.ks.length h1] 26)).cell? ⟨w4.heap.size, 2, none⟩ = some (.string x.text) := by go_simp
    have q3 : (w4.alloc (.cells #[.int .i64 x.tag, .int .i64 x.key, .string x.text, .slice C0 x.ps.length h0, .slice C1 x.ks.length h1] 26)).cell? ⟨w4.heap.size, 3, none⟩ = some (.slice C0 x.ps.length h0) := by go_simp
    have q4 : (w4.alloc (.cells #[.int .i64 x.tag, .int .i64 x.key, .string x.text, .slice C0 x.ps.length h0, .slice C1 x.ks.length h1] 26)).cell? ⟨w4.heap.size, 4, none⟩ = some (.slice C1 x.ks.length h1) := by go_simp
    have HB5 := Lib.hid (more HB4.out (Nat.le_refl _) hb5)
    have HV5 := Lib.hid (HV3.out.next hbb)
    have HP5 := Lib.hid (HP3.out.below hbb)
    have HK5 := Lib.hid (HK3.out.below hbb)
    have HZ5 := Lib.hid (HZ3.out.below hbb)
    have HPX5 := Lib.hid (HPX3.out.below hbb)
    have HKX5 := Lib.hid (HKX3.out.below hbb)
    have HPC5 := Lib.hid (hpx.below hb5)
    have HKC5 := Lib.hid ((hkx.mono (Nat.zero_le _)).below hb5)
    have hs5 : w2.heap.size < (w4.alloc (.cells #[.int .i64 x.tag, .int .i64 x.key, .string x.text, .slice C0 x.ps.length h0, .slice C1 x.ks.length h1] 26)).heap.size := by simp; omega
    clear hb hb5 hbb hpx hkx HB3 HP3 HK3 HZ3 HV3 HPX3 HKX3 HB4 K3 hs3 hs4
    go_wp2_with fail
    obtain ⟨w5, hw5⟩ : ∃ v, w4.alloc (.cells #[.int .i64 x.tag, .int .i64 x.key, .string x.text, .slice C0 x.ps.length h0, .slice C1 x.ks.length h1] 26) = v := ⟨_, rfl⟩
    rw [hw5] at o0 o1 o2 o3 o4 p0 p1 p2 p3 p4 q0 q1 q2 q3 q4 HB5 HV5 HP5 HK5 HZ5 HPX5 HKX5 HPC5 HKC5 hs5 ⊢
    refine (KS.out _ _ _ _ _ _ _ _ _ HPX5.out HKX5.out HPC5.out HKC5.out).mono ?_
    rintro e w6 ⟨rfl, hb⟩
    clear hw5 q0 q1 q2 q3 q4 HPC5 HKC5
    replace o0 := (hb.cell (p := ⟨w1.heap.size, 0, none⟩) (by first | omega | (dsimp only; omega))).trans o0
    replace o1 := (hb.cell (p := ⟨w1.heap.size, 1, none⟩) (by first | omega | (dsimp only; omega))).trans o1
    replace o2 := (hb.cell (p := ⟨w1.heap.size, 2, none⟩) (by first | omega | (dsimp only; omega))).trans o2
    replace o3 := (hb.cell (p := ⟨w1.heap.size, 3, none⟩) (by first | omega | (dsimp only; omega))).trans o3
    replace o4 := (hb.cell (p := ⟨w1.heap.size, 4, none⟩) (by first | omega | (dsimp only; omega))).trans o4
    replace p0 := (hb.cell (p := ⟨w2.heap.size, 0, none⟩) hs5).trans p0
    replace p1 := (hb.cell (p := ⟨w2.heap.size, 1, none⟩) hs5).trans p1
    replace p2 := (hb.cell (p := ⟨w2.heap.size, 2, none⟩) hs5).trans p2
    replace p3 := (hb.cell (p := ⟨w2.heap.size, 3, none⟩) hs5).trans p3
    replace p4 := (hb.cell (p := ⟨w2.heap.size, 4, none⟩) hs5).trans p4
    have HB6 := Lib.hid (more HB5.out (Nat.le_refl _) hb)
    have HV6 := Lib.hid (HV5.out.next hb)
    have HP6 := Lib.hid (HP5.out.below hb)
    have HK6 := Lib.hid (HK5.out.below hb)
    have HZ6 := Lib.hid (HZ5.out.below hb)
    have HPX6 := Lib.hid (HPX5.out.below hb)
    have HKX6 := Lib.hid (HKX5.out.below hb)
    have hs6 : w2.heap.size < w6.heap.size := Nat.lt_of_lt_of_le hs5 hb.size
    clear hb HB5 HV5 HP5 HK5 HZ5 HPX5 HKX5 hs5
    cases zs with
    | nil =>
      obtain rfl : 0 = n := HN.out
      go_wp2_with fail
      go_ret
      exact ⟨rfl, HB6.out⟩
    | cons z zs =>
      obtain ⟨m, hm⟩ : ∃ m, zs.length = m := ⟨_, rfl⟩
      obtain rfl : m + 1 = n := by rw [← hm]; exact HN.out
      obtain ⟨y, hy1, hy2, _⟩ := atV_split HAV.out
      have hGy := gd_atV HG.out hy1
      have HM := Lib.hid hm
      have K9 := Lib.hid (fun w hv hp hk hz => (show Calls Tryd.prog 19 #[.agg #[.int .i64 t.tag, .int .i64 t.key, .string t.text, .slice A0 t.ps.length c0, .slice A1 t.ks.length c1], .slice (some ⟨b, 0, none⟩) 1 c] w (TaS y w) from (iTreeAt_any Vs shOk t (gsm t HG.out) (gkw t HG.out) [z] (by unfold maxLen; simp) (some ⟨b, 0, none⟩) A0 A1 c c0 c1 w hv hp hk hz).mono fun e w' h => TaX.is h hy1))
      have K10 := Lib.hid (fun B c D0 D1 i0 i1 w hv hp hk hz => (show Calls Tryd.prog 19 #[.agg #[.int .i64 y.tag, .int .i64 y.key, .string y.text, .slice D0 y.ps.length i0, .slice D1 y.ks.length i1], .slice B m c] w (TaS x w) from hm ▸ (iTreeAt_any Vs shOk y (gsm y hGy) (gkw y hGy) zs (HML.out zs (by omega)) B D0 D1 c i0 i1 w hv hp hk hz).mono fun e w' h => TaX.is h hy2))
      clear HAV HN HG HML hy1 hy2 hGy hm hG HZL
      have hc1 : (1 : Int) ≤ (c : Int) := by omega
      go_wp2_with fail
      apply laterR (F := fun g D0 D1 i0 i1 we => Hid (Laid w6 y g D0 D1 i0 i1 we))
      · intro hTail
        have SF : Hid (∀ W, Below w6.heap.size w6 W → (fun w' : World => w'.cell? ⟨w1.heap.size, 0, none⟩ = some (.int .i64 t.tag) ∧ w'.cell? ⟨w1.heap.size, 1, none⟩ = some (.int .i64 t.key) ∧ w'.cell? ⟨w1.heap.size, 2, none⟩ = some (.string t.text) ∧ w'.cell? ⟨w1.heap.size, 3, none⟩ = some (.slice A0 t.ps.length c0) ∧ w'.cell? ⟨w1.heap.size, 4, none⟩ = some (.slice A1 t.ks.length c1)) W) := Lib.hid (fun W hb => ⟨(hb.cell (p := ⟨w1.heap.size, 0, none⟩) (by first | omega | (dsimp only; omega))).trans o0, (hb.cell (p := ⟨w1.heap.size, 1, none⟩) (by first | omega | (dsimp only; omega))).trans o1, (hb.cell (p := ⟨w1.heap.size, 2, none⟩) (by first | omega | (dsimp only; omega))).trans o2, (hb.cell (p := ⟨w1.heap.size, 3, none⟩) (by first | omega | (dsimp only; omega))).trans o3, (hb.cell (p := ⟨w1.heap.size, 4, none⟩) (by first | omega | (dsimp only; omega))).trans o4⟩)
        refine wp_region_held_drew (S := fun w' : World => w'.cell? ⟨w1.heap.size, 0, none⟩ = some (.int .i64 t.tag) ∧ w'.cell? ⟨w1.heap.size, 1, none⟩ = some (.int .i64 t.key) ∧ w'.cell? ⟨w1.heap.size, 2, none⟩ = some (.string t.text) ∧ w'.cell? ⟨w1.heap.size, 3, none⟩ = some (.slice A0 t.ps.length c0) ∧ w'.cell? ⟨w1.heap.size, 4, none⟩ = some (.slice A1 t.ks.length c1)) (by kernel_rfl) (SF.out _ (Below.drew (Below.refl _ _))) (fun hHeld => ?_)
        refine wpAnyH_take (i := 0) (oi := _) (v := ?_) rfl (by kernel_rfl) (by kernel_rfl) (by kernel_rfl) (fun _ _ _ h => h) (Or.inl ⟨by kernel_rfl, ?_⟩) (by assumption) ?_
        rotate_left
        · (intro w hSw; (try dsimp only at hSw); go_simp)
          try with_reducible rfl
        (try simp only [Act.put, List.getElem_toArray, List.getElem_cons_zero, List.getElem_cons_succ, List.setIfInBounds_toArray, List.set_cons_zero, List.set_cons_succ])
        refine wpAnyH_take (i := 1) (oi := _) (v := ?_) rfl (by kernel_rfl) (by kernel_rfl) (by kernel_rfl) (fun _ _ _ h => h) (Or.inl ⟨by kernel_rfl, ?_⟩) (by assumption) ?_
        rotate_left
        · (intro w hSw; (try dsimp only at hSw); go_simp)
          try with_reducible rfl
        (try simp only [Act.put, List.getElem_toArray, List.getElem_cons_zero, List.getElem_cons_succ, List.setIfInBounds_toArray, List.set_cons_zero, List.set_cons_succ])
        refine wpAnyH_take (i := 2) (oi := _) (v := ?_) rfl (by kernel_rfl) (by kernel_rfl) (by kernel_rfl) (fun _ _ _ h => h) (Or.inl ⟨by kernel_rfl, ?_⟩) (by assumption) ?_
        rotate_left
        · (intro w hSw; (try dsimp only at hSw); go_simp)
          try with_reducible rfl
        (try simp only [Act.put, List.getElem_toArray, List.getElem_cons_zero, List.getElem_cons_succ, List.setIfInBounds_toArray, List.set_cons_zero, List.set_cons_succ])
        refine wpAnyH_ready (rs := [3, 7]) (by kernel_rfl) (by simp) ?_
        refine AllReadyH.cons (o := _) rfl (fun K hK => ?_) ?_
        · skip
          go_simp
          refine ((fun W (hb : Below w6.heap.size w6 W) => K9.out W (HV6.out.next hb) (HP6.out.below hb) (HK6.out.below hb) ((HZ6.out.below hb).first)) _ (Below.drew (Below.refl _ _))).mono ?_
          rintro e u1 ⟨D0, D1, i0, i1, rfl, hpp, hpl, hkk, hb⟩
          have hbu := Below.trans (Below.drew (Below.refl w6.heap.size w6)) hb
          have HBU := Lib.hid hbu
          have HL := Lib.hid (laidA (y := y) (i0 := i0) (i1 := i1) hbu hpp (hkk.mono (Nat.zero_le _)))
          refine hK.out _ _ (SF.out _ hbu) (fun hHeld2 => ?_)
          clear hHeld2 hK K hb hpp hpl hkk hHeld hbu
          have hHeld := SF.out _ HBU.out
          (try simp only [Act.put, List.getElem_toArray, List.getElem_cons_zero, List.getElem_cons_succ, List.setIfInBounds_toArray, List.set_cons_zero, List.set_cons_succ])
          refine wpAnyH_take (i := 4) (oi := _) (v := ?_) rfl (by kernel_rfl) (by kernel_rfl) (by kernel_rfl) (fun _ _ _ h => h) (Or.inl ⟨by kernel_rfl, ?_⟩) (by assumption) ?_
          rotate_left
          · (intro w hSw; (try dsimp only at hSw); go_simp)
            try with_reducible rfl
          (try simp only [Act.put, List.getElem_toArray, List.getElem_cons_zero, List.getElem_cons_succ, List.setIfInBounds_toArray, List.set_cons_zero, List.set_cons_succ])
          refine wpAnyH_take (i := 5) (oi := _) (v := ?_) rfl (by kernel_rfl) (by kernel_rfl) (by kernel_rfl) (fun _ _ _ h => h) (Or.inl ⟨by kernel_rfl, ?_⟩) (by assumption) ?_
          rotate_left
          · (intro w hSw; (try dsimp only at hSw); go_simp)
            try with_reducible rfl
          (try simp only [Act.put, List.getElem_toArray, List.getElem_cons_zero, List.getElem_cons_succ, List.setIfInBounds_toArray, List.set_cons_zero, List.set_cons_succ])
          refine wpAnyH_take (i := 6) (oi := _) (v := ?_) rfl (by kernel_rfl) (by kernel_rfl) (by kernel_rfl) (fun _ _ _ h => h) (Or.inl ⟨by kernel_rfl, ?_⟩) (by assumption) ?_
          rotate_left
          · (intro w hSw; (try dsimp only at hSw); go_simp)
            try with_reducible rfl
          (try simp only [Act.put, List.getElem_toArray, List.getElem_cons_zero, List.getElem_cons_succ, List.setIfInBounds_toArray, List.set_cons_zero, List.set_cons_succ])
          refine wpAnyH_ready (rs := [7]) (by kernel_rfl) (by simp) ?_
          refine AllReadyH.cons (o := _) rfl (fun K hK => ?_) AllReadyH.nil
          go_simp
          have HG := Lib.hid (World.alloc_heap_new u1 (.cells #[.int .i64 0, .int .i64 0, .string ⟨#[]⟩, .slice none 0 0, .slice none 0 0] 26))
          refine hK.out _ _ (SF.out _ (HBU.out.alloc HBU.out.size (.cells #[.int .i64 0, .int .i64 0, .string ⟨#[]⟩, .slice none 0 0, .slice none 0 0] 26))) (fun hHeld2 => ?_)
          clear hHeld2 hK K hHeld
          have hHeld := SF.out _ (HBU.out.alloc HBU.out.size (.cells #[.int .i64 0, .int .i64 0, .string ⟨#[]⟩, .slice none 0 0, .slice none 0 0] 26))
          (try simp only [Act.put, List.getElem_toArray, List.getElem_cons_zero, List.getElem_cons_succ, List.setIfInBounds_toArray, List.set_cons_zero, List.set_cons_succ])
          obtain ⟨u2, hu2⟩ : ∃ v, u1.alloc (.cells #[.int .i64 0, .int .i64 0, .string ⟨#[]⟩, .slice none 0 0, .slice none 0 0] 26) = v := ⟨_, rfl⟩
          obtain ⟨gg, hgg⟩ : ∃ v, u1.heap.size = v := ⟨_, rfl⟩
          rw [hu2] at HG HL hHeld ⊢
          rw [hgg] at HG HL ⊢
          clear hu2 hgg HBU
          refine wpAnyH_ready (rs := [8]) (by kernel_rfl) (by simp) ?_
          refine AllReadyH.cons (o := _) rfl (fun K hK => ?_) AllReadyH.nil
          obtain ⟨z0, z1, z2, z3, z4⟩ := five5 HG.out
          have zf := fun j => Lib.frozen_of_heap HG.out j
          go_simp
          refine hK.out _ _ (SF.out _ HL.out.1) (fun hHeld2 => ?_)
          clear hHeld2 hK K z0 z1 z2 z3 z4 zf HG
          (try simp only [Act.put, List.getElem_toArray, List.getElem_cons_zero, List.getElem_cons_succ, List.setIfInBounds_toArray, List.set_cons_zero, List.set_cons_succ])
          obtain ⟨we, hwe⟩ : ∃ v, (((((u2.setCell ⟨gg, 0, none⟩ (.int .i64 y.tag)).setCell ⟨gg, 1, none⟩ (.int .i64 y.key)).setCell ⟨gg, 2, none⟩ (.string y.text)).setCell ⟨gg, 3, none⟩ (.slice D0 y.ps.length i0)).setCell ⟨gg, 4, none⟩ (.slice D1 y.ks.length i1)) = v := ⟨_, rfl⟩
          rw [hwe] at HL ⊢
          have hHeld2 := SF.out _ HL.out.1
          clear hwe hHeld
          have hHeld := hHeld2
          clear hHeld2
          refine wpAnyH_take (i := 9) (oi := _) (v := ?_) rfl (by kernel_rfl) (by kernel_rfl) (by kernel_rfl) (fun _ _ _ h => h) (Or.inl ⟨by kernel_rfl, ?_⟩) (by assumption) ?_
          rotate_left
          · (intro w hSw; (try dsimp only at hSw); go_simp)
            try with_reducible rfl
          (try simp only [Act.put, List.getElem_toArray, List.getElem_cons_zero, List.getElem_cons_succ, List.setIfInBounds_toArray, List.set_cons_zero, List.set_cons_succ])
          refine wpAnyH_done (by kernel_rfl) ?_ _
          exact hTail.out gg D0 D1 i0 i1 we HL
        refine AllReadyH.cons (o := _) rfl (fun K hK => ?_) AllReadyH.nil
        go_simp
        have hb0 := Below.drew (Below.alloc (Below.refl w6.heap.size w6) (Nat.le_refl _) (.cells #[.int .i64 0, .int .i64 0, .string ⟨#[]⟩, .slice none 0 0, .slice none 0 0] 26))
        have hg0 : (w6.alloc (.cells #[.int .i64 0, .int .i64 0, .string ⟨#[]⟩, .slice none 0 0, .slice none 0 0] 26)).drew.heap[w6.heap.size]? = some (.cells #[.int .i64 0, .int .i64 0, .string ⟨#[]⟩, .slice none 0 0, .slice none 0 0] 26) := World.alloc_heap_new w6 _
        refine hK.out _ _ (SF.out _ hb0) (fun hHeld2 => ?_)
        clear hHeld2 hK K hHeld
        have hHeld := SF.out _ hb0
        (try simp only [Act.put, List.getElem_toArray, List.getElem_cons_zero, List.getElem_cons_succ, List.setIfInBounds_toArray, List.set_cons_zero, List.set_cons_succ])
        obtain ⟨u2, hu2⟩ : ∃ v, (w6.alloc (.cells #[.int .i64 0, .int .i64 0, .string ⟨#[]⟩, .slice none 0 0, .slice none 0 0] 26)).drew = v := ⟨_, rfl⟩
        rw [hu2] at hb0 hg0 hHeld ⊢
        have HB0 := Lib.hid hb0
        have HG0 := Lib.hid hg0
        clear hb0 hg0 hu2
        refine wpAnyH_ready (rs := [3]) (by kernel_rfl) (by simp) ?_
        refine AllReadyH.cons (o := _) rfl (fun K hK => ?_) AllReadyH.nil
        go_simp
        refine ((fun W (hb : Below w6.heap.size w6 W) => K9.out W (HV6.out.next hb) (HP6.out.below hb) (HK6.out.below hb) ((HZ6.out.below hb).first)) _ HB0.out).mono ?_
        rintro e u1 ⟨D0, D1, i0, i1, rfl, hpp, hpl, hkk, hb⟩
        have hg1 := (hb.block _ (Array.getElem?_eq_some_iff.1 HG0.out).1).trans HG0.out
        have hbu := HB0.out.trans (hb.mono HB0.out.size)
        have HL := Lib.hid (laidB (y := y) (i0 := i0) (i1 := i1) HB0.out HG0.out hb hpp hpl hkk)
        have HG := Lib.hid hg1
        refine hK.out _ _ (SF.out _ hbu) (fun hHeld2 => ?_)
        clear hHeld2 hK K hHeld
        have hHeld := SF.out _ hbu
        clear hb hpp hpl hkk hg1 hbu HB0 HG0
        (try simp only [Act.put, List.getElem_toArray, List.getElem_cons_zero, List.getElem_cons_succ, List.setIfInBounds_toArray, List.set_cons_zero, List.set_cons_succ])
        refine wpAnyH_take (i := 4) (oi := _) (v := ?_) rfl (by kernel_rfl) (by kernel_rfl) (by kernel_rfl) (fun _ _ _ h => h) (Or.inl ⟨by kernel_rfl, ?_⟩) (by assumption) ?_
        rotate_left
        · (intro w hSw; (try dsimp only at hSw); go_simp)
          try with_reducible rfl
        (try simp only [Act.put, List.getElem_toArray, List.getElem_cons_zero, List.getElem_cons_succ, List.setIfInBounds_toArray, List.set_cons_zero, List.set_cons_succ])
        refine wpAnyH_take (i := 5) (oi := _) (v := ?_) rfl (by kernel_rfl) (by kernel_rfl) (by kernel_rfl) (fun _ _ _ h => h) (Or.inl ⟨by kernel_rfl, ?_⟩) (by assumption) ?_
        rotate_left
        · (intro w hSw; (try dsimp only at hSw); go_simp)
          try with_reducible rfl
        (try simp only [Act.put, List.getElem_toArray, List.getElem_cons_zero, List.getElem_cons_succ, List.setIfInBounds_toArray, List.set_cons_zero, List.set_cons_succ])
        refine wpAnyH_take (i := 6) (oi := _) (v := ?_) rfl (by kernel_rfl) (by kernel_rfl) (by kernel_rfl) (fun _ _ _ h => h) (Or.inl ⟨by kernel_rfl, ?_⟩) (by assumption) ?_
        rotate_left
        · (intro w hSw; (try dsimp only at hSw); go_simp)
          try with_reducible rfl
        (try simp only [Act.put, List.getElem_toArray, List.getElem_cons_zero, List.getElem_cons_succ, List.setIfInBounds_toArray, List.set_cons_zero, List.set_cons_succ])
        obtain ⟨gg, hgg⟩ : ∃ v, w6.heap.size = v := ⟨_, rfl⟩
        rw [show Laid w6 y w6.heap.size = Laid w6 y gg from by rw [hgg]] at HL
        rw [hgg] at HG HL ⊢
        clear hgg
        refine wpAnyH_ready (rs := [8]) (by kernel_rfl) (by simp) ?_
        refine AllReadyH.cons (o := _) rfl (fun K hK => ?_) AllReadyH.nil
        obtain ⟨z0, z1, z2, z3, z4⟩ := five5 HG.out
        have zf := fun j => Lib.frozen_of_heap HG.out j
        go_simp
        refine hK.out _ _ (SF.out _ HL.out.1) (fun hHeld2 => ?_)
        clear hHeld2 hK K z0 z1 z2 z3 z4 zf HG
        (try simp only [Act.put, List.getElem_toArray, List.getElem_cons_zero, List.getElem_cons_succ, List.setIfInBounds_toArray, List.set_cons_zero, List.set_cons_succ])
        obtain ⟨we, hwe⟩ : ∃ v, (((((u1.setCell ⟨gg, 0, none⟩ (.int .i64 y.tag)).setCell ⟨gg, 1, none⟩ (.int .i64 y.key)).setCell ⟨gg, 2, none⟩ (.string y.text)).setCell ⟨gg, 3, none⟩ (.slice D0 y.ps.length i0)).setCell ⟨gg, 4, none⟩ (.slice D1 y.ks.length i1)) = v := ⟨_, rfl⟩
        rw [hwe] at HL ⊢
        have hHeld2 := SF.out _ HL.out.1
        clear hwe hHeld
        have hHeld := hHeld2
        clear hHeld2
        refine wpAnyH_take (i := 9) (oi := _) (v := ?_) rfl (by kernel_rfl) (by kernel_rfl) (by kernel_rfl) (fun _ _ _ h => h) (Or.inl ⟨by kernel_rfl, ?_⟩) (by assumption) ?_
        rotate_left
        · (intro w hSw; (try dsimp only at hSw); go_simp)
          try with_reducible rfl
        (try simp only [Act.put, List.getElem_toArray, List.getElem_cons_zero, List.getElem_cons_succ, List.setIfInBounds_toArray, List.set_cons_zero, List.set_cons_succ])
        refine wpAnyH_done (by kernel_rfl) ?_ _
        exact hTail.out gg D0 D1 i0 i1 we HL
      intro g9 D0 D1 i0 i1 we9 HL9
      (try dsimp only at HL9)
      obtain ⟨l0, l1, l2, l3, l4⟩ := five5 HL9.out.2.2.1
      have hg9 : g9 < we9.heap.size := (Array.getElem?_eq_some_iff.1 HL9.out.2.2.1).1
      replace p0 := (HL9.out.1.cell (p := ⟨w2.heap.size, 0, none⟩) hs6).trans p0
      replace p1 := (HL9.out.1.cell (p := ⟨w2.heap.size, 1, none⟩) hs6).trans p1
      replace p2 := (HL9.out.1.cell (p := ⟨w2.heap.size, 2, none⟩) hs6).trans p2
      replace p3 := (HL9.out.1.cell (p := ⟨w2.heap.size, 3, none⟩) hs6).trans p3
      replace p4 := (HL9.out.1.cell (p := ⟨w2.heap.size, 4, none⟩) hs6).trans p4
      have hs9 : w2.heap.size < we9.heap.size := Nat.lt_of_lt_of_le hs6 HL9.out.1.size
      have HB9 := Lib.hid (more HB6.out (Nat.le_refl _) HL9.out.1)
      have HV9 := Lib.hid (HV6.out.next HL9.out.1)
      have HPX9 := Lib.hid (HPX6.out.below HL9.out.1)
      have HKX9 := Lib.hid (HKX6.out.below HL9.out.1)
      have HZR := Lib.hid (way_rest (HZ6.out.below HL9.out.1) HM.out hzc)
      have HPD := Lib.hid HL9.out.2.2.2.1
      have HKD := Lib.hid HL9.out.2.2.2.2
      clear HL9 HP6 HK6 HPX6 HKX6 HZ6 HV6 HB6 o0 o1 o2 o3 o4 K9 hs6
      have hm1 : (1 : Int) ≤ ((m + 1 : Nat) : Int) := by omega
      have hm2 : (1 : Int) ≤ (m : Int) + 1 := by omega
      go_wp2_with fail
      apply laterR (F := fun g E0 E1 j0 j1 we => Hid (Laid we9 x g E0 E1 j0 j1 we))
      · intro hTail
        have SF : Hid (∀ W, Below we9.heap.size we9 W → (fun w' : World => w'.cell? ⟨g9, 0, none⟩ = some (.int .i64 y.tag) ∧ w'.cell? ⟨g9, 1, none⟩ = some (.int .i64 y.key) ∧ w'.cell? ⟨g9, 2, none⟩ = some (.string y.text) ∧ w'.cell? ⟨g9, 3, none⟩ = some (.slice D0 y.ps.length i0) ∧ w'.cell? ⟨g9, 4, none⟩ = some (.slice D1 y.ks.length i1)) W) := Lib.hid (fun W hb => ⟨(hb.cell (p := ⟨g9, 0, none⟩) (by first | omega | (dsimp only; omega))).trans l0, (hb.cell (p := ⟨g9, 1, none⟩) (by first | omega | (dsimp only; omega))).trans l1, (hb.cell (p := ⟨g9, 2, none⟩) (by first | omega | (dsimp only; omega))).trans l2, (hb.cell (p := ⟨g9, 3, none⟩) (by first | omega | (dsimp only; omega))).trans l3, (hb.cell (p := ⟨g9, 4, none⟩) (by first | omega | (dsimp only; omega))).trans l4⟩)
        refine wp_region_held_drew (S := fun w' : World => w'.cell? ⟨g9, 0, none⟩ = some (.int .i64 y.tag) ∧ w'.cell? ⟨g9, 1, none⟩ = some (.int .i64 y.key) ∧ w'.cell? ⟨g9, 2, none⟩ = some (.string y.text) ∧ w'.cell? ⟨g9, 3, none⟩ = some (.slice D0 y.ps.length i0) ∧ w'.cell? ⟨g9, 4, none⟩ = some (.slice D1 y.ks.length i1)) (by kernel_rfl) (SF.out _ (Below.drew (Below.refl _ _))) (fun hHeld => ?_)
        refine wpAnyH_take (i := 0) (oi := _) (v := ?_) rfl (by kernel_rfl) (by kernel_rfl) (by kernel_rfl) (fun _ _ _ h => h) (Or.inl ⟨by kernel_rfl, ?_⟩) (by assumption) ?_
        rotate_left
        · (intro w hSw; (try dsimp only at hSw); go_simp)
          try with_reducible rfl
        (try simp only [Act.put, List.getElem_toArray, List.getElem_cons_zero, List.getElem_cons_succ, List.setIfInBounds_toArray, List.set_cons_zero, List.set_cons_succ])
        refine wpAnyH_take (i := 1) (oi := _) (v := ?_) rfl (by kernel_rfl) (by kernel_rfl) (by kernel_rfl) (fun _ _ _ h => h) (Or.inl ⟨by kernel_rfl, ?_⟩) (by assumption) ?_
        rotate_left
        · (intro w hSw; (try dsimp only at hSw); go_simp)
          try with_reducible rfl
        (try simp only [Act.put, List.getElem_toArray, List.getElem_cons_zero, List.getElem_cons_succ, List.setIfInBounds_toArray, List.set_cons_zero, List.set_cons_succ])
        refine wpAnyH_take (i := 2) (oi := _) (v := ?_) rfl (by kernel_rfl) (by kernel_rfl) (by kernel_rfl) (fun _ _ _ h => h) (Or.inl ⟨by kernel_rfl, ?_⟩) (by assumption) ?_
        rotate_left
        · (intro w hSw; (try dsimp only at hSw); go_simp)
          try with_reducible rfl
        (try simp only [Act.put, List.getElem_toArray, List.getElem_cons_zero, List.getElem_cons_succ, List.setIfInBounds_toArray, List.set_cons_zero, List.set_cons_succ])
        refine wpAnyH_ready (rs := [3, 7]) (by kernel_rfl) (by simp) ?_
        refine AllReadyH.cons (o := _) rfl (fun K hK => ?_) ?_
        · skip
          go_simp
          refine ((fun W (hb : Below we9.heap.size we9 W) => K10.out _ _ D0 D1 i0 i1 W (HV9.out.next hb) (HPD.out.below hb) (HKD.out.below hb) (HZR.out.below hb)) _ (Below.drew (Below.refl _ _))).mono ?_
          rintro e u1 ⟨E0, E1, j0, j1, rfl, hpp, hpl, hkk, hb⟩
          have hbu := Below.trans (Below.drew (Below.refl we9.heap.size we9)) hb
          have HBU := Lib.hid hbu
          have HL := Lib.hid (laidA (y := x) (i0 := j0) (i1 := j1) hbu hpp (hkk.mono (Nat.zero_le _)))
          refine hK.out _ _ (SF.out _ hbu) (fun hHeld2 => ?_)
          clear hHeld2 hK K hb hpp hpl hkk hHeld hbu
          have hHeld := SF.out _ HBU.out
          (try simp only [Act.put, List.getElem_toArray, List.getElem_cons_zero, List.getElem_cons_succ, List.setIfInBounds_toArray, List.set_cons_zero, List.set_cons_succ])
          refine wpAnyH_take (i := 4) (oi := _) (v := ?_) rfl (by kernel_rfl) (by kernel_rfl) (by kernel_rfl) (fun _ _ _ h => h) (Or.inl ⟨by kernel_rfl, ?_⟩) (by assumption) ?_
          rotate_left
          · (intro w hSw; (try dsimp only at hSw); go_simp)
            try with_reducible rfl
          (try simp only [Act.put, List.getElem_toArray, List.getElem_cons_zero, List.getElem_cons_succ, List.setIfInBounds_toArray, List.set_cons_zero, List.set_cons_succ])
          refine wpAnyH_take (i := 5) (oi := _) (v := ?_) rfl (by kernel_rfl) (by kernel_rfl) (by kernel_rfl) (fun _ _ _ h => h) (Or.inl ⟨by kernel_rfl, ?_⟩) (by assumption) ?_
          rotate_left
          · (intro w hSw; (try dsimp only at hSw); go_simp)
            try with_reducible rfl
          (try simp only [Act.put, List.getElem_toArray, List.getElem_cons_zero, List.getElem_cons_succ, List.setIfInBounds_toArray, List.set_cons_zero, List.set_cons_succ])
          refine wpAnyH_take (i := 6) (oi := _) (v := ?_) rfl (by kernel_rfl) (by kernel_rfl) (by kernel_rfl) (fun _ _ _ h => h) (Or.inl ⟨by kernel_rfl, ?_⟩) (by assumption) ?_
          rotate_left
          · (intro w hSw; (try dsimp only at hSw); go_simp)
            try with_reducible rfl
          (try simp only [Act.put, List.getElem_toArray, List.getElem_cons_zero, List.getElem_cons_succ, List.setIfInBounds_toArray, List.set_cons_zero, List.set_cons_succ])
          refine wpAnyH_ready (rs := [7]) (by kernel_rfl) (by simp) ?_
          refine AllReadyH.cons (o := _) rfl (fun K hK => ?_) AllReadyH.nil
          go_simp
          have HG := Lib.hid (World.alloc_heap_new u1 (.cells #[.int .i64 0, .int .i64 0, .string ⟨#[]⟩, .slice none 0 0, .slice none 0 0] 26))
          refine hK.out _ _ (SF.out _ (HBU.out.alloc HBU.out.size (.cells #[.int .i64 0, .int .i64 0, .string ⟨#[]⟩, .slice none 0 0, .slice none 0 0] 26))) (fun hHeld2 => ?_)
          clear hHeld2 hK K hHeld
          have hHeld := SF.out _ (HBU.out.alloc HBU.out.size (.cells #[.int .i64 0, .int .i64 0, .string ⟨#[]⟩, .slice none 0 0, .slice none 0 0] 26))
          (try simp only [Act.put, List.getElem_toArray, List.getElem_cons_zero, List.getElem_cons_succ, List.setIfInBounds_toArray, List.set_cons_zero, List.set_cons_succ])
          obtain ⟨u2, hu2⟩ : ∃ v, u1.alloc (.cells #[.int .i64 0, .int .i64 0, .string ⟨#[]⟩, .slice none 0 0, .slice none 0 0] 26) = v := ⟨_, rfl⟩
          obtain ⟨gg, hgg⟩ : ∃ v, u1.heap.size = v := ⟨_, rfl⟩
          rw [hu2] at HG HL hHeld ⊢
          rw [hgg] at HG HL ⊢
          clear hu2 hgg HBU
          refine wpAnyH_ready (rs := [8]) (by kernel_rfl) (by simp) ?_
          refine AllReadyH.cons (o := _) rfl (fun K hK => ?_) AllReadyH.nil
          obtain ⟨z0, z1, z2, z3, z4⟩ := five5 HG.out
          have zf := fun j => Lib.frozen_of_heap HG.out j
          go_simp
          refine hK.out _ _ (SF.out _ HL.out.1) (fun hHeld2 => ?_)
          clear hHeld2 hK K z0 z1 z2 z3 z4 zf HG
          (try simp only [Act.put, List.getElem_toArray, List.getElem_cons_zero, List.getElem_cons_succ, List.setIfInBounds_toArray, List.set_cons_zero, List.set_cons_succ])
          obtain ⟨we, hwe⟩ : ∃ v, (((((u2.setCell ⟨gg, 0, none⟩ (.int .i64 x.tag)).setCell ⟨gg, 1, none⟩ (.int .i64 x.key)).setCell ⟨gg, 2, none⟩ (.string x.text)).setCell ⟨gg, 3, none⟩ (.slice E0 x.ps.length j0)).setCell ⟨gg, 4, none⟩ (.slice E1 x.ks.length j1)) = v := ⟨_, rfl⟩
          rw [hwe] at HL ⊢
          have hHeld2 := SF.out _ HL.out.1
          clear hwe hHeld
          have hHeld := hHeld2
          clear hHeld2
          refine wpAnyH_take (i := 9) (oi := _) (v := ?_) rfl (by kernel_rfl) (by kernel_rfl) (by kernel_rfl) (fun _ _ _ h => h) (Or.inl ⟨by kernel_rfl, ?_⟩) (by assumption) ?_
          rotate_left
          · (intro w hSw; (try dsimp only at hSw); go_simp)
            try with_reducible rfl
          (try simp only [Act.put, List.getElem_toArray, List.getElem_cons_zero, List.getElem_cons_succ, List.setIfInBounds_toArray, List.set_cons_zero, List.set_cons_succ])
          refine wpAnyH_done (by kernel_rfl) ?_ _
          exact hTail.out gg E0 E1 j0 j1 we HL
        refine AllReadyH.cons (o := _) rfl (fun K hK => ?_) AllReadyH.nil
        go_simp
        have hb0 := Below.drew (Below.alloc (Below.refl we9.heap.size we9) (Nat.le_refl _) (.cells #[.int .i64 0, .int .i64 0, .string ⟨#[]⟩, .slice none 0 0, .slice none 0 0] 26))
        have hg0 : (we9.alloc (.cells #[.int .i64 0, .int .i64 0, .string ⟨#[]⟩, .slice none 0 0, .slice none 0 0] 26)).drew.heap[we9.heap.size]? = some (.cells #[.int .i64 0, .int .i64 0, .string ⟨#[]⟩, .slice none 0 0, .slice none 0 0] 26) := World.alloc_heap_new we9 _
        refine hK.out _ _ (SF.out _ hb0) (fun hHeld2 => ?_)
        clear hHeld2 hK K hHeld
        have hHeld := SF.out _ hb0
        (try simp only [Act.put, List.getElem_toArray, List.getElem_cons_zero, List.getElem_cons_succ, List.setIfInBounds_toArray, List.set_cons_zero, List.set_cons_succ])
        obtain ⟨u2, hu2⟩ : ∃ v, (we9.alloc (.cells #[.int .i64 0, .int .i64 0, .string ⟨#[]⟩, .slice none 0 0, .slice none 0 0] 26)).drew = v := ⟨_, rfl⟩
        rw [hu2] at hb0 hg0 hHeld ⊢
        have HB0 := Lib.hid hb0
        have HG0 := Lib.hid hg0
        clear hb0 hg0 hu2
        refine wpAnyH_ready (rs := [3]) (by kernel_rfl) (by simp) ?_
        refine AllReadyH.cons (o := _) rfl (fun K hK => ?_) AllReadyH.nil
        go_simp
        refine ((fun W (hb : Below we9.heap.size we9 W) => K10.out _ _ D0 D1 i0 i1 W (HV9.out.next hb) (HPD.out.below hb) (HKD.out.below hb) (HZR.out.below hb)) _ HB0.out).mono ?_
        rintro e u1 ⟨E0, E1, j0, j1, rfl, hpp, hpl, hkk, hb⟩
        have hg1 := (hb.block _ (Array.getElem?_eq_some_iff.1 HG0.out).1).trans HG0.out
        have hbu := HB0.out.trans (hb.mono HB0.out.size)
        have HL := Lib.hid (laidB (y := x) (i0 := j0) (i1 := j1) HB0.out HG0.out hb hpp hpl hkk)
        have HG := Lib.hid hg1
        refine hK.out _ _ (SF.out _ hbu) (fun hHeld2 => ?_)
        clear hHeld2 hK K hHeld
        have hHeld := SF.out _ hbu
        clear hb hpp hpl hkk hg1 hbu HB0 HG0
        (try simp only [Act.put, List.getElem_toArray, List.getElem_cons_zero, List.getElem_cons_succ, List.setIfInBounds_toArray, List.set_cons_zero, List.set_cons_succ])
        refine wpAnyH_take (i := 4) (oi := _) (v := ?_) rfl (by kernel_rfl) (by kernel_rfl) (by kernel_rfl) (fun _ _ _ h => h) (Or.inl ⟨by kernel_rfl, ?_⟩) (by assumption) ?_
        rotate_left
        · (intro w hSw; (try dsimp only at hSw); go_simp)
          try with_reducible rfl
        (try simp only [Act.put, List.getElem_toArray, List.getElem_cons_zero, List.getElem_cons_succ, List.setIfInBounds_toArray, List.set_cons_zero, List.set_cons_succ])
        refine wpAnyH_take (i := 5) (oi := _) (v := ?_) rfl (by kernel_rfl) (by kernel_rfl) (by kernel_rfl) (fun _ _ _ h => h) (Or.inl ⟨by kernel_rfl, ?_⟩) (by assumption) ?_
        rotate_left
        · (intro w hSw; (try dsimp only at hSw); go_simp)
          try with_reducible rfl
        (try simp only [Act.put, List.getElem_toArray, List.getElem_cons_zero, List.getElem_cons_succ, List.setIfInBounds_toArray, List.set_cons_zero, List.set_cons_succ])
        refine wpAnyH_take (i := 6) (oi := _) (v := ?_) rfl (by kernel_rfl) (by kernel_rfl) (by kernel_rfl) (fun _ _ _ h => h) (Or.inl ⟨by kernel_rfl, ?_⟩) (by assumption) ?_
        rotate_left
        · (intro w hSw; (try dsimp only at hSw); go_simp)
          try with_reducible rfl
        (try simp only [Act.put, List.getElem_toArray, List.getElem_cons_zero, List.getElem_cons_succ, List.setIfInBounds_toArray, List.set_cons_zero, List.set_cons_succ])
        obtain ⟨gg, hgg⟩ : ∃ v, we9.heap.size = v := ⟨_, rfl⟩
        rw [show Laid we9 x we9.heap.size = Laid we9 x gg from by rw [hgg]] at HL
        rw [hgg] at HG HL ⊢
        clear hgg
        refine wpAnyH_ready (rs := [8]) (by kernel_rfl) (by simp) ?_
        refine AllReadyH.cons (o := _) rfl (fun K hK => ?_) AllReadyH.nil
        obtain ⟨z0, z1, z2, z3, z4⟩ := five5 HG.out
        have zf := fun j => Lib.frozen_of_heap HG.out j
        go_simp
        refine hK.out _ _ (SF.out _ HL.out.1) (fun hHeld2 => ?_)
        clear hHeld2 hK K z0 z1 z2 z3 z4 zf HG
        (try simp only [Act.put, List.getElem_toArray, List.getElem_cons_zero, List.getElem_cons_succ, List.setIfInBounds_toArray, List.set_cons_zero, List.set_cons_succ])
        obtain ⟨we, hwe⟩ : ∃ v, (((((u1.setCell ⟨gg, 0, none⟩ (.int .i64 x.tag)).setCell ⟨gg, 1, none⟩ (.int .i64 x.key)).setCell ⟨gg, 2, none⟩ (.string x.text)).setCell ⟨gg, 3, none⟩ (.slice E0 x.ps.length j0)).setCell ⟨gg, 4, none⟩ (.slice E1 x.ks.length j1)) = v := ⟨_, rfl⟩
        rw [hwe] at HL ⊢
        have hHeld2 := SF.out _ HL.out.1
        clear hwe hHeld
        have hHeld := hHeld2
        clear hHeld2
        refine wpAnyH_take (i := 9) (oi := _) (v := ?_) rfl (by kernel_rfl) (by kernel_rfl) (by kernel_rfl) (fun _ _ _ h => h) (Or.inl ⟨by kernel_rfl, ?_⟩) (by assumption) ?_
        rotate_left
        · (intro w hSw; (try dsimp only at hSw); go_simp)
          try with_reducible rfl
        (try simp only [Act.put, List.getElem_toArray, List.getElem_cons_zero, List.getElem_cons_succ, List.setIfInBounds_toArray, List.set_cons_zero, List.set_cons_succ])
        refine wpAnyH_done (by kernel_rfl) ?_ _
        exact hTail.out gg E0 E1 j0 j1 we HL
      intro g10 E0 E1 j0 j1 we10 HL10
      (try dsimp only at HL10)
      obtain ⟨q0, q1, q2, q3, q4⟩ := five5 HL10.out.2.2.1
      replace p0 := (HL10.out.1.cell (p := ⟨w2.heap.size, 0, none⟩) hs9).trans p0
      replace p1 := (HL10.out.1.cell (p := ⟨w2.heap.size, 1, none⟩) hs9).trans p1
      replace p2 := (HL10.out.1.cell (p := ⟨w2.heap.size, 2, none⟩) hs9).trans p2
      replace p3 := (HL10.out.1.cell (p := ⟨w2.heap.size, 3, none⟩) hs9).trans p3
      replace p4 := (HL10.out.1.cell (p := ⟨w2.heap.size, 4, none⟩) hs9).trans p4
      have HB10 := Lib.hid (more HB9.out (Nat.le_refl _) HL10.out.1)
      have HPX10 := Lib.hid (HPX9.out.below HL10.out.1)
      have HKX10 := Lib.hid (HKX9.out.below HL10.out.1)
      have HPE := Lib.hid HL10.out.2.2.2.1
      have HKE := Lib.hid HL10.out.2.2.2.2
      clear HL10 HPX9 HKX9 HB9 HV9 HPD HKD HZR l0 l1 l2 l3 l4 K10
      (try generalize (if c = 1 then some (⟨b, 0, none⟩ : Addr) else some ⟨b, 1, none⟩) = BW)
      go_wp2_with fail
      all_goals
        refine (KS.out _ _ _ _ _ _ _ _ _ HPE.out HKE.out HPX10.out HKX10.out).mono ?_
        rintro e w11 ⟨rfl, hb⟩
        have HB11 := Lib.hid (more HB10.out (Nat.le_refl _) hb)
        clear hb
        go_wp2_with fail
        go_ret
        exact ⟨rfl, HB11.out⟩
end Go.Proofs.YtpkhpaioddommaaDoor.fnTreeAt
