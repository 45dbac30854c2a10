/- The law FnExactHistRedo answers true at every history, and leaves it as it was. No conditions. -/
import Derived.Test.YtkofajjlkhamkaaHsoL
import Derived.Deep.RegionHeld3
namespace Go.Proofs.Ytkofajjlkhamkaa.fnExactHistRedo
open Go.Joins Go.ChangeShapes Go.WideShapes Go.ChangeAt Go.RowKit Go.Deep
set_option linter.unusedVariables false
set_option linter.unusedSimpArgs false

set_option maxRecDepth 100000 in
set_option maxHeartbeats 4000000 in
theorem walk (A0 A1 A2 : Option Addr) (c0 c1 c2 : Nat) (x : Hi) (w : World) (hl : x.now.length ≤ maxLen ∧ x.back.length ≤ maxLen ∧ x.ahead.length ≤ maxLen) (hx : CeL w A0 x.now) (hy : StL w A1 x.back) (hz : StL w A2 x.ahead) (t0 : SmS x.now) (t1 : ∀ y ∈ x.back, SmS y) (t2 : ∀ y ∈ x.ahead, SmS y) :
    Calls Try.prog 4 #[.agg #[.slice A0 x.now.length c0, .slice A1 x.back.length c1, .slice A2 x.ahead.length c2]] w fun e w' => e = .returned (.bool true) ∧ Below w.heap.size w w' := by
  obtain ⟨l0, l1, l2⟩ := hl
  have kz := fun w hx hy hz => szHist_any A0 A1 A2 x.now.length x.back.length x.ahead.length c0 c1 c2 x w hx hy hz rfl rfl rfl l0 l1 l2 t0 t1 t2 1048576 (by omega) (by omega)
  have hp := szHi_pos x
  obtain ⟨n, hn⟩ : ∃ n, x.now.length = n := ⟨_, rfl⟩
  obtain ⟨m, hm⟩ : ∃ n, x.back.length = n := ⟨_, rfl⟩
  obtain ⟨q, hq⟩ : ∃ n, x.ahead.length = n := ⟨_, rfl⟩
  rw [hn, hm, hq] at kz ⊢
  have hb0 : Below w.heap.size w (w.alloc (.cells #[.slice A0 n c0, .slice A1 m c1, .slice A2 q c2] 25)) := Below.alloc (Below.refl w.heap.size w) (Nat.le_refl _) (.cells #[.slice A0 n c0, .slice A1 m c1, .slice A2 q c2] 25)
  have hba : w.heap.size < (w.alloc (.cells #[.slice A0 n c0, .slice A1 m c1, .slice A2 q c2] 25)).heap.size := by simp
  have f0 : (w.alloc (.cells #[.slice A0 n c0, .slice A1 m c1, .slice A2 q c2] 25)).cell? ⟨w.heap.size, 0, none⟩ = some (.slice A0 n c0) := by go_simp
  have f1 : (w.alloc (.cells #[.slice A0 n c0, .slice A1 m c1, .slice A2 q c2] 25)).cell? ⟨w.heap.size, 1, none⟩ = some (.slice A1 m c1) := by go_simp
  have f2 : (w.alloc (.cells #[.slice A0 n c0, .slice A1 m c1, .slice A2 q c2] 25)).cell? ⟨w.heap.size, 2, none⟩ = some (.slice A2 q c2) := by go_simp
  have HB0 := Lib.hid hb0
  have HP := Lib.hid (show CeL (w.alloc (.cells #[.slice A0 n c0, .slice A1 m c1, .slice A2 q c2] 25)) A0 x.now ∧ StL (w.alloc (.cells #[.slice A0 n c0, .slice A1 m c1, .slice A2 q c2] 25)) A1 x.back ∧ StL (w.alloc (.cells #[.slice A0 n c0, .slice A1 m c1, .slice A2 q c2] 25)) A2 x.ahead from ⟨hx.below hb0, hy.below hb0, hz.below hb0⟩)
  have kz0 := kz _ HP.out.1 HP.out.2.1 HP.out.2.2
  obtain ⟨w0, hw0⟩ : ∃ v, (w.alloc (.cells #[.slice A0 n c0, .slice A1 m c1, .slice A2 q c2] 25)) = v := ⟨_, rfl⟩
  obtain ⟨ba, hbaq⟩ : ∃ v, w.heap.size = v := ⟨_, rfl⟩
  rw [hw0] at hba f0 f1 f2 HB0 HP kz0
  rw [hbaq] at hba f0 f1 f2
  clear kz hx hy hz t0 t1 t2 hb0
  by_cases hbig : 1048576 < szHi x
  · rw [leftV_neg hbig] at kz0
    have KZ := Lib.hid kz0
    clear kz0 l0 l1 l2 hn hm hq hbig hp
    go_enter Try.func4, Try.ntmps4
    go_wp2_with fail
    (try rw [hw0])
    (try rw [hbaq])
    refine KZ.out.mono ?_
    rintro e w1 ⟨rfl, hb⟩
    have HB1 := Lib.hid (HB0.out.trans (hb.mono HB0.out.size))
    clear hb
    go_wp2_with fail
    go_ret
    exact ⟨rfl, HB1.out⟩
  rw [leftV_pos (by omega)] at kz0
  have hle : szHi x ≤ 1048576 := by omega
  obtain ⟨z, hz'⟩ : ∃ z, (1048576 : Int) - szHi x = z := ⟨_, rfl⟩
  have hz0 : 0 ≤ z := by omega
  rw [hz'] at kz0
  have KZ := Lib.hid kz0
  have hs := small_of_sz hle
  have hys := redo_small x
  have htx : 1 + totH x ≤ 50000000 := by have := totH_le x; omega
  obtain ⟨⟨y, ok⟩, hyr⟩ : ∃ r, redoV x = r := ⟨_, rfl⟩
  have hyr2 := hyr
  rw [hyr] at hys
  have hsy := hys.h
  have hty : 1 + totH y ≤ 50000000 := by have := hys.tot; dsimp only at this; omega
  dsimp only at hsy hys
  obtain ⟨u0, hu0⟩ : ∃ n, y.now.length = n := ⟨_, rfl⟩
  obtain ⟨u1, hu1⟩ : ∃ n, y.back.length = n := ⟨_, rfl⟩
  obtain ⟨u2, hu2⟩ : ∃ n, y.ahead.length = n := ⟨_, rfl⟩
  have hmx : ∀ k, k ≤ 1048576 → k ≤ maxLen := fun k h => by unfold maxLen; omega
  have KT := Lib.hid (fun w hx hy hz => (toHist_any A0 A1 A2 n m q c0 c1 c2 x w hx hy hz hn hm hq (by have := hs.2.1.1; omega) (by have := hs.2.2.1; omega) hs.1 hs.2.1.2 hs.2.2.2).mono fun e w' h => HistX.hin h hn hm hq hs)
  have KTO := Lib.hid (fun w hx hy hz => show Calls Try.prog 7 #[.agg #[.slice A0 n c0, .slice A1 m c1, .slice A2 q c2]] w (fun e w' => ∃ A0 A1 A2, e = .returned (.agg #[.slice A0 n n, .slice A1 m m, .slice A2 q q]) ∧ HiO w' w.heap.size w'.heap.size x A0 n A1 m A2 q ∧ Below w.heap.size w w') from toHist_own A0 A1 A2 n m q c0 c1 c2 x w hx hy hz hn hm hq (by have := hs.2.1.1; omega) (by have := hs.2.2.1; omega) hs.1 hs.2.1.2 hs.2.2.2)
  have KS := Lib.hid (fun A0 A1 A2 d0 d1 d2 w h => show Calls Try.prog 12 #[.agg #[.slice A0 n d0, .slice A1 m d1, .slice A2 q d2]] w (fun e w' => ∃ B0 d0 B1 d1 B2 d2, e = .returned (.tuple #[.agg #[.slice B0 u0 d0, .slice B1 u1 d1, .slice B2 u2 d2], .bool ok]) ∧ HiL w' y B0 d0 B1 d1 B2 d2 ∧ Below w.heap.size w w') from (sredo_any A0 A1 A2 d0 d1 d2 n m q x w h hs hn hm hq).mono fun e w' h => by
    rw [hyr] at h
    obtain ⟨B0, d0, B1, d1, B2, d2, he, h1, h2⟩ := h
    dsimp only at he h1
    rw [hu0, hu1, hu2] at he
    exact ⟨B0, d0, B1, d1, B2, d2, he, h1, h2⟩)
  have KI := Lib.hid (fun A0 A1 A2 {lo hi : Nat} w (h : HiO w lo hi x A0 n A1 m A2 q) => show Calls Try.prog 13 #[.agg #[.slice A0 n n, .slice A1 m m, .slice A2 q q]] w (fun e w' => ∃ B0 d0 B1 d1 B2 d2, e = .returned (.tuple #[.agg #[.slice B0 u0 d0, .slice B1 u1 d1, .slice B2 u2 d2], .bool ok]) ∧ HiO w' w.heap.size w'.heap.size y B0 d0 B1 d1 B2 d2 ∧ Below w.heap.size w w') from by
    have k := iredo_any A0 A1 A2 n m q x w ⟨(h.lies hs).1, (h.lies hs).2.1, (h.lies hs).2.2, h.1, h.2.1, h.2.2.1⟩ hs.1.1 hs.2.1.1 hs.2.2.1
    rw [hn, hm, hq] at k
    refine k.mono fun e w' h => ?_
    rw [hyr] at h
    obtain ⟨B0, d0, B1, d1, B2, d2, he, h1, h2⟩ := h
    dsimp only at he h1
    rw [hu0, hu1, hu2] at he
    exact ⟨B0, d0, B1, d1, B2, d2, he, h1, h2⟩)
  have KEX := Lib.hid (fun B0 B1 B2 C0 C1 C2 d0 d1 d2 e0 e1 e2 w (h : CeL w B0 x.now ∧ StL w B1 x.back ∧ StL w B2 x.ahead) (h' : CeL w C0 x.now ∧ StL w C1 x.back ∧ StL w C2 x.ahead) => eqHist_same B0 B1 B2 C0 C1 C2 n m q d0 d1 d2 e0 e1 e2 x w h.1 h.2.1 h.2.2 h'.1 h'.2.1 h'.2.2 hn hm hq (by rw [← hn]; exact l0) (by rw [← hm]; exact l1) (by rw [← hq]; exact l2))
  have KEY := Lib.hid (fun B0 B1 B2 C0 C1 C2 d0 d1 d2 e0 e1 e2 w (h : CeL w B0 y.now ∧ StL w B1 y.back ∧ StL w B2 y.ahead) (h' : HiL w y C0 e0 C1 e1 C2 e2) => eqHist_same B0 B1 B2 C0 C1 C2 u0 u1 u2 d0 d1 d2 e0 e1 e2 y w h.1 h.2.1 h.2.2 h'.1 h'.2.1 h'.2.2.1 hu0 hu1 hu2 (hmx _ (by have := hsy.1.1; omega)) (hmx _ (by have := hsy.2.1.1; omega)) (hmx _ (by have := hsy.2.2.1; omega)))
  obtain ⟨v9, hv9⟩ : ∃ v, 1 + totH x = v := ⟨_, rfl⟩
  obtain ⟨y9, hy9⟩ : ∃ v, 1 + totH y = v := ⟨_, rfl⟩
  have KMX := Lib.hid (fun lo hi A0 A1 A2 w (h : HiO w lo hi x A0 n A1 m A2 q) hhi => show Calls Try.prog 10 #[.agg #[.slice A0 n n, .slice A1 m m, .slice A2 q q], .int .i64 1] w (fun e w' => e = .returned (.int .i64 v9) ∧ HiO w' lo hi (markHi x 1) A0 n A1 m A2 q ∧ Turn lo hi w w') from markHist_own lo hi 1 n m q v9 n m q A0 A1 A2 x w h hs hn hm hq hhi htx (by omega) hv9)
  have KMY := Lib.hid (fun lo hi A0 A1 A2 d0 d1 d2 w (h : HiO w lo hi y A0 d0 A1 d1 A2 d2) hhi => show Calls Try.prog 10 #[.agg #[.slice A0 u0 d0, .slice A1 u1 d1, .slice A2 u2 d2], .int .i64 1] w (fun e w' => e = .returned (.int .i64 y9) ∧ HiO w' lo hi (markHi y 1) A0 d0 A1 d1 A2 d2 ∧ Turn lo hi w w') from markHist_own lo hi 1 u0 u1 u2 y9 d0 d1 d2 A0 A1 A2 y w h hsy hu0 hu1 hu2 hhi hty (by omega) hy9)
  have KHY := Lib.hid (fun A0 A1 A2 d0 d1 d2 w h => show Calls Try.prog 11 #[.agg #[.slice A0 u0 d0, .slice A1 u1 d1, .slice A2 u2 d2], .int .i64 1] w (fun e w' => e = .returned (.int .i64 y9) ∧ Below w.heap.size w w') from heldHist_any 1 u0 u1 u2 y9 d0 d1 d2 A0 A1 A2 y w h hsy hu0 hu1 hu2 hty (by omega) hy9)
  have HSX := Lib.hid hs
  have HSY := Lib.hid hsy
  have HSM := Lib.hid (show SmH (markHi y 1) from mark_small hsy)
  have HX := Lib.hid (Below.refl w0.heap.size w0)
  clear kz0 l0 l1 l2 hn hm hq hbig hp hle hz' hs hys htx hyr hyr2 hsy hty hu0 hu1 hu2 hmx hv9 hy9
  go_enter Try.func4, Try.ntmps4
  go_wp2_with fail
  (try rw [hw0])
  (try rw [hbaq])
  have t1 := KZ.out
  refine t1.mono ?_
  clear t1
  rintro e w1 ⟨rfl, hb⟩
  replace f0 := (hb.cell (p := ⟨ba, 0, none⟩) (by first | omega | (dsimp only; omega))).trans f0
  replace f1 := (hb.cell (p := ⟨ba, 1, none⟩) (by first | omega | (dsimp only; omega))).trans f1
  replace f2 := (hb.cell (p := ⟨ba, 2, none⟩) (by first | omega | (dsimp only; omega))).trans f2
  replace HX := Lib.hid (more HX.out (Nat.le_refl _) hb)
  have hsz1 : w0.heap.size ≤ w1.heap.size := hb.size
  replace hba : ba < w1.heap.size := Nat.lt_of_lt_of_le hba hsz1
  clear hb hsz1 KZ hw0 hbaq
  go_wp2_with fail
  have t1 := KT.out w1 (HP.out.1.below HX.out) (HP.out.2.1.below HX.out) (HP.out.2.2.below HX.out)
  refine t1.mono ?_
  clear t1
  rintro e w2 ⟨g0, g1, g2, rfl, hn, hb⟩
  replace f0 := (hb.cell (p := ⟨ba, 0, none⟩) (by first | omega | (dsimp only; omega))).trans f0
  replace f1 := (hb.cell (p := ⟨ba, 1, none⟩) (by first | omega | (dsimp only; omega))).trans f1
  replace f2 := (hb.cell (p := ⟨ba, 2, none⟩) (by first | omega | (dsimp only; omega))).trans f2
  replace HX := Lib.hid (more HX.out (Nat.le_refl _) hb)
  have hsz2 : w1.heap.size ≤ w2.heap.size := hb.size
  replace hba : ba < w2.heap.size := Nat.lt_of_lt_of_le hba hsz2
  have HN := Lib.hid hn
  clear hb hsz2 hn
  go_wp2_with fail
  have t1 := KS.out _ _ _ _ _ _ w2 HN.out
  refine t1.mono ?_
  clear t1
  rintro e w3 ⟨B0, k0, B1, k1, B2, k2, rfl, hl, hb⟩
  replace f0 := (hb.cell (p := ⟨ba, 0, none⟩) (by first | omega | (dsimp only; omega))).trans f0
  replace f1 := (hb.cell (p := ⟨ba, 1, none⟩) (by first | omega | (dsimp only; omega))).trans f1
  replace f2 := (hb.cell (p := ⟨ba, 2, none⟩) (by first | omega | (dsimp only; omega))).trans f2
  replace HX := Lib.hid (more HX.out (Nat.le_refl _) hb)
  have hsz3 : w2.heap.size ≤ w3.heap.size := hb.size
  replace hba : ba < w3.heap.size := Nat.lt_of_lt_of_le hba hsz3
  have PW := Lib.hid hl
  obtain ⟨s3, hs3⟩ : ∃ q, w3.heap.size = q := ⟨_, rfl⟩
  have HW : Hid (Below s3 w3 w3) := Lib.hid (by rw [← hs3]; exact Below.refl _ _)
  have HS3 := Lib.hid hs3
  have hba3 : ba < s3 := by omega
  have hs03 : w0.heap.size ≤ s3 := by have := HX.out.size; omega
  clear hb hsz3 hl HN hs3
  have hbab4 := Below.alloc (Below.refl w3.heap.size w3) (Nat.le_refl _) (.cells #[.slice B0 u0 k0, .slice B1 u1 k1, .slice B2 u2 k2] 30)
  have a0 : (w3.alloc (.cells #[.slice B0 u0 k0, .slice B1 u1 k1, .slice B2 u2 k2] 30)).cell? ⟨w3.heap.size, 0, none⟩ = some (.slice B0 u0 k0) := by rw [World.cell?_alloc_new]; rfl
  have a1 : (w3.alloc (.cells #[.slice B0 u0 k0, .slice B1 u1 k1, .slice B2 u2 k2] 30)).cell? ⟨w3.heap.size, 1, none⟩ = some (.slice B1 u1 k1) := by rw [World.cell?_alloc_new]; rfl
  have a2 : (w3.alloc (.cells #[.slice B0 u0 k0, .slice B1 u1 k1, .slice B2 u2 k2] 30)).cell? ⟨w3.heap.size, 2, none⟩ = some (.slice B2 u2 k2) := by rw [World.cell?_alloc_new]; rfl
  go_wp2_with fail
  have hb := hbab4
  clear hbab4
  obtain ⟨b4, hbox⟩ : ∃ q, w3.heap.size = q := ⟨_, rfl⟩
  have hzb4 : b4 < (w3.alloc (.cells #[.slice B0 u0 k0, .slice B1 u1 k1, .slice B2 u2 k2] 30)).heap.size := by simp; omega
  have h4s : s3 ≤ b4 := by have := HS3.out; omega
  obtain ⟨w4, hw2⟩ : ∃ v, w3.alloc (.cells #[.slice B0 u0 k0, .slice B1 u1 k1, .slice B2 u2 k2] 30) = v := ⟨_, rfl⟩
  rw [hw2] at a0 a1 a2 hb hzb4 ⊢
  replace f0 := (hb.cell (p := ⟨ba, 0, none⟩) (by first | omega | (dsimp only; omega))).trans f0
  replace f1 := (hb.cell (p := ⟨ba, 1, none⟩) (by first | omega | (dsimp only; omega))).trans f1
  replace f2 := (hb.cell (p := ⟨ba, 2, none⟩) (by first | omega | (dsimp only; omega))).trans f2
  replace HX := Lib.hid (more HX.out (Nat.le_refl _) hb)
  replace HW := Lib.hid (HW.out.trans (hb.mono (by have := HW.out.size; have := HS3.out; omega)))
  have hsz4 : w3.heap.size ≤ w4.heap.size := hb.size
  replace hba : ba < w4.heap.size := Nat.lt_of_lt_of_le hba hsz4
  rw [hbox] at a0 a1 a2 ⊢
  clear hb hsz4 hw2 hbox
  obtain ⟨l5, hl5⟩ : ∃ q, w4.heap.size = q := ⟨_, rfl⟩
  have h45 : b4 < l5 := by omega
  have ha5 : ba < l5 := by omega
  have hs5 : s3 ≤ l5 := by omega
  have h05 : w0.heap.size ≤ l5 := by omega
  have HL5 := Lib.hid hl5
  clear hl5
  have t1 := KTO.out w4 (HP.out.1.below HX.out) (HP.out.2.1.below HX.out) (HP.out.2.2.below HX.out)
  refine t1.mono ?_
  clear t1
  rintro e w5 ⟨X0, X1, X2, rfl, ho, hb⟩
  replace f0 := (hb.cell (p := ⟨ba, 0, none⟩) (by first | omega | (dsimp only; omega))).trans f0
  replace f1 := (hb.cell (p := ⟨ba, 1, none⟩) (by first | omega | (dsimp only; omega))).trans f1
  replace f2 := (hb.cell (p := ⟨ba, 2, none⟩) (by first | omega | (dsimp only; omega))).trans f2
  replace a0 := (hb.cell (p := ⟨b4, 0, none⟩) (by first | omega | (dsimp only; omega))).trans a0
  replace a1 := (hb.cell (p := ⟨b4, 1, none⟩) (by first | omega | (dsimp only; omega))).trans a1
  replace a2 := (hb.cell (p := ⟨b4, 2, none⟩) (by first | omega | (dsimp only; omega))).trans a2
  replace HX := Lib.hid (more HX.out (Nat.le_refl _) hb)
  replace HW := Lib.hid (HW.out.trans (hb.mono (by have := HW.out.size; have := HS3.out; omega)))
  have hsz5 : w4.heap.size ≤ w5.heap.size := hb.size
  replace hba : ba < w5.heap.size := Nat.lt_of_lt_of_le hba hsz5
  replace hzb4 : b4 < w5.heap.size := Nat.lt_of_lt_of_le hzb4 hsz5
  have HO := Lib.hid ho
  obtain ⟨h5, hh5⟩ : ∃ q, w5.heap.size = q := ⟨_, rfl⟩
  have HH5 := Lib.hid hh5
  rw [HL5.out, hh5] at HO
  have h55 : l5 ≤ h5 := by have := HL5.out; omega
  have h5w : h5 ≤ w5.heap.size := by omega
  clear hb hsz5 ho hh5
  have hbab6 := Below.alloc (Below.refl w5.heap.size w5) (Nat.le_refl _) (.cells #[.slice X0 n n, .slice X1 m m, .slice X2 q q] 30)
  have d0 : (w5.alloc (.cells #[.slice X0 n n, .slice X1 m m, .slice X2 q q] 30)).cell? ⟨w5.heap.size, 0, none⟩ = some (.slice X0 n n) := by rw [World.cell?_alloc_new]; rfl
  have d1 : (w5.alloc (.cells #[.slice X0 n n, .slice X1 m m, .slice X2 q q] 30)).cell? ⟨w5.heap.size, 1, none⟩ = some (.slice X1 m m) := by rw [World.cell?_alloc_new]; rfl
  have d2 : (w5.alloc (.cells #[.slice X0 n n, .slice X1 m m, .slice X2 q q] 30)).cell? ⟨w5.heap.size, 2, none⟩ = some (.slice X2 q q) := by rw [World.cell?_alloc_new]; rfl
  go_wp2_with fail
  have hb := hbab6
  clear hbab6
  obtain ⟨b6, hbox⟩ : ∃ q, w5.heap.size = q := ⟨_, rfl⟩
  have hzb6 : b6 < (w5.alloc (.cells #[.slice X0 n n, .slice X1 m m, .slice X2 q q] 30)).heap.size := by simp; omega
  have h65 : h5 ≤ b6 := by have := HH5.out; omega
  obtain ⟨w6, hw2⟩ : ∃ v, w5.alloc (.cells #[.slice X0 n n, .slice X1 m m, .slice X2 q q] 30) = v := ⟨_, rfl⟩
  rw [hw2] at d0 d1 d2 hb hzb6 ⊢
  replace f0 := (hb.cell (p := ⟨ba, 0, none⟩) (by first | omega | (dsimp only; omega))).trans f0
  replace f1 := (hb.cell (p := ⟨ba, 1, none⟩) (by first | omega | (dsimp only; omega))).trans f1
  replace f2 := (hb.cell (p := ⟨ba, 2, none⟩) (by first | omega | (dsimp only; omega))).trans f2
  replace a0 := (hb.cell (p := ⟨b4, 0, none⟩) (by first | omega | (dsimp only; omega))).trans a0
  replace a1 := (hb.cell (p := ⟨b4, 1, none⟩) (by first | omega | (dsimp only; omega))).trans a1
  replace a2 := (hb.cell (p := ⟨b4, 2, none⟩) (by first | omega | (dsimp only; omega))).trans a2
  replace HX := Lib.hid (more HX.out (Nat.le_refl _) hb)
  replace HW := Lib.hid (HW.out.trans (hb.mono (by have := HW.out.size; have := HS3.out; omega)))
  replace HO := Lib.hid (HO.out.below hb)
  have hsz6 : w5.heap.size ≤ w6.heap.size := hb.size
  replace hba : ba < w6.heap.size := Nat.lt_of_lt_of_le hba hsz6
  replace hzb4 : b4 < w6.heap.size := Nat.lt_of_lt_of_le hzb4 hsz6
  rw [hbox] at d0 d1 d2 ⊢
  clear hb hsz6 hw2 hbox
  clear h5w HH5
  obtain ⟨l7, hl7⟩ : ∃ q, w6.heap.size = q := ⟨_, rfl⟩
  have h67 : b6 < l7 := by omega
  have HL7 := Lib.hid hl7
  clear hl7
  have t1 := KI.out _ _ _ w6 HO.out
  refine t1.mono ?_
  clear t1
  rintro e w7 ⟨S0, i0, S1, i1, S2, i2, rfl, ho, hb⟩
  replace f0 := (hb.cell (p := ⟨ba, 0, none⟩) (by first | omega | (dsimp only; omega))).trans f0
  replace f1 := (hb.cell (p := ⟨ba, 1, none⟩) (by first | omega | (dsimp only; omega))).trans f1
  replace f2 := (hb.cell (p := ⟨ba, 2, none⟩) (by first | omega | (dsimp only; omega))).trans f2
  replace a0 := (hb.cell (p := ⟨b4, 0, none⟩) (by first | omega | (dsimp only; omega))).trans a0
  replace a1 := (hb.cell (p := ⟨b4, 1, none⟩) (by first | omega | (dsimp only; omega))).trans a1
  replace a2 := (hb.cell (p := ⟨b4, 2, none⟩) (by first | omega | (dsimp only; omega))).trans a2
  replace d0 := (hb.cell (p := ⟨b6, 0, none⟩) (by first | omega | (dsimp only; omega))).trans d0
  replace d1 := (hb.cell (p := ⟨b6, 1, none⟩) (by first | omega | (dsimp only; omega))).trans d1
  replace d2 := (hb.cell (p := ⟨b6, 2, none⟩) (by first | omega | (dsimp only; omega))).trans d2
  replace HX := Lib.hid (more HX.out (Nat.le_refl _) hb)
  replace HW := Lib.hid (HW.out.trans (hb.mono (by have := HW.out.size; have := HS3.out; omega)))
  replace HO := Lib.hid (HO.out.below hb)
  have hsz7 : w6.heap.size ≤ w7.heap.size := hb.size
  replace hba : ba < w7.heap.size := Nat.lt_of_lt_of_le hba hsz7
  replace hzb4 : b4 < w7.heap.size := Nat.lt_of_lt_of_le hzb4 hsz7
  replace hzb6 : b6 < w7.heap.size := Nat.lt_of_lt_of_le hzb6 hsz7
  have HG := Lib.hid ho
  obtain ⟨h7, hh7⟩ : ∃ q, w7.heap.size = q := ⟨_, rfl⟩
  have HH7 := Lib.hid hh7
  rw [HL7.out, hh7] at HG
  have h77 : l7 ≤ h7 := by have := HL7.out; omega
  clear hb hsz7 ho hh7
  have hbab8 := Below.alloc (Below.refl w7.heap.size w7) (Nat.le_refl _) (.cells #[.slice S0 u0 i0, .slice S1 u1 i1, .slice S2 u2 i2] 30)
  have e0 : (w7.alloc (.cells #[.slice S0 u0 i0, .slice S1 u1 i1, .slice S2 u2 i2] 30)).cell? ⟨w7.heap.size, 0, none⟩ = some (.slice S0 u0 i0) := by rw [World.cell?_alloc_new]; rfl
  have e1 : (w7.alloc (.cells #[.slice S0 u0 i0, .slice S1 u1 i1, .slice S2 u2 i2] 30)).cell? ⟨w7.heap.size, 1, none⟩ = some (.slice S1 u1 i1) := by rw [World.cell?_alloc_new]; rfl
  have e2 : (w7.alloc (.cells #[.slice S0 u0 i0, .slice S1 u1 i1, .slice S2 u2 i2] 30)).cell? ⟨w7.heap.size, 2, none⟩ = some (.slice S2 u2 i2) := by rw [World.cell?_alloc_new]; rfl
  go_wp2_with fail
  have hb := hbab8
  clear hbab8
  obtain ⟨b8, hbox⟩ : ∃ q, w7.heap.size = q := ⟨_, rfl⟩
  have hzb8 : b8 < (w7.alloc (.cells #[.slice S0 u0 i0, .slice S1 u1 i1, .slice S2 u2 i2] 30)).heap.size := by simp; omega
  have h87 : h7 ≤ b8 := by have := HH7.out; omega
  obtain ⟨w8, hw2⟩ : ∃ v, w7.alloc (.cells #[.slice S0 u0 i0, .slice S1 u1 i1, .slice S2 u2 i2] 30) = v := ⟨_, rfl⟩
  rw [hw2] at e0 e1 e2 hb hzb8 ⊢
  replace f0 := (hb.cell (p := ⟨ba, 0, none⟩) (by first | omega | (dsimp only; omega))).trans f0
  replace f1 := (hb.cell (p := ⟨ba, 1, none⟩) (by first | omega | (dsimp only; omega))).trans f1
  replace f2 := (hb.cell (p := ⟨ba, 2, none⟩) (by first | omega | (dsimp only; omega))).trans f2
  replace a0 := (hb.cell (p := ⟨b4, 0, none⟩) (by first | omega | (dsimp only; omega))).trans a0
  replace a1 := (hb.cell (p := ⟨b4, 1, none⟩) (by first | omega | (dsimp only; omega))).trans a1
  replace a2 := (hb.cell (p := ⟨b4, 2, none⟩) (by first | omega | (dsimp only; omega))).trans a2
  replace d0 := (hb.cell (p := ⟨b6, 0, none⟩) (by first | omega | (dsimp only; omega))).trans d0
  replace d1 := (hb.cell (p := ⟨b6, 1, none⟩) (by first | omega | (dsimp only; omega))).trans d1
  replace d2 := (hb.cell (p := ⟨b6, 2, none⟩) (by first | omega | (dsimp only; omega))).trans d2
  replace HX := Lib.hid (more HX.out (Nat.le_refl _) hb)
  replace HW := Lib.hid (HW.out.trans (hb.mono (by have := HW.out.size; have := HS3.out; omega)))
  replace HO := Lib.hid (HO.out.below hb)
  replace HG := Lib.hid (HG.out.below hb)
  have hsz8 : w7.heap.size ≤ w8.heap.size := hb.size
  replace hba : ba < w8.heap.size := Nat.lt_of_lt_of_le hba hsz8
  replace hzb4 : b4 < w8.heap.size := Nat.lt_of_lt_of_le hzb4 hsz8
  replace hzb6 : b6 < w8.heap.size := Nat.lt_of_lt_of_le hzb6 hsz8
  rw [hbox] at e0 e1 e2 ⊢
  clear hb hsz8 hw2 hbox
  clear HH7
  refine (KEY.out _ _ _ _ _ _ _ _ _ _ _ _ w8 (HG.out.lies HSY.out) (PW.out.below (by rw [HS3.out]; exact HW.out))).mono ?_
  rintro e w9 ⟨rfl, hb⟩
  replace f0 := (hb.cell (p := ⟨ba, 0, none⟩) (by first | omega | (dsimp only; omega))).trans f0
  replace f1 := (hb.cell (p := ⟨ba, 1, none⟩) (by first | omega | (dsimp only; omega))).trans f1
  replace f2 := (hb.cell (p := ⟨ba, 2, none⟩) (by first | omega | (dsimp only; omega))).trans f2
  replace a0 := (hb.cell (p := ⟨b4, 0, none⟩) (by first | omega | (dsimp only; omega))).trans a0
  replace a1 := (hb.cell (p := ⟨b4, 1, none⟩) (by first | omega | (dsimp only; omega))).trans a1
  replace a2 := (hb.cell (p := ⟨b4, 2, none⟩) (by first | omega | (dsimp only; omega))).trans a2
  replace d0 := (hb.cell (p := ⟨b6, 0, none⟩) (by first | omega | (dsimp only; omega))).trans d0
  replace d1 := (hb.cell (p := ⟨b6, 1, none⟩) (by first | omega | (dsimp only; omega))).trans d1
  replace d2 := (hb.cell (p := ⟨b6, 2, none⟩) (by first | omega | (dsimp only; omega))).trans d2
  replace e0 := (hb.cell (p := ⟨b8, 0, none⟩) (by first | omega | (dsimp only; omega))).trans e0
  replace e1 := (hb.cell (p := ⟨b8, 1, none⟩) (by first | omega | (dsimp only; omega))).trans e1
  replace e2 := (hb.cell (p := ⟨b8, 2, none⟩) (by first | omega | (dsimp only; omega))).trans e2
  replace HX := Lib.hid (more HX.out (Nat.le_refl _) hb)
  replace HW := Lib.hid (HW.out.trans (hb.mono (by have := HW.out.size; have := HS3.out; omega)))
  replace HO := Lib.hid (HO.out.below hb)
  replace HG := Lib.hid (HG.out.below hb)
  have hsz9 : w8.heap.size ≤ w9.heap.size := hb.size
  replace hba : ba < w9.heap.size := Nat.lt_of_lt_of_le hba hsz9
  replace hzb4 : b4 < w9.heap.size := Nat.lt_of_lt_of_le hzb4 hsz9
  replace hzb6 : b6 < w9.heap.size := Nat.lt_of_lt_of_le hzb6 hsz9
  replace hzb8 : b8 < w9.heap.size := Nat.lt_of_lt_of_le hzb8 hsz9
  clear hb hsz9
  go_wp2_with fail
  refine wp_region_held_drew (S := fun w' => Below w9.heap.size w9 w' ∧ w'.cell? ⟨b6, 0, none⟩ = some (.slice X0 n n) ∧ w'.cell? ⟨b6, 1, none⟩ = some (.slice X1 m m) ∧ w'.cell? ⟨b6, 2, none⟩ = some (.slice X2 q q) ∧ w'.cell? ⟨ba, 0, none⟩ = some (.slice A0 n c0) ∧ w'.cell? ⟨ba, 1, none⟩ = some (.slice A1 m c1) ∧ w'.cell? ⟨ba, 2, none⟩ = some (.slice A2 q c2)) (by kernel_rfl) ?_ (fun hHeld => ?_)
  · exact ⟨Below.drew (Below.refl _ _), d0, d1, d2, f0, f1, f2⟩
  refine wpAnyH_take (i := 0) (oi := _) (v := ?_) rfl (by kernel_rfl) (by kernel_rfl) (by kernel_rfl) (fun _ _ _ h => h) (Or.inl ⟨by kernel_rfl, ?_⟩) (by assumption) ?_
  rotate_left
  · (intro w hSw; (try dsimp only at hSw); go_simp)
    try with_reducible rfl
  (try simp only [Act.put, List.getElem_toArray, List.getElem_cons_zero, List.getElem_cons_succ, List.setIfInBounds_toArray, List.set_cons_zero, List.set_cons_succ])
  refine wpAnyH_take (i := 1) (oi := _) (v := ?_) rfl (by kernel_rfl) (by kernel_rfl) (by kernel_rfl) (fun _ _ _ h => h) (Or.inl ⟨by kernel_rfl, ?_⟩) (by assumption) ?_
  rotate_left
  · (intro w hSw; (try dsimp only at hSw); go_simp)
    try with_reducible rfl
  (try simp only [Act.put, List.getElem_toArray, List.getElem_cons_zero, List.getElem_cons_succ, List.setIfInBounds_toArray, List.set_cons_zero, List.set_cons_succ])
  refine wpAnyH_ready (rs := [2]) (by kernel_rfl) (by simp) ?_
  refine AllReadyH.cons (o := _) rfl (fun K hK => ?_) AllReadyH.nil
  go_simp
  have hB0 := hHeld.1
  have hX0 := more HX.out (Nat.le_refl _) hB0
  have t1 := KT.out _ (HP.out.1.below hX0) (HP.out.2.1.below hX0) (HP.out.2.2.below hX0)
  refine t1.mono ?_
  clear t1 hX0
  rintro e w' ⟨g0, g1, g2, rfl, hn, hb⟩
  refine hK.out _ _ ?_ (fun hHeld2 => ?_)
  · obtain ⟨_, d0, d1, d2, f0, f1, f2⟩ := hHeld
    exact ⟨hB0.trans (hb.mono hB0.size), (hb.cell (p := ⟨b6, 0, none⟩) (Nat.lt_of_lt_of_le hzb6 hB0.size)).trans d0, (hb.cell (p := ⟨b6, 1, none⟩) (Nat.lt_of_lt_of_le hzb6 hB0.size)).trans d1, (hb.cell (p := ⟨b6, 2, none⟩) (Nat.lt_of_lt_of_le hzb6 hB0.size)).trans d2, (hb.cell (p := ⟨ba, 0, none⟩) (Nat.lt_of_lt_of_le hba hB0.size)).trans f0, (hb.cell (p := ⟨ba, 1, none⟩) (Nat.lt_of_lt_of_le hba hB0.size)).trans f1, (hb.cell (p := ⟨ba, 2, none⟩) (Nat.lt_of_lt_of_le hba hB0.size)).trans f2⟩
  have HN := Lib.hid hn
  clear hn hK K hb hB0 hHeld
  (try simp only [Act.put, List.getElem_toArray, List.getElem_cons_zero, List.getElem_cons_succ, List.setIfInBounds_toArray, List.set_cons_zero, List.set_cons_succ])
  refine wpAnyH_ready (rs := [3]) (by kernel_rfl) (by simp) ?_
  refine AllReadyH.cons (o := _) rfl (fun K hK => ?_) AllReadyH.nil
  go_simp
  have hB0 := hHeld2.1
  refine (KEX.out _ _ _ _ _ _ _ _ _ _ _ _ _ ((HO.out.below hB0).lies HSX.out) (HN.out.lies HSX.out)).mono ?_
  rintro e w' ⟨rfl, hb⟩
  refine hK.out _ _ ?_ (fun hHeld3 => ?_)
  · obtain ⟨_, d0, d1, d2, f0, f1, f2⟩ := hHeld2
    exact ⟨hB0.trans (hb.mono hB0.size), (hb.cell (p := ⟨b6, 0, none⟩) (Nat.lt_of_lt_of_le hzb6 hB0.size)).trans d0, (hb.cell (p := ⟨b6, 1, none⟩) (Nat.lt_of_lt_of_le hzb6 hB0.size)).trans d1, (hb.cell (p := ⟨b6, 2, none⟩) (Nat.lt_of_lt_of_le hzb6 hB0.size)).trans d2, (hb.cell (p := ⟨ba, 0, none⟩) (Nat.lt_of_lt_of_le hba hB0.size)).trans f0, (hb.cell (p := ⟨ba, 1, none⟩) (Nat.lt_of_lt_of_le hba hB0.size)).trans f1, (hb.cell (p := ⟨ba, 2, none⟩) (Nat.lt_of_lt_of_le hba hB0.size)).trans f2⟩
  clear hK K hb hB0 hHeld2 HN
  (try simp only [Act.put, List.getElem_toArray, List.getElem_cons_zero, List.getElem_cons_succ, List.setIfInBounds_toArray, List.set_cons_zero, List.set_cons_succ])
  refine wpAnyH_take (i := 4) (oi := _) (v := ?_) rfl (by kernel_rfl) (by kernel_rfl) (by kernel_rfl) (fun _ _ _ h => h) (Or.inl ⟨by kernel_rfl, ?_⟩) (by assumption) ?_
  rotate_left
  · (intro w hSw; (try dsimp only at hSw); go_simp)
    try with_reducible rfl
  (try simp only [Act.put, List.getElem_toArray, List.getElem_cons_zero, List.getElem_cons_succ, List.setIfInBounds_toArray, List.set_cons_zero, List.set_cons_succ])
  refine wpAnyH_done (by kernel_rfl) ?_ _
  have hb := hHeld3.1
  clear hHeld3
  obtain ⟨w10, hw10⟩ : ∃ v, w' = v := ⟨_, rfl⟩
  rw [hw10] at hb ⊢
  clear hw10 w'
  replace f0 := (hb.cell (p := ⟨ba, 0, none⟩) (by first | omega | (dsimp only; omega))).trans f0
  replace f1 := (hb.cell (p := ⟨ba, 1, none⟩) (by first | omega | (dsimp only; omega))).trans f1
  replace f2 := (hb.cell (p := ⟨ba, 2, none⟩) (by first | omega | (dsimp only; omega))).trans f2
  replace a0 := (hb.cell (p := ⟨b4, 0, none⟩) (by first | omega | (dsimp only; omega))).trans a0
  replace a1 := (hb.cell (p := ⟨b4, 1, none⟩) (by first | omega | (dsimp only; omega))).trans a1
  replace a2 := (hb.cell (p := ⟨b4, 2, none⟩) (by first | omega | (dsimp only; omega))).trans a2
  replace d0 := (hb.cell (p := ⟨b6, 0, none⟩) (by first | omega | (dsimp only; omega))).trans d0
  replace d1 := (hb.cell (p := ⟨b6, 1, none⟩) (by first | omega | (dsimp only; omega))).trans d1
  replace d2 := (hb.cell (p := ⟨b6, 2, none⟩) (by first | omega | (dsimp only; omega))).trans d2
  replace e0 := (hb.cell (p := ⟨b8, 0, none⟩) (by first | omega | (dsimp only; omega))).trans e0
  replace e1 := (hb.cell (p := ⟨b8, 1, none⟩) (by first | omega | (dsimp only; omega))).trans e1
  replace e2 := (hb.cell (p := ⟨b8, 2, none⟩) (by first | omega | (dsimp only; omega))).trans e2
  replace HX := Lib.hid (more HX.out (Nat.le_refl _) hb)
  replace HW := Lib.hid (HW.out.trans (hb.mono (by have := HW.out.size; have := HS3.out; omega)))
  replace HO := Lib.hid (HO.out.below hb)
  replace HG := Lib.hid (HG.out.below hb)
  have hsz10 : w9.heap.size ≤ w10.heap.size := hb.size
  replace hba : ba < w10.heap.size := Nat.lt_of_lt_of_le hba hsz10
  replace hzb4 : b4 < w10.heap.size := Nat.lt_of_lt_of_le hzb4 hsz10
  replace hzb6 : b6 < w10.heap.size := Nat.lt_of_lt_of_le hzb6 hsz10
  replace hzb8 : b8 < w10.heap.size := Nat.lt_of_lt_of_le hzb8 hsz10
  clear hb hsz10
  go_wp2_with fail
  have hneg : decide ((v9 : Int) < 0) = false := by simp
  have hneg2 : decide ((y9 : Int) < 0) = false := by simp
  have t1 := KMX.out l5 h5 _ _ _ w10 HO.out (by omega)
  refine t1.mono ?_
  clear t1
  rintro e w11 ⟨rfl, _, ht⟩
  replace f0 := (World.cell?_of_block (a := ⟨ba, 0, none⟩) (ht.block ba (by first | omega | (dsimp only; omega)) (by first | omega | (dsimp only; omega)))).trans f0
  replace f1 := (World.cell?_of_block (a := ⟨ba, 1, none⟩) (ht.block ba (by first | omega | (dsimp only; omega)) (by first | omega | (dsimp only; omega)))).trans f1
  replace f2 := (World.cell?_of_block (a := ⟨ba, 2, none⟩) (ht.block ba (by first | omega | (dsimp only; omega)) (by first | omega | (dsimp only; omega)))).trans f2
  replace a0 := (World.cell?_of_block (a := ⟨b4, 0, none⟩) (ht.block b4 (by first | omega | (dsimp only; omega)) (by first | omega | (dsimp only; omega)))).trans a0
  replace a1 := (World.cell?_of_block (a := ⟨b4, 1, none⟩) (ht.block b4 (by first | omega | (dsimp only; omega)) (by first | omega | (dsimp only; omega)))).trans a1
  replace a2 := (World.cell?_of_block (a := ⟨b4, 2, none⟩) (ht.block b4 (by first | omega | (dsimp only; omega)) (by first | omega | (dsimp only; omega)))).trans a2
  replace d0 := (World.cell?_of_block (a := ⟨b6, 0, none⟩) (ht.block b6 (by first | omega | (dsimp only; omega)) (by first | omega | (dsimp only; omega)))).trans d0
  replace d1 := (World.cell?_of_block (a := ⟨b6, 1, none⟩) (ht.block b6 (by first | omega | (dsimp only; omega)) (by first | omega | (dsimp only; omega)))).trans d1
  replace d2 := (World.cell?_of_block (a := ⟨b6, 2, none⟩) (ht.block b6 (by first | omega | (dsimp only; omega)) (by first | omega | (dsimp only; omega)))).trans d2
  replace e0 := (World.cell?_of_block (a := ⟨b8, 0, none⟩) (ht.block b8 (by first | omega | (dsimp only; omega)) (by first | omega | (dsimp only; omega)))).trans e0
  replace e1 := (World.cell?_of_block (a := ⟨b8, 1, none⟩) (ht.block b8 (by first | omega | (dsimp only; omega)) (by first | omega | (dsimp only; omega)))).trans e1
  replace e2 := (World.cell?_of_block (a := ⟨b8, 2, none⟩) (ht.block b8 (by first | omega | (dsimp only; omega)) (by first | omega | (dsimp only; omega)))).trans e2
  replace HX := Lib.hid (HX.out.trans (ht.below (by omega) (by have := HX.out.size; omega)))
  replace HW := Lib.hid (HW.out.trans (ht.below (by omega) (by have := HW.out.size; have := HS3.out; omega)))
  replace HG := Lib.hid (HG.out.turn ht (by omega))
  have hsz11 : w10.heap.size ≤ w11.heap.size := ht.size
  replace hba : ba < w11.heap.size := Nat.lt_of_lt_of_le hba hsz11
  replace hzb4 : b4 < w11.heap.size := Nat.lt_of_lt_of_le hzb4 hsz11
  replace hzb6 : b6 < w11.heap.size := Nat.lt_of_lt_of_le hzb6 hsz11
  replace hzb8 : b8 < w11.heap.size := Nat.lt_of_lt_of_le hzb8 hsz11
  clear ht hsz11 HO
  go_wp2_with fail
  refine (KEY.out _ _ _ _ _ _ _ _ _ _ _ _ w11 (HG.out.lies HSY.out) (PW.out.below (by rw [HS3.out]; exact HW.out))).mono ?_
  rintro e w12 ⟨rfl, hb⟩
  replace f0 := (hb.cell (p := ⟨ba, 0, none⟩) (by first | omega | (dsimp only; omega))).trans f0
  replace f1 := (hb.cell (p := ⟨ba, 1, none⟩) (by first | omega | (dsimp only; omega))).trans f1
  replace f2 := (hb.cell (p := ⟨ba, 2, none⟩) (by first | omega | (dsimp only; omega))).trans f2
  replace a0 := (hb.cell (p := ⟨b4, 0, none⟩) (by first | omega | (dsimp only; omega))).trans a0
  replace a1 := (hb.cell (p := ⟨b4, 1, none⟩) (by first | omega | (dsimp only; omega))).trans a1
  replace a2 := (hb.cell (p := ⟨b4, 2, none⟩) (by first | omega | (dsimp only; omega))).trans a2
  replace d0 := (hb.cell (p := ⟨b6, 0, none⟩) (by first | omega | (dsimp only; omega))).trans d0
  replace d1 := (hb.cell (p := ⟨b6, 1, none⟩) (by first | omega | (dsimp only; omega))).trans d1
  replace d2 := (hb.cell (p := ⟨b6, 2, none⟩) (by first | omega | (dsimp only; omega))).trans d2
  replace e0 := (hb.cell (p := ⟨b8, 0, none⟩) (by first | omega | (dsimp only; omega))).trans e0
  replace e1 := (hb.cell (p := ⟨b8, 1, none⟩) (by first | omega | (dsimp only; omega))).trans e1
  replace e2 := (hb.cell (p := ⟨b8, 2, none⟩) (by first | omega | (dsimp only; omega))).trans e2
  replace HX := Lib.hid (more HX.out (Nat.le_refl _) hb)
  replace HW := Lib.hid (HW.out.trans (hb.mono (by have := HW.out.size; have := HS3.out; omega)))
  replace HG := Lib.hid (HG.out.below hb)
  have hsz12 : w11.heap.size ≤ w12.heap.size := hb.size
  replace hba : ba < w12.heap.size := Nat.lt_of_lt_of_le hba hsz12
  replace hzb4 : b4 < w12.heap.size := Nat.lt_of_lt_of_le hzb4 hsz12
  replace hzb6 : b6 < w12.heap.size := Nat.lt_of_lt_of_le hzb6 hsz12
  replace hzb8 : b8 < w12.heap.size := Nat.lt_of_lt_of_le hzb8 hsz12
  clear hb hsz12
  go_wp2_with fail
  have t1 := KMY.out l7 h7 _ _ _ _ _ _ w12 HG.out (by omega)
  refine t1.mono ?_
  clear t1
  rintro e w13 ⟨rfl, ho, ht⟩
  replace f0 := (World.cell?_of_block (a := ⟨ba, 0, none⟩) (ht.block ba (by first | omega | (dsimp only; omega)) (by first | omega | (dsimp only; omega)))).trans f0
  replace f1 := (World.cell?_of_block (a := ⟨ba, 1, none⟩) (ht.block ba (by first | omega | (dsimp only; omega)) (by first | omega | (dsimp only; omega)))).trans f1
  replace f2 := (World.cell?_of_block (a := ⟨ba, 2, none⟩) (ht.block ba (by first | omega | (dsimp only; omega)) (by first | omega | (dsimp only; omega)))).trans f2
  replace a0 := (World.cell?_of_block (a := ⟨b4, 0, none⟩) (ht.block b4 (by first | omega | (dsimp only; omega)) (by first | omega | (dsimp only; omega)))).trans a0
  replace a1 := (World.cell?_of_block (a := ⟨b4, 1, none⟩) (ht.block b4 (by first | omega | (dsimp only; omega)) (by first | omega | (dsimp only; omega)))).trans a1
  replace a2 := (World.cell?_of_block (a := ⟨b4, 2, none⟩) (ht.block b4 (by first | omega | (dsimp only; omega)) (by first | omega | (dsimp only; omega)))).trans a2
  replace d0 := (World.cell?_of_block (a := ⟨b6, 0, none⟩) (ht.block b6 (by first | omega | (dsimp only; omega)) (by first | omega | (dsimp only; omega)))).trans d0
  replace d1 := (World.cell?_of_block (a := ⟨b6, 1, none⟩) (ht.block b6 (by first | omega | (dsimp only; omega)) (by first | omega | (dsimp only; omega)))).trans d1
  replace d2 := (World.cell?_of_block (a := ⟨b6, 2, none⟩) (ht.block b6 (by first | omega | (dsimp only; omega)) (by first | omega | (dsimp only; omega)))).trans d2
  replace e0 := (World.cell?_of_block (a := ⟨b8, 0, none⟩) (ht.block b8 (by first | omega | (dsimp only; omega)) (by first | omega | (dsimp only; omega)))).trans e0
  replace e1 := (World.cell?_of_block (a := ⟨b8, 1, none⟩) (ht.block b8 (by first | omega | (dsimp only; omega)) (by first | omega | (dsimp only; omega)))).trans e1
  replace e2 := (World.cell?_of_block (a := ⟨b8, 2, none⟩) (ht.block b8 (by first | omega | (dsimp only; omega)) (by first | omega | (dsimp only; omega)))).trans e2
  replace HX := Lib.hid (HX.out.trans (ht.below (by omega) (by have := HX.out.size; omega)))
  replace HW := Lib.hid (HW.out.trans (ht.below (by omega) (by have := HW.out.size; have := HS3.out; omega)))
  have hsz13 : w12.heap.size ≤ w13.heap.size := ht.size
  replace hba : ba < w13.heap.size := Nat.lt_of_lt_of_le hba hsz13
  replace hzb4 : b4 < w13.heap.size := Nat.lt_of_lt_of_le hzb4 hsz13
  replace hzb6 : b6 < w13.heap.size := Nat.lt_of_lt_of_le hzb6 hsz13
  replace hzb8 : b8 < w13.heap.size := Nat.lt_of_lt_of_le hzb8 hsz13
  have HM := Lib.hid ho
  clear ht hsz13 HG ho
  go_wp2_with fail
  refine (KHY.out _ _ _ _ _ _ w13 (HM.out.lies HSM.out)).mono ?_
  rintro e w14 ⟨rfl, hb⟩
  replace f0 := (hb.cell (p := ⟨ba, 0, none⟩) (by first | omega | (dsimp only; omega))).trans f0
  replace f1 := (hb.cell (p := ⟨ba, 1, none⟩) (by first | omega | (dsimp only; omega))).trans f1
  replace f2 := (hb.cell (p := ⟨ba, 2, none⟩) (by first | omega | (dsimp only; omega))).trans f2
  replace a0 := (hb.cell (p := ⟨b4, 0, none⟩) (by first | omega | (dsimp only; omega))).trans a0
  replace a1 := (hb.cell (p := ⟨b4, 1, none⟩) (by first | omega | (dsimp only; omega))).trans a1
  replace a2 := (hb.cell (p := ⟨b4, 2, none⟩) (by first | omega | (dsimp only; omega))).trans a2
  replace d0 := (hb.cell (p := ⟨b6, 0, none⟩) (by first | omega | (dsimp only; omega))).trans d0
  replace d1 := (hb.cell (p := ⟨b6, 1, none⟩) (by first | omega | (dsimp only; omega))).trans d1
  replace d2 := (hb.cell (p := ⟨b6, 2, none⟩) (by first | omega | (dsimp only; omega))).trans d2
  replace e0 := (hb.cell (p := ⟨b8, 0, none⟩) (by first | omega | (dsimp only; omega))).trans e0
  replace e1 := (hb.cell (p := ⟨b8, 1, none⟩) (by first | omega | (dsimp only; omega))).trans e1
  replace e2 := (hb.cell (p := ⟨b8, 2, none⟩) (by first | omega | (dsimp only; omega))).trans e2
  replace HX := Lib.hid (more HX.out (Nat.le_refl _) hb)
  replace HW := Lib.hid (HW.out.trans (hb.mono (by have := HW.out.size; have := HS3.out; omega)))
  replace HM := Lib.hid (HM.out.below hb)
  have hsz14 : w13.heap.size ≤ w14.heap.size := hb.size
  replace hba : ba < w14.heap.size := Nat.lt_of_lt_of_le hba hsz14
  replace hzb4 : b4 < w14.heap.size := Nat.lt_of_lt_of_le hzb4 hsz14
  replace hzb6 : b6 < w14.heap.size := Nat.lt_of_lt_of_le hzb6 hsz14
  replace hzb8 : b8 < w14.heap.size := Nat.lt_of_lt_of_le hzb8 hsz14
  clear hb hsz14
  go_wp2_with fail
  have t1 := KTO.out w14 (HP.out.1.below HX.out) (HP.out.2.1.below HX.out) (HP.out.2.2.below HX.out)
  refine t1.mono ?_
  clear t1
  rintro e w15 ⟨Y0, Y1, Y2, rfl, ho, hb⟩
  replace f0 := (hb.cell (p := ⟨ba, 0, none⟩) (by first | omega | (dsimp only; omega))).trans f0
  replace f1 := (hb.cell (p := ⟨ba, 1, none⟩) (by first | omega | (dsimp only; omega))).trans f1
  replace f2 := (hb.cell (p := ⟨ba, 2, none⟩) (by first | omega | (dsimp only; omega))).trans f2
  replace a0 := (hb.cell (p := ⟨b4, 0, none⟩) (by first | omega | (dsimp only; omega))).trans a0
  replace a1 := (hb.cell (p := ⟨b4, 1, none⟩) (by first | omega | (dsimp only; omega))).trans a1
  replace a2 := (hb.cell (p := ⟨b4, 2, none⟩) (by first | omega | (dsimp only; omega))).trans a2
  replace d0 := (hb.cell (p := ⟨b6, 0, none⟩) (by first | omega | (dsimp only; omega))).trans d0
  replace d1 := (hb.cell (p := ⟨b6, 1, none⟩) (by first | omega | (dsimp only; omega))).trans d1
  replace d2 := (hb.cell (p := ⟨b6, 2, none⟩) (by first | omega | (dsimp only; omega))).trans d2
  replace e0 := (hb.cell (p := ⟨b8, 0, none⟩) (by first | omega | (dsimp only; omega))).trans e0
  replace e1 := (hb.cell (p := ⟨b8, 1, none⟩) (by first | omega | (dsimp only; omega))).trans e1
  replace e2 := (hb.cell (p := ⟨b8, 2, none⟩) (by first | omega | (dsimp only; omega))).trans e2
  replace HX := Lib.hid (more HX.out (Nat.le_refl _) hb)
  replace HW := Lib.hid (HW.out.trans (hb.mono (by have := HW.out.size; have := HS3.out; omega)))
  replace HM := Lib.hid (HM.out.below hb)
  have hsz15 : w14.heap.size ≤ w15.heap.size := hb.size
  replace hba : ba < w15.heap.size := Nat.lt_of_lt_of_le hba hsz15
  replace hzb4 : b4 < w15.heap.size := Nat.lt_of_lt_of_le hzb4 hsz15
  replace hzb6 : b6 < w15.heap.size := Nat.lt_of_lt_of_le hzb6 hsz15
  replace hzb8 : b8 < w15.heap.size := Nat.lt_of_lt_of_le hzb8 hsz15
  have HN := Lib.hid ho
  clear hb hsz15 ho
  go_wp2_with fail
  have t1 := KI.out _ _ _ w15 HN.out
  refine t1.mono ?_
  clear t1
  rintro e w16 ⟨T0, t0, T1, t1, T2, t2, rfl, ho, hb⟩
  replace f0 := (hb.cell (p := ⟨ba, 0, none⟩) (by first | omega | (dsimp only; omega))).trans f0
  replace f1 := (hb.cell (p := ⟨ba, 1, none⟩) (by first | omega | (dsimp only; omega))).trans f1
  replace f2 := (hb.cell (p := ⟨ba, 2, none⟩) (by first | omega | (dsimp only; omega))).trans f2
  replace a0 := (hb.cell (p := ⟨b4, 0, none⟩) (by first | omega | (dsimp only; omega))).trans a0
  replace a1 := (hb.cell (p := ⟨b4, 1, none⟩) (by first | omega | (dsimp only; omega))).trans a1
  replace a2 := (hb.cell (p := ⟨b4, 2, none⟩) (by first | omega | (dsimp only; omega))).trans a2
  replace d0 := (hb.cell (p := ⟨b6, 0, none⟩) (by first | omega | (dsimp only; omega))).trans d0
  replace d1 := (hb.cell (p := ⟨b6, 1, none⟩) (by first | omega | (dsimp only; omega))).trans d1
  replace d2 := (hb.cell (p := ⟨b6, 2, none⟩) (by first | omega | (dsimp only; omega))).trans d2
  replace e0 := (hb.cell (p := ⟨b8, 0, none⟩) (by first | omega | (dsimp only; omega))).trans e0
  replace e1 := (hb.cell (p := ⟨b8, 1, none⟩) (by first | omega | (dsimp only; omega))).trans e1
  replace e2 := (hb.cell (p := ⟨b8, 2, none⟩) (by first | omega | (dsimp only; omega))).trans e2
  replace HX := Lib.hid (more HX.out (Nat.le_refl _) hb)
  replace HW := Lib.hid (HW.out.trans (hb.mono (by have := HW.out.size; have := HS3.out; omega)))
  replace HM := Lib.hid (HM.out.below hb)
  have hsz16 : w15.heap.size ≤ w16.heap.size := hb.size
  replace hba : ba < w16.heap.size := Nat.lt_of_lt_of_le hba hsz16
  replace hzb4 : b4 < w16.heap.size := Nat.lt_of_lt_of_le hzb4 hsz16
  replace hzb6 : b6 < w16.heap.size := Nat.lt_of_lt_of_le hzb6 hsz16
  replace hzb8 : b8 < w16.heap.size := Nat.lt_of_lt_of_le hzb8 hsz16
  have HH := Lib.hid ho
  clear hb hsz16 ho HN
  have hbab12 := Below.alloc (Below.refl w16.heap.size w16) (Nat.le_refl _) (.cells #[.slice T0 u0 t0, .slice T1 u1 t1, .slice T2 u2 t2] 30)
  have i0 : (w16.alloc (.cells #[.slice T0 u0 t0, .slice T1 u1 t1, .slice T2 u2 t2] 30)).cell? ⟨w16.heap.size, 0, none⟩ = some (.slice T0 u0 t0) := by rw [World.cell?_alloc_new]; rfl
  have i1 : (w16.alloc (.cells #[.slice T0 u0 t0, .slice T1 u1 t1, .slice T2 u2 t2] 30)).cell? ⟨w16.heap.size, 1, none⟩ = some (.slice T1 u1 t1) := by rw [World.cell?_alloc_new]; rfl
  have i2 : (w16.alloc (.cells #[.slice T0 u0 t0, .slice T1 u1 t1, .slice T2 u2 t2] 30)).cell? ⟨w16.heap.size, 2, none⟩ = some (.slice T2 u2 t2) := by rw [World.cell?_alloc_new]; rfl
  go_wp2_with fail
  have hb := hbab12
  clear hbab12
  obtain ⟨b12, hbox⟩ : ∃ q, w16.heap.size = q := ⟨_, rfl⟩
  have hzb12 : b12 < (w16.alloc (.cells #[.slice T0 u0 t0, .slice T1 u1 t1, .slice T2 u2 t2] 30)).heap.size := by simp; omega
  obtain ⟨w17, hw2⟩ : ∃ v, w16.alloc (.cells #[.slice T0 u0 t0, .slice T1 u1 t1, .slice T2 u2 t2] 30) = v := ⟨_, rfl⟩
  rw [hw2] at i0 i1 i2 hb hzb12 ⊢
  replace f0 := (hb.cell (p := ⟨ba, 0, none⟩) (by first | omega | (dsimp only; omega))).trans f0
  replace f1 := (hb.cell (p := ⟨ba, 1, none⟩) (by first | omega | (dsimp only; omega))).trans f1
  replace f2 := (hb.cell (p := ⟨ba, 2, none⟩) (by first | omega | (dsimp only; omega))).trans f2
  replace a0 := (hb.cell (p := ⟨b4, 0, none⟩) (by first | omega | (dsimp only; omega))).trans a0
  replace a1 := (hb.cell (p := ⟨b4, 1, none⟩) (by first | omega | (dsimp only; omega))).trans a1
  replace a2 := (hb.cell (p := ⟨b4, 2, none⟩) (by first | omega | (dsimp only; omega))).trans a2
  replace d0 := (hb.cell (p := ⟨b6, 0, none⟩) (by first | omega | (dsimp only; omega))).trans d0
  replace d1 := (hb.cell (p := ⟨b6, 1, none⟩) (by first | omega | (dsimp only; omega))).trans d1
  replace d2 := (hb.cell (p := ⟨b6, 2, none⟩) (by first | omega | (dsimp only; omega))).trans d2
  replace e0 := (hb.cell (p := ⟨b8, 0, none⟩) (by first | omega | (dsimp only; omega))).trans e0
  replace e1 := (hb.cell (p := ⟨b8, 1, none⟩) (by first | omega | (dsimp only; omega))).trans e1
  replace e2 := (hb.cell (p := ⟨b8, 2, none⟩) (by first | omega | (dsimp only; omega))).trans e2
  replace HX := Lib.hid (more HX.out (Nat.le_refl _) hb)
  replace HW := Lib.hid (HW.out.trans (hb.mono (by have := HW.out.size; have := HS3.out; omega)))
  replace HM := Lib.hid (HM.out.below hb)
  replace HH := Lib.hid (HH.out.below hb)
  have hsz17 : w16.heap.size ≤ w17.heap.size := hb.size
  replace hba : ba < w17.heap.size := Nat.lt_of_lt_of_le hba hsz17
  replace hzb4 : b4 < w17.heap.size := Nat.lt_of_lt_of_le hzb4 hsz17
  replace hzb6 : b6 < w17.heap.size := Nat.lt_of_lt_of_le hzb6 hsz17
  replace hzb8 : b8 < w17.heap.size := Nat.lt_of_lt_of_le hzb8 hsz17
  rw [hbox] at i0 i1 i2 ⊢
  clear hb hsz17 hw2 hbox
  refine (KEY.out _ _ _ _ _ _ _ _ _ _ _ _ w17 (HH.out.lies HSY.out) (PW.out.below (by rw [HS3.out]; exact HW.out))).mono ?_
  rintro e w18 ⟨rfl, hb⟩
  replace f0 := (hb.cell (p := ⟨ba, 0, none⟩) (by first | omega | (dsimp only; omega))).trans f0
  replace f1 := (hb.cell (p := ⟨ba, 1, none⟩) (by first | omega | (dsimp only; omega))).trans f1
  replace f2 := (hb.cell (p := ⟨ba, 2, none⟩) (by first | omega | (dsimp only; omega))).trans f2
  replace a0 := (hb.cell (p := ⟨b4, 0, none⟩) (by first | omega | (dsimp only; omega))).trans a0
  replace a1 := (hb.cell (p := ⟨b4, 1, none⟩) (by first | omega | (dsimp only; omega))).trans a1
  replace a2 := (hb.cell (p := ⟨b4, 2, none⟩) (by first | omega | (dsimp only; omega))).trans a2
  replace d0 := (hb.cell (p := ⟨b6, 0, none⟩) (by first | omega | (dsimp only; omega))).trans d0
  replace d1 := (hb.cell (p := ⟨b6, 1, none⟩) (by first | omega | (dsimp only; omega))).trans d1
  replace d2 := (hb.cell (p := ⟨b6, 2, none⟩) (by first | omega | (dsimp only; omega))).trans d2
  replace e0 := (hb.cell (p := ⟨b8, 0, none⟩) (by first | omega | (dsimp only; omega))).trans e0
  replace e1 := (hb.cell (p := ⟨b8, 1, none⟩) (by first | omega | (dsimp only; omega))).trans e1
  replace e2 := (hb.cell (p := ⟨b8, 2, none⟩) (by first | omega | (dsimp only; omega))).trans e2
  replace i0 := (hb.cell (p := ⟨b12, 0, none⟩) (by first | omega | (dsimp only; omega))).trans i0
  replace i1 := (hb.cell (p := ⟨b12, 1, none⟩) (by first | omega | (dsimp only; omega))).trans i1
  replace i2 := (hb.cell (p := ⟨b12, 2, none⟩) (by first | omega | (dsimp only; omega))).trans i2
  replace HX := Lib.hid (more HX.out (Nat.le_refl _) hb)
  replace HW := Lib.hid (HW.out.trans (hb.mono (by have := HW.out.size; have := HS3.out; omega)))
  replace HM := Lib.hid (HM.out.below hb)
  replace HH := Lib.hid (HH.out.below hb)
  have hsz18 : w17.heap.size ≤ w18.heap.size := hb.size
  replace hba : ba < w18.heap.size := Nat.lt_of_lt_of_le hba hsz18
  replace hzb4 : b4 < w18.heap.size := Nat.lt_of_lt_of_le hzb4 hsz18
  replace hzb6 : b6 < w18.heap.size := Nat.lt_of_lt_of_le hzb6 hsz18
  replace hzb8 : b8 < w18.heap.size := Nat.lt_of_lt_of_le hzb8 hsz18
  replace hzb12 : b12 < w18.heap.size := Nat.lt_of_lt_of_le hzb12 hsz18
  clear hb hsz18
  go_wp2_with fail
  refine (KHY.out _ _ _ _ _ _ w18 (HM.out.lies HSM.out)).mono ?_
  rintro e w19 ⟨rfl, hb⟩
  replace f0 := (hb.cell (p := ⟨ba, 0, none⟩) (by first | omega | (dsimp only; omega))).trans f0
  replace f1 := (hb.cell (p := ⟨ba, 1, none⟩) (by first | omega | (dsimp only; omega))).trans f1
  replace f2 := (hb.cell (p := ⟨ba, 2, none⟩) (by first | omega | (dsimp only; omega))).trans f2
  replace a0 := (hb.cell (p := ⟨b4, 0, none⟩) (by first | omega | (dsimp only; omega))).trans a0
  replace a1 := (hb.cell (p := ⟨b4, 1, none⟩) (by first | omega | (dsimp only; omega))).trans a1
  replace a2 := (hb.cell (p := ⟨b4, 2, none⟩) (by first | omega | (dsimp only; omega))).trans a2
  replace d0 := (hb.cell (p := ⟨b6, 0, none⟩) (by first | omega | (dsimp only; omega))).trans d0
  replace d1 := (hb.cell (p := ⟨b6, 1, none⟩) (by first | omega | (dsimp only; omega))).trans d1
  replace d2 := (hb.cell (p := ⟨b6, 2, none⟩) (by first | omega | (dsimp only; omega))).trans d2
  replace e0 := (hb.cell (p := ⟨b8, 0, none⟩) (by first | omega | (dsimp only; omega))).trans e0
  replace e1 := (hb.cell (p := ⟨b8, 1, none⟩) (by first | omega | (dsimp only; omega))).trans e1
  replace e2 := (hb.cell (p := ⟨b8, 2, none⟩) (by first | omega | (dsimp only; omega))).trans e2
  replace i0 := (hb.cell (p := ⟨b12, 0, none⟩) (by first | omega | (dsimp only; omega))).trans i0
  replace i1 := (hb.cell (p := ⟨b12, 1, none⟩) (by first | omega | (dsimp only; omega))).trans i1
  replace i2 := (hb.cell (p := ⟨b12, 2, none⟩) (by first | omega | (dsimp only; omega))).trans i2
  replace HX := Lib.hid (more HX.out (Nat.le_refl _) hb)
  replace HW := Lib.hid (HW.out.trans (hb.mono (by have := HW.out.size; have := HS3.out; omega)))
  replace HM := Lib.hid (HM.out.below hb)
  replace HH := Lib.hid (HH.out.below hb)
  have hsz19 : w18.heap.size ≤ w19.heap.size := hb.size
  replace hba : ba < w19.heap.size := Nat.lt_of_lt_of_le hba hsz19
  replace hzb4 : b4 < w19.heap.size := Nat.lt_of_lt_of_le hzb4 hsz19
  replace hzb6 : b6 < w19.heap.size := Nat.lt_of_lt_of_le hzb6 hsz19
  replace hzb8 : b8 < w19.heap.size := Nat.lt_of_lt_of_le hzb8 hsz19
  replace hzb12 : b12 < w19.heap.size := Nat.lt_of_lt_of_le hzb12 hsz19
  clear hb hsz19
  go_wp2_with fail
  go_ret
  exact ⟨rfl, HB0.out.trans (HX.out.mono HB0.out.size)⟩
set_option maxRecDepth 100000 in
theorem contract (H : Type) (enc : TypeId × Value → H) (W : World) (base : Nat) (args : Array Value) (ds gs : List (DataW H)) (before : List MemPlace)
    (hval : ∀ (j : Nat) t v, Try.f4.params[j]? = some t → args[j]? = some v → Value.okWide Try.prog W .any base t v)
    (hW : DataW.Whole enc Try.prog Try.f4.params.toList Rows.fnExactHistRedoSpec.vars false W args.toList ds gs before) :
    Calls Try.prog 4 args W fun e W' => ∃ v, e = .returned v ∧ Rows.fnExactHistRedoSpec.post enc Try.prog Try.f4 false true false false W args v W' := by
  have hW' := hW
  obtain ⟨p, q, hA0, hV, rfl, hfz, hnd⟩ := hW
  have hA : DataW.TrodAll enc Try.prog W 0 (fun _ => true) true Try.f4.params.toList args.toList ds p := hA0
  rw [Try.params4] at hA hval
  obtain ⟨v0, vs0, d0, ds0, p0, q0, hargs, rfl, rfl, h0, r0⟩ := trodAll_cons hA
  obtain ⟨rfl, rfl, rfl⟩ := trodAll_nil r0
  obtain rfl : args = #[v0] := by cases args; simp_all
  obtain ⟨rfl, rfl⟩ := trodVars_none hV
  obtain ⟨A0, A1, A2, c0, c1, c2, x, rfl, hl0, hx0, hy0, hz0, hs0, hs1, hs2⟩ := open_hist (hval 0 _ v0 rfl rfl) h0 (fun x hx => by simpa using hW'.lt x (by simp [hx]))
  exact (walk A0 A1 A2 c0 c1 c2 x W hl0 hx0 hy0 hz0 hs0 hs1 hs2).mono fun e W' ⟨he, hB⟩ => ⟨_, he, law_post rfl rfl hW' laidOut (of_decide_eq_true (by kernel_rfl)) rfl Try.underlying4 hB⟩

set_option maxRecDepth 100000 in
theorem lifted (os : Os) (started : os.Started) (H : Type) (enc : TypeId × Value → H) :
    ReturnsInHanded {} Try.checked os 4 .any (Rows.fnExactHistRedoSpec.pre6 enc Try.prog Try.f4 Rows.fnExactHistRedoRow.domain false) (Rows.fnExactHistRedoSpec.post enc Try.prog Try.f4 false true false false) := by
  refine returnsInHanded_of_change (C := Try.checked) own started (by kernel_rfl) Try.func4
    (ChangeSpec.witness6 (enc := enc) (C := Try.checked) false ⟨#[], #[.agg #[.slice none 0 0, .slice none 0 0, .slice none 0 0]], []⟩ 8 (by kernel_rfl) (by kernel_rfl) (by kernel_rfl) (by kernel_rfl)) ?_
  intro W base args ds gs before hval hW _ _
  exact contract H enc W base args ds gs before hval hW

set_option maxRecDepth 100000 in
theorem proved : Rows.FnExactHistRedoSaid :=
  OpenClaim.holds_of_wide 4 Try.f4 rfl rfl rfl rfl rfl rfl rfl ⟨rfl, rfl, rfl, rfl, rfl⟩ rfl rfl rfl rfl rfl (by kernel_rfl) Try.func4 (by kernel_rfl)
    (of_decide_eq_true (by kernel_rfl)) (by unfold Func.isWrapper; first | (rw [if_pos (by decide +kernel)]; kernel_rfl) | (rw [if_neg (by decide +kernel)]; exact ⟨rfl, rfl⟩))
    (fun os started H enc _ => lifted os started H enc)
end Go.Proofs.Ytkofajjlkhamkaa.fnExactHistRedo
