/- The law FnExactLooksAll answers true at every tree and rules, and leaves them as they were, where the library's variables stand. -/
import Derived.Test.YtmfibedcloknlaaGreatDoorLkM4
import Derived.Test.YtmfibedcloknlaaGreatDoorTre4
import Derived.Test.YtmfibedcloknlaaGreatDoorTre17
import Derived.Deep.RegionHeld3
namespace Go.Proofs.YtmfibedcloknlaaGreatDoor.fnExactLooksAll
open Go.Joins Go.ChangeShapes Go.WideShapes Go.ChangeAt Go.RowKit Go.Deep
set_option linter.unusedVariables false
set_option linter.unusedSimpArgs false

/-- Rows that stand below L, as a world held them. -/
def RwQ (L : Nat) (w : World) (A : Option Addr) (xss : List (List Int)) : Prop := ∃ w3 : World, w3.heap.size = L ∧ RwL w3 A xss ∧ Below L w3 w
theorem RwQ.start {w : World} {L : Nat} {A : Option Addr} {xss : List (List Int)} (h : RwL w A xss) (hL : w.heap.size = L) : RwQ L w A xss := ⟨w, hL, h, Below.refl _ _⟩
theorem RwQ.below {w w' : World} {L : Nat} {A : Option Addr} {xss : List (List Int)} (h : RwQ L w A xss) (hb : Below w.heap.size w w') : RwQ L w' A xss := by
  obtain ⟨w3, e, h1, h2⟩ := h
  have hs := h2.size
  exact ⟨w3, e, h1, h2.trans (hb.mono (by omega))⟩
theorem RwQ.turn {w w' : World} {L lo hi : Nat} {A : Option Addr} {xss : List (List Int)} (h : RwQ L w A xss) (ht : Turn lo hi w w') (hl : L ≤ lo) : RwQ L w' A xss := by
  obtain ⟨w3, e, h1, h2⟩ := h
  have hs := h2.size
  exact ⟨w3, e, h1, h2.trans (ht.below hl (by omega))⟩
theorem RwQ.lies {w : World} {L : Nat} {A : Option Addr} {xss : List (List Int)} (h : RwQ L w A xss) : RwL w A xss := by
  obtain ⟨w3, rfl, h1, h2⟩ := h
  exact h1.below h2
theorem totR_le : ∀ zs : List (List Int), (∀ z ∈ zs, z.length ≤ 5) → totR zs ≤ 5 * zs.length
  | [], _ => by simp [totR]
  | z :: zs, h => by
    have h1 := h z (by simp)
    have h2 := totR_le zs (fun y hy => h y (List.mem_cons_of_mem _ hy))
    simp only [totR, List.length_cons]
    omega
theorem lkx_rows {xss : List (List Int)} {w w' : World} {e : Ending} (h : LkX xss w e w') : ∃ A c, e = .returned (.slice A xss.length c) ∧ RwO w' w.heap.size w'.heap.size A c xss ∧ Below w.heap.size w w' := by
  obtain ⟨A, c, rfl, h1, h2⟩ := h
  exact ⟨A, c, rfl, h1.rows, h2⟩
theorem ru_lies {w : World} {base g rn cap : Nat} {xs : List Ru} (hn : xs.length = rn) (ho : w.ownsRow base 42 8 (.slice (some ⟨g, 0, none⟩) rn cap) rn (xs.flatMap Ru.cells)) : RuL w (some ⟨g, 0, none⟩) xs := by
  subst hn
  exact Lie.of_own (c := Ru.cells) Ru.cells_len ho
theorem lkx_lies {xss : List (List Int)} {w w' : World} {e : Ending} (h : LkX xss w e w') : ∃ A c, e = .returned (.slice A xss.length c) ∧ RwL w' A xss ∧ Below w.heap.size w w' := by
  obtain ⟨A, c, rfl, h1, h2⟩ := h
  exact ⟨A, c, rfl, h1.rows.lies, h2⟩
set_option maxRecDepth 100000 in
set_option maxHeartbeats 8000000 in
theorem walk (t : Tr) (xs : List Ru) (A0 A1 RA : Option Addr) (c0 c1 rc : Nat) (w : World) (hT : Vs w) (hsm : SmT t) (hkw : szT t ≤ 1048576 → KwT t) (hp : PrL w A0 t.ps) (hk : TrL w 0 A1 t.ks) (hrl : xs.length ≤ maxLen) (hr : RuL w RA xs) (hst : ∀ x ∈ xs, x.v.s.size ≤ maxLen) :
    Calls Tryz.prog 5 #[.agg #[.int .i64 t.tag, .int .i64 t.key, .string t.text, .slice A0 t.ps.length c0, .slice A1 t.ks.length c1], .slice RA xs.length rc] w fun e w' => e = .returned (.bool true) ∧ Below w.heap.size w w' := by
  obtain ⟨rn, hrn⟩ : ∃ n, xs.length = n := ⟨_, rfl⟩
  rw [hrn] at hrl ⊢
  have hz := szTree_any t hsm 1048576 A0 A1 c0 c1
  have hzr := fun left w h => szRus_any RA rc rn xs left w h hrn hrl hst
  have hzrp := szRus_pos xs
  have k1 := fun h => toTree_any t (BdT.of_sz t h)
  have k1o := fun h => toTree_own t (BdT.of_sz t h)
  have k2 := fun A0 A1 RA c0 c1 rc w hp hk hr => (sLooksAll_any t xs rn hsm hrn hrl A0 A1 RA c0 c1 rc w hp hk hr).mono (fun e w' h => lkx_lies h)
  have k3 := fun h A0 A1 RA c0 c1 rc w hv hp hk hr => (iLooksAll_any Vs ⟨fun w w' h hb => h.next hb, fun s w hl hv => ishown_any s w hl hv⟩ t xs rn hsm (hkw h) hrn hrl A0 A1 RA c0 c1 rc w hv hp hk hr).mono (fun e w' h => lkx_rows h)
  have k4 := eqTree_any t hsm
  have ke := fun A A' w h h' => by have q := eqRus_any A A' rn rn rn rn xs xs w h h' hrn hrn hrl hrl; rw [eqRus_refl] at q; exact q
  have hml := lookV_len xs t
  have hmw := lookV_five xs t
  obtain ⟨zs, hzs⟩ : ∃ q, lookV xs t = q := ⟨_, rfl⟩
  rw [hzs] at k2 k3 hml hmw
  have hzw : ∀ z ∈ zs, z.length ≤ 5 := fun z hz => by have := hmw z hz; omega
  have htr := totR_le zs hzw
  have k6 := fun A B c d w ha hb => eqRows_any A B c d zs.length zs w ha hb rfl (by unfold maxLen; omega) (fun z hz => by have := hzw z hz; unfold maxLen; omega)
  have ki := fun lo hi A c w ho => markRows_any lo hi c 1 zs.length A zs w ho rfl (by omega) (fun z hz => by have := hzw z hz; omega) (by omega)
  have kh := fun A c w ho => (heldRows_any A c 1 zs.length zs w ho rfl (by omega) (fun z hz => by have := hzw z hz; omega) (by omega)).mono (fun e w' h => (show e = .returned (.int .i64 (1 + totR zs : Nat)) ∧ Below w.heap.size w w' from ⟨h.1, h.2 ▸ Below.refl _ _⟩))
  have km := fun h lo hi g0 g1 w ho hh => markTree_any t (BdT.of_sz t h) lo hi 1 t.ps.length t.ks.length (some ⟨g0, 0, none⟩) (some ⟨g1, 0, none⟩) w ho hh (by omega) (by have := wT_le t; rw [wT_eq] at this; omega)
  have hwk := fun (h : szT t ≤ 1048576) => (show 1 + 4 * t.ps.length + wL t.ks ≤ 50000000 by have := wT_le t; rw [wT_eq] at this; omega)
  unfold ToT ToX at k1
  unfold ToOT ToO at k1o
  unfold EqT at k4
  unfold MktX at km
  have uo := fun w lo hi g0 g1 (h : TrO w lo hi [.int .i64 t.tag, .int .i64 t.key, .string t.text, .slice (some ⟨g0, 0, none⟩) t.ps.length t.ps.length, .slice (some ⟨g1, 0, none⟩) t.ks.length t.ks.length] t) => h.use
  have hzp := szT_pos t
  obtain ⟨u, hu⟩ : ∃ u, szT t = u := ⟨_, rfl⟩
  rw [hu] at hz hzp k1 k1o k3 km hwk
  obtain ⟨ur, hur⟩ : ∃ u, szRus xs = u := ⟨_, rfl⟩
  rw [hur] at hzr hzrp
  obtain ⟨nz, hnz2⟩ : ∃ m, zs.length = m := ⟨_, rfl⟩
  rw [hnz2] at k2 k3 k6 ki kh hml
  obtain ⟨m, hm⟩ : ∃ m, totR zs = m := ⟨_, rfl⟩
  rw [hm] at ki kh
  clear hsm hkw hu hm hzs hnz2 hzw htr hmw hur hst
  obtain ⟨wk, hwkq⟩ : ∃ q, wL t.ks = q := ⟨_, rfl⟩
  rw [hwkq] at km hwk
  clear hwkq
  obtain ⟨tag, key, text, ps, ks⟩ := t
  dsimp only [Tr.tag, Tr.key, Tr.text, Tr.ps, Tr.ks] at *
  generalize ps.length = np at *
  generalize ks.length = n at *
  have hb0 := Below.alloc (Below.refl w.heap.size w) (Nat.le_refl _) (.cells #[.int .i64 tag, .int .i64 key, .string text, .slice A0 np c0, .slice A1 n c1] 50)
  have HB0 := Lib.hid hb0
  have HRN := Lib.hid hrn
  have HP := Lib.hid (hp.below hb0)
  have HK := Lib.hid (hk.below hb0)
  have HR0 := Lib.hid (hr.below hb0)
  have HT := Lib.hid (hT.next hb0)
  have hba : w.heap.size < (w.alloc (.cells #[.int .i64 tag, .int .i64 key, .string text, .slice A0 np c0, .slice A1 n c1] 50)).heap.size := by simp
  have f0 : (w.alloc (.cells #[.int .i64 tag, .int .i64 key, .string text, .slice A0 np c0, .slice A1 n c1] 50)).cell? ⟨w.heap.size, 0, none⟩ = some (.int .i64 tag) := by rw [World.cell?_alloc_new]; rfl
  have f1 : (w.alloc (.cells #[.int .i64 tag, .int .i64 key, .string text, .slice A0 np c0, .slice A1 n c1] 50)).cell? ⟨w.heap.size, 1, none⟩ = some (.int .i64 key) := by rw [World.cell?_alloc_new]; rfl
  have f2 : (w.alloc (.cells #[.int .i64 tag, .int .i64 key, .string text, .slice A0 np c0, .slice A1 n c1] 50)).cell? ⟨w.heap.size, 2, none⟩ = some (.string text) := by rw [World.cell?_alloc_new]; rfl
  have f3 : (w.alloc (.cells #[.int .i64 tag, .int .i64 key, .string text, .slice A0 np c0, .slice A1 n c1] 50)).cell? ⟨w.heap.size, 3, none⟩ = some (.slice A0 np c0) := by rw [World.cell?_alloc_new]; rfl
  have f4 : (w.alloc (.cells #[.int .i64 tag, .int .i64 key, .string text, .slice A0 np c0, .slice A1 n c1] 50)).cell? ⟨w.heap.size, 4, none⟩ = some (.slice A1 n c1) := by rw [World.cell?_alloc_new]; rfl
  have HX := Lib.hid (Below.refl (w.alloc (.cells #[.int .i64 tag, .int .i64 key, .string text, .slice A0 np c0, .slice A1 n c1] 50)).heap.size (w.alloc (.cells #[.int .i64 tag, .int .i64 key, .string text, .slice A0 np c0, .slice A1 n c1] 50)))
  obtain ⟨w0, hw0⟩ : ∃ v, (w.alloc (.cells #[.int .i64 tag, .int .i64 key, .string text, .slice A0 np c0, .slice A1 n c1] 50)) = v := ⟨_, rfl⟩
  rw [hw0] at HB0 HP HK HT HR0 hba f0 f1 f2 f3 f4 HX
  have hZ := fun w hp hk => hz w hp hk (by omega) (by omega)
  clear hp hk hT hz hb0 hr hrn
  by_cases hl : (1048576 : Int) < u
  · rw [leftV_neg hl] at hZ
    have HZ := Lib.hid hZ
    clear hZ k1 k1o k2 k3 k4 k6 ki kh km uo hzr ke hwk
    go_enter Tryz.func5, Tryz.ntmps5
    go_wp2_with fail
    (try rw [hw0])
    refine (HZ.out _ HP.out HK.out).mono ?_
    rintro e w1 ⟨rfl, hb⟩
    go_wp2_with fail
    go_ret
    exact ⟨rfl, HB0.out.trans (hb.mono HB0.out.size)⟩
  rw [leftV_pos (by omega)] at hZ
  have hle : u ≤ 1048576 := by omega
  obtain ⟨y, hzz⟩ : ∃ y, (1048576 : Int) - u = y := ⟨_, rfl⟩
  have hy0 : 0 ≤ y := by omega
  rw [hzz] at hZ
  have HZ := Lib.hid hZ
  have hZ2 := fun w h => hzr y w h (by omega) hy0
  clear hzr hZ
  by_cases hl2 : y < rn + ur
  · rw [leftV_neg hl2] at hZ2
    have HZ2 := Lib.hid hZ2
    clear hZ2 k1 k1o k2 k3 k4 k6 ki kh km uo ke hwk
    go_enter Tryz.func5, Tryz.ntmps5
    go_wp2_with fail
    (try rw [hw0])
    refine (HZ.out _ HP.out HK.out).mono ?_
    rintro e w1 ⟨rfl, hb⟩
    have HB1 := Lib.hid (more HX.out (Nat.le_refl _) hb)
    clear hb
    go_wp2_with fail
    refine (HZ2.out _ (HR0.out.below HB1.out)).mono ?_
    rintro e w2 ⟨rfl, hb⟩
    have HB2 := Lib.hid (more HB1.out (Nat.le_refl _) hb)
    clear hb
    go_wp2_with fail
    go_ret
    exact ⟨rfl, HB0.out.trans (HB2.out.mono HB0.out.size)⟩
  rw [leftV_pos (by omega)] at hZ2
  have hrn1 : rn ≤ 1048576 := by omega
  obtain ⟨y2, hzz2⟩ : ∃ y2, y - (rn + ur) = y2 := ⟨_, rfl⟩
  have hy2 : 0 ≤ y2 := by omega
  rw [hzz2] at hZ2
  have HZ2 := Lib.hid hZ2
  have KR := Lib.hid (fun w h => toRus_any RA rc rn xs w h HRN.out hrn1)
  have KE := Lib.hid (fun A A' w h h' => ke A A' w h h')
  have KMR := Lib.hid (fun k gr w (ho : w.ownsRow 0 42 8 (.slice (some ⟨gr, 0, none⟩) rn rn) rn (xs.flatMap Ru.cells)) hk hk0 => markRus_any gr rn 0 k rn (xs.flatMap Ru.cells) w ho hrn1 hk hk0)
  have HWK := Lib.hid (hwk hle)
  have K1 := Lib.hid (fun w hp hk => k1 hle A0 A1 c0 c1 w hp hk)
  have K1O := Lib.hid (fun w hp hk => k1o hle A0 A1 c0 c1 w hp hk)
  have K2 := Lib.hid (fun g0 g1 gq w hp hk hr => k2 (some ⟨g0, 0, none⟩) (some ⟨g1, 0, none⟩) (some ⟨gq, 0, none⟩) np n rn w hp hk hr)
  have K3 := Lib.hid (fun g0 g1 gq w hv hp hk hr => k3 hle (some ⟨g0, 0, none⟩) (some ⟨g1, 0, none⟩) (some ⟨gq, 0, none⟩) np n rn w hv hp hk hr)
  have K4 := Lib.hid (fun g0 g1 h0 h1 w hp hk hq hj => k4 (some ⟨g0, 0, none⟩) (some ⟨g1, 0, none⟩) (some ⟨h0, 0, none⟩) (some ⟨h1, 0, none⟩) np n np n w hp hk hq hj)
  have K6 := Lib.hid k6
  have KI := Lib.hid ki
  have KH := Lib.hid kh
  have KM := Lib.hid (fun lo hi g0 g1 w ho hh => km hle lo hi g0 g1 w ho hh)
  have UO := Lib.hid uo
  clear hZ2 k1 k1o k2 k3 k4 k6 ki kh km uo hzz hzz2 hl hl2 hle hzp hml ke hwk hzrp hrl
  obtain ⟨ba, hbaq⟩ : ∃ q, w.heap.size = q := ⟨_, rfl⟩
  go_enter Tryz.func5, Tryz.ntmps5
  rw [hbaq] at f0 f1 f2 f3 f4 hba
  go_wp2_with fail
  (try rw [hw0])
  (try rw [hbaq])
  refine (HZ.out _ HP.out HK.out).mono ?_
  rintro e w1 ⟨rfl, hb⟩
  replace f0 := (hb.cell (p := ⟨ba, 0, none⟩) (by first | omega | (dsimp only; omega))).trans f0
  replace f1 := (hb.cell (p := ⟨ba, 1, none⟩) (by first | omega | (dsimp only; omega))).trans f1
  replace f2 := (hb.cell (p := ⟨ba, 2, none⟩) (by first | omega | (dsimp only; omega))).trans f2
  replace f3 := (hb.cell (p := ⟨ba, 3, none⟩) (by first | omega | (dsimp only; omega))).trans f3
  replace f4 := (hb.cell (p := ⟨ba, 4, none⟩) (by first | omega | (dsimp only; omega))).trans f4
  replace HX := Lib.hid (more HX.out (Nat.le_refl _) hb)
  have hsz1 : w0.heap.size ≤ w1.heap.size := hb.size
  replace hba : ba < w1.heap.size := Nat.lt_of_lt_of_le hba hsz1
  clear hb hsz1 HZ
  go_wp2_with fail
  refine (HZ2.out _ (HR0.out.below HX.out)).mono ?_
  rintro e w1b ⟨rfl, hb⟩
  replace f0 := (hb.cell (p := ⟨ba, 0, none⟩) (by first | omega | (dsimp only; omega))).trans f0
  replace f1 := (hb.cell (p := ⟨ba, 1, none⟩) (by first | omega | (dsimp only; omega))).trans f1
  replace f2 := (hb.cell (p := ⟨ba, 2, none⟩) (by first | omega | (dsimp only; omega))).trans f2
  replace f3 := (hb.cell (p := ⟨ba, 3, none⟩) (by first | omega | (dsimp only; omega))).trans f3
  replace f4 := (hb.cell (p := ⟨ba, 4, none⟩) (by first | omega | (dsimp only; omega))).trans f4
  replace HX := Lib.hid (more HX.out (Nat.le_refl _) hb)
  have hsz2 : w1.heap.size ≤ w1b.heap.size := hb.size
  replace hba : ba < w1b.heap.size := Nat.lt_of_lt_of_le hba hsz2
  clear hb hsz2 HZ2
  go_wp2_with fail
  refine (K1.out _ (HP.out.below HX.out) (HK.out.below HX.out)).mono ?_
  rintro e w2 ⟨g0, g1, rfl, hp, _, hk, hb⟩
  replace f0 := (hb.cell (p := ⟨ba, 0, none⟩) (by first | omega | (dsimp only; omega))).trans f0
  replace f1 := (hb.cell (p := ⟨ba, 1, none⟩) (by first | omega | (dsimp only; omega))).trans f1
  replace f2 := (hb.cell (p := ⟨ba, 2, none⟩) (by first | omega | (dsimp only; omega))).trans f2
  replace f3 := (hb.cell (p := ⟨ba, 3, none⟩) (by first | omega | (dsimp only; omega))).trans f3
  replace f4 := (hb.cell (p := ⟨ba, 4, none⟩) (by first | omega | (dsimp only; omega))).trans f4
  replace HX := Lib.hid (more HX.out (Nat.le_refl _) hb)
  have hsz3 : w1b.heap.size ≤ w2.heap.size := hb.size
  replace hba : ba < w2.heap.size := Nat.lt_of_lt_of_le hba hsz3
  have P1 := Lib.hid hp
  have Q1 := Lib.hid (hk.mono (Nat.zero_le _))
  clear hb hsz3 hp hk
  go_wp2_with fail
  refine (KR.out _ (HR0.out.below HX.out)).mono ?_
  rintro e w2b ⟨rfl, ho, hb⟩
  replace f0 := (hb.cell (p := ⟨ba, 0, none⟩) (by first | omega | (dsimp only; omega))).trans f0
  replace f1 := (hb.cell (p := ⟨ba, 1, none⟩) (by first | omega | (dsimp only; omega))).trans f1
  replace f2 := (hb.cell (p := ⟨ba, 2, none⟩) (by first | omega | (dsimp only; omega))).trans f2
  replace f3 := (hb.cell (p := ⟨ba, 3, none⟩) (by first | omega | (dsimp only; omega))).trans f3
  replace f4 := (hb.cell (p := ⟨ba, 4, none⟩) (by first | omega | (dsimp only; omega))).trans f4
  replace HX := Lib.hid (more HX.out (Nat.le_refl _) hb)
  have hsz4 : w2.heap.size ≤ w2b.heap.size := hb.size
  replace hba : ba < w2b.heap.size := Nat.lt_of_lt_of_le hba hsz4
  replace P1 := Lib.hid (P1.out.below hb)
  replace Q1 := Lib.hid (Q1.out.below hb)
  have R1 := Lib.hid (show RuL w2b (some ⟨w2.heap.size, 0, none⟩) xs from ru_lies HRN.out ho)
  clear hb hsz4 ho
  go_wp2_with fail
  refine (K2.out _ _ _ w2b P1.out Q1.out R1.out).mono ?_
  rintro e w3 ⟨R0, r0, rfl, ho, hb⟩
  replace f0 := (hb.cell (p := ⟨ba, 0, none⟩) (by first | omega | (dsimp only; omega))).trans f0
  replace f1 := (hb.cell (p := ⟨ba, 1, none⟩) (by first | omega | (dsimp only; omega))).trans f1
  replace f2 := (hb.cell (p := ⟨ba, 2, none⟩) (by first | omega | (dsimp only; omega))).trans f2
  replace f3 := (hb.cell (p := ⟨ba, 3, none⟩) (by first | omega | (dsimp only; omega))).trans f3
  replace f4 := (hb.cell (p := ⟨ba, 4, none⟩) (by first | omega | (dsimp only; omega))).trans f4
  replace HX := Lib.hid (more HX.out (Nat.le_refl _) hb)
  have hsz5 : w2b.heap.size ≤ w3.heap.size := hb.size
  replace hba : ba < w3.heap.size := Nat.lt_of_lt_of_le hba hsz5
  obtain ⟨L, hL⟩ : ∃ q, w3.heap.size = q := ⟨_, rfl⟩
  have HR := Lib.hid (RwQ.start ho hL)
  have hLw : L ≤ w3.heap.size := by omega
  clear hb hsz5 ho P1 Q1 R1
  have hbaL : ba < L := by omega
  have hB0L : w0.heap.size ≤ L := by have := HX.out.size; omega
  go_wp2_with fail
  refine (K1O.out _ (HP.out.below HX.out) (HK.out.below HX.out)).mono ?_
  rintro e w4 ⟨g2, g3, rfl, hto, hb⟩
  replace f0 := (hb.cell (p := ⟨ba, 0, none⟩) (by first | omega | (dsimp only; omega))).trans f0
  replace f1 := (hb.cell (p := ⟨ba, 1, none⟩) (by first | omega | (dsimp only; omega))).trans f1
  replace f2 := (hb.cell (p := ⟨ba, 2, none⟩) (by first | omega | (dsimp only; omega))).trans f2
  replace f3 := (hb.cell (p := ⟨ba, 3, none⟩) (by first | omega | (dsimp only; omega))).trans f3
  replace f4 := (hb.cell (p := ⟨ba, 4, none⟩) (by first | omega | (dsimp only; omega))).trans f4
  replace HX := Lib.hid (more HX.out (Nat.le_refl _) hb)
  replace HR := Lib.hid (HR.out.below hb)
  have hsz6 : w3.heap.size ≤ w4.heap.size := hb.size
  replace hba : ba < w4.heap.size := Nat.lt_of_lt_of_le hba hsz6
  have hba4 := Below.alloc (Below.refl w4.heap.size w4) (Nat.le_refl _) (.cells #[.int .i64 tag, .int .i64 key, .string text, .slice (some ⟨g2, 0, none⟩) np np, .slice (some ⟨g3, 0, none⟩) n n] 26)
  have HO := Lib.hid (hto.later (Nat.le_refl _) hba4)
  obtain ⟨H, hH⟩ : ∃ q, w4.heap.size = q := ⟨_, rfl⟩
  have hLH : L ≤ H := by omega
  rw [hL, show w4.heap.size = H from hH] at HO
  have d0 : (w4.alloc (.cells #[.int .i64 tag, .int .i64 key, .string text, .slice (some ⟨g2, 0, none⟩) np np, .slice (some ⟨g3, 0, none⟩) n n] 26)).cell? ⟨w4.heap.size, 0, none⟩ = some (.int .i64 tag) := by rw [World.cell?_alloc_new]; rfl
  have d1 : (w4.alloc (.cells #[.int .i64 tag, .int .i64 key, .string text, .slice (some ⟨g2, 0, none⟩) np np, .slice (some ⟨g3, 0, none⟩) n n] 26)).cell? ⟨w4.heap.size, 1, none⟩ = some (.int .i64 key) := by rw [World.cell?_alloc_new]; rfl
  have d2 : (w4.alloc (.cells #[.int .i64 tag, .int .i64 key, .string text, .slice (some ⟨g2, 0, none⟩) np np, .slice (some ⟨g3, 0, none⟩) n n] 26)).cell? ⟨w4.heap.size, 2, none⟩ = some (.string text) := by rw [World.cell?_alloc_new]; rfl
  have d3 : (w4.alloc (.cells #[.int .i64 tag, .int .i64 key, .string text, .slice (some ⟨g2, 0, none⟩) np np, .slice (some ⟨g3, 0, none⟩) n n] 26)).cell? ⟨w4.heap.size, 3, none⟩ = some (.slice (some ⟨g2, 0, none⟩) np np) := by rw [World.cell?_alloc_new]; rfl
  have d4 : (w4.alloc (.cells #[.int .i64 tag, .int .i64 key, .string text, .slice (some ⟨g2, 0, none⟩) np np, .slice (some ⟨g3, 0, none⟩) n n] 26)).cell? ⟨w4.heap.size, 4, none⟩ = some (.slice (some ⟨g3, 0, none⟩) n n) := by rw [World.cell?_alloc_new]; rfl
  have HHQ := Lib.hid hH
  clear hb hsz6 hto hH
  go_wp2_with fail
  have hb := hba4
  clear hba4
  obtain ⟨bx, hbx⟩ : ∃ q, w4.heap.size = q := ⟨_, rfl⟩
  have hHx : H ≤ bx := by have := HHQ.out; omega
  have hx5 : bx < (w4.alloc (.cells #[.int .i64 tag, .int .i64 key, .string text, .slice (some ⟨g2, 0, none⟩) np np, .slice (some ⟨g3, 0, none⟩) n n] 26)).heap.size := by simp; omega
  obtain ⟨w5, hw5⟩ : ∃ v, w4.alloc (.cells #[.int .i64 tag, .int .i64 key, .string text, .slice (some ⟨g2, 0, none⟩) np np, .slice (some ⟨g3, 0, none⟩) n n] 26) = v := ⟨_, rfl⟩
  rw [hw5] at HO d0 d1 d2 d3 d4 hb hx5 ⊢
  replace f0 := (hb.cell (p := ⟨ba, 0, none⟩) (by first | omega | (dsimp only; omega))).trans f0
  replace f1 := (hb.cell (p := ⟨ba, 1, none⟩) (by first | omega | (dsimp only; omega))).trans f1
  replace f2 := (hb.cell (p := ⟨ba, 2, none⟩) (by first | omega | (dsimp only; omega))).trans f2
  replace f3 := (hb.cell (p := ⟨ba, 3, none⟩) (by first | omega | (dsimp only; omega))).trans f3
  replace f4 := (hb.cell (p := ⟨ba, 4, none⟩) (by first | omega | (dsimp only; omega))).trans f4
  replace HX := Lib.hid (more HX.out (Nat.le_refl _) hb)
  replace HR := Lib.hid (HR.out.below hb)
  have hsz7 : w4.heap.size ≤ w5.heap.size := hb.size
  replace hba : ba < w5.heap.size := Nat.lt_of_lt_of_le hba hsz7
  rw [hbx] at d0 d1 d2 d3 d4 ⊢
  clear hb hsz7 hw5
  have hH5 : H ≤ w5.heap.size := by omega
  clear hbx hL hLw HHQ
  have hx5q : bx < w5.heap.size := hx5
  refine (KR.out _ (HR0.out.below HX.out)).mono ?_
  rintro e w5b ⟨rfl, ho, hb⟩
  replace f0 := (hb.cell (p := ⟨ba, 0, none⟩) (by first | omega | (dsimp only; omega))).trans f0
  replace f1 := (hb.cell (p := ⟨ba, 1, none⟩) (by first | omega | (dsimp only; omega))).trans f1
  replace f2 := (hb.cell (p := ⟨ba, 2, none⟩) (by first | omega | (dsimp only; omega))).trans f2
  replace f3 := (hb.cell (p := ⟨ba, 3, none⟩) (by first | omega | (dsimp only; omega))).trans f3
  replace f4 := (hb.cell (p := ⟨ba, 4, none⟩) (by first | omega | (dsimp only; omega))).trans f4
  replace d0 := (hb.cell (p := ⟨bx, 0, none⟩) (by first | omega | (dsimp only; omega))).trans d0
  replace d1 := (hb.cell (p := ⟨bx, 1, none⟩) (by first | omega | (dsimp only; omega))).trans d1
  replace d2 := (hb.cell (p := ⟨bx, 2, none⟩) (by first | omega | (dsimp only; omega))).trans d2
  replace d3 := (hb.cell (p := ⟨bx, 3, none⟩) (by first | omega | (dsimp only; omega))).trans d3
  replace d4 := (hb.cell (p := ⟨bx, 4, none⟩) (by first | omega | (dsimp only; omega))).trans d4
  replace HX := Lib.hid (more HX.out (Nat.le_refl _) hb)
  replace HR := Lib.hid (HR.out.below hb)
  replace HO := Lib.hid (HO.out.later (Nat.le_of_lt (Nat.lt_of_le_of_lt hHx (by omega))) hb)
  have hsz8 : w5.heap.size ≤ w5b.heap.size := hb.size
  replace hba : ba < w5b.heap.size := Nat.lt_of_lt_of_le hba hsz8
  replace hx5 : bx < w5b.heap.size := Nat.lt_of_lt_of_le hx5 hsz8
  obtain ⟨gr, hgr⟩ : ∃ q, w5.heap.size = q := ⟨_, rfl⟩
  rw [hgr] at ho
  have HXR := Lib.hid (row_mono ho (Nat.zero_le _))
  have hgrl : gr < w5b.heap.size := (ho.lt gr rfl).2
  have hHgr : H ≤ gr := by omega
  have hxgr : bx < gr := by omega
  have hH5b : H ≤ w5b.heap.size := by omega
  clear hb hsz8 ho hH5 hx5q
  try rw [hgr]
  clear hgr
  go_wp2_with fail
  obtain ⟨l5, hl5⟩ : ∃ q, w5b.heap.size = q := ⟨_, rfl⟩
  have hx5l : bx < l5 := by omega
  have hH5l : H ≤ l5 := by omega
  have hgrl5 : gr < l5 := by omega
  obtain ⟨hpx, hkx⟩ := UO.out _ _ _ _ _ HO.out
  have PX := Lib.hid hpx
  have QX := Lib.hid hkx
  clear hpx hkx
  have RX := Lib.hid (show RuL w5b (some ⟨gr, 0, none⟩) xs from ru_lies HRN.out HXR.out)
  refine (K3.out _ _ _ _ (HT.out.next HX.out) PX.out QX.out RX.out).mono ?_
  rintro e w6 ⟨S0, s0, rfl, ho, hb⟩
  replace f0 := (hb.cell (p := ⟨ba, 0, none⟩) (by first | omega | (dsimp only; omega))).trans f0
  replace f1 := (hb.cell (p := ⟨ba, 1, none⟩) (by first | omega | (dsimp only; omega))).trans f1
  replace f2 := (hb.cell (p := ⟨ba, 2, none⟩) (by first | omega | (dsimp only; omega))).trans f2
  replace f3 := (hb.cell (p := ⟨ba, 3, none⟩) (by first | omega | (dsimp only; omega))).trans f3
  replace f4 := (hb.cell (p := ⟨ba, 4, none⟩) (by first | omega | (dsimp only; omega))).trans f4
  replace d0 := (hb.cell (p := ⟨bx, 0, none⟩) (by first | omega | (dsimp only; omega))).trans d0
  replace d1 := (hb.cell (p := ⟨bx, 1, none⟩) (by first | omega | (dsimp only; omega))).trans d1
  replace d2 := (hb.cell (p := ⟨bx, 2, none⟩) (by first | omega | (dsimp only; omega))).trans d2
  replace d3 := (hb.cell (p := ⟨bx, 3, none⟩) (by first | omega | (dsimp only; omega))).trans d3
  replace d4 := (hb.cell (p := ⟨bx, 4, none⟩) (by first | omega | (dsimp only; omega))).trans d4
  replace HX := Lib.hid (more HX.out (Nat.le_refl _) hb)
  replace HR := Lib.hid (HR.out.below hb)
  replace HO := Lib.hid (HO.out.later (Nat.le_of_lt (Nat.lt_of_le_of_lt hHx (by omega))) hb)
  replace HXR := Lib.hid (ownsRow_below HXR.out hb)
  have hsz9 : w5b.heap.size ≤ w6.heap.size := hb.size
  replace hba : ba < w6.heap.size := Nat.lt_of_lt_of_le hba hsz9
  replace hx5 : bx < w6.heap.size := Nat.lt_of_lt_of_le hx5 hsz9
  have HS := Lib.hid ho
  obtain ⟨h6, hh6⟩ : ∃ q, w6.heap.size = q := ⟨_, rfl⟩
  rw [hl5, hh6] at HS
  have hl6 : l5 ≤ w6.heap.size := by omega
  clear hb hsz9 ho PX QX RX hH5b hgrl
  have hH6 : H ≤ w6.heap.size := by omega
  clear hl5 hh6
  go_wp2_with fail
  refine (K6.out _ _ _ _ _ HS.out.lies HR.out.lies).mono ?_
  rintro e w7 ⟨rfl, hb⟩
  replace f0 := (hb.cell (p := ⟨ba, 0, none⟩) (by first | omega | (dsimp only; omega))).trans f0
  replace f1 := (hb.cell (p := ⟨ba, 1, none⟩) (by first | omega | (dsimp only; omega))).trans f1
  replace f2 := (hb.cell (p := ⟨ba, 2, none⟩) (by first | omega | (dsimp only; omega))).trans f2
  replace f3 := (hb.cell (p := ⟨ba, 3, none⟩) (by first | omega | (dsimp only; omega))).trans f3
  replace f4 := (hb.cell (p := ⟨ba, 4, none⟩) (by first | omega | (dsimp only; omega))).trans f4
  replace d0 := (hb.cell (p := ⟨bx, 0, none⟩) (by first | omega | (dsimp only; omega))).trans d0
  replace d1 := (hb.cell (p := ⟨bx, 1, none⟩) (by first | omega | (dsimp only; omega))).trans d1
  replace d2 := (hb.cell (p := ⟨bx, 2, none⟩) (by first | omega | (dsimp only; omega))).trans d2
  replace d3 := (hb.cell (p := ⟨bx, 3, none⟩) (by first | omega | (dsimp only; omega))).trans d3
  replace d4 := (hb.cell (p := ⟨bx, 4, none⟩) (by first | omega | (dsimp only; omega))).trans d4
  replace HX := Lib.hid (more HX.out (Nat.le_refl _) hb)
  replace HR := Lib.hid (HR.out.below hb)
  replace HO := Lib.hid (HO.out.later (Nat.le_of_lt (Nat.lt_of_le_of_lt hHx (by omega))) hb)
  replace HXR := Lib.hid (ownsRow_below HXR.out hb)
  replace HS := Lib.hid (HS.out.below hb)
  have hsz10 : w6.heap.size ≤ w7.heap.size := hb.size
  replace hba : ba < w7.heap.size := Nat.lt_of_lt_of_le hba hsz10
  replace hx5 : bx < w7.heap.size := Nat.lt_of_lt_of_le hx5 hsz10
  have hH7 : H ≤ w7.heap.size := by omega
  have hl7 : l5 ≤ w7.heap.size := by omega
  clear hb hsz10 hH6 hl6
  go_wp2_with fail
  refine wp_region_held_drew (S := fun w' => Below w7.heap.size w7 w' ∧ w'.cell? ⟨bx, 0, none⟩ = some (.int .i64 tag) ∧ w'.cell? ⟨bx, 1, none⟩ = some (.int .i64 key) ∧ w'.cell? ⟨bx, 2, none⟩ = some (.string text) ∧ w'.cell? ⟨bx, 3, none⟩ = some (.slice (some ⟨g2, 0, none⟩) np np) ∧ w'.cell? ⟨bx, 4, none⟩ = some (.slice (some ⟨g3, 0, none⟩) n n) ∧ w'.cell? ⟨ba, 0, none⟩ = some (.int .i64 tag) ∧ w'.cell? ⟨ba, 1, none⟩ = some (.int .i64 key) ∧ w'.cell? ⟨ba, 2, none⟩ = some (.string text) ∧ w'.cell? ⟨ba, 3, none⟩ = some (.slice A0 np c0) ∧ w'.cell? ⟨ba, 4, none⟩ = some (.slice A1 n c1)) (by kernel_rfl) ?_ (fun hHeld => ?_)
  · exact ⟨Below.drew (Below.refl _ _), d0, d1, d2, d3, d4, f0, f1, f2, f3, f4⟩
  refine wpAnyH_take (i := 0) (oi := _) (v := ?_) rfl (by kernel_rfl) (by kernel_rfl) (by kernel_rfl) (fun _ _ _ h => h) (Or.inl ⟨by kernel_rfl, ?_⟩) (by assumption) ?_
  rotate_left
  · (intro w hSw; (try dsimp only at hSw); go_simp)
    try with_reducible rfl
  (try simp only [Act.put, List.getElem_toArray, List.getElem_cons_zero, List.getElem_cons_succ, List.setIfInBounds_toArray, List.set_cons_zero, List.set_cons_succ])
  refine wpAnyH_take (i := 1) (oi := _) (v := ?_) rfl (by kernel_rfl) (by kernel_rfl) (by kernel_rfl) (fun _ _ _ h => h) (Or.inl ⟨by kernel_rfl, ?_⟩) (by assumption) ?_
  rotate_left
  · (intro w hSw; (try dsimp only at hSw); go_simp)
    try with_reducible rfl
  (try simp only [Act.put, List.getElem_toArray, List.getElem_cons_zero, List.getElem_cons_succ, List.setIfInBounds_toArray, List.set_cons_zero, List.set_cons_succ])
  refine wpAnyH_ready (rs := [2]) (by kernel_rfl) (by simp) ?_
  refine AllReadyH.cons (o := _) rfl (fun K hK => ?_) AllReadyH.nil
  go_simp
  have hB0 := hHeld.1
  refine (K1.out _ (HP.out.below (more HX.out (Nat.le_refl _) hB0)) (HK.out.below (more HX.out (Nat.le_refl _) hB0))).mono ?_
  rintro e w' ⟨h0, h1, rfl, hp, _, hk, hb⟩
  refine hK.out _ _ ?_ (fun hHeld2 => ?_)
  · obtain ⟨_, d0, d1, d2, d3, d4, f0, f1, f2, f3, f4⟩ := hHeld
    exact ⟨hB0.trans (hb.mono hB0.size), (hb.cell (p := ⟨bx, 0, none⟩) (Nat.lt_of_lt_of_le hx5 hB0.size)).trans d0, (hb.cell (p := ⟨bx, 1, none⟩) (Nat.lt_of_lt_of_le hx5 hB0.size)).trans d1, (hb.cell (p := ⟨bx, 2, none⟩) (Nat.lt_of_lt_of_le hx5 hB0.size)).trans d2, (hb.cell (p := ⟨bx, 3, none⟩) (Nat.lt_of_lt_of_le hx5 hB0.size)).trans d3, (hb.cell (p := ⟨bx, 4, none⟩) (Nat.lt_of_lt_of_le hx5 hB0.size)).trans d4, (hb.cell (p := ⟨ba, 0, none⟩) (Nat.lt_of_lt_of_le hba hB0.size)).trans f0, (hb.cell (p := ⟨ba, 1, none⟩) (Nat.lt_of_lt_of_le hba hB0.size)).trans f1, (hb.cell (p := ⟨ba, 2, none⟩) (Nat.lt_of_lt_of_le hba hB0.size)).trans f2, (hb.cell (p := ⟨ba, 3, none⟩) (Nat.lt_of_lt_of_le hba hB0.size)).trans f3, (hb.cell (p := ⟨ba, 4, none⟩) (Nat.lt_of_lt_of_le hba hB0.size)).trans f4⟩
  have PC := Lib.hid hp
  have KC := Lib.hid (hk.mono (Nat.zero_le _))
  clear hp hk hK K hb hB0 hHeld
  (try simp only [Act.put, List.getElem_toArray, List.getElem_cons_zero, List.getElem_cons_succ, List.setIfInBounds_toArray, List.set_cons_zero, List.set_cons_succ])
  refine wpAnyH_ready (rs := [3]) (by kernel_rfl) (by simp) ?_
  refine AllReadyH.cons (o := _) rfl (fun K hK => ?_) AllReadyH.nil
  go_simp
  have hB0 := hHeld2.1
  obtain ⟨hpx, hkx⟩ := UO.out _ _ _ _ _ (HO.out.later hH7 hB0)
  refine (K4.out _ _ _ _ _ hpx hkx PC.out KC.out).mono ?_
  rintro e w' ⟨rfl, hb⟩
  refine hK.out _ _ ?_ (fun hHeld3 => ?_)
  · obtain ⟨_, d0, d1, d2, d3, d4, f0, f1, f2, f3, f4⟩ := hHeld2
    exact ⟨hB0.trans (hb.mono hB0.size), (hb.cell (p := ⟨bx, 0, none⟩) (Nat.lt_of_lt_of_le hx5 hB0.size)).trans d0, (hb.cell (p := ⟨bx, 1, none⟩) (Nat.lt_of_lt_of_le hx5 hB0.size)).trans d1, (hb.cell (p := ⟨bx, 2, none⟩) (Nat.lt_of_lt_of_le hx5 hB0.size)).trans d2, (hb.cell (p := ⟨bx, 3, none⟩) (Nat.lt_of_lt_of_le hx5 hB0.size)).trans d3, (hb.cell (p := ⟨bx, 4, none⟩) (Nat.lt_of_lt_of_le hx5 hB0.size)).trans d4, (hb.cell (p := ⟨ba, 0, none⟩) (Nat.lt_of_lt_of_le hba hB0.size)).trans f0, (hb.cell (p := ⟨ba, 1, none⟩) (Nat.lt_of_lt_of_le hba hB0.size)).trans f1, (hb.cell (p := ⟨ba, 2, none⟩) (Nat.lt_of_lt_of_le hba hB0.size)).trans f2, (hb.cell (p := ⟨ba, 3, none⟩) (Nat.lt_of_lt_of_le hba hB0.size)).trans f3, (hb.cell (p := ⟨ba, 4, none⟩) (Nat.lt_of_lt_of_le hba hB0.size)).trans f4⟩
  clear hK K hb hB0 hHeld2 hpx hkx PC KC
  (try simp only [Act.put, List.getElem_toArray, List.getElem_cons_zero, List.getElem_cons_succ, List.setIfInBounds_toArray, List.set_cons_zero, List.set_cons_succ])
  refine wpAnyH_take (i := 4) (oi := _) (v := ?_) rfl (by kernel_rfl) (by kernel_rfl) (by kernel_rfl) (fun _ _ _ h => h) (Or.inl ⟨by kernel_rfl, ?_⟩) (by assumption) ?_
  rotate_left
  · (intro w hSw; (try dsimp only at hSw); go_simp)
    try with_reducible rfl
  (try simp only [Act.put, List.getElem_toArray, List.getElem_cons_zero, List.getElem_cons_succ, List.setIfInBounds_toArray, List.set_cons_zero, List.set_cons_succ])
  refine wpAnyH_done (by kernel_rfl) ?_ _
  have hb := hHeld3.1
  clear hHeld3
  obtain ⟨w8, hw8⟩ : ∃ v, w' = v := ⟨_, rfl⟩
  rw [hw8] at hb ⊢
  clear hw8 w'
  replace f0 := (hb.cell (p := ⟨ba, 0, none⟩) (by first | omega | (dsimp only; omega))).trans f0
  replace f1 := (hb.cell (p := ⟨ba, 1, none⟩) (by first | omega | (dsimp only; omega))).trans f1
  replace f2 := (hb.cell (p := ⟨ba, 2, none⟩) (by first | omega | (dsimp only; omega))).trans f2
  replace f3 := (hb.cell (p := ⟨ba, 3, none⟩) (by first | omega | (dsimp only; omega))).trans f3
  replace f4 := (hb.cell (p := ⟨ba, 4, none⟩) (by first | omega | (dsimp only; omega))).trans f4
  replace d0 := (hb.cell (p := ⟨bx, 0, none⟩) (by first | omega | (dsimp only; omega))).trans d0
  replace d1 := (hb.cell (p := ⟨bx, 1, none⟩) (by first | omega | (dsimp only; omega))).trans d1
  replace d2 := (hb.cell (p := ⟨bx, 2, none⟩) (by first | omega | (dsimp only; omega))).trans d2
  replace d3 := (hb.cell (p := ⟨bx, 3, none⟩) (by first | omega | (dsimp only; omega))).trans d3
  replace d4 := (hb.cell (p := ⟨bx, 4, none⟩) (by first | omega | (dsimp only; omega))).trans d4
  replace HX := Lib.hid (more HX.out (Nat.le_refl _) hb)
  replace HR := Lib.hid (HR.out.below hb)
  replace HO := Lib.hid (HO.out.later (Nat.le_of_lt (Nat.lt_of_le_of_lt hHx (by omega))) hb)
  replace HXR := Lib.hid (ownsRow_below HXR.out hb)
  replace HS := Lib.hid (HS.out.below hb)
  have hsz11 : w7.heap.size ≤ w8.heap.size := hb.size
  replace hba : ba < w8.heap.size := Nat.lt_of_lt_of_le hba hsz11
  replace hx5 : bx < w8.heap.size := Nat.lt_of_lt_of_le hx5 hsz11
  have hH8 : H ≤ w8.heap.size := by omega
  have hl8 : l5 ≤ w8.heap.size := by omega
  clear hb hsz11 hH7 hl7
  go_wp2_with fail
  refine (KR.out _ (HR0.out.below HX.out)).mono ?_
  rintro e w8b ⟨rfl, ho, hb⟩
  replace f0 := (hb.cell (p := ⟨ba, 0, none⟩) (by first | omega | (dsimp only; omega))).trans f0
  replace f1 := (hb.cell (p := ⟨ba, 1, none⟩) (by first | omega | (dsimp only; omega))).trans f1
  replace f2 := (hb.cell (p := ⟨ba, 2, none⟩) (by first | omega | (dsimp only; omega))).trans f2
  replace f3 := (hb.cell (p := ⟨ba, 3, none⟩) (by first | omega | (dsimp only; omega))).trans f3
  replace f4 := (hb.cell (p := ⟨ba, 4, none⟩) (by first | omega | (dsimp only; omega))).trans f4
  replace d0 := (hb.cell (p := ⟨bx, 0, none⟩) (by first | omega | (dsimp only; omega))).trans d0
  replace d1 := (hb.cell (p := ⟨bx, 1, none⟩) (by first | omega | (dsimp only; omega))).trans d1
  replace d2 := (hb.cell (p := ⟨bx, 2, none⟩) (by first | omega | (dsimp only; omega))).trans d2
  replace d3 := (hb.cell (p := ⟨bx, 3, none⟩) (by first | omega | (dsimp only; omega))).trans d3
  replace d4 := (hb.cell (p := ⟨bx, 4, none⟩) (by first | omega | (dsimp only; omega))).trans d4
  replace HX := Lib.hid (more HX.out (Nat.le_refl _) hb)
  replace HR := Lib.hid (HR.out.below hb)
  replace HO := Lib.hid (HO.out.later (Nat.le_of_lt (Nat.lt_of_le_of_lt hHx (by omega))) hb)
  replace HXR := Lib.hid (ownsRow_below HXR.out hb)
  replace HS := Lib.hid (HS.out.below hb)
  have hsz12 : w8.heap.size ≤ w8b.heap.size := hb.size
  replace hba : ba < w8b.heap.size := Nat.lt_of_lt_of_le hba hsz12
  replace hx5 : bx < w8b.heap.size := Nat.lt_of_lt_of_le hx5 hsz12
  have R1 := Lib.hid (show RuL w8b (some ⟨w8.heap.size, 0, none⟩) xs from ru_lies HRN.out ho)
  have hH8b : H ≤ w8b.heap.size := by omega
  have hl8b : l5 ≤ w8b.heap.size := by omega
  clear hb hsz12 ho hH8 hl8
  go_wp2_with fail
  have RX := Lib.hid (show RuL w8b (some ⟨gr, 0, none⟩) xs from ru_lies HRN.out HXR.out)
  refine (KE.out _ _ w8b RX.out R1.out).mono ?_
  rintro e w8c ⟨rfl, hb⟩
  replace f0 := (hb.cell (p := ⟨ba, 0, none⟩) (by first | omega | (dsimp only; omega))).trans f0
  replace f1 := (hb.cell (p := ⟨ba, 1, none⟩) (by first | omega | (dsimp only; omega))).trans f1
  replace f2 := (hb.cell (p := ⟨ba, 2, none⟩) (by first | omega | (dsimp only; omega))).trans f2
  replace f3 := (hb.cell (p := ⟨ba, 3, none⟩) (by first | omega | (dsimp only; omega))).trans f3
  replace f4 := (hb.cell (p := ⟨ba, 4, none⟩) (by first | omega | (dsimp only; omega))).trans f4
  replace d0 := (hb.cell (p := ⟨bx, 0, none⟩) (by first | omega | (dsimp only; omega))).trans d0
  replace d1 := (hb.cell (p := ⟨bx, 1, none⟩) (by first | omega | (dsimp only; omega))).trans d1
  replace d2 := (hb.cell (p := ⟨bx, 2, none⟩) (by first | omega | (dsimp only; omega))).trans d2
  replace d3 := (hb.cell (p := ⟨bx, 3, none⟩) (by first | omega | (dsimp only; omega))).trans d3
  replace d4 := (hb.cell (p := ⟨bx, 4, none⟩) (by first | omega | (dsimp only; omega))).trans d4
  replace HX := Lib.hid (more HX.out (Nat.le_refl _) hb)
  replace HR := Lib.hid (HR.out.below hb)
  replace HO := Lib.hid (HO.out.later (Nat.le_of_lt (Nat.lt_of_le_of_lt hHx (by omega))) hb)
  replace HXR := Lib.hid (ownsRow_below HXR.out hb)
  replace HS := Lib.hid (HS.out.below hb)
  have hsz13 : w8b.heap.size ≤ w8c.heap.size := hb.size
  replace hba : ba < w8c.heap.size := Nat.lt_of_lt_of_le hba hsz13
  replace hx5 : bx < w8c.heap.size := Nat.lt_of_lt_of_le hx5 hsz13
  have hH8 : H ≤ w8c.heap.size := by omega
  have hl8 : l5 ≤ w8c.heap.size := by omega
  have hgrl2 : gr < w8c.heap.size := by omega
  clear hb hsz13 RX R1 hH8b hl8b
  go_wp2_with fail
  obtain ⟨u9, hu9⟩ : ∃ q : Nat, 1 + 4 * np + wk = q := ⟨_, rfl⟩
  have hu9b : 0 < u9 ∧ u9 ≤ 50000000 := by rw [← hu9]; have := HWK.out; omega
  refine (KM.out _ _ _ _ w8c HO.out hH8).mono ?_
  rintro e w9 ⟨rfl, _, ht⟩
  replace f0 := (World.cell?_of_block (a := ⟨ba, 0, none⟩) (ht.block ba (by first | omega | (dsimp only; omega)) (by first | omega | (dsimp only; omega)))).trans f0
  replace f1 := (World.cell?_of_block (a := ⟨ba, 1, none⟩) (ht.block ba (by first | omega | (dsimp only; omega)) (by first | omega | (dsimp only; omega)))).trans f1
  replace f2 := (World.cell?_of_block (a := ⟨ba, 2, none⟩) (ht.block ba (by first | omega | (dsimp only; omega)) (by first | omega | (dsimp only; omega)))).trans f2
  replace f3 := (World.cell?_of_block (a := ⟨ba, 3, none⟩) (ht.block ba (by first | omega | (dsimp only; omega)) (by first | omega | (dsimp only; omega)))).trans f3
  replace f4 := (World.cell?_of_block (a := ⟨ba, 4, none⟩) (ht.block ba (by first | omega | (dsimp only; omega)) (by first | omega | (dsimp only; omega)))).trans f4
  replace d0 := (World.cell?_of_block (a := ⟨bx, 0, none⟩) (ht.block bx (by first | omega | (dsimp only; omega)) (by first | omega | (dsimp only; omega)))).trans d0
  replace d1 := (World.cell?_of_block (a := ⟨bx, 1, none⟩) (ht.block bx (by first | omega | (dsimp only; omega)) (by first | omega | (dsimp only; omega)))).trans d1
  replace d2 := (World.cell?_of_block (a := ⟨bx, 2, none⟩) (ht.block bx (by first | omega | (dsimp only; omega)) (by first | omega | (dsimp only; omega)))).trans d2
  replace d3 := (World.cell?_of_block (a := ⟨bx, 3, none⟩) (ht.block bx (by first | omega | (dsimp only; omega)) (by first | omega | (dsimp only; omega)))).trans d3
  replace d4 := (World.cell?_of_block (a := ⟨bx, 4, none⟩) (ht.block bx (by first | omega | (dsimp only; omega)) (by first | omega | (dsimp only; omega)))).trans d4
  replace HX := Lib.hid (HX.out.trans (ht.below (by omega) (by have := HX.out.size; omega)))
  replace HR := Lib.hid (HR.out.turn ht (by omega))
  replace HXR := Lib.hid (own_moved HXR.out (ht.block gr hgrl2 (by omega)))
  replace HS := Lib.hid (HS.out.turn ht (by omega))
  have hsz14 : w8c.heap.size ≤ w9.heap.size := ht.size
  replace hba : ba < w9.heap.size := Nat.lt_of_lt_of_le hba hsz14
  replace hx5 : bx < w9.heap.size := Nat.lt_of_lt_of_le hx5 hsz14
  have hl9 : l5 ≤ w9.heap.size := by omega
  clear ht hsz14 HO
  clear hH8 hl8
  rw [hu9]
  go_wp2_with fail
  refine (KMR.out u9 _ w9 HXR.out hu9b.2 hu9b.1).mono ?_
  rintro e w9b ⟨rfl, hg⟩
  have ht := Turn.of_grown (lo := gr) (hi := gr + 1) hg (Nat.le_refl _) (Nat.lt_succ_self _)
  clear hg
  replace f0 := (World.cell?_of_block (a := ⟨ba, 0, none⟩) (ht.block ba (by first | omega | (dsimp only; omega)) (by first | omega | (dsimp only; omega)))).trans f0
  replace f1 := (World.cell?_of_block (a := ⟨ba, 1, none⟩) (ht.block ba (by first | omega | (dsimp only; omega)) (by first | omega | (dsimp only; omega)))).trans f1
  replace f2 := (World.cell?_of_block (a := ⟨ba, 2, none⟩) (ht.block ba (by first | omega | (dsimp only; omega)) (by first | omega | (dsimp only; omega)))).trans f2
  replace f3 := (World.cell?_of_block (a := ⟨ba, 3, none⟩) (ht.block ba (by first | omega | (dsimp only; omega)) (by first | omega | (dsimp only; omega)))).trans f3
  replace f4 := (World.cell?_of_block (a := ⟨ba, 4, none⟩) (ht.block ba (by first | omega | (dsimp only; omega)) (by first | omega | (dsimp only; omega)))).trans f4
  replace d0 := (World.cell?_of_block (a := ⟨bx, 0, none⟩) (ht.block bx (by first | omega | (dsimp only; omega)) (by first | omega | (dsimp only; omega)))).trans d0
  replace d1 := (World.cell?_of_block (a := ⟨bx, 1, none⟩) (ht.block bx (by first | omega | (dsimp only; omega)) (by first | omega | (dsimp only; omega)))).trans d1
  replace d2 := (World.cell?_of_block (a := ⟨bx, 2, none⟩) (ht.block bx (by first | omega | (dsimp only; omega)) (by first | omega | (dsimp only; omega)))).trans d2
  replace d3 := (World.cell?_of_block (a := ⟨bx, 3, none⟩) (ht.block bx (by first | omega | (dsimp only; omega)) (by first | omega | (dsimp only; omega)))).trans d3
  replace d4 := (World.cell?_of_block (a := ⟨bx, 4, none⟩) (ht.block bx (by first | omega | (dsimp only; omega)) (by first | omega | (dsimp only; omega)))).trans d4
  replace HX := Lib.hid (HX.out.trans (ht.below (by omega) (by have := HX.out.size; omega)))
  replace HR := Lib.hid (HR.out.turn ht (by omega))
  replace HS := Lib.hid (HS.out.turn ht (by omega))
  have hsz15 : w9.heap.size ≤ w9b.heap.size := ht.size
  replace hba : ba < w9b.heap.size := Nat.lt_of_lt_of_le hba hsz15
  replace hx5 : bx < w9b.heap.size := Nat.lt_of_lt_of_le hx5 hsz15
  have hl9b : l5 ≤ w9b.heap.size := by omega
  clear ht hsz15 HXR hl9 hgrl2
  obtain ⟨u10, hu10⟩ : ∃ q : Nat, u9 + 8 * rn = q := ⟨_, rfl⟩
  rw [hu10]
  have hneg : decide ((u10 : Int) < 0) = false := by simp
  go_wp2_with fail
  refine (K6.out _ _ _ _ _ HS.out.lies HR.out.lies).mono ?_
  rintro e w10 ⟨rfl, hb⟩
  replace f0 := (hb.cell (p := ⟨ba, 0, none⟩) (by first | omega | (dsimp only; omega))).trans f0
  replace f1 := (hb.cell (p := ⟨ba, 1, none⟩) (by first | omega | (dsimp only; omega))).trans f1
  replace f2 := (hb.cell (p := ⟨ba, 2, none⟩) (by first | omega | (dsimp only; omega))).trans f2
  replace f3 := (hb.cell (p := ⟨ba, 3, none⟩) (by first | omega | (dsimp only; omega))).trans f3
  replace f4 := (hb.cell (p := ⟨ba, 4, none⟩) (by first | omega | (dsimp only; omega))).trans f4
  replace d0 := (hb.cell (p := ⟨bx, 0, none⟩) (by first | omega | (dsimp only; omega))).trans d0
  replace d1 := (hb.cell (p := ⟨bx, 1, none⟩) (by first | omega | (dsimp only; omega))).trans d1
  replace d2 := (hb.cell (p := ⟨bx, 2, none⟩) (by first | omega | (dsimp only; omega))).trans d2
  replace d3 := (hb.cell (p := ⟨bx, 3, none⟩) (by first | omega | (dsimp only; omega))).trans d3
  replace d4 := (hb.cell (p := ⟨bx, 4, none⟩) (by first | omega | (dsimp only; omega))).trans d4
  replace HX := Lib.hid (more HX.out (Nat.le_refl _) hb)
  replace HR := Lib.hid (HR.out.below hb)
  replace HS := Lib.hid (HS.out.below hb)
  have hsz16 : w9b.heap.size ≤ w10.heap.size := hb.size
  replace hba : ba < w10.heap.size := Nat.lt_of_lt_of_le hba hsz16
  replace hx5 : bx < w10.heap.size := Nat.lt_of_lt_of_le hx5 hsz16
  have hl10 : l5 ≤ w10.heap.size := by omega
  clear hb hsz16 hl9b
  go_wp2_with fail
  refine (KI.out _ _ _ _ w10 HS.out).mono ?_
  rintro e w11 ⟨rfl, ho, ht⟩
  replace f0 := (World.cell?_of_block (a := ⟨ba, 0, none⟩) (ht.block ba (by first | omega | (dsimp only; omega)) (by first | omega | (dsimp only; omega)))).trans f0
  replace f1 := (World.cell?_of_block (a := ⟨ba, 1, none⟩) (ht.block ba (by first | omega | (dsimp only; omega)) (by first | omega | (dsimp only; omega)))).trans f1
  replace f2 := (World.cell?_of_block (a := ⟨ba, 2, none⟩) (ht.block ba (by first | omega | (dsimp only; omega)) (by first | omega | (dsimp only; omega)))).trans f2
  replace f3 := (World.cell?_of_block (a := ⟨ba, 3, none⟩) (ht.block ba (by first | omega | (dsimp only; omega)) (by first | omega | (dsimp only; omega)))).trans f3
  replace f4 := (World.cell?_of_block (a := ⟨ba, 4, none⟩) (ht.block ba (by first | omega | (dsimp only; omega)) (by first | omega | (dsimp only; omega)))).trans f4
  replace d0 := (World.cell?_of_block (a := ⟨bx, 0, none⟩) (ht.block bx (by first | omega | (dsimp only; omega)) (by first | omega | (dsimp only; omega)))).trans d0
  replace d1 := (World.cell?_of_block (a := ⟨bx, 1, none⟩) (ht.block bx (by first | omega | (dsimp only; omega)) (by first | omega | (dsimp only; omega)))).trans d1
  replace d2 := (World.cell?_of_block (a := ⟨bx, 2, none⟩) (ht.block bx (by first | omega | (dsimp only; omega)) (by first | omega | (dsimp only; omega)))).trans d2
  replace d3 := (World.cell?_of_block (a := ⟨bx, 3, none⟩) (ht.block bx (by first | omega | (dsimp only; omega)) (by first | omega | (dsimp only; omega)))).trans d3
  replace d4 := (World.cell?_of_block (a := ⟨bx, 4, none⟩) (ht.block bx (by first | omega | (dsimp only; omega)) (by first | omega | (dsimp only; omega)))).trans d4
  replace HX := Lib.hid (HX.out.trans (ht.below (by omega) (by have := HX.out.size; omega)))
  replace HR := Lib.hid (HR.out.turn ht (by omega))
  have hsz17 : w10.heap.size ≤ w11.heap.size := ht.size
  replace hba : ba < w11.heap.size := Nat.lt_of_lt_of_le hba hsz17
  replace hx5 : bx < w11.heap.size := Nat.lt_of_lt_of_le hx5 hsz17
  have HM2 := Lib.hid ho
  clear ht hsz17 ho HS
  obtain ⟨mm, hmm⟩ : ∃ q : Nat, 1 + m = q := ⟨_, rfl⟩
  rw [hmm]
  have hneg2 : decide ((mm : Int) < 0) = false := by simp
  go_wp2_with fail
  refine (KH.out _ _ w11 HM2.out.lies).mono ?_
  rintro e w11b ⟨rfl, hb⟩
  replace f0 := (hb.cell (p := ⟨ba, 0, none⟩) (by first | omega | (dsimp only; omega))).trans f0
  replace f1 := (hb.cell (p := ⟨ba, 1, none⟩) (by first | omega | (dsimp only; omega))).trans f1
  replace f2 := (hb.cell (p := ⟨ba, 2, none⟩) (by first | omega | (dsimp only; omega))).trans f2
  replace f3 := (hb.cell (p := ⟨ba, 3, none⟩) (by first | omega | (dsimp only; omega))).trans f3
  replace f4 := (hb.cell (p := ⟨ba, 4, none⟩) (by first | omega | (dsimp only; omega))).trans f4
  replace d0 := (hb.cell (p := ⟨bx, 0, none⟩) (by first | omega | (dsimp only; omega))).trans d0
  replace d1 := (hb.cell (p := ⟨bx, 1, none⟩) (by first | omega | (dsimp only; omega))).trans d1
  replace d2 := (hb.cell (p := ⟨bx, 2, none⟩) (by first | omega | (dsimp only; omega))).trans d2
  replace d3 := (hb.cell (p := ⟨bx, 3, none⟩) (by first | omega | (dsimp only; omega))).trans d3
  replace d4 := (hb.cell (p := ⟨bx, 4, none⟩) (by first | omega | (dsimp only; omega))).trans d4
  replace HX := Lib.hid (more HX.out (Nat.le_refl _) hb)
  replace HR := Lib.hid (HR.out.below hb)
  replace HM2 := Lib.hid (HM2.out.below hb)
  have hsz18 : w11.heap.size ≤ w11b.heap.size := hb.size
  replace hba : ba < w11b.heap.size := Nat.lt_of_lt_of_le hba hsz18
  replace hx5 : bx < w11b.heap.size := Nat.lt_of_lt_of_le hx5 hsz18
  clear hb hsz18
  rw [hmm]
  go_wp2_with fail
  refine (K1.out _ (HP.out.below HX.out) (HK.out.below HX.out)).mono ?_
  rintro e w12 ⟨k0, k1, rfl, hp, _, hk, hb⟩
  replace f0 := (hb.cell (p := ⟨ba, 0, none⟩) (by first | omega | (dsimp only; omega))).trans f0
  replace f1 := (hb.cell (p := ⟨ba, 1, none⟩) (by first | omega | (dsimp only; omega))).trans f1
  replace f2 := (hb.cell (p := ⟨ba, 2, none⟩) (by first | omega | (dsimp only; omega))).trans f2
  replace f3 := (hb.cell (p := ⟨ba, 3, none⟩) (by first | omega | (dsimp only; omega))).trans f3
  replace f4 := (hb.cell (p := ⟨ba, 4, none⟩) (by first | omega | (dsimp only; omega))).trans f4
  replace d0 := (hb.cell (p := ⟨bx, 0, none⟩) (by first | omega | (dsimp only; omega))).trans d0
  replace d1 := (hb.cell (p := ⟨bx, 1, none⟩) (by first | omega | (dsimp only; omega))).trans d1
  replace d2 := (hb.cell (p := ⟨bx, 2, none⟩) (by first | omega | (dsimp only; omega))).trans d2
  replace d3 := (hb.cell (p := ⟨bx, 3, none⟩) (by first | omega | (dsimp only; omega))).trans d3
  replace d4 := (hb.cell (p := ⟨bx, 4, none⟩) (by first | omega | (dsimp only; omega))).trans d4
  replace HX := Lib.hid (more HX.out (Nat.le_refl _) hb)
  replace HR := Lib.hid (HR.out.below hb)
  replace HM2 := Lib.hid (HM2.out.below hb)
  have hsz19 : w11b.heap.size ≤ w12.heap.size := hb.size
  replace hba : ba < w12.heap.size := Nat.lt_of_lt_of_le hba hsz19
  replace hx5 : bx < w12.heap.size := Nat.lt_of_lt_of_le hx5 hsz19
  have P1 := Lib.hid hp
  have Q1 := Lib.hid (hk.mono (Nat.zero_le _))
  clear hb hsz19 hp hk
  go_wp2_with fail
  refine (KR.out _ (HR0.out.below HX.out)).mono ?_
  rintro e w12b ⟨rfl, ho, hb⟩
  replace f0 := (hb.cell (p := ⟨ba, 0, none⟩) (by first | omega | (dsimp only; omega))).trans f0
  replace f1 := (hb.cell (p := ⟨ba, 1, none⟩) (by first | omega | (dsimp only; omega))).trans f1
  replace f2 := (hb.cell (p := ⟨ba, 2, none⟩) (by first | omega | (dsimp only; omega))).trans f2
  replace f3 := (hb.cell (p := ⟨ba, 3, none⟩) (by first | omega | (dsimp only; omega))).trans f3
  replace f4 := (hb.cell (p := ⟨ba, 4, none⟩) (by first | omega | (dsimp only; omega))).trans f4
  replace d0 := (hb.cell (p := ⟨bx, 0, none⟩) (by first | omega | (dsimp only; omega))).trans d0
  replace d1 := (hb.cell (p := ⟨bx, 1, none⟩) (by first | omega | (dsimp only; omega))).trans d1
  replace d2 := (hb.cell (p := ⟨bx, 2, none⟩) (by first | omega | (dsimp only; omega))).trans d2
  replace d3 := (hb.cell (p := ⟨bx, 3, none⟩) (by first | omega | (dsimp only; omega))).trans d3
  replace d4 := (hb.cell (p := ⟨bx, 4, none⟩) (by first | omega | (dsimp only; omega))).trans d4
  replace HX := Lib.hid (more HX.out (Nat.le_refl _) hb)
  replace HR := Lib.hid (HR.out.below hb)
  replace HM2 := Lib.hid (HM2.out.below hb)
  have hsz20 : w12.heap.size ≤ w12b.heap.size := hb.size
  replace hba : ba < w12b.heap.size := Nat.lt_of_lt_of_le hba hsz20
  replace hx5 : bx < w12b.heap.size := Nat.lt_of_lt_of_le hx5 hsz20
  replace P1 := Lib.hid (P1.out.below hb)
  replace Q1 := Lib.hid (Q1.out.below hb)
  have R1 := Lib.hid (show RuL w12b (some ⟨w12.heap.size, 0, none⟩) xs from ru_lies HRN.out ho)
  clear hb hsz20 ho
  go_wp2_with fail
  refine (K3.out _ _ _ _ (HT.out.next HX.out) P1.out Q1.out R1.out).mono ?_
  rintro e w13 ⟨T0, t0, rfl, ho, hb⟩
  replace f0 := (hb.cell (p := ⟨ba, 0, none⟩) (by first | omega | (dsimp only; omega))).trans f0
  replace f1 := (hb.cell (p := ⟨ba, 1, none⟩) (by first | omega | (dsimp only; omega))).trans f1
  replace f2 := (hb.cell (p := ⟨ba, 2, none⟩) (by first | omega | (dsimp only; omega))).trans f2
  replace f3 := (hb.cell (p := ⟨ba, 3, none⟩) (by first | omega | (dsimp only; omega))).trans f3
  replace f4 := (hb.cell (p := ⟨ba, 4, none⟩) (by first | omega | (dsimp only; omega))).trans f4
  replace d0 := (hb.cell (p := ⟨bx, 0, none⟩) (by first | omega | (dsimp only; omega))).trans d0
  replace d1 := (hb.cell (p := ⟨bx, 1, none⟩) (by first | omega | (dsimp only; omega))).trans d1
  replace d2 := (hb.cell (p := ⟨bx, 2, none⟩) (by first | omega | (dsimp only; omega))).trans d2
  replace d3 := (hb.cell (p := ⟨bx, 3, none⟩) (by first | omega | (dsimp only; omega))).trans d3
  replace d4 := (hb.cell (p := ⟨bx, 4, none⟩) (by first | omega | (dsimp only; omega))).trans d4
  replace HX := Lib.hid (more HX.out (Nat.le_refl _) hb)
  replace HR := Lib.hid (HR.out.below hb)
  replace HM2 := Lib.hid (HM2.out.below hb)
  have hsz21 : w12b.heap.size ≤ w13.heap.size := hb.size
  replace hba : ba < w13.heap.size := Nat.lt_of_lt_of_le hba hsz21
  replace hx5 : bx < w13.heap.size := Nat.lt_of_lt_of_le hx5 hsz21
  have HT0 := Lib.hid ho.lies
  clear hb hsz21 ho P1 Q1 R1
  go_wp2_with fail
  refine (K6.out _ _ _ _ _ HT0.out HR.out.lies).mono ?_
  rintro e w14 ⟨rfl, hb⟩
  replace f0 := (hb.cell (p := ⟨ba, 0, none⟩) (by first | omega | (dsimp only; omega))).trans f0
  replace f1 := (hb.cell (p := ⟨ba, 1, none⟩) (by first | omega | (dsimp only; omega))).trans f1
  replace f2 := (hb.cell (p := ⟨ba, 2, none⟩) (by first | omega | (dsimp only; omega))).trans f2
  replace f3 := (hb.cell (p := ⟨ba, 3, none⟩) (by first | omega | (dsimp only; omega))).trans f3
  replace f4 := (hb.cell (p := ⟨ba, 4, none⟩) (by first | omega | (dsimp only; omega))).trans f4
  replace d0 := (hb.cell (p := ⟨bx, 0, none⟩) (by first | omega | (dsimp only; omega))).trans d0
  replace d1 := (hb.cell (p := ⟨bx, 1, none⟩) (by first | omega | (dsimp only; omega))).trans d1
  replace d2 := (hb.cell (p := ⟨bx, 2, none⟩) (by first | omega | (dsimp only; omega))).trans d2
  replace d3 := (hb.cell (p := ⟨bx, 3, none⟩) (by first | omega | (dsimp only; omega))).trans d3
  replace d4 := (hb.cell (p := ⟨bx, 4, none⟩) (by first | omega | (dsimp only; omega))).trans d4
  replace HX := Lib.hid (more HX.out (Nat.le_refl _) hb)
  replace HR := Lib.hid (HR.out.below hb)
  replace HM2 := Lib.hid (HM2.out.below hb)
  have hsz22 : w13.heap.size ≤ w14.heap.size := hb.size
  replace hba : ba < w14.heap.size := Nat.lt_of_lt_of_le hba hsz22
  replace hx5 : bx < w14.heap.size := Nat.lt_of_lt_of_le hx5 hsz22
  clear hb hsz22
  go_wp2_with fail
  refine (KH.out _ _ w14 HM2.out.lies).mono ?_
  rintro e w15 ⟨rfl, hb⟩
  replace f0 := (hb.cell (p := ⟨ba, 0, none⟩) (by first | omega | (dsimp only; omega))).trans f0
  replace f1 := (hb.cell (p := ⟨ba, 1, none⟩) (by first | omega | (dsimp only; omega))).trans f1
  replace f2 := (hb.cell (p := ⟨ba, 2, none⟩) (by first | omega | (dsimp only; omega))).trans f2
  replace f3 := (hb.cell (p := ⟨ba, 3, none⟩) (by first | omega | (dsimp only; omega))).trans f3
  replace f4 := (hb.cell (p := ⟨ba, 4, none⟩) (by first | omega | (dsimp only; omega))).trans f4
  replace d0 := (hb.cell (p := ⟨bx, 0, none⟩) (by first | omega | (dsimp only; omega))).trans d0
  replace d1 := (hb.cell (p := ⟨bx, 1, none⟩) (by first | omega | (dsimp only; omega))).trans d1
  replace d2 := (hb.cell (p := ⟨bx, 2, none⟩) (by first | omega | (dsimp only; omega))).trans d2
  replace d3 := (hb.cell (p := ⟨bx, 3, none⟩) (by first | omega | (dsimp only; omega))).trans d3
  replace d4 := (hb.cell (p := ⟨bx, 4, none⟩) (by first | omega | (dsimp only; omega))).trans d4
  replace HX := Lib.hid (more HX.out (Nat.le_refl _) hb)
  replace HR := Lib.hid (HR.out.below hb)
  replace HM2 := Lib.hid (HM2.out.below hb)
  have hsz23 : w14.heap.size ≤ w15.heap.size := hb.size
  replace hba : ba < w15.heap.size := Nat.lt_of_lt_of_le hba hsz23
  replace hx5 : bx < w15.heap.size := Nat.lt_of_lt_of_le hx5 hsz23
  clear hb hsz23
  rw [hmm]
  go_wp2_with fail
  go_ret
  exact ⟨rfl, HB0.out.trans (HX.out.mono HB0.out.size)⟩
end Go.Proofs.YtmfibedcloknlaaGreatDoor.fnExactLooksAll
