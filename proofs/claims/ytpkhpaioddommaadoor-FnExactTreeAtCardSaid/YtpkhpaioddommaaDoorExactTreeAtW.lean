/- The law FnExactTreeAt answers true at every tree and way, and leaves them as they were, where the library's variables stand. -/
import Derived.Test.YtpkhpaioddommaaDoorMktM
import Derived.Test.YtpkhpaioddommaaDoorCpsM
import Derived.Test.YtpkhpaioddommaaDoorTre4
import Derived.Test.YtpkhpaioddommaaDoorGd1
import Derived.Deep.RegionHeld3
namespace Go.Proofs.YtpkhpaioddommaaDoor.fnExactTreeAt
open Go.Joins Go.ChangeShapes Go.WideShapes Go.ChangeAt Go.RowKit Go.Deep
set_option linter.unusedVariables false
set_option linter.unusedSimpArgs false

theorem mk_tag (a b : Int) (s : ByteArray) (p : List Pr) (k : List Tr) : (Tr.mk a b s p k).tag = a := rfl
theorem mk_key (a b : Int) (s : ByteArray) (p : List Pr) (k : List Tr) : (Tr.mk a b s p k).key = b := rfl
theorem mk_text (a b : Int) (s : ByteArray) (p : List Pr) (k : List Tr) : (Tr.mk a b s p k).text = s := rfl
theorem mk_ps (a b : Int) (s : ByteArray) (p : List Pr) (k : List Tr) : (Tr.mk a b s p k).ps = p := rfl
theorem mk_ks (a b : Int) (s : ByteArray) (p : List Pr) (k : List Tr) : (Tr.mk a b s p k).ks = k := rfl
def zeroT : Tr := .mk 0 0 ⟨#[]⟩ [] []
def TaR (t : Tr) (zs : List Int) : Tr := (atV t zs).getD zeroT
theorem at_small : ∀ (zs : List Int) (t x : Tr), atT t zs = some x → szT x ≤ szT t ∧ (SmT t → SmT x)
  | [], t, x, e => by
    rw [atT] at e
    injection e with e
    subst e
    exact ⟨Int.le_refl _, id⟩
  | z :: zs, t, x, e => by
    rw [atT] at e
    split at e
    · cases hy : t.ks[z.toNat]? with
      | none => rw [hy] at e; cases e
      | some y =>
        rw [hy] at e
        have hm := List.mem_of_getElem? hy
        obtain ⟨h1, h2⟩ := at_small zs y x e
        have h3 := szL_mem hm
        have h4 := szT_eq t
        have h5 := szPrs_pos t.ps
        exact ⟨by omega, fun hs => h2 (hs.open_.2.2.2.2 y hm)⟩
    · cases e
theorem TaR_small {t : Tr} {zs : List Int} (hsm : SmT t) : SmT (TaR t zs) ∧ szT (TaR t zs) ≤ szT t := by
  unfold TaR
  cases h : atV t zs with
  | none =>
    refine ⟨.mk (by decide) (by decide) (fun _ h => absurd h (by simp)) (by decide) (fun _ h => absurd h (by simp)), ?_⟩
    have e : szT zeroT = 0 := by rw [szT_eq]; rfl
    have := szT_pos t
    show szT zeroT ≤ szT t
    omega
  | some x =>
    unfold atV at h
    split at h
    · obtain ⟨h1, h2⟩ := at_small zs t x h
      exact ⟨h2 hsm, h1⟩
    · cases h
def ResL (r : Tr) (ok : Bool) (w : World) (e : Ending) (w' : World) : Prop := ∃ (B0 B1 : Option Addr) (f0 f1 : Nat), e = .returned (.tuple #[.agg #[.int .i64 r.tag, .int .i64 r.key, .string r.text, .slice B0 r.ps.length f0, .slice B1 r.ks.length f1], .bool ok]) ∧ PrL w' B0 r.ps ∧ TrL w' 0 B1 r.ks ∧ Below w.heap.size w w'
def ResO (r : Tr) (ok : Bool) (w : World) (e : Ending) (w' : World) : Prop := ∃ (B0 B1 : Option Addr) (f0 f1 : Nat), e = .returned (.tuple #[.agg #[.int .i64 r.tag, .int .i64 r.key, .string r.text, .slice B0 r.ps.length f0, .slice B1 r.ks.length f1], .bool ok]) ∧ TrO w' w.heap.size w'.heap.size [.int .i64 r.tag, .int .i64 r.key, .string r.text, .slice B0 r.ps.length f0, .slice B1 r.ks.length f1] r ∧ Below w.heap.size w w'
theorem resL {t : Tr} {zs : List Int} {w w' : World} {e : Ending} (h : TaX t zs w e w') : ResL (TaR t zs) (atV t zs).isSome w e w' := by
  obtain ⟨hb, ⟨hn, rfl⟩ | ⟨x, B0, B1, f0, f1, hx, rfl, hp, _, hk⟩⟩ := h
  · unfold TaR
    rw [hn]
    exact ⟨none, none, 0, 0, rfl, fun h => absurd h (by simp [zeroT, Tr.ps]), TrL.nil, hb⟩
  · unfold TaR
    rw [hx]
    exact ⟨B0, B1, f0, f1, rfl, hp, hk.mono (Nat.zero_le _), hb⟩
theorem resO {t : Tr} {zs : List Int} {w w' : World} {e : Ending} (h : TaO t zs w e w') : ResO (TaR t zs) (atV t zs).isSome w e w' := by
  obtain ⟨hb, ⟨hn, rfl⟩ | ⟨x, B0, B1, f0, f1, hx, rfl, ho⟩⟩ := h
  · unfold TaR
    rw [hn]
    exact ⟨none, none, 0, 0, rfl, .mk (ps := []) (ks := []) (m := w.heap.size) none 0 none 0 (fun _ => []) (fun _ => 0) (fun _ => 0) (Nat.le_refl _) hb.size (fun h => absurd h (by simp)) (fun h => absurd h (by simp)) (fun i h => absurd h (by simp)) (fun i j _ h => absurd h (by simp)) (fun i x h => by simp at h), hb⟩
  · unfold TaR
    rw [hx]
    exact ⟨B0, B1, f0, f1, rfl, ho, hb⟩
set_option maxRecDepth 100000 in
set_option maxHeartbeats 8000000 in
theorem walk (t : Tr) (A A0 A1 : Option Addr) (c c0 c1 : Nat) (zs : List Int) (w : World) (hT : Vs w) (hzl : zs.length ≤ maxLen) (hsm : SmT t) (hkw : szT t ≤ 1048576 → KwT t) (hp : PrL w A0 t.ps) (hk : TrL w 0 A1 t.ks) (hi : IntL w A zs) :
    Calls Tryd.prog 10 #[.agg #[.int .i64 t.tag, .int .i64 t.key, .string t.text, .slice A0 t.ps.length c0, .slice A1 t.ks.length c1], .slice A zs.length c] w fun e w' => e = .returned (.bool true) ∧ Below w.heap.size w w' := by
  have hz := szTree_any t hsm 1048576 A0 A1 c0 c1
  have k1 := fun h => toTree_any t (BdT.of_sz t h)
  have k1o := fun h => toTree_own t (BdT.of_sz t h)
  have k2 := fun B A0 A1 d c0 c1 w hp hk hz => (sTreeAt_any t hsm zs hzl B A0 A1 d c0 c1 w hp hk hz).mono fun e w' h => resL h
  have k3 := fun h B A0 A1 d c0 c1 w hv hp hk hz => (iTreeAt_own Vs shOk t hsm (hkw h) zs hzl B A0 A1 d c0 c1 w hv hp hk hz).mono fun e w' h => resO h
  have k4 := eqTree_any t hsm
  obtain ⟨hsr, hszr⟩ := TaR_small (zs := zs) hsm
  obtain ⟨r, hr⟩ : ∃ q, TaR t zs = q := ⟨_, rfl⟩
  obtain ⟨ok, hok⟩ : ∃ q, (atV t zs).isSome = q := ⟨_, rfl⟩
  rw [hr, hok] at k2 k3
  rw [hr] at hsr hszr
  have k4r := eqTree_any r hsr
  have k5 := fun h A c w hi => toIntS_any A c zs w hi h
  have k6 := fun A B c d w ha hb => eqL_any A B c d zs zs w ha hb hzl hzl
  rw [decide_eq_true rfl] at k6
  have ki := fun h lo hi k A c w ho (hk5 : k ≤ 50000000) => markInts_own lo hi k zs.length c A zs w ho rfl h hk5
  have km := fun h lo hi g0 g1 w ho hh => markTree_any t (BdT.of_sz t h) lo hi 1 t.ps.length t.ks.length (some ⟨g0, 0, none⟩) (some ⟨g1, 0, none⟩) w ho hh (by omega) (by have := wT_le t; rw [wT_eq] at this; omega)
  have kmr := fun (h : szT t ≤ 1048576) lo hi f0 f1 B0 B1 w ho hh => markTree_any r (BdT.of_sz r (by omega)) lo hi 1 f0 f1 B0 B1 w ho hh (by omega) (by have := wT_le r; rw [wT_eq] at this; omega)
  have khr := fun (h : szT t ≤ 1048576) f0 f1 B0 B1 tag key text w hp hk => heldTree_any r (BdT.of_sz r (by omega)) 1 f0 f1 B0 B1 tag key text w hp hk (by omega) (by have := wT_le r; rw [wT_eq] at this; omega)
  have hwk0 := wT_le t
  rw [wT_eq] at hwk0
  unfold ToZX at k5
  unfold ToT ToX at k1
  unfold ToOT ToO at k1o
  unfold ResL at k2
  unfold ResO at k3
  unfold EqT at k4 k4r
  unfold MktX at km kmr
  have uo := fun w lo hi g0 g1 (h : TrO w lo hi [.int .i64 t.tag, .int .i64 t.key, .string t.text, .slice (some ⟨g0, 0, none⟩) t.ps.length t.ps.length, .slice (some ⟨g1, 0, none⟩) t.ks.length t.ks.length] t) => h.use
  have ur := fun w lo hi B0 B1 f0 f1 (h : TrO w lo hi [.int .i64 r.tag, .int .i64 r.key, .string r.text, .slice B0 r.ps.length f0, .slice B1 r.ks.length f1] r) => h.use
  have hzp := szT_pos t
  obtain ⟨u, hu⟩ : ∃ u, szT t = u := ⟨_, rfl⟩
  rw [hu] at hz hzp k1 k1o k3 km kmr khr hwk0
  obtain ⟨m, hm⟩ : ∃ m, zs.length = m := ⟨_, rfl⟩
  have HM := Lib.hid hm
  rw [hm] at hzl k2 k3 k5 k6 ki ⊢
  unfold maxLen at hzl
  clear hsm hkw hu hm hr hok hsr hszr
  obtain ⟨wk, hwk⟩ : ∃ q, wL t.ks = q := ⟨_, rfl⟩
  rw [hwk] at km hwk0
  clear hwk
  obtain ⟨tag, key, text, ps, ks⟩ := t
  dsimp only [mk_tag, mk_key, mk_text, mk_ps, mk_ks] at hz k1 k1o k2 k3 k4 km uo hp hk hwk0 ⊢
  generalize ps.length = np at *
  generalize ks.length = n at *
  have hb0 := Below.alloc (Below.refl w.heap.size w) (Nat.le_refl _) (.cells #[.int .i64 tag, .int .i64 key, .string text, .slice A0 np c0, .slice A1 n c1] 47)
  have HB0 := Lib.hid hb0
  have HP := Lib.hid (hp.below hb0)
  have HK := Lib.hid (hk.below hb0)
  have HI := Lib.hid (hi.below hb0)
  have HT := Lib.hid (hT.next hb0)
  have hba : w.heap.size < (w.alloc (.cells #[.int .i64 tag, .int .i64 key, .string text, .slice A0 np c0, .slice A1 n c1] 47)).heap.size := by simp
  have f0 : (w.alloc (.cells #[.int .i64 tag, .int .i64 key, .string text, .slice A0 np c0, .slice A1 n c1] 47)).cell? ⟨w.heap.size, 0, none⟩ = some (.int .i64 tag) := by rw [World.cell?_alloc_new]; rfl
  have f1 : (w.alloc (.cells #[.int .i64 tag, .int .i64 key, .string text, .slice A0 np c0, .slice A1 n c1] 47)).cell? ⟨w.heap.size, 1, none⟩ = some (.int .i64 key) := by rw [World.cell?_alloc_new]; rfl
  have f2 : (w.alloc (.cells #[.int .i64 tag, .int .i64 key, .string text, .slice A0 np c0, .slice A1 n c1] 47)).cell? ⟨w.heap.size, 2, none⟩ = some (.string text) := by rw [World.cell?_alloc_new]; rfl
  have f3 : (w.alloc (.cells #[.int .i64 tag, .int .i64 key, .string text, .slice A0 np c0, .slice A1 n c1] 47)).cell? ⟨w.heap.size, 3, none⟩ = some (.slice A0 np c0) := by rw [World.cell?_alloc_new]; rfl
  have f4 : (w.alloc (.cells #[.int .i64 tag, .int .i64 key, .string text, .slice A0 np c0, .slice A1 n c1] 47)).cell? ⟨w.heap.size, 4, none⟩ = some (.slice A1 n c1) := by rw [World.cell?_alloc_new]; rfl
  have HX := Lib.hid (Below.refl (w.alloc (.cells #[.int .i64 tag, .int .i64 key, .string text, .slice A0 np c0, .slice A1 n c1] 47)).heap.size (w.alloc (.cells #[.int .i64 tag, .int .i64 key, .string text, .slice A0 np c0, .slice A1 n c1] 47)))
  obtain ⟨w0, hw0⟩ : ∃ v, (w.alloc (.cells #[.int .i64 tag, .int .i64 key, .string text, .slice A0 np c0, .slice A1 n c1] 47)) = v := ⟨_, rfl⟩
  rw [hw0] at HB0 HP HK HI HT hba f0 f1 f2 f3 f4 HX
  have hZ := fun w hp hk => hz w hp hk (by omega) (by omega)
  clear hp hk hi hT hz hb0
  by_cases hbig : (1048576 : Int) < (m : Int)
  · clear k1 k1o k2 k3 k4 k4r k5 k6 ki km kmr khr uo ur hZ
    go_enter Tryd.func10, Tryd.ntmps10
    go_wp2_with fail
    go_ret
    exact ⟨rfl, HB0.out⟩
  by_cases hl : (1048576 : Int) < u
  · rw [leftV_neg hl] at hZ
    have HZ := Lib.hid hZ
    clear hZ k1 k1o k2 k3 k4 k4r k5 k6 ki km kmr khr uo ur
    go_enter Tryd.func10, Tryd.ntmps10
    go_wp2_with fail
    (try rw [hw0])
    refine (HZ.out _ HP.out HK.out).mono ?_
    rintro e w1 ⟨rfl, hb⟩
    go_wp2_with fail
    go_ret
    exact ⟨rfl, HB0.out.trans (hb.mono HB0.out.size)⟩
  rw [leftV_pos (by omega)] at hZ
  have hle : u ≤ 1048576 := by omega
  have K1 := Lib.hid (fun w hp hk => k1 hle A0 A1 c0 c1 w hp hk)
  have K1O := Lib.hid (fun w hp hk => k1o hle A0 A1 c0 c1 w hp hk)
  have K2 := Lib.hid (fun h g0 g1 w hp hk hz => k2 (some ⟨h, 0, none⟩) (some ⟨g0, 0, none⟩) (some ⟨g1, 0, none⟩) m np n w hp hk hz)
  have K3 := Lib.hid (fun h g0 g1 w hv hp hk hz => k3 hle (some ⟨h, 0, none⟩) (some ⟨g0, 0, none⟩) (some ⟨g1, 0, none⟩) m np n w hv hp hk hz)
  have K4 := Lib.hid (fun g0 g1 h0 h1 w hp hk hq hj => k4 (some ⟨g0, 0, none⟩) (some ⟨g1, 0, none⟩) (some ⟨h0, 0, none⟩) (some ⟨h1, 0, none⟩) np n np n w hp hk hq hj)
  have K4R := Lib.hid k4r
  have K5 := Lib.hid (fun w hi => k5 (by omega) A c w hi)
  have K6 := Lib.hid k6
  have KI := Lib.hid (fun lo hi k A c w ho hk5 => ki (by omega) lo hi k A c w ho hk5)
  have KM := Lib.hid (fun lo hi g0 g1 w ho hh => km hle lo hi g0 g1 w ho hh)
  have KMR := Lib.hid (fun lo hi f0 f1 B0 B1 w ho hh => kmr hle lo hi f0 f1 B0 B1 w ho hh)
  have KH := Lib.hid (fun f0 f1 B0 B1 tag key text w hp hk => khr hle f0 f1 B0 B1 tag key text w hp hk)
  have UO := Lib.hid uo
  have UR := Lib.hid ur
  obtain ⟨y, hzz⟩ : ∃ y, (1048576 : Int) - u = y := ⟨_, rfl⟩
  have hy0 : 0 ≤ y := by omega
  rw [hzz] at hZ
  have HZ := Lib.hid hZ
  have hvv : (ok != ok) = false := by simp
  have hwk5 : 1 + 4 * np + wk ≤ 50000000 := by omega
  clear hZ k1 k1o k2 k3 k4 k4r k5 k6 ki km kmr khr uo ur hzz hl hle hzp hzl hwk0
  obtain ⟨ba, hbaq⟩ : ∃ q, w.heap.size = q := ⟨_, rfl⟩
  go_enter Tryd.func10, Tryd.ntmps10
  rw [hbaq] at f0 f1 f2 f3 f4 hba
  go_wp2_with fail
  (try rw [hw0])
  (try rw [hbaq])
  refine (HZ.out _ HP.out HK.out).mono ?_
  rintro e w1 ⟨rfl, hb⟩
  replace f0 := (hb.cell (p := ⟨ba, 0, none⟩) (by first | omega | (dsimp only; omega))).trans f0
  replace f1 := (hb.cell (p := ⟨ba, 1, none⟩) (by first | omega | (dsimp only; omega))).trans f1
  replace f2 := (hb.cell (p := ⟨ba, 2, none⟩) (by first | omega | (dsimp only; omega))).trans f2
  replace f3 := (hb.cell (p := ⟨ba, 3, none⟩) (by first | omega | (dsimp only; omega))).trans f3
  replace f4 := (hb.cell (p := ⟨ba, 4, none⟩) (by first | omega | (dsimp only; omega))).trans f4
  replace HX := Lib.hid (more HX.out (Nat.le_refl _) hb)
  have hsz1 : w0.heap.size ≤ w1.heap.size := hb.size
  replace hba : ba < w1.heap.size := Nat.lt_of_lt_of_le hba hsz1
  clear hb hsz1 HZ
  go_wp2_with fail
  refine (K1.out _ (HP.out.below HX.out) (HK.out.below HX.out)).mono ?_
  rintro e w2 ⟨g0, g1, rfl, hp, _, hk, hb⟩
  replace f0 := (hb.cell (p := ⟨ba, 0, none⟩) (by first | omega | (dsimp only; omega))).trans f0
  replace f1 := (hb.cell (p := ⟨ba, 1, none⟩) (by first | omega | (dsimp only; omega))).trans f1
  replace f2 := (hb.cell (p := ⟨ba, 2, none⟩) (by first | omega | (dsimp only; omega))).trans f2
  replace f3 := (hb.cell (p := ⟨ba, 3, none⟩) (by first | omega | (dsimp only; omega))).trans f3
  replace f4 := (hb.cell (p := ⟨ba, 4, none⟩) (by first | omega | (dsimp only; omega))).trans f4
  replace HX := Lib.hid (more HX.out (Nat.le_refl _) hb)
  have hsz2 : w1.heap.size ≤ w2.heap.size := hb.size
  replace hba : ba < w2.heap.size := Nat.lt_of_lt_of_le hba hsz2
  have P1 := Lib.hid hp
  have Q1 := Lib.hid (hk.mono (Nat.zero_le _))
  clear hb hsz2 hp hk
  go_wp2_with fail
  refine (K5.out _ (HI.out.below HX.out)).mono ?_
  rintro e w3 ⟨h0, rfl, ho, hb⟩
  replace f0 := (hb.cell (p := ⟨ba, 0, none⟩) (by first | omega | (dsimp only; omega))).trans f0
  replace f1 := (hb.cell (p := ⟨ba, 1, none⟩) (by first | omega | (dsimp only; omega))).trans f1
  replace f2 := (hb.cell (p := ⟨ba, 2, none⟩) (by first | omega | (dsimp only; omega))).trans f2
  replace f3 := (hb.cell (p := ⟨ba, 3, none⟩) (by first | omega | (dsimp only; omega))).trans f3
  replace f4 := (hb.cell (p := ⟨ba, 4, none⟩) (by first | omega | (dsimp only; omega))).trans f4
  replace HX := Lib.hid (more HX.out (Nat.le_refl _) hb)
  replace P1 := Lib.hid (P1.out.below hb)
  replace Q1 := Lib.hid (Q1.out.below hb)
  have hsz3 : w2.heap.size ≤ w3.heap.size := hb.size
  replace hba : ba < w3.heap.size := Nat.lt_of_lt_of_le hba hsz3
  have I1 := Lib.hid (IntL.of_own (zs := zs) (by rw [HM.out]; exact ho))
  clear hb hsz3 ho
  go_wp2_with fail
  refine (K2.out _ _ _ w3 P1.out Q1.out I1.out).mono ?_
  rintro e w4 ⟨B0, B1, k0, k1, rfl, hp, hk, hb⟩
  replace f0 := (hb.cell (p := ⟨ba, 0, none⟩) (by first | omega | (dsimp only; omega))).trans f0
  replace f1 := (hb.cell (p := ⟨ba, 1, none⟩) (by first | omega | (dsimp only; omega))).trans f1
  replace f2 := (hb.cell (p := ⟨ba, 2, none⟩) (by first | omega | (dsimp only; omega))).trans f2
  replace f3 := (hb.cell (p := ⟨ba, 3, none⟩) (by first | omega | (dsimp only; omega))).trans f3
  replace f4 := (hb.cell (p := ⟨ba, 4, none⟩) (by first | omega | (dsimp only; omega))).trans f4
  replace HX := Lib.hid (more HX.out (Nat.le_refl _) hb)
  have hsz4 : w3.heap.size ≤ w4.heap.size := hb.size
  replace hba : ba < w4.heap.size := Nat.lt_of_lt_of_le hba hsz4
  have PW := Lib.hid hp
  have QW := Lib.hid hk
  have HW := Lib.hid (Below.refl w4.heap.size w4)
  obtain ⟨s4, hs4⟩ : ∃ q, w4.heap.size = q := ⟨_, rfl⟩
  rw [show Below w4.heap.size w4 w4 = Below s4 w4 w4 from by rw [hs4]] at HW
  have HS4 := Lib.hid hs4
  have hba4 : ba < s4 := by omega
  have hs04 : w0.heap.size ≤ s4 := by have := HX.out.size; omega
  clear hb hsz4 hp hk P1 Q1 I1 hs4
  have hbab6 := Below.alloc (Below.refl w4.heap.size w4) (Nat.le_refl _) (.cells #[.int .i64 r.tag, .int .i64 r.key, .string r.text, .slice B0 r.ps.length k0, .slice B1 r.ks.length k1] 26)
  have a0 : (w4.alloc (.cells #[.int .i64 r.tag, .int .i64 r.key, .string r.text, .slice B0 r.ps.length k0, .slice B1 r.ks.length k1] 26)).cell? ⟨w4.heap.size, 0, none⟩ = some (.int .i64 r.tag) := by rw [World.cell?_alloc_new]; rfl
  have a1 : (w4.alloc (.cells #[.int .i64 r.tag, .int .i64 r.key, .string r.text, .slice B0 r.ps.length k0, .slice B1 r.ks.length k1] 26)).cell? ⟨w4.heap.size, 1, none⟩ = some (.int .i64 r.key) := by rw [World.cell?_alloc_new]; rfl
  have a2 : (w4.alloc (.cells #[.int .i64 r.tag, .int .i64 r.key, .string r.text, .slice B0 r.ps.length k0, .slice B1 r.ks.length k1] 26)).cell? ⟨w4.heap.size, 2, none⟩ = some (.string r.text) := by rw [World.cell?_alloc_new]; rfl
  have a3 : (w4.alloc (.cells #[.int .i64 r.tag, .int .i64 r.key, .string r.text, .slice B0 r.ps.length k0, .slice B1 r.ks.length k1] 26)).cell? ⟨w4.heap.size, 3, none⟩ = some (.slice B0 r.ps.length k0) := by rw [World.cell?_alloc_new]; rfl
  have a4 : (w4.alloc (.cells #[.int .i64 r.tag, .int .i64 r.key, .string r.text, .slice B0 r.ps.length k0, .slice B1 r.ks.length k1] 26)).cell? ⟨w4.heap.size, 4, none⟩ = some (.slice B1 r.ks.length k1) := by rw [World.cell?_alloc_new]; rfl
  go_wp2_with fail
  have hb := hbab6
  clear hbab6
  obtain ⟨b6, hbox⟩ : ∃ q, w4.heap.size = q := ⟨_, rfl⟩
  have hzb6 : b6 < (w4.alloc (.cells #[.int .i64 r.tag, .int .i64 r.key, .string r.text, .slice B0 r.ps.length k0, .slice B1 r.ks.length k1] 26)).heap.size := by simp; omega
  have h6s : s4 ≤ b6 := by have := HS4.out; omega
  obtain ⟨w5, hw2⟩ : ∃ v, w4.alloc (.cells #[.int .i64 r.tag, .int .i64 r.key, .string r.text, .slice B0 r.ps.length k0, .slice B1 r.ks.length k1] 26) = v := ⟨_, rfl⟩
  rw [hw2] at a0 a1 a2 a3 a4 hb hzb6  ⊢
  replace f0 := (hb.cell (p := ⟨ba, 0, none⟩) (by first | omega | (dsimp only; omega))).trans f0
  replace f1 := (hb.cell (p := ⟨ba, 1, none⟩) (by first | omega | (dsimp only; omega))).trans f1
  replace f2 := (hb.cell (p := ⟨ba, 2, none⟩) (by first | omega | (dsimp only; omega))).trans f2
  replace f3 := (hb.cell (p := ⟨ba, 3, none⟩) (by first | omega | (dsimp only; omega))).trans f3
  replace f4 := (hb.cell (p := ⟨ba, 4, none⟩) (by first | omega | (dsimp only; omega))).trans f4
  replace HX := Lib.hid (more HX.out (Nat.le_refl _) hb)
  replace HW := Lib.hid (HW.out.trans (hb.mono (by have := HW.out.size; have := HS4.out; omega)))
  have hsz5 : w4.heap.size ≤ w5.heap.size := hb.size
  replace hba : ba < w5.heap.size := Nat.lt_of_lt_of_le hba hsz5
  rw [hbox] at a0 a1 a2 a3 a4 ⊢
  clear hb hsz5 hw2 hbox
  refine (K1O.out _ (HP.out.below HX.out) (HK.out.below HX.out)).mono ?_
  rintro e w6 ⟨g2, g3, rfl, hto, hb⟩
  obtain ⟨L, hL⟩ : ∃ q, w5.heap.size = q := ⟨_, rfl⟩
  have hb6L : b6 < L := by omega
  have hbaL : ba < L := by omega
  have hs4L : s4 ≤ L := by omega
  have h0L : w0.heap.size ≤ L := by omega
  replace f0 := (hb.cell (p := ⟨ba, 0, none⟩) (by first | omega | (dsimp only; omega))).trans f0
  replace f1 := (hb.cell (p := ⟨ba, 1, none⟩) (by first | omega | (dsimp only; omega))).trans f1
  replace f2 := (hb.cell (p := ⟨ba, 2, none⟩) (by first | omega | (dsimp only; omega))).trans f2
  replace f3 := (hb.cell (p := ⟨ba, 3, none⟩) (by first | omega | (dsimp only; omega))).trans f3
  replace f4 := (hb.cell (p := ⟨ba, 4, none⟩) (by first | omega | (dsimp only; omega))).trans f4
  replace a0 := (hb.cell (p := ⟨b6, 0, none⟩) (by first | omega | (dsimp only; omega))).trans a0
  replace a1 := (hb.cell (p := ⟨b6, 1, none⟩) (by first | omega | (dsimp only; omega))).trans a1
  replace a2 := (hb.cell (p := ⟨b6, 2, none⟩) (by first | omega | (dsimp only; omega))).trans a2
  replace a3 := (hb.cell (p := ⟨b6, 3, none⟩) (by first | omega | (dsimp only; omega))).trans a3
  replace a4 := (hb.cell (p := ⟨b6, 4, none⟩) (by first | omega | (dsimp only; omega))).trans a4
  replace HX := Lib.hid (more HX.out (Nat.le_refl _) hb)
  replace HW := Lib.hid (HW.out.trans (hb.mono (by have := HW.out.size; have := HS4.out; omega)))
  have hsz6 : w5.heap.size ≤ w6.heap.size := hb.size
  replace hba : ba < w6.heap.size := Nat.lt_of_lt_of_le hba hsz6
  replace hzb6 : b6 < w6.heap.size := Nat.lt_of_lt_of_le hzb6 hsz6
  obtain ⟨H, hH⟩ : ∃ q, w6.heap.size = q := ⟨_, rfl⟩
  have hLH : L ≤ H := by omega
  have HHQ := Lib.hid hH
  rw [hL] at hto
  clear hb hL hH hsz6
  have hbab8 := Below.alloc (Below.refl w6.heap.size w6) (Nat.le_refl _) (.cells #[.int .i64 tag, .int .i64 key, .string text, .slice (some ⟨g2, 0, none⟩) np np, .slice (some ⟨g3, 0, none⟩) n n] 26)
  have HO := Lib.hid (hto.later (Nat.le_refl _) hbab8)
  rw [HHQ.out] at HO
  clear hto
  have d0 : (w6.alloc (.cells #[.int .i64 tag, .int .i64 key, .string text, .slice (some ⟨g2, 0, none⟩) np np, .slice (some ⟨g3, 0, none⟩) n n] 26)).cell? ⟨w6.heap.size, 0, none⟩ = some (.int .i64 tag) := by rw [World.cell?_alloc_new]; rfl
  have d1 : (w6.alloc (.cells #[.int .i64 tag, .int .i64 key, .string text, .slice (some ⟨g2, 0, none⟩) np np, .slice (some ⟨g3, 0, none⟩) n n] 26)).cell? ⟨w6.heap.size, 1, none⟩ = some (.int .i64 key) := by rw [World.cell?_alloc_new]; rfl
  have d2 : (w6.alloc (.cells #[.int .i64 tag, .int .i64 key, .string text, .slice (some ⟨g2, 0, none⟩) np np, .slice (some ⟨g3, 0, none⟩) n n] 26)).cell? ⟨w6.heap.size, 2, none⟩ = some (.string text) := by rw [World.cell?_alloc_new]; rfl
  have d3 : (w6.alloc (.cells #[.int .i64 tag, .int .i64 key, .string text, .slice (some ⟨g2, 0, none⟩) np np, .slice (some ⟨g3, 0, none⟩) n n] 26)).cell? ⟨w6.heap.size, 3, none⟩ = some (.slice (some ⟨g2, 0, none⟩) np np) := by rw [World.cell?_alloc_new]; rfl
  have d4 : (w6.alloc (.cells #[.int .i64 tag, .int .i64 key, .string text, .slice (some ⟨g2, 0, none⟩) np np, .slice (some ⟨g3, 0, none⟩) n n] 26)).cell? ⟨w6.heap.size, 4, none⟩ = some (.slice (some ⟨g3, 0, none⟩) n n) := by rw [World.cell?_alloc_new]; rfl
  go_wp2_with fail
  have hb := hbab8
  clear hbab8
  obtain ⟨b8, hbox⟩ : ∃ q, w6.heap.size = q := ⟨_, rfl⟩
  have hzb8 : b8 < (w6.alloc (.cells #[.int .i64 tag, .int .i64 key, .string text, .slice (some ⟨g2, 0, none⟩) np np, .slice (some ⟨g3, 0, none⟩) n n] 26)).heap.size := by simp; omega
  have hH8 : H ≤ b8 := by have := HHQ.out; omega
  obtain ⟨w7, hw2⟩ : ∃ v, w6.alloc (.cells #[.int .i64 tag, .int .i64 key, .string text, .slice (some ⟨g2, 0, none⟩) np np, .slice (some ⟨g3, 0, none⟩) n n] 26) = v := ⟨_, rfl⟩
  rw [hw2] at d0 d1 d2 d3 d4 hb hzb8 HO ⊢
  replace f0 := (hb.cell (p := ⟨ba, 0, none⟩) (by first | omega | (dsimp only; omega))).trans f0
  replace f1 := (hb.cell (p := ⟨ba, 1, none⟩) (by first | omega | (dsimp only; omega))).trans f1
  replace f2 := (hb.cell (p := ⟨ba, 2, none⟩) (by first | omega | (dsimp only; omega))).trans f2
  replace f3 := (hb.cell (p := ⟨ba, 3, none⟩) (by first | omega | (dsimp only; omega))).trans f3
  replace f4 := (hb.cell (p := ⟨ba, 4, none⟩) (by first | omega | (dsimp only; omega))).trans f4
  replace a0 := (hb.cell (p := ⟨b6, 0, none⟩) (by first | omega | (dsimp only; omega))).trans a0
  replace a1 := (hb.cell (p := ⟨b6, 1, none⟩) (by first | omega | (dsimp only; omega))).trans a1
  replace a2 := (hb.cell (p := ⟨b6, 2, none⟩) (by first | omega | (dsimp only; omega))).trans a2
  replace a3 := (hb.cell (p := ⟨b6, 3, none⟩) (by first | omega | (dsimp only; omega))).trans a3
  replace a4 := (hb.cell (p := ⟨b6, 4, none⟩) (by first | omega | (dsimp only; omega))).trans a4
  replace HX := Lib.hid (more HX.out (Nat.le_refl _) hb)
  replace HW := Lib.hid (HW.out.trans (hb.mono (by have := HW.out.size; have := HS4.out; omega)))
  have hsz7 : w6.heap.size ≤ w7.heap.size := hb.size
  replace hba : ba < w7.heap.size := Nat.lt_of_lt_of_le hba hsz7
  replace hzb6 : b6 < w7.heap.size := Nat.lt_of_lt_of_le hzb6 hsz7
  rw [hbox] at d0 d1 d2 d3 d4 ⊢
  clear hb hsz7 hw2 hbox
  clear HHQ
  obtain ⟨l1, hl1⟩ : ∃ q, w7.heap.size = q := ⟨_, rfl⟩
  have h8l : b8 < l1 := by omega
  have HL1 := Lib.hid hl1
  clear hl1
  refine (K5.out _ (HI.out.below HX.out)).mono ?_
  rintro e w8 ⟨h1, rfl, ho, hb⟩
  replace f0 := (hb.cell (p := ⟨ba, 0, none⟩) (by first | omega | (dsimp only; omega))).trans f0
  replace f1 := (hb.cell (p := ⟨ba, 1, none⟩) (by first | omega | (dsimp only; omega))).trans f1
  replace f2 := (hb.cell (p := ⟨ba, 2, none⟩) (by first | omega | (dsimp only; omega))).trans f2
  replace f3 := (hb.cell (p := ⟨ba, 3, none⟩) (by first | omega | (dsimp only; omega))).trans f3
  replace f4 := (hb.cell (p := ⟨ba, 4, none⟩) (by first | omega | (dsimp only; omega))).trans f4
  replace a0 := (hb.cell (p := ⟨b6, 0, none⟩) (by first | omega | (dsimp only; omega))).trans a0
  replace a1 := (hb.cell (p := ⟨b6, 1, none⟩) (by first | omega | (dsimp only; omega))).trans a1
  replace a2 := (hb.cell (p := ⟨b6, 2, none⟩) (by first | omega | (dsimp only; omega))).trans a2
  replace a3 := (hb.cell (p := ⟨b6, 3, none⟩) (by first | omega | (dsimp only; omega))).trans a3
  replace a4 := (hb.cell (p := ⟨b6, 4, none⟩) (by first | omega | (dsimp only; omega))).trans a4
  replace d0 := (hb.cell (p := ⟨b8, 0, none⟩) (by first | omega | (dsimp only; omega))).trans d0
  replace d1 := (hb.cell (p := ⟨b8, 1, none⟩) (by first | omega | (dsimp only; omega))).trans d1
  replace d2 := (hb.cell (p := ⟨b8, 2, none⟩) (by first | omega | (dsimp only; omega))).trans d2
  replace d3 := (hb.cell (p := ⟨b8, 3, none⟩) (by first | omega | (dsimp only; omega))).trans d3
  replace d4 := (hb.cell (p := ⟨b8, 4, none⟩) (by first | omega | (dsimp only; omega))).trans d4
  replace HX := Lib.hid (more HX.out (Nat.le_refl _) hb)
  replace HW := Lib.hid (HW.out.trans (hb.mono (by have := HW.out.size; have := HS4.out; omega)))
  replace HO := Lib.hid (HO.out.later (by omega) hb)
  have hsz8 : w7.heap.size ≤ w8.heap.size := hb.size
  replace hba : ba < w8.heap.size := Nat.lt_of_lt_of_le hba hsz8
  replace hzb6 : b6 < w8.heap.size := Nat.lt_of_lt_of_le hzb6 hsz8
  replace hzb8 : b8 < w8.heap.size := Nat.lt_of_lt_of_le hzb8 hsz8
  obtain ⟨m1, hm1⟩ : ∃ q, w8.heap.size = q := ⟨_, rfl⟩
  have I8 : Hid (IntO w8 l1 m1 (some ⟨h1, 0, none⟩) m zs) := Lib.hid (fun h0 => ⟨h1, rfl, by rw [← HL1.out]; exact (ho.lt h1 rfl).1, by rw [← hm1]; exact (ho.lt h1 rfl).2, by rw [HM.out]; exact own_zero ho⟩)
  have HM1 := Lib.hid hm1
  clear hb hsz8 ho hm1 HL1
  obtain ⟨hpx, hkx⟩ := UO.out _ _ _ _ _ HO.out
  have PX := Lib.hid hpx
  have QX := Lib.hid hkx
  clear hpx hkx
  go_wp2_with fail
  refine (K3.out _ _ _ _ (HT.out.next HX.out) PX.out QX.out I8.out.lies).mono ?_
  rintro e w9 ⟨S0, S1, s0, s1, rfl, hto, hb⟩
  obtain ⟨lg, hlg⟩ : ∃ q, w8.heap.size = q := ⟨_, rfl⟩
  have hm1g : m1 ≤ lg := by have := HM1.out; omega
  have h8g : b8 < lg := by omega
  replace f0 := (hb.cell (p := ⟨ba, 0, none⟩) (by first | omega | (dsimp only; omega))).trans f0
  replace f1 := (hb.cell (p := ⟨ba, 1, none⟩) (by first | omega | (dsimp only; omega))).trans f1
  replace f2 := (hb.cell (p := ⟨ba, 2, none⟩) (by first | omega | (dsimp only; omega))).trans f2
  replace f3 := (hb.cell (p := ⟨ba, 3, none⟩) (by first | omega | (dsimp only; omega))).trans f3
  replace f4 := (hb.cell (p := ⟨ba, 4, none⟩) (by first | omega | (dsimp only; omega))).trans f4
  replace a0 := (hb.cell (p := ⟨b6, 0, none⟩) (by first | omega | (dsimp only; omega))).trans a0
  replace a1 := (hb.cell (p := ⟨b6, 1, none⟩) (by first | omega | (dsimp only; omega))).trans a1
  replace a2 := (hb.cell (p := ⟨b6, 2, none⟩) (by first | omega | (dsimp only; omega))).trans a2
  replace a3 := (hb.cell (p := ⟨b6, 3, none⟩) (by first | omega | (dsimp only; omega))).trans a3
  replace a4 := (hb.cell (p := ⟨b6, 4, none⟩) (by first | omega | (dsimp only; omega))).trans a4
  replace d0 := (hb.cell (p := ⟨b8, 0, none⟩) (by first | omega | (dsimp only; omega))).trans d0
  replace d1 := (hb.cell (p := ⟨b8, 1, none⟩) (by first | omega | (dsimp only; omega))).trans d1
  replace d2 := (hb.cell (p := ⟨b8, 2, none⟩) (by first | omega | (dsimp only; omega))).trans d2
  replace d3 := (hb.cell (p := ⟨b8, 3, none⟩) (by first | omega | (dsimp only; omega))).trans d3
  replace d4 := (hb.cell (p := ⟨b8, 4, none⟩) (by first | omega | (dsimp only; omega))).trans d4
  replace HX := Lib.hid (more HX.out (Nat.le_refl _) hb)
  replace HW := Lib.hid (HW.out.trans (hb.mono (by have := HW.out.size; have := HS4.out; omega)))
  replace HO := Lib.hid (HO.out.later (by omega) hb)
  replace I8 := Lib.hid (I8.out.below hb)
  have hsz9 : w8.heap.size ≤ w9.heap.size := hb.size
  replace hba : ba < w9.heap.size := Nat.lt_of_lt_of_le hba hsz9
  replace hzb6 : b6 < w9.heap.size := Nat.lt_of_lt_of_le hzb6 hsz9
  replace hzb8 : b8 < w9.heap.size := Nat.lt_of_lt_of_le hzb8 hsz9
  obtain ⟨hg, hhg⟩ : ∃ q, w9.heap.size = q := ⟨_, rfl⟩
  have hgg : lg ≤ hg := by omega
  have HHG := Lib.hid hhg
  rw [hlg] at hto
  clear hb hlg hhg PX QX HM1 hsz9
  have hbab10 := Below.alloc (Below.refl w9.heap.size w9) (Nat.le_refl _) (.cells #[.int .i64 r.tag, .int .i64 r.key, .string r.text, .slice S0 r.ps.length s0, .slice S1 r.ks.length s1] 26)
  have HG := Lib.hid (hto.later (Nat.le_refl _) hbab10)
  rw [HHG.out] at HG
  clear hto
  have e0 : (w9.alloc (.cells #[.int .i64 r.tag, .int .i64 r.key, .string r.text, .slice S0 r.ps.length s0, .slice S1 r.ks.length s1] 26)).cell? ⟨w9.heap.size, 0, none⟩ = some (.int .i64 r.tag) := by rw [World.cell?_alloc_new]; rfl
  have e1 : (w9.alloc (.cells #[.int .i64 r.tag, .int .i64 r.key, .string r.text, .slice S0 r.ps.length s0, .slice S1 r.ks.length s1] 26)).cell? ⟨w9.heap.size, 1, none⟩ = some (.int .i64 r.key) := by rw [World.cell?_alloc_new]; rfl
  have e2 : (w9.alloc (.cells #[.int .i64 r.tag, .int .i64 r.key, .string r.text, .slice S0 r.ps.length s0, .slice S1 r.ks.length s1] 26)).cell? ⟨w9.heap.size, 2, none⟩ = some (.string r.text) := by rw [World.cell?_alloc_new]; rfl
  have e3 : (w9.alloc (.cells #[.int .i64 r.tag, .int .i64 r.key, .string r.text, .slice S0 r.ps.length s0, .slice S1 r.ks.length s1] 26)).cell? ⟨w9.heap.size, 3, none⟩ = some (.slice S0 r.ps.length s0) := by rw [World.cell?_alloc_new]; rfl
  have e4 : (w9.alloc (.cells #[.int .i64 r.tag, .int .i64 r.key, .string r.text, .slice S0 r.ps.length s0, .slice S1 r.ks.length s1] 26)).cell? ⟨w9.heap.size, 4, none⟩ = some (.slice S1 r.ks.length s1) := by rw [World.cell?_alloc_new]; rfl
  go_wp2_with fail
  have hb := hbab10
  clear hbab10
  obtain ⟨b10, hbox⟩ : ∃ q, w9.heap.size = q := ⟨_, rfl⟩
  have hzb10 : b10 < (w9.alloc (.cells #[.int .i64 r.tag, .int .i64 r.key, .string r.text, .slice S0 r.ps.length s0, .slice S1 r.ks.length s1] 26)).heap.size := by simp; omega
  have hg10 : hg ≤ b10 := by have := HHG.out; omega
  obtain ⟨w10, hw2⟩ : ∃ v, w9.alloc (.cells #[.int .i64 r.tag, .int .i64 r.key, .string r.text, .slice S0 r.ps.length s0, .slice S1 r.ks.length s1] 26) = v := ⟨_, rfl⟩
  rw [hw2] at e0 e1 e2 e3 e4 hb hzb10 HG ⊢
  replace f0 := (hb.cell (p := ⟨ba, 0, none⟩) (by first | omega | (dsimp only; omega))).trans f0
  replace f1 := (hb.cell (p := ⟨ba, 1, none⟩) (by first | omega | (dsimp only; omega))).trans f1
  replace f2 := (hb.cell (p := ⟨ba, 2, none⟩) (by first | omega | (dsimp only; omega))).trans f2
  replace f3 := (hb.cell (p := ⟨ba, 3, none⟩) (by first | omega | (dsimp only; omega))).trans f3
  replace f4 := (hb.cell (p := ⟨ba, 4, none⟩) (by first | omega | (dsimp only; omega))).trans f4
  replace a0 := (hb.cell (p := ⟨b6, 0, none⟩) (by first | omega | (dsimp only; omega))).trans a0
  replace a1 := (hb.cell (p := ⟨b6, 1, none⟩) (by first | omega | (dsimp only; omega))).trans a1
  replace a2 := (hb.cell (p := ⟨b6, 2, none⟩) (by first | omega | (dsimp only; omega))).trans a2
  replace a3 := (hb.cell (p := ⟨b6, 3, none⟩) (by first | omega | (dsimp only; omega))).trans a3
  replace a4 := (hb.cell (p := ⟨b6, 4, none⟩) (by first | omega | (dsimp only; omega))).trans a4
  replace d0 := (hb.cell (p := ⟨b8, 0, none⟩) (by first | omega | (dsimp only; omega))).trans d0
  replace d1 := (hb.cell (p := ⟨b8, 1, none⟩) (by first | omega | (dsimp only; omega))).trans d1
  replace d2 := (hb.cell (p := ⟨b8, 2, none⟩) (by first | omega | (dsimp only; omega))).trans d2
  replace d3 := (hb.cell (p := ⟨b8, 3, none⟩) (by first | omega | (dsimp only; omega))).trans d3
  replace d4 := (hb.cell (p := ⟨b8, 4, none⟩) (by first | omega | (dsimp only; omega))).trans d4
  replace HX := Lib.hid (more HX.out (Nat.le_refl _) hb)
  replace HW := Lib.hid (HW.out.trans (hb.mono (by have := HW.out.size; have := HS4.out; omega)))
  replace HO := Lib.hid (HO.out.later (by omega) hb)
  replace I8 := Lib.hid (I8.out.below hb)
  have hsz10 : w9.heap.size ≤ w10.heap.size := hb.size
  replace hba : ba < w10.heap.size := Nat.lt_of_lt_of_le hba hsz10
  replace hzb6 : b6 < w10.heap.size := Nat.lt_of_lt_of_le hzb6 hsz10
  replace hzb8 : b8 < w10.heap.size := Nat.lt_of_lt_of_le hzb8 hsz10
  rw [hbox] at e0 e1 e2 e3 e4 ⊢
  clear hb hsz10 hw2 hbox
  clear HHG
  obtain ⟨hpx, hkx⟩ := UR.out _ _ _ _ _ _ _ HG.out
  refine (K4R.out _ _ _ _ _ _ _ _ _ hpx hkx (PW.out.below (by rw [HS4.out]; exact HW.out)) (QW.out.below (by rw [HS4.out]; exact HW.out))).mono ?_
  rintro e w11 ⟨rfl, hb⟩
  replace f0 := (hb.cell (p := ⟨ba, 0, none⟩) (by first | omega | (dsimp only; omega))).trans f0
  replace f1 := (hb.cell (p := ⟨ba, 1, none⟩) (by first | omega | (dsimp only; omega))).trans f1
  replace f2 := (hb.cell (p := ⟨ba, 2, none⟩) (by first | omega | (dsimp only; omega))).trans f2
  replace f3 := (hb.cell (p := ⟨ba, 3, none⟩) (by first | omega | (dsimp only; omega))).trans f3
  replace f4 := (hb.cell (p := ⟨ba, 4, none⟩) (by first | omega | (dsimp only; omega))).trans f4
  replace a0 := (hb.cell (p := ⟨b6, 0, none⟩) (by first | omega | (dsimp only; omega))).trans a0
  replace a1 := (hb.cell (p := ⟨b6, 1, none⟩) (by first | omega | (dsimp only; omega))).trans a1
  replace a2 := (hb.cell (p := ⟨b6, 2, none⟩) (by first | omega | (dsimp only; omega))).trans a2
  replace a3 := (hb.cell (p := ⟨b6, 3, none⟩) (by first | omega | (dsimp only; omega))).trans a3
  replace a4 := (hb.cell (p := ⟨b6, 4, none⟩) (by first | omega | (dsimp only; omega))).trans a4
  replace d0 := (hb.cell (p := ⟨b8, 0, none⟩) (by first | omega | (dsimp only; omega))).trans d0
  replace d1 := (hb.cell (p := ⟨b8, 1, none⟩) (by first | omega | (dsimp only; omega))).trans d1
  replace d2 := (hb.cell (p := ⟨b8, 2, none⟩) (by first | omega | (dsimp only; omega))).trans d2
  replace d3 := (hb.cell (p := ⟨b8, 3, none⟩) (by first | omega | (dsimp only; omega))).trans d3
  replace d4 := (hb.cell (p := ⟨b8, 4, none⟩) (by first | omega | (dsimp only; omega))).trans d4
  replace e0 := (hb.cell (p := ⟨b10, 0, none⟩) (by first | omega | (dsimp only; omega))).trans e0
  replace e1 := (hb.cell (p := ⟨b10, 1, none⟩) (by first | omega | (dsimp only; omega))).trans e1
  replace e2 := (hb.cell (p := ⟨b10, 2, none⟩) (by first | omega | (dsimp only; omega))).trans e2
  replace e3 := (hb.cell (p := ⟨b10, 3, none⟩) (by first | omega | (dsimp only; omega))).trans e3
  replace e4 := (hb.cell (p := ⟨b10, 4, none⟩) (by first | omega | (dsimp only; omega))).trans e4
  replace HX := Lib.hid (more HX.out (Nat.le_refl _) hb)
  replace HW := Lib.hid (HW.out.trans (hb.mono (by have := HW.out.size; have := HS4.out; omega)))
  replace HO := Lib.hid (HO.out.later (by omega) hb)
  replace I8 := Lib.hid (I8.out.below hb)
  replace HG := Lib.hid (HG.out.later (by omega) hb)
  have hsz11 : w10.heap.size ≤ w11.heap.size := hb.size
  replace hba : ba < w11.heap.size := Nat.lt_of_lt_of_le hba hsz11
  replace hzb6 : b6 < w11.heap.size := Nat.lt_of_lt_of_le hzb6 hsz11
  replace hzb8 : b8 < w11.heap.size := Nat.lt_of_lt_of_le hzb8 hsz11
  replace hzb10 : b10 < w11.heap.size := Nat.lt_of_lt_of_le hzb10 hsz11
  clear hb hsz11 hpx hkx
  go_wp2_with fail
  refine wp_region_held_drew (S := fun w' => Below w11.heap.size w11 w' ∧ w'.cell? ⟨b8, 0, none⟩ = some (.int .i64 tag) ∧ w'.cell? ⟨b8, 1, none⟩ = some (.int .i64 key) ∧ w'.cell? ⟨b8, 2, none⟩ = some (.string text) ∧ w'.cell? ⟨b8, 3, none⟩ = some (.slice (some ⟨g2, 0, none⟩) np np) ∧ w'.cell? ⟨b8, 4, none⟩ = some (.slice (some ⟨g3, 0, none⟩) n n) ∧ w'.cell? ⟨ba, 0, none⟩ = some (.int .i64 tag) ∧ w'.cell? ⟨ba, 1, none⟩ = some (.int .i64 key) ∧ w'.cell? ⟨ba, 2, none⟩ = some (.string text) ∧ w'.cell? ⟨ba, 3, none⟩ = some (.slice A0 np c0) ∧ w'.cell? ⟨ba, 4, none⟩ = some (.slice A1 n c1)) (by kernel_rfl) ?_ (fun hHeld => ?_)
  · exact ⟨Below.drew (Below.refl _ _), d0, d1, d2, d3, d4, f0, f1, f2, f3, f4⟩
  refine wpAnyH_take (i := 0) (oi := _) (v := ?_) rfl (by kernel_rfl) (by kernel_rfl) (by kernel_rfl) (fun _ _ _ h => h) (Or.inl ⟨by kernel_rfl, ?_⟩) (by assumption) ?_
  rotate_left
  · (intro w hSw; (try dsimp only at hSw); go_simp)
    try with_reducible rfl
  (try simp only [Act.put, List.getElem_toArray, List.getElem_cons_zero, List.getElem_cons_succ, List.setIfInBounds_toArray, List.set_cons_zero, List.set_cons_succ])
  refine wpAnyH_take (i := 1) (oi := _) (v := ?_) rfl (by kernel_rfl) (by kernel_rfl) (by kernel_rfl) (fun _ _ _ h => h) (Or.inl ⟨by kernel_rfl, ?_⟩) (by assumption) ?_
  rotate_left
  · (intro w hSw; (try dsimp only at hSw); go_simp)
    try with_reducible rfl
  (try simp only [Act.put, List.getElem_toArray, List.getElem_cons_zero, List.getElem_cons_succ, List.setIfInBounds_toArray, List.set_cons_zero, List.set_cons_succ])
  refine wpAnyH_ready (rs := [2]) (by kernel_rfl) (by simp) ?_
  refine AllReadyH.cons (o := _) rfl (fun K hK => ?_) AllReadyH.nil
  go_simp
  have hB0 := hHeld.1
  refine (K1.out _ (HP.out.below (more HX.out (Nat.le_refl _) hB0)) (HK.out.below (more HX.out (Nat.le_refl _) hB0))).mono ?_
  rintro e w' ⟨h2, h3, rfl, hp, _, hk, hb⟩
  refine hK.out _ _ ?_ (fun hHeld2 => ?_)
  · obtain ⟨_, d0, d1, d2, d3, d4, f0, f1, f2, f3, f4⟩ := hHeld
    exact ⟨hB0.trans (hb.mono hB0.size), (hb.cell (p := ⟨b8, 0, none⟩) (Nat.lt_of_lt_of_le hzb8 hB0.size)).trans d0, (hb.cell (p := ⟨b8, 1, none⟩) (Nat.lt_of_lt_of_le hzb8 hB0.size)).trans d1, (hb.cell (p := ⟨b8, 2, none⟩) (Nat.lt_of_lt_of_le hzb8 hB0.size)).trans d2, (hb.cell (p := ⟨b8, 3, none⟩) (Nat.lt_of_lt_of_le hzb8 hB0.size)).trans d3, (hb.cell (p := ⟨b8, 4, none⟩) (Nat.lt_of_lt_of_le hzb8 hB0.size)).trans d4, (hb.cell (p := ⟨ba, 0, none⟩) (Nat.lt_of_lt_of_le hba hB0.size)).trans f0, (hb.cell (p := ⟨ba, 1, none⟩) (Nat.lt_of_lt_of_le hba hB0.size)).trans f1, (hb.cell (p := ⟨ba, 2, none⟩) (Nat.lt_of_lt_of_le hba hB0.size)).trans f2, (hb.cell (p := ⟨ba, 3, none⟩) (Nat.lt_of_lt_of_le hba hB0.size)).trans f3, (hb.cell (p := ⟨ba, 4, none⟩) (Nat.lt_of_lt_of_le hba hB0.size)).trans f4⟩
  have PC := Lib.hid hp
  have KC := Lib.hid (hk.mono (Nat.zero_le _))
  clear hp hk hK K hb hB0 hHeld
  (try simp only [Act.put, List.getElem_toArray, List.getElem_cons_zero, List.getElem_cons_succ, List.setIfInBounds_toArray, List.set_cons_zero, List.set_cons_succ])
  refine wpAnyH_ready (rs := [3]) (by kernel_rfl) (by simp) ?_
  refine AllReadyH.cons (o := _) rfl (fun K hK => ?_) AllReadyH.nil
  go_simp
  have hB0 := hHeld2.1
  obtain ⟨hpx, hkx⟩ := UO.out _ _ _ _ _ (HO.out.later (by omega) hB0)
  refine (K4.out _ _ _ _ _ hpx hkx PC.out KC.out).mono ?_
  rintro e w' ⟨rfl, hb⟩
  refine hK.out _ _ ?_ (fun hHeld3 => ?_)
  · obtain ⟨_, d0, d1, d2, d3, d4, f0, f1, f2, f3, f4⟩ := hHeld2
    exact ⟨hB0.trans (hb.mono hB0.size), (hb.cell (p := ⟨b8, 0, none⟩) (Nat.lt_of_lt_of_le hzb8 hB0.size)).trans d0, (hb.cell (p := ⟨b8, 1, none⟩) (Nat.lt_of_lt_of_le hzb8 hB0.size)).trans d1, (hb.cell (p := ⟨b8, 2, none⟩) (Nat.lt_of_lt_of_le hzb8 hB0.size)).trans d2, (hb.cell (p := ⟨b8, 3, none⟩) (Nat.lt_of_lt_of_le hzb8 hB0.size)).trans d3, (hb.cell (p := ⟨b8, 4, none⟩) (Nat.lt_of_lt_of_le hzb8 hB0.size)).trans d4, (hb.cell (p := ⟨ba, 0, none⟩) (Nat.lt_of_lt_of_le hba hB0.size)).trans f0, (hb.cell (p := ⟨ba, 1, none⟩) (Nat.lt_of_lt_of_le hba hB0.size)).trans f1, (hb.cell (p := ⟨ba, 2, none⟩) (Nat.lt_of_lt_of_le hba hB0.size)).trans f2, (hb.cell (p := ⟨ba, 3, none⟩) (Nat.lt_of_lt_of_le hba hB0.size)).trans f3, (hb.cell (p := ⟨ba, 4, none⟩) (Nat.lt_of_lt_of_le hba hB0.size)).trans f4⟩
  clear hK K hb hB0 hHeld2 hpx hkx PC KC
  (try simp only [Act.put, List.getElem_toArray, List.getElem_cons_zero, List.getElem_cons_succ, List.setIfInBounds_toArray, List.set_cons_zero, List.set_cons_succ])
  refine wpAnyH_take (i := 4) (oi := _) (v := ?_) rfl (by kernel_rfl) (by kernel_rfl) (by kernel_rfl) (fun _ _ _ h => h) (Or.inl ⟨by kernel_rfl, ?_⟩) (by assumption) ?_
  rotate_left
  · (intro w hSw; (try dsimp only at hSw); go_simp)
    try with_reducible rfl
  (try simp only [Act.put, List.getElem_toArray, List.getElem_cons_zero, List.getElem_cons_succ, List.setIfInBounds_toArray, List.set_cons_zero, List.set_cons_succ])
  refine wpAnyH_done (by kernel_rfl) ?_ _
  have hb := hHeld3.1
  clear hHeld3
  obtain ⟨w12, hw12⟩ : ∃ v, w' = v := ⟨_, rfl⟩
  rw [hw12] at hb ⊢
  clear hw12 w'
  replace f0 := (hb.cell (p := ⟨ba, 0, none⟩) (by first | omega | (dsimp only; omega))).trans f0
  replace f1 := (hb.cell (p := ⟨ba, 1, none⟩) (by first | omega | (dsimp only; omega))).trans f1
  replace f2 := (hb.cell (p := ⟨ba, 2, none⟩) (by first | omega | (dsimp only; omega))).trans f2
  replace f3 := (hb.cell (p := ⟨ba, 3, none⟩) (by first | omega | (dsimp only; omega))).trans f3
  replace f4 := (hb.cell (p := ⟨ba, 4, none⟩) (by first | omega | (dsimp only; omega))).trans f4
  replace a0 := (hb.cell (p := ⟨b6, 0, none⟩) (by first | omega | (dsimp only; omega))).trans a0
  replace a1 := (hb.cell (p := ⟨b6, 1, none⟩) (by first | omega | (dsimp only; omega))).trans a1
  replace a2 := (hb.cell (p := ⟨b6, 2, none⟩) (by first | omega | (dsimp only; omega))).trans a2
  replace a3 := (hb.cell (p := ⟨b6, 3, none⟩) (by first | omega | (dsimp only; omega))).trans a3
  replace a4 := (hb.cell (p := ⟨b6, 4, none⟩) (by first | omega | (dsimp only; omega))).trans a4
  replace d0 := (hb.cell (p := ⟨b8, 0, none⟩) (by first | omega | (dsimp only; omega))).trans d0
  replace d1 := (hb.cell (p := ⟨b8, 1, none⟩) (by first | omega | (dsimp only; omega))).trans d1
  replace d2 := (hb.cell (p := ⟨b8, 2, none⟩) (by first | omega | (dsimp only; omega))).trans d2
  replace d3 := (hb.cell (p := ⟨b8, 3, none⟩) (by first | omega | (dsimp only; omega))).trans d3
  replace d4 := (hb.cell (p := ⟨b8, 4, none⟩) (by first | omega | (dsimp only; omega))).trans d4
  replace e0 := (hb.cell (p := ⟨b10, 0, none⟩) (by first | omega | (dsimp only; omega))).trans e0
  replace e1 := (hb.cell (p := ⟨b10, 1, none⟩) (by first | omega | (dsimp only; omega))).trans e1
  replace e2 := (hb.cell (p := ⟨b10, 2, none⟩) (by first | omega | (dsimp only; omega))).trans e2
  replace e3 := (hb.cell (p := ⟨b10, 3, none⟩) (by first | omega | (dsimp only; omega))).trans e3
  replace e4 := (hb.cell (p := ⟨b10, 4, none⟩) (by first | omega | (dsimp only; omega))).trans e4
  replace HX := Lib.hid (more HX.out (Nat.le_refl _) hb)
  replace HW := Lib.hid (HW.out.trans (hb.mono (by have := HW.out.size; have := HS4.out; omega)))
  replace HO := Lib.hid (HO.out.later (by omega) hb)
  replace I8 := Lib.hid (I8.out.below hb)
  replace HG := Lib.hid (HG.out.later (by omega) hb)
  have hsz12 : w11.heap.size ≤ w12.heap.size := hb.size
  replace hba : ba < w12.heap.size := Nat.lt_of_lt_of_le hba hsz12
  replace hzb6 : b6 < w12.heap.size := Nat.lt_of_lt_of_le hzb6 hsz12
  replace hzb8 : b8 < w12.heap.size := Nat.lt_of_lt_of_le hzb8 hsz12
  replace hzb10 : b10 < w12.heap.size := Nat.lt_of_lt_of_le hzb10 hsz12
  clear hb hsz12
  go_wp2_with fail
  refine (K5.out _ (HI.out.below HX.out)).mono ?_
  rintro e w13 ⟨h0, rfl, ho, hb⟩
  replace f0 := (hb.cell (p := ⟨ba, 0, none⟩) (by first | omega | (dsimp only; omega))).trans f0
  replace f1 := (hb.cell (p := ⟨ba, 1, none⟩) (by first | omega | (dsimp only; omega))).trans f1
  replace f2 := (hb.cell (p := ⟨ba, 2, none⟩) (by first | omega | (dsimp only; omega))).trans f2
  replace f3 := (hb.cell (p := ⟨ba, 3, none⟩) (by first | omega | (dsimp only; omega))).trans f3
  replace f4 := (hb.cell (p := ⟨ba, 4, none⟩) (by first | omega | (dsimp only; omega))).trans f4
  replace a0 := (hb.cell (p := ⟨b6, 0, none⟩) (by first | omega | (dsimp only; omega))).trans a0
  replace a1 := (hb.cell (p := ⟨b6, 1, none⟩) (by first | omega | (dsimp only; omega))).trans a1
  replace a2 := (hb.cell (p := ⟨b6, 2, none⟩) (by first | omega | (dsimp only; omega))).trans a2
  replace a3 := (hb.cell (p := ⟨b6, 3, none⟩) (by first | omega | (dsimp only; omega))).trans a3
  replace a4 := (hb.cell (p := ⟨b6, 4, none⟩) (by first | omega | (dsimp only; omega))).trans a4
  replace d0 := (hb.cell (p := ⟨b8, 0, none⟩) (by first | omega | (dsimp only; omega))).trans d0
  replace d1 := (hb.cell (p := ⟨b8, 1, none⟩) (by first | omega | (dsimp only; omega))).trans d1
  replace d2 := (hb.cell (p := ⟨b8, 2, none⟩) (by first | omega | (dsimp only; omega))).trans d2
  replace d3 := (hb.cell (p := ⟨b8, 3, none⟩) (by first | omega | (dsimp only; omega))).trans d3
  replace d4 := (hb.cell (p := ⟨b8, 4, none⟩) (by first | omega | (dsimp only; omega))).trans d4
  replace e0 := (hb.cell (p := ⟨b10, 0, none⟩) (by first | omega | (dsimp only; omega))).trans e0
  replace e1 := (hb.cell (p := ⟨b10, 1, none⟩) (by first | omega | (dsimp only; omega))).trans e1
  replace e2 := (hb.cell (p := ⟨b10, 2, none⟩) (by first | omega | (dsimp only; omega))).trans e2
  replace e3 := (hb.cell (p := ⟨b10, 3, none⟩) (by first | omega | (dsimp only; omega))).trans e3
  replace e4 := (hb.cell (p := ⟨b10, 4, none⟩) (by first | omega | (dsimp only; omega))).trans e4
  replace HX := Lib.hid (more HX.out (Nat.le_refl _) hb)
  replace HW := Lib.hid (HW.out.trans (hb.mono (by have := HW.out.size; have := HS4.out; omega)))
  replace HO := Lib.hid (HO.out.later (by omega) hb)
  replace I8 := Lib.hid (I8.out.below hb)
  replace HG := Lib.hid (HG.out.later (by omega) hb)
  have hsz13 : w12.heap.size ≤ w13.heap.size := hb.size
  replace hba : ba < w13.heap.size := Nat.lt_of_lt_of_le hba hsz13
  replace hzb6 : b6 < w13.heap.size := Nat.lt_of_lt_of_le hzb6 hsz13
  replace hzb8 : b8 < w13.heap.size := Nat.lt_of_lt_of_le hzb8 hsz13
  replace hzb10 : b10 < w13.heap.size := Nat.lt_of_lt_of_le hzb10 hsz13
  have I1 := Lib.hid (IntL.of_own (zs := zs) (by rw [HM.out]; exact ho))
  clear hb hsz13 ho
  go_wp2_with fail
  refine (K6.out _ _ _ _ _ I8.out.lies I1.out).mono ?_
  rintro e w14 ⟨rfl, hb⟩
  replace f0 := (hb.cell (p := ⟨ba, 0, none⟩) (by first | omega | (dsimp only; omega))).trans f0
  replace f1 := (hb.cell (p := ⟨ba, 1, none⟩) (by first | omega | (dsimp only; omega))).trans f1
  replace f2 := (hb.cell (p := ⟨ba, 2, none⟩) (by first | omega | (dsimp only; omega))).trans f2
  replace f3 := (hb.cell (p := ⟨ba, 3, none⟩) (by first | omega | (dsimp only; omega))).trans f3
  replace f4 := (hb.cell (p := ⟨ba, 4, none⟩) (by first | omega | (dsimp only; omega))).trans f4
  replace a0 := (hb.cell (p := ⟨b6, 0, none⟩) (by first | omega | (dsimp only; omega))).trans a0
  replace a1 := (hb.cell (p := ⟨b6, 1, none⟩) (by first | omega | (dsimp only; omega))).trans a1
  replace a2 := (hb.cell (p := ⟨b6, 2, none⟩) (by first | omega | (dsimp only; omega))).trans a2
  replace a3 := (hb.cell (p := ⟨b6, 3, none⟩) (by first | omega | (dsimp only; omega))).trans a3
  replace a4 := (hb.cell (p := ⟨b6, 4, none⟩) (by first | omega | (dsimp only; omega))).trans a4
  replace d0 := (hb.cell (p := ⟨b8, 0, none⟩) (by first | omega | (dsimp only; omega))).trans d0
  replace d1 := (hb.cell (p := ⟨b8, 1, none⟩) (by first | omega | (dsimp only; omega))).trans d1
  replace d2 := (hb.cell (p := ⟨b8, 2, none⟩) (by first | omega | (dsimp only; omega))).trans d2
  replace d3 := (hb.cell (p := ⟨b8, 3, none⟩) (by first | omega | (dsimp only; omega))).trans d3
  replace d4 := (hb.cell (p := ⟨b8, 4, none⟩) (by first | omega | (dsimp only; omega))).trans d4
  replace e0 := (hb.cell (p := ⟨b10, 0, none⟩) (by first | omega | (dsimp only; omega))).trans e0
  replace e1 := (hb.cell (p := ⟨b10, 1, none⟩) (by first | omega | (dsimp only; omega))).trans e1
  replace e2 := (hb.cell (p := ⟨b10, 2, none⟩) (by first | omega | (dsimp only; omega))).trans e2
  replace e3 := (hb.cell (p := ⟨b10, 3, none⟩) (by first | omega | (dsimp only; omega))).trans e3
  replace e4 := (hb.cell (p := ⟨b10, 4, none⟩) (by first | omega | (dsimp only; omega))).trans e4
  replace HX := Lib.hid (more HX.out (Nat.le_refl _) hb)
  replace HW := Lib.hid (HW.out.trans (hb.mono (by have := HW.out.size; have := HS4.out; omega)))
  replace HO := Lib.hid (HO.out.later (by omega) hb)
  replace I8 := Lib.hid (I8.out.below hb)
  replace HG := Lib.hid (HG.out.later (by omega) hb)
  have hsz14 : w13.heap.size ≤ w14.heap.size := hb.size
  replace hba : ba < w14.heap.size := Nat.lt_of_lt_of_le hba hsz14
  replace hzb6 : b6 < w14.heap.size := Nat.lt_of_lt_of_le hzb6 hsz14
  replace hzb8 : b8 < w14.heap.size := Nat.lt_of_lt_of_le hzb8 hsz14
  replace hzb10 : b10 < w14.heap.size := Nat.lt_of_lt_of_le hzb10 hsz14
  clear hb hsz14 I1
  go_wp2_with fail
  obtain ⟨u9, hu9⟩ : ∃ q : Nat, 1 + 4 * np + wk = q := ⟨_, rfl⟩
  obtain ⟨v9, hv9⟩ : ∃ q : Nat, u9 + m = q := ⟨_, rfl⟩
  obtain ⟨y9, hy9⟩ : ∃ q : Nat, 1 + 4 * r.ps.length + wL r.ks = q := ⟨_, rfl⟩
  have HU9 := Lib.hid hu9
  have HV9 := Lib.hid hv9
  have HY9 := Lib.hid hy9
  have hu5 : u9 ≤ 50000000 := by omega
  have hneg : decide ((v9 : Int) < 0) = false := by simp
  have hneg2 : decide ((y9 : Int) < 0) = false := by simp
  clear hu9 hv9 hy9
  refine (KM.out _ _ _ _ w14 HO.out (by omega)).mono ?_
  rintro e w15 ⟨rfl, _, ht⟩
  replace f0 := (World.cell?_of_block (a := ⟨ba, 0, none⟩) (ht.block ba (by first | omega | (dsimp only; omega)) (by first | omega | (dsimp only; omega)))).trans f0
  replace f1 := (World.cell?_of_block (a := ⟨ba, 1, none⟩) (ht.block ba (by first | omega | (dsimp only; omega)) (by first | omega | (dsimp only; omega)))).trans f1
  replace f2 := (World.cell?_of_block (a := ⟨ba, 2, none⟩) (ht.block ba (by first | omega | (dsimp only; omega)) (by first | omega | (dsimp only; omega)))).trans f2
  replace f3 := (World.cell?_of_block (a := ⟨ba, 3, none⟩) (ht.block ba (by first | omega | (dsimp only; omega)) (by first | omega | (dsimp only; omega)))).trans f3
  replace f4 := (World.cell?_of_block (a := ⟨ba, 4, none⟩) (ht.block ba (by first | omega | (dsimp only; omega)) (by first | omega | (dsimp only; omega)))).trans f4
  replace a0 := (World.cell?_of_block (a := ⟨b6, 0, none⟩) (ht.block b6 (by first | omega | (dsimp only; omega)) (by first | omega | (dsimp only; omega)))).trans a0
  replace a1 := (World.cell?_of_block (a := ⟨b6, 1, none⟩) (ht.block b6 (by first | omega | (dsimp only; omega)) (by first | omega | (dsimp only; omega)))).trans a1
  replace a2 := (World.cell?_of_block (a := ⟨b6, 2, none⟩) (ht.block b6 (by first | omega | (dsimp only; omega)) (by first | omega | (dsimp only; omega)))).trans a2
  replace a3 := (World.cell?_of_block (a := ⟨b6, 3, none⟩) (ht.block b6 (by first | omega | (dsimp only; omega)) (by first | omega | (dsimp only; omega)))).trans a3
  replace a4 := (World.cell?_of_block (a := ⟨b6, 4, none⟩) (ht.block b6 (by first | omega | (dsimp only; omega)) (by first | omega | (dsimp only; omega)))).trans a4
  replace d0 := (World.cell?_of_block (a := ⟨b8, 0, none⟩) (ht.block b8 (by first | omega | (dsimp only; omega)) (by first | omega | (dsimp only; omega)))).trans d0
  replace d1 := (World.cell?_of_block (a := ⟨b8, 1, none⟩) (ht.block b8 (by first | omega | (dsimp only; omega)) (by first | omega | (dsimp only; omega)))).trans d1
  replace d2 := (World.cell?_of_block (a := ⟨b8, 2, none⟩) (ht.block b8 (by first | omega | (dsimp only; omega)) (by first | omega | (dsimp only; omega)))).trans d2
  replace d3 := (World.cell?_of_block (a := ⟨b8, 3, none⟩) (ht.block b8 (by first | omega | (dsimp only; omega)) (by first | omega | (dsimp only; omega)))).trans d3
  replace d4 := (World.cell?_of_block (a := ⟨b8, 4, none⟩) (ht.block b8 (by first | omega | (dsimp only; omega)) (by first | omega | (dsimp only; omega)))).trans d4
  replace e0 := (World.cell?_of_block (a := ⟨b10, 0, none⟩) (ht.block b10 (by first | omega | (dsimp only; omega)) (by first | omega | (dsimp only; omega)))).trans e0
  replace e1 := (World.cell?_of_block (a := ⟨b10, 1, none⟩) (ht.block b10 (by first | omega | (dsimp only; omega)) (by first | omega | (dsimp only; omega)))).trans e1
  replace e2 := (World.cell?_of_block (a := ⟨b10, 2, none⟩) (ht.block b10 (by first | omega | (dsimp only; omega)) (by first | omega | (dsimp only; omega)))).trans e2
  replace e3 := (World.cell?_of_block (a := ⟨b10, 3, none⟩) (ht.block b10 (by first | omega | (dsimp only; omega)) (by first | omega | (dsimp only; omega)))).trans e3
  replace e4 := (World.cell?_of_block (a := ⟨b10, 4, none⟩) (ht.block b10 (by first | omega | (dsimp only; omega)) (by first | omega | (dsimp only; omega)))).trans e4
  replace HX := Lib.hid (HX.out.trans (ht.below (by omega) (by have := HX.out.size; omega)))
  replace HW := Lib.hid (HW.out.trans (ht.below (by omega) (by have := HW.out.size; have := HS4.out; omega)))
  replace I8 := Lib.hid (I8.out.turn ht (by omega))
  replace HG := Lib.hid (HG.out.kept (fun b h1 h2 => ht.block b (by omega) (by omega)))
  have hsz15 : w14.heap.size ≤ w15.heap.size := ht.size
  replace hba : ba < w15.heap.size := Nat.lt_of_lt_of_le hba hsz15
  replace hzb6 : b6 < w15.heap.size := Nat.lt_of_lt_of_le hzb6 hsz15
  replace hzb8 : b8 < w15.heap.size := Nat.lt_of_lt_of_le hzb8 hsz15
  replace hzb10 : b10 < w15.heap.size := Nat.lt_of_lt_of_le hzb10 hsz15
  clear ht hsz15 HO
  rw [HU9.out]
  go_wp2_with fail
  refine (KI.out l1 m1 u9 _ _ w15 I8.out hu5).mono ?_
  rintro e w16 ⟨rfl, _, ht⟩
  replace f0 := (World.cell?_of_block (a := ⟨ba, 0, none⟩) (ht.block ba (by first | omega | (dsimp only; omega)) (by first | omega | (dsimp only; omega)))).trans f0
  replace f1 := (World.cell?_of_block (a := ⟨ba, 1, none⟩) (ht.block ba (by first | omega | (dsimp only; omega)) (by first | omega | (dsimp only; omega)))).trans f1
  replace f2 := (World.cell?_of_block (a := ⟨ba, 2, none⟩) (ht.block ba (by first | omega | (dsimp only; omega)) (by first | omega | (dsimp only; omega)))).trans f2
  replace f3 := (World.cell?_of_block (a := ⟨ba, 3, none⟩) (ht.block ba (by first | omega | (dsimp only; omega)) (by first | omega | (dsimp only; omega)))).trans f3
  replace f4 := (World.cell?_of_block (a := ⟨ba, 4, none⟩) (ht.block ba (by first | omega | (dsimp only; omega)) (by first | omega | (dsimp only; omega)))).trans f4
  replace a0 := (World.cell?_of_block (a := ⟨b6, 0, none⟩) (ht.block b6 (by first | omega | (dsimp only; omega)) (by first | omega | (dsimp only; omega)))).trans a0
  replace a1 := (World.cell?_of_block (a := ⟨b6, 1, none⟩) (ht.block b6 (by first | omega | (dsimp only; omega)) (by first | omega | (dsimp only; omega)))).trans a1
  replace a2 := (World.cell?_of_block (a := ⟨b6, 2, none⟩) (ht.block b6 (by first | omega | (dsimp only; omega)) (by first | omega | (dsimp only; omega)))).trans a2
  replace a3 := (World.cell?_of_block (a := ⟨b6, 3, none⟩) (ht.block b6 (by first | omega | (dsimp only; omega)) (by first | omega | (dsimp only; omega)))).trans a3
  replace a4 := (World.cell?_of_block (a := ⟨b6, 4, none⟩) (ht.block b6 (by first | omega | (dsimp only; omega)) (by first | omega | (dsimp only; omega)))).trans a4
  replace d0 := (World.cell?_of_block (a := ⟨b8, 0, none⟩) (ht.block b8 (by first | omega | (dsimp only; omega)) (by first | omega | (dsimp only; omega)))).trans d0
  replace d1 := (World.cell?_of_block (a := ⟨b8, 1, none⟩) (ht.block b8 (by first | omega | (dsimp only; omega)) (by first | omega | (dsimp only; omega)))).trans d1
  replace d2 := (World.cell?_of_block (a := ⟨b8, 2, none⟩) (ht.block b8 (by first | omega | (dsimp only; omega)) (by first | omega | (dsimp only; omega)))).trans d2
  replace d3 := (World.cell?_of_block (a := ⟨b8, 3, none⟩) (ht.block b8 (by first | omega | (dsimp only; omega)) (by first | omega | (dsimp only; omega)))).trans d3
  replace d4 := (World.cell?_of_block (a := ⟨b8, 4, none⟩) (ht.block b8 (by first | omega | (dsimp only; omega)) (by first | omega | (dsimp only; omega)))).trans d4
  replace e0 := (World.cell?_of_block (a := ⟨b10, 0, none⟩) (ht.block b10 (by first | omega | (dsimp only; omega)) (by first | omega | (dsimp only; omega)))).trans e0
  replace e1 := (World.cell?_of_block (a := ⟨b10, 1, none⟩) (ht.block b10 (by first | omega | (dsimp only; omega)) (by first | omega | (dsimp only; omega)))).trans e1
  replace e2 := (World.cell?_of_block (a := ⟨b10, 2, none⟩) (ht.block b10 (by first | omega | (dsimp only; omega)) (by first | omega | (dsimp only; omega)))).trans e2
  replace e3 := (World.cell?_of_block (a := ⟨b10, 3, none⟩) (ht.block b10 (by first | omega | (dsimp only; omega)) (by first | omega | (dsimp only; omega)))).trans e3
  replace e4 := (World.cell?_of_block (a := ⟨b10, 4, none⟩) (ht.block b10 (by first | omega | (dsimp only; omega)) (by first | omega | (dsimp only; omega)))).trans e4
  replace HX := Lib.hid (HX.out.trans (ht.below (by omega) (by have := HX.out.size; omega)))
  replace HW := Lib.hid (HW.out.trans (ht.below (by omega) (by have := HW.out.size; have := HS4.out; omega)))
  replace HG := Lib.hid (HG.out.kept (fun b h1 h2 => ht.block b (by omega) (by omega)))
  have hsz16 : w15.heap.size ≤ w16.heap.size := ht.size
  replace hba : ba < w16.heap.size := Nat.lt_of_lt_of_le hba hsz16
  replace hzb6 : b6 < w16.heap.size := Nat.lt_of_lt_of_le hzb6 hsz16
  replace hzb8 : b8 < w16.heap.size := Nat.lt_of_lt_of_le hzb8 hsz16
  replace hzb10 : b10 < w16.heap.size := Nat.lt_of_lt_of_le hzb10 hsz16
  clear ht hsz16 I8
  rw [HV9.out]
  go_wp2_with fail
  obtain ⟨hpx, hkx⟩ := UR.out _ _ _ _ _ _ _ HG.out
  refine (K4R.out _ _ _ _ _ _ _ _ _ hpx hkx (PW.out.below (by rw [HS4.out]; exact HW.out)) (QW.out.below (by rw [HS4.out]; exact HW.out))).mono ?_
  rintro e w17 ⟨rfl, hb⟩
  replace f0 := (hb.cell (p := ⟨ba, 0, none⟩) (by first | omega | (dsimp only; omega))).trans f0
  replace f1 := (hb.cell (p := ⟨ba, 1, none⟩) (by first | omega | (dsimp only; omega))).trans f1
  replace f2 := (hb.cell (p := ⟨ba, 2, none⟩) (by first | omega | (dsimp only; omega))).trans f2
  replace f3 := (hb.cell (p := ⟨ba, 3, none⟩) (by first | omega | (dsimp only; omega))).trans f3
  replace f4 := (hb.cell (p := ⟨ba, 4, none⟩) (by first | omega | (dsimp only; omega))).trans f4
  replace a0 := (hb.cell (p := ⟨b6, 0, none⟩) (by first | omega | (dsimp only; omega))).trans a0
  replace a1 := (hb.cell (p := ⟨b6, 1, none⟩) (by first | omega | (dsimp only; omega))).trans a1
  replace a2 := (hb.cell (p := ⟨b6, 2, none⟩) (by first | omega | (dsimp only; omega))).trans a2
  replace a3 := (hb.cell (p := ⟨b6, 3, none⟩) (by first | omega | (dsimp only; omega))).trans a3
  replace a4 := (hb.cell (p := ⟨b6, 4, none⟩) (by first | omega | (dsimp only; omega))).trans a4
  replace d0 := (hb.cell (p := ⟨b8, 0, none⟩) (by first | omega | (dsimp only; omega))).trans d0
  replace d1 := (hb.cell (p := ⟨b8, 1, none⟩) (by first | omega | (dsimp only; omega))).trans d1
  replace d2 := (hb.cell (p := ⟨b8, 2, none⟩) (by first | omega | (dsimp only; omega))).trans d2
  replace d3 := (hb.cell (p := ⟨b8, 3, none⟩) (by first | omega | (dsimp only; omega))).trans d3
  replace d4 := (hb.cell (p := ⟨b8, 4, none⟩) (by first | omega | (dsimp only; omega))).trans d4
  replace e0 := (hb.cell (p := ⟨b10, 0, none⟩) (by first | omega | (dsimp only; omega))).trans e0
  replace e1 := (hb.cell (p := ⟨b10, 1, none⟩) (by first | omega | (dsimp only; omega))).trans e1
  replace e2 := (hb.cell (p := ⟨b10, 2, none⟩) (by first | omega | (dsimp only; omega))).trans e2
  replace e3 := (hb.cell (p := ⟨b10, 3, none⟩) (by first | omega | (dsimp only; omega))).trans e3
  replace e4 := (hb.cell (p := ⟨b10, 4, none⟩) (by first | omega | (dsimp only; omega))).trans e4
  replace HX := Lib.hid (more HX.out (Nat.le_refl _) hb)
  replace HW := Lib.hid (HW.out.trans (hb.mono (by have := HW.out.size; have := HS4.out; omega)))
  replace HG := Lib.hid (HG.out.later (by omega) hb)
  have hsz17 : w16.heap.size ≤ w17.heap.size := hb.size
  replace hba : ba < w17.heap.size := Nat.lt_of_lt_of_le hba hsz17
  replace hzb6 : b6 < w17.heap.size := Nat.lt_of_lt_of_le hzb6 hsz17
  replace hzb8 : b8 < w17.heap.size := Nat.lt_of_lt_of_le hzb8 hsz17
  replace hzb10 : b10 < w17.heap.size := Nat.lt_of_lt_of_le hzb10 hsz17
  clear hb hsz17 hpx hkx
  go_wp2_with fail
  refine (KMR.out _ _ _ _ _ _ w17 HG.out (by omega)).mono ?_
  rintro e w18 ⟨rfl, ⟨m2, hdr2, P2, Q2, _, _, hp, hk⟩, ht⟩
  replace f0 := (World.cell?_of_block (a := ⟨ba, 0, none⟩) (ht.block ba (by first | omega | (dsimp only; omega)) (by first | omega | (dsimp only; omega)))).trans f0
  replace f1 := (World.cell?_of_block (a := ⟨ba, 1, none⟩) (ht.block ba (by first | omega | (dsimp only; omega)) (by first | omega | (dsimp only; omega)))).trans f1
  replace f2 := (World.cell?_of_block (a := ⟨ba, 2, none⟩) (ht.block ba (by first | omega | (dsimp only; omega)) (by first | omega | (dsimp only; omega)))).trans f2
  replace f3 := (World.cell?_of_block (a := ⟨ba, 3, none⟩) (ht.block ba (by first | omega | (dsimp only; omega)) (by first | omega | (dsimp only; omega)))).trans f3
  replace f4 := (World.cell?_of_block (a := ⟨ba, 4, none⟩) (ht.block ba (by first | omega | (dsimp only; omega)) (by first | omega | (dsimp only; omega)))).trans f4
  replace a0 := (World.cell?_of_block (a := ⟨b6, 0, none⟩) (ht.block b6 (by first | omega | (dsimp only; omega)) (by first | omega | (dsimp only; omega)))).trans a0
  replace a1 := (World.cell?_of_block (a := ⟨b6, 1, none⟩) (ht.block b6 (by first | omega | (dsimp only; omega)) (by first | omega | (dsimp only; omega)))).trans a1
  replace a2 := (World.cell?_of_block (a := ⟨b6, 2, none⟩) (ht.block b6 (by first | omega | (dsimp only; omega)) (by first | omega | (dsimp only; omega)))).trans a2
  replace a3 := (World.cell?_of_block (a := ⟨b6, 3, none⟩) (ht.block b6 (by first | omega | (dsimp only; omega)) (by first | omega | (dsimp only; omega)))).trans a3
  replace a4 := (World.cell?_of_block (a := ⟨b6, 4, none⟩) (ht.block b6 (by first | omega | (dsimp only; omega)) (by first | omega | (dsimp only; omega)))).trans a4
  replace d0 := (World.cell?_of_block (a := ⟨b8, 0, none⟩) (ht.block b8 (by first | omega | (dsimp only; omega)) (by first | omega | (dsimp only; omega)))).trans d0
  replace d1 := (World.cell?_of_block (a := ⟨b8, 1, none⟩) (ht.block b8 (by first | omega | (dsimp only; omega)) (by first | omega | (dsimp only; omega)))).trans d1
  replace d2 := (World.cell?_of_block (a := ⟨b8, 2, none⟩) (ht.block b8 (by first | omega | (dsimp only; omega)) (by first | omega | (dsimp only; omega)))).trans d2
  replace d3 := (World.cell?_of_block (a := ⟨b8, 3, none⟩) (ht.block b8 (by first | omega | (dsimp only; omega)) (by first | omega | (dsimp only; omega)))).trans d3
  replace d4 := (World.cell?_of_block (a := ⟨b8, 4, none⟩) (ht.block b8 (by first | omega | (dsimp only; omega)) (by first | omega | (dsimp only; omega)))).trans d4
  replace e0 := (World.cell?_of_block (a := ⟨b10, 0, none⟩) (ht.block b10 (by first | omega | (dsimp only; omega)) (by first | omega | (dsimp only; omega)))).trans e0
  replace e1 := (World.cell?_of_block (a := ⟨b10, 1, none⟩) (ht.block b10 (by first | omega | (dsimp only; omega)) (by first | omega | (dsimp only; omega)))).trans e1
  replace e2 := (World.cell?_of_block (a := ⟨b10, 2, none⟩) (ht.block b10 (by first | omega | (dsimp only; omega)) (by first | omega | (dsimp only; omega)))).trans e2
  replace e3 := (World.cell?_of_block (a := ⟨b10, 3, none⟩) (ht.block b10 (by first | omega | (dsimp only; omega)) (by first | omega | (dsimp only; omega)))).trans e3
  replace e4 := (World.cell?_of_block (a := ⟨b10, 4, none⟩) (ht.block b10 (by first | omega | (dsimp only; omega)) (by first | omega | (dsimp only; omega)))).trans e4
  replace HX := Lib.hid (HX.out.trans (ht.below (by omega) (by have := HX.out.size; omega)))
  replace HW := Lib.hid (HW.out.trans (ht.below (by omega) (by have := HW.out.size; have := HS4.out; omega)))
  have hsz18 : w17.heap.size ≤ w18.heap.size := ht.size
  replace hba : ba < w18.heap.size := Nat.lt_of_lt_of_le hba hsz18
  replace hzb6 : b6 < w18.heap.size := Nat.lt_of_lt_of_le hzb6 hsz18
  replace hzb8 : b8 < w18.heap.size := Nat.lt_of_lt_of_le hzb8 hsz18
  replace hzb10 : b10 < w18.heap.size := Nat.lt_of_lt_of_le hzb10 hsz18
  have PM := Lib.hid hp.lies
  have QM := Lib.hid hk.lies
  clear ht hsz18 HG hp hk
  rw [HY9.out]
  go_wp2_with fail
  refine (KH.out _ _ _ _ _ _ _ w18 PM.out QM.out).mono ?_
  rintro e w19 ⟨rfl, hb⟩
  replace f0 := (hb.cell (p := ⟨ba, 0, none⟩) (by first | omega | (dsimp only; omega))).trans f0
  replace f1 := (hb.cell (p := ⟨ba, 1, none⟩) (by first | omega | (dsimp only; omega))).trans f1
  replace f2 := (hb.cell (p := ⟨ba, 2, none⟩) (by first | omega | (dsimp only; omega))).trans f2
  replace f3 := (hb.cell (p := ⟨ba, 3, none⟩) (by first | omega | (dsimp only; omega))).trans f3
  replace f4 := (hb.cell (p := ⟨ba, 4, none⟩) (by first | omega | (dsimp only; omega))).trans f4
  replace a0 := (hb.cell (p := ⟨b6, 0, none⟩) (by first | omega | (dsimp only; omega))).trans a0
  replace a1 := (hb.cell (p := ⟨b6, 1, none⟩) (by first | omega | (dsimp only; omega))).trans a1
  replace a2 := (hb.cell (p := ⟨b6, 2, none⟩) (by first | omega | (dsimp only; omega))).trans a2
  replace a3 := (hb.cell (p := ⟨b6, 3, none⟩) (by first | omega | (dsimp only; omega))).trans a3
  replace a4 := (hb.cell (p := ⟨b6, 4, none⟩) (by first | omega | (dsimp only; omega))).trans a4
  replace d0 := (hb.cell (p := ⟨b8, 0, none⟩) (by first | omega | (dsimp only; omega))).trans d0
  replace d1 := (hb.cell (p := ⟨b8, 1, none⟩) (by first | omega | (dsimp only; omega))).trans d1
  replace d2 := (hb.cell (p := ⟨b8, 2, none⟩) (by first | omega | (dsimp only; omega))).trans d2
  replace d3 := (hb.cell (p := ⟨b8, 3, none⟩) (by first | omega | (dsimp only; omega))).trans d3
  replace d4 := (hb.cell (p := ⟨b8, 4, none⟩) (by first | omega | (dsimp only; omega))).trans d4
  replace e0 := (hb.cell (p := ⟨b10, 0, none⟩) (by first | omega | (dsimp only; omega))).trans e0
  replace e1 := (hb.cell (p := ⟨b10, 1, none⟩) (by first | omega | (dsimp only; omega))).trans e1
  replace e2 := (hb.cell (p := ⟨b10, 2, none⟩) (by first | omega | (dsimp only; omega))).trans e2
  replace e3 := (hb.cell (p := ⟨b10, 3, none⟩) (by first | omega | (dsimp only; omega))).trans e3
  replace e4 := (hb.cell (p := ⟨b10, 4, none⟩) (by first | omega | (dsimp only; omega))).trans e4
  replace HX := Lib.hid (more HX.out (Nat.le_refl _) hb)
  replace HW := Lib.hid (HW.out.trans (hb.mono (by have := HW.out.size; have := HS4.out; omega)))
  replace PM := Lib.hid (PM.out.below hb)
  replace QM := Lib.hid (QM.out.below hb)
  have hsz19 : w18.heap.size ≤ w19.heap.size := hb.size
  replace hba : ba < w19.heap.size := Nat.lt_of_lt_of_le hba hsz19
  replace hzb6 : b6 < w19.heap.size := Nat.lt_of_lt_of_le hzb6 hsz19
  replace hzb8 : b8 < w19.heap.size := Nat.lt_of_lt_of_le hzb8 hsz19
  replace hzb10 : b10 < w19.heap.size := Nat.lt_of_lt_of_le hzb10 hsz19
  clear hb hsz19
  rw [HY9.out]
  go_wp2_with fail
  refine (K1.out _ (HP.out.below HX.out) (HK.out.below HX.out)).mono ?_
  rintro e w20 ⟨g0, g1, rfl, hp, _, hk, hb⟩
  replace f0 := (hb.cell (p := ⟨ba, 0, none⟩) (by first | omega | (dsimp only; omega))).trans f0
  replace f1 := (hb.cell (p := ⟨ba, 1, none⟩) (by first | omega | (dsimp only; omega))).trans f1
  replace f2 := (hb.cell (p := ⟨ba, 2, none⟩) (by first | omega | (dsimp only; omega))).trans f2
  replace f3 := (hb.cell (p := ⟨ba, 3, none⟩) (by first | omega | (dsimp only; omega))).trans f3
  replace f4 := (hb.cell (p := ⟨ba, 4, none⟩) (by first | omega | (dsimp only; omega))).trans f4
  replace a0 := (hb.cell (p := ⟨b6, 0, none⟩) (by first | omega | (dsimp only; omega))).trans a0
  replace a1 := (hb.cell (p := ⟨b6, 1, none⟩) (by first | omega | (dsimp only; omega))).trans a1
  replace a2 := (hb.cell (p := ⟨b6, 2, none⟩) (by first | omega | (dsimp only; omega))).trans a2
  replace a3 := (hb.cell (p := ⟨b6, 3, none⟩) (by first | omega | (dsimp only; omega))).trans a3
  replace a4 := (hb.cell (p := ⟨b6, 4, none⟩) (by first | omega | (dsimp only; omega))).trans a4
  replace d0 := (hb.cell (p := ⟨b8, 0, none⟩) (by first | omega | (dsimp only; omega))).trans d0
  replace d1 := (hb.cell (p := ⟨b8, 1, none⟩) (by first | omega | (dsimp only; omega))).trans d1
  replace d2 := (hb.cell (p := ⟨b8, 2, none⟩) (by first | omega | (dsimp only; omega))).trans d2
  replace d3 := (hb.cell (p := ⟨b8, 3, none⟩) (by first | omega | (dsimp only; omega))).trans d3
  replace d4 := (hb.cell (p := ⟨b8, 4, none⟩) (by first | omega | (dsimp only; omega))).trans d4
  replace e0 := (hb.cell (p := ⟨b10, 0, none⟩) (by first | omega | (dsimp only; omega))).trans e0
  replace e1 := (hb.cell (p := ⟨b10, 1, none⟩) (by first | omega | (dsimp only; omega))).trans e1
  replace e2 := (hb.cell (p := ⟨b10, 2, none⟩) (by first | omega | (dsimp only; omega))).trans e2
  replace e3 := (hb.cell (p := ⟨b10, 3, none⟩) (by first | omega | (dsimp only; omega))).trans e3
  replace e4 := (hb.cell (p := ⟨b10, 4, none⟩) (by first | omega | (dsimp only; omega))).trans e4
  replace HX := Lib.hid (more HX.out (Nat.le_refl _) hb)
  replace HW := Lib.hid (HW.out.trans (hb.mono (by have := HW.out.size; have := HS4.out; omega)))
  replace PM := Lib.hid (PM.out.below hb)
  replace QM := Lib.hid (QM.out.below hb)
  have hsz20 : w19.heap.size ≤ w20.heap.size := hb.size
  replace hba : ba < w20.heap.size := Nat.lt_of_lt_of_le hba hsz20
  replace hzb6 : b6 < w20.heap.size := Nat.lt_of_lt_of_le hzb6 hsz20
  replace hzb8 : b8 < w20.heap.size := Nat.lt_of_lt_of_le hzb8 hsz20
  replace hzb10 : b10 < w20.heap.size := Nat.lt_of_lt_of_le hzb10 hsz20
  have P1 := Lib.hid hp
  have Q1 := Lib.hid (hk.mono (Nat.zero_le _))
  clear hb hsz20 hp hk
  go_wp2_with fail
  refine (K5.out _ (HI.out.below HX.out)).mono ?_
  rintro e w21 ⟨h0, rfl, ho, hb⟩
  replace f0 := (hb.cell (p := ⟨ba, 0, none⟩) (by first | omega | (dsimp only; omega))).trans f0
  replace f1 := (hb.cell (p := ⟨ba, 1, none⟩) (by first | omega | (dsimp only; omega))).trans f1
  replace f2 := (hb.cell (p := ⟨ba, 2, none⟩) (by first | omega | (dsimp only; omega))).trans f2
  replace f3 := (hb.cell (p := ⟨ba, 3, none⟩) (by first | omega | (dsimp only; omega))).trans f3
  replace f4 := (hb.cell (p := ⟨ba, 4, none⟩) (by first | omega | (dsimp only; omega))).trans f4
  replace a0 := (hb.cell (p := ⟨b6, 0, none⟩) (by first | omega | (dsimp only; omega))).trans a0
  replace a1 := (hb.cell (p := ⟨b6, 1, none⟩) (by first | omega | (dsimp only; omega))).trans a1
  replace a2 := (hb.cell (p := ⟨b6, 2, none⟩) (by first | omega | (dsimp only; omega))).trans a2
  replace a3 := (hb.cell (p := ⟨b6, 3, none⟩) (by first | omega | (dsimp only; omega))).trans a3
  replace a4 := (hb.cell (p := ⟨b6, 4, none⟩) (by first | omega | (dsimp only; omega))).trans a4
  replace d0 := (hb.cell (p := ⟨b8, 0, none⟩) (by first | omega | (dsimp only; omega))).trans d0
  replace d1 := (hb.cell (p := ⟨b8, 1, none⟩) (by first | omega | (dsimp only; omega))).trans d1
  replace d2 := (hb.cell (p := ⟨b8, 2, none⟩) (by first | omega | (dsimp only; omega))).trans d2
  replace d3 := (hb.cell (p := ⟨b8, 3, none⟩) (by first | omega | (dsimp only; omega))).trans d3
  replace d4 := (hb.cell (p := ⟨b8, 4, none⟩) (by first | omega | (dsimp only; omega))).trans d4
  replace e0 := (hb.cell (p := ⟨b10, 0, none⟩) (by first | omega | (dsimp only; omega))).trans e0
  replace e1 := (hb.cell (p := ⟨b10, 1, none⟩) (by first | omega | (dsimp only; omega))).trans e1
  replace e2 := (hb.cell (p := ⟨b10, 2, none⟩) (by first | omega | (dsimp only; omega))).trans e2
  replace e3 := (hb.cell (p := ⟨b10, 3, none⟩) (by first | omega | (dsimp only; omega))).trans e3
  replace e4 := (hb.cell (p := ⟨b10, 4, none⟩) (by first | omega | (dsimp only; omega))).trans e4
  replace HX := Lib.hid (more HX.out (Nat.le_refl _) hb)
  replace HW := Lib.hid (HW.out.trans (hb.mono (by have := HW.out.size; have := HS4.out; omega)))
  replace PM := Lib.hid (PM.out.below hb)
  replace QM := Lib.hid (QM.out.below hb)
  replace P1 := Lib.hid (P1.out.below hb)
  replace Q1 := Lib.hid (Q1.out.below hb)
  have hsz21 : w20.heap.size ≤ w21.heap.size := hb.size
  replace hba : ba < w21.heap.size := Nat.lt_of_lt_of_le hba hsz21
  replace hzb6 : b6 < w21.heap.size := Nat.lt_of_lt_of_le hzb6 hsz21
  replace hzb8 : b8 < w21.heap.size := Nat.lt_of_lt_of_le hzb8 hsz21
  replace hzb10 : b10 < w21.heap.size := Nat.lt_of_lt_of_le hzb10 hsz21
  have I1 := Lib.hid (IntL.of_own (zs := zs) (by rw [HM.out]; exact ho))
  clear hb hsz21 ho
  go_wp2_with fail
  refine (K3.out _ _ _ _ (HT.out.next HX.out) P1.out Q1.out I1.out).mono ?_
  rintro e w22 ⟨T0, T1, t0, t1, rfl, hto, hb⟩
  replace f0 := (hb.cell (p := ⟨ba, 0, none⟩) (by first | omega | (dsimp only; omega))).trans f0
  replace f1 := (hb.cell (p := ⟨ba, 1, none⟩) (by first | omega | (dsimp only; omega))).trans f1
  replace f2 := (hb.cell (p := ⟨ba, 2, none⟩) (by first | omega | (dsimp only; omega))).trans f2
  replace f3 := (hb.cell (p := ⟨ba, 3, none⟩) (by first | omega | (dsimp only; omega))).trans f3
  replace f4 := (hb.cell (p := ⟨ba, 4, none⟩) (by first | omega | (dsimp only; omega))).trans f4
  replace a0 := (hb.cell (p := ⟨b6, 0, none⟩) (by first | omega | (dsimp only; omega))).trans a0
  replace a1 := (hb.cell (p := ⟨b6, 1, none⟩) (by first | omega | (dsimp only; omega))).trans a1
  replace a2 := (hb.cell (p := ⟨b6, 2, none⟩) (by first | omega | (dsimp only; omega))).trans a2
  replace a3 := (hb.cell (p := ⟨b6, 3, none⟩) (by first | omega | (dsimp only; omega))).trans a3
  replace a4 := (hb.cell (p := ⟨b6, 4, none⟩) (by first | omega | (dsimp only; omega))).trans a4
  replace d0 := (hb.cell (p := ⟨b8, 0, none⟩) (by first | omega | (dsimp only; omega))).trans d0
  replace d1 := (hb.cell (p := ⟨b8, 1, none⟩) (by first | omega | (dsimp only; omega))).trans d1
  replace d2 := (hb.cell (p := ⟨b8, 2, none⟩) (by first | omega | (dsimp only; omega))).trans d2
  replace d3 := (hb.cell (p := ⟨b8, 3, none⟩) (by first | omega | (dsimp only; omega))).trans d3
  replace d4 := (hb.cell (p := ⟨b8, 4, none⟩) (by first | omega | (dsimp only; omega))).trans d4
  replace e0 := (hb.cell (p := ⟨b10, 0, none⟩) (by first | omega | (dsimp only; omega))).trans e0
  replace e1 := (hb.cell (p := ⟨b10, 1, none⟩) (by first | omega | (dsimp only; omega))).trans e1
  replace e2 := (hb.cell (p := ⟨b10, 2, none⟩) (by first | omega | (dsimp only; omega))).trans e2
  replace e3 := (hb.cell (p := ⟨b10, 3, none⟩) (by first | omega | (dsimp only; omega))).trans e3
  replace e4 := (hb.cell (p := ⟨b10, 4, none⟩) (by first | omega | (dsimp only; omega))).trans e4
  replace HX := Lib.hid (more HX.out (Nat.le_refl _) hb)
  replace HW := Lib.hid (HW.out.trans (hb.mono (by have := HW.out.size; have := HS4.out; omega)))
  replace PM := Lib.hid (PM.out.below hb)
  replace QM := Lib.hid (QM.out.below hb)
  have hsz22 : w21.heap.size ≤ w22.heap.size := hb.size
  replace hba : ba < w22.heap.size := Nat.lt_of_lt_of_le hba hsz22
  replace hzb6 : b6 < w22.heap.size := Nat.lt_of_lt_of_le hzb6 hsz22
  replace hzb8 : b8 < w22.heap.size := Nat.lt_of_lt_of_le hzb8 hsz22
  replace hzb10 : b10 < w22.heap.size := Nat.lt_of_lt_of_le hzb10 hsz22
  clear hb hsz22 P1 Q1 I1
  obtain ⟨l3, hl3⟩ : ∃ q, w21.heap.size = q := ⟨_, rfl⟩
  obtain ⟨m3, hm3⟩ : ∃ q, w22.heap.size = q := ⟨_, rfl⟩
  have HM3 := Lib.hid hm3
  rw [hl3] at hto
  clear hl3 hm3
  have hbab15 := Below.alloc (Below.refl w22.heap.size w22) (Nat.le_refl _) (.cells #[.int .i64 r.tag, .int .i64 r.key, .string r.text, .slice T0 r.ps.length t0, .slice T1 r.ks.length t1] 26)
  have HH := Lib.hid (hto.later (Nat.le_refl _) hbab15)
  clear hto
  have i0 : (w22.alloc (.cells #[.int .i64 r.tag, .int .i64 r.key, .string r.text, .slice T0 r.ps.length t0, .slice T1 r.ks.length t1] 26)).cell? ⟨w22.heap.size, 0, none⟩ = some (.int .i64 r.tag) := by rw [World.cell?_alloc_new]; rfl
  have i1 : (w22.alloc (.cells #[.int .i64 r.tag, .int .i64 r.key, .string r.text, .slice T0 r.ps.length t0, .slice T1 r.ks.length t1] 26)).cell? ⟨w22.heap.size, 1, none⟩ = some (.int .i64 r.key) := by rw [World.cell?_alloc_new]; rfl
  have i2 : (w22.alloc (.cells #[.int .i64 r.tag, .int .i64 r.key, .string r.text, .slice T0 r.ps.length t0, .slice T1 r.ks.length t1] 26)).cell? ⟨w22.heap.size, 2, none⟩ = some (.string r.text) := by rw [World.cell?_alloc_new]; rfl
  have i3 : (w22.alloc (.cells #[.int .i64 r.tag, .int .i64 r.key, .string r.text, .slice T0 r.ps.length t0, .slice T1 r.ks.length t1] 26)).cell? ⟨w22.heap.size, 3, none⟩ = some (.slice T0 r.ps.length t0) := by rw [World.cell?_alloc_new]; rfl
  have i4 : (w22.alloc (.cells #[.int .i64 r.tag, .int .i64 r.key, .string r.text, .slice T0 r.ps.length t0, .slice T1 r.ks.length t1] 26)).cell? ⟨w22.heap.size, 4, none⟩ = some (.slice T1 r.ks.length t1) := by rw [World.cell?_alloc_new]; rfl
  go_wp2_with fail
  have hb := hbab15
  clear hbab15
  obtain ⟨b15, hbox⟩ : ∃ q, w22.heap.size = q := ⟨_, rfl⟩
  have hzb15 : b15 < (w22.alloc (.cells #[.int .i64 r.tag, .int .i64 r.key, .string r.text, .slice T0 r.ps.length t0, .slice T1 r.ks.length t1] 26)).heap.size := by simp; omega
  obtain ⟨w23, hw2⟩ : ∃ v, w22.alloc (.cells #[.int .i64 r.tag, .int .i64 r.key, .string r.text, .slice T0 r.ps.length t0, .slice T1 r.ks.length t1] 26) = v := ⟨_, rfl⟩
  rw [hw2] at i0 i1 i2 i3 i4 hb hzb15 HH ⊢
  replace f0 := (hb.cell (p := ⟨ba, 0, none⟩) (by first | omega | (dsimp only; omega))).trans f0
  replace f1 := (hb.cell (p := ⟨ba, 1, none⟩) (by first | omega | (dsimp only; omega))).trans f1
  replace f2 := (hb.cell (p := ⟨ba, 2, none⟩) (by first | omega | (dsimp only; omega))).trans f2
  replace f3 := (hb.cell (p := ⟨ba, 3, none⟩) (by first | omega | (dsimp only; omega))).trans f3
  replace f4 := (hb.cell (p := ⟨ba, 4, none⟩) (by first | omega | (dsimp only; omega))).trans f4
  replace a0 := (hb.cell (p := ⟨b6, 0, none⟩) (by first | omega | (dsimp only; omega))).trans a0
  replace a1 := (hb.cell (p := ⟨b6, 1, none⟩) (by first | omega | (dsimp only; omega))).trans a1
  replace a2 := (hb.cell (p := ⟨b6, 2, none⟩) (by first | omega | (dsimp only; omega))).trans a2
  replace a3 := (hb.cell (p := ⟨b6, 3, none⟩) (by first | omega | (dsimp only; omega))).trans a3
  replace a4 := (hb.cell (p := ⟨b6, 4, none⟩) (by first | omega | (dsimp only; omega))).trans a4
  replace d0 := (hb.cell (p := ⟨b8, 0, none⟩) (by first | omega | (dsimp only; omega))).trans d0
  replace d1 := (hb.cell (p := ⟨b8, 1, none⟩) (by first | omega | (dsimp only; omega))).trans d1
  replace d2 := (hb.cell (p := ⟨b8, 2, none⟩) (by first | omega | (dsimp only; omega))).trans d2
  replace d3 := (hb.cell (p := ⟨b8, 3, none⟩) (by first | omega | (dsimp only; omega))).trans d3
  replace d4 := (hb.cell (p := ⟨b8, 4, none⟩) (by first | omega | (dsimp only; omega))).trans d4
  replace e0 := (hb.cell (p := ⟨b10, 0, none⟩) (by first | omega | (dsimp only; omega))).trans e0
  replace e1 := (hb.cell (p := ⟨b10, 1, none⟩) (by first | omega | (dsimp only; omega))).trans e1
  replace e2 := (hb.cell (p := ⟨b10, 2, none⟩) (by first | omega | (dsimp only; omega))).trans e2
  replace e3 := (hb.cell (p := ⟨b10, 3, none⟩) (by first | omega | (dsimp only; omega))).trans e3
  replace e4 := (hb.cell (p := ⟨b10, 4, none⟩) (by first | omega | (dsimp only; omega))).trans e4
  replace HX := Lib.hid (more HX.out (Nat.le_refl _) hb)
  replace HW := Lib.hid (HW.out.trans (hb.mono (by have := HW.out.size; have := HS4.out; omega)))
  replace PM := Lib.hid (PM.out.below hb)
  replace QM := Lib.hid (QM.out.below hb)
  have hsz23 : w22.heap.size ≤ w23.heap.size := hb.size
  replace hba : ba < w23.heap.size := Nat.lt_of_lt_of_le hba hsz23
  replace hzb6 : b6 < w23.heap.size := Nat.lt_of_lt_of_le hzb6 hsz23
  replace hzb8 : b8 < w23.heap.size := Nat.lt_of_lt_of_le hzb8 hsz23
  replace hzb10 : b10 < w23.heap.size := Nat.lt_of_lt_of_le hzb10 hsz23
  rw [hbox] at i0 i1 i2 i3 i4 ⊢
  clear hb hsz23 hw2 hbox
  obtain ⟨hpx, hkx⟩ := UR.out _ _ _ _ _ _ _ HH.out
  refine (K4R.out _ _ _ _ _ _ _ _ _ hpx hkx (PW.out.below (by rw [HS4.out]; exact HW.out)) (QW.out.below (by rw [HS4.out]; exact HW.out))).mono ?_
  rintro e w24 ⟨rfl, hb⟩
  replace f0 := (hb.cell (p := ⟨ba, 0, none⟩) (by first | omega | (dsimp only; omega))).trans f0
  replace f1 := (hb.cell (p := ⟨ba, 1, none⟩) (by first | omega | (dsimp only; omega))).trans f1
  replace f2 := (hb.cell (p := ⟨ba, 2, none⟩) (by first | omega | (dsimp only; omega))).trans f2
  replace f3 := (hb.cell (p := ⟨ba, 3, none⟩) (by first | omega | (dsimp only; omega))).trans f3
  replace f4 := (hb.cell (p := ⟨ba, 4, none⟩) (by first | omega | (dsimp only; omega))).trans f4
  replace a0 := (hb.cell (p := ⟨b6, 0, none⟩) (by first | omega | (dsimp only; omega))).trans a0
  replace a1 := (hb.cell (p := ⟨b6, 1, none⟩) (by first | omega | (dsimp only; omega))).trans a1
  replace a2 := (hb.cell (p := ⟨b6, 2, none⟩) (by first | omega | (dsimp only; omega))).trans a2
  replace a3 := (hb.cell (p := ⟨b6, 3, none⟩) (by first | omega | (dsimp only; omega))).trans a3
  replace a4 := (hb.cell (p := ⟨b6, 4, none⟩) (by first | omega | (dsimp only; omega))).trans a4
  replace d0 := (hb.cell (p := ⟨b8, 0, none⟩) (by first | omega | (dsimp only; omega))).trans d0
  replace d1 := (hb.cell (p := ⟨b8, 1, none⟩) (by first | omega | (dsimp only; omega))).trans d1
  replace d2 := (hb.cell (p := ⟨b8, 2, none⟩) (by first | omega | (dsimp only; omega))).trans d2
  replace d3 := (hb.cell (p := ⟨b8, 3, none⟩) (by first | omega | (dsimp only; omega))).trans d3
  replace d4 := (hb.cell (p := ⟨b8, 4, none⟩) (by first | omega | (dsimp only; omega))).trans d4
  replace e0 := (hb.cell (p := ⟨b10, 0, none⟩) (by first | omega | (dsimp only; omega))).trans e0
  replace e1 := (hb.cell (p := ⟨b10, 1, none⟩) (by first | omega | (dsimp only; omega))).trans e1
  replace e2 := (hb.cell (p := ⟨b10, 2, none⟩) (by first | omega | (dsimp only; omega))).trans e2
  replace e3 := (hb.cell (p := ⟨b10, 3, none⟩) (by first | omega | (dsimp only; omega))).trans e3
  replace e4 := (hb.cell (p := ⟨b10, 4, none⟩) (by first | omega | (dsimp only; omega))).trans e4
  replace i0 := (hb.cell (p := ⟨b15, 0, none⟩) (by first | omega | (dsimp only; omega))).trans i0
  replace i1 := (hb.cell (p := ⟨b15, 1, none⟩) (by first | omega | (dsimp only; omega))).trans i1
  replace i2 := (hb.cell (p := ⟨b15, 2, none⟩) (by first | omega | (dsimp only; omega))).trans i2
  replace i3 := (hb.cell (p := ⟨b15, 3, none⟩) (by first | omega | (dsimp only; omega))).trans i3
  replace i4 := (hb.cell (p := ⟨b15, 4, none⟩) (by first | omega | (dsimp only; omega))).trans i4
  replace HX := Lib.hid (more HX.out (Nat.le_refl _) hb)
  replace HW := Lib.hid (HW.out.trans (hb.mono (by have := HW.out.size; have := HS4.out; omega)))
  replace PM := Lib.hid (PM.out.below hb)
  replace QM := Lib.hid (QM.out.below hb)
  have hsz24 : w23.heap.size ≤ w24.heap.size := hb.size
  replace hba : ba < w24.heap.size := Nat.lt_of_lt_of_le hba hsz24
  replace hzb6 : b6 < w24.heap.size := Nat.lt_of_lt_of_le hzb6 hsz24
  replace hzb8 : b8 < w24.heap.size := Nat.lt_of_lt_of_le hzb8 hsz24
  replace hzb10 : b10 < w24.heap.size := Nat.lt_of_lt_of_le hzb10 hsz24
  replace hzb15 : b15 < w24.heap.size := Nat.lt_of_lt_of_le hzb15 hsz24
  clear hb hsz24 hpx hkx
  go_wp2_with fail
  refine (KH.out _ _ _ _ _ _ _ w24 PM.out QM.out).mono ?_
  rintro e w25 ⟨rfl, hb⟩
  replace f0 := (hb.cell (p := ⟨ba, 0, none⟩) (by first | omega | (dsimp only; omega))).trans f0
  replace f1 := (hb.cell (p := ⟨ba, 1, none⟩) (by first | omega | (dsimp only; omega))).trans f1
  replace f2 := (hb.cell (p := ⟨ba, 2, none⟩) (by first | omega | (dsimp only; omega))).trans f2
  replace f3 := (hb.cell (p := ⟨ba, 3, none⟩) (by first | omega | (dsimp only; omega))).trans f3
  replace f4 := (hb.cell (p := ⟨ba, 4, none⟩) (by first | omega | (dsimp only; omega))).trans f4
  replace a0 := (hb.cell (p := ⟨b6, 0, none⟩) (by first | omega | (dsimp only; omega))).trans a0
  replace a1 := (hb.cell (p := ⟨b6, 1, none⟩) (by first | omega | (dsimp only; omega))).trans a1
  replace a2 := (hb.cell (p := ⟨b6, 2, none⟩) (by first | omega | (dsimp only; omega))).trans a2
  replace a3 := (hb.cell (p := ⟨b6, 3, none⟩) (by first | omega | (dsimp only; omega))).trans a3
  replace a4 := (hb.cell (p := ⟨b6, 4, none⟩) (by first | omega | (dsimp only; omega))).trans a4
  replace d0 := (hb.cell (p := ⟨b8, 0, none⟩) (by first | omega | (dsimp only; omega))).trans d0
  replace d1 := (hb.cell (p := ⟨b8, 1, none⟩) (by first | omega | (dsimp only; omega))).trans d1
  replace d2 := (hb.cell (p := ⟨b8, 2, none⟩) (by first | omega | (dsimp only; omega))).trans d2
  replace d3 := (hb.cell (p := ⟨b8, 3, none⟩) (by first | omega | (dsimp only; omega))).trans d3
  replace d4 := (hb.cell (p := ⟨b8, 4, none⟩) (by first | omega | (dsimp only; omega))).trans d4
  replace e0 := (hb.cell (p := ⟨b10, 0, none⟩) (by first | omega | (dsimp only; omega))).trans e0
  replace e1 := (hb.cell (p := ⟨b10, 1, none⟩) (by first | omega | (dsimp only; omega))).trans e1
  replace e2 := (hb.cell (p := ⟨b10, 2, none⟩) (by first | omega | (dsimp only; omega))).trans e2
  replace e3 := (hb.cell (p := ⟨b10, 3, none⟩) (by first | omega | (dsimp only; omega))).trans e3
  replace e4 := (hb.cell (p := ⟨b10, 4, none⟩) (by first | omega | (dsimp only; omega))).trans e4
  replace i0 := (hb.cell (p := ⟨b15, 0, none⟩) (by first | omega | (dsimp only; omega))).trans i0
  replace i1 := (hb.cell (p := ⟨b15, 1, none⟩) (by first | omega | (dsimp only; omega))).trans i1
  replace i2 := (hb.cell (p := ⟨b15, 2, none⟩) (by first | omega | (dsimp only; omega))).trans i2
  replace i3 := (hb.cell (p := ⟨b15, 3, none⟩) (by first | omega | (dsimp only; omega))).trans i3
  replace i4 := (hb.cell (p := ⟨b15, 4, none⟩) (by first | omega | (dsimp only; omega))).trans i4
  replace HX := Lib.hid (more HX.out (Nat.le_refl _) hb)
  replace HW := Lib.hid (HW.out.trans (hb.mono (by have := HW.out.size; have := HS4.out; omega)))
  replace PM := Lib.hid (PM.out.below hb)
  replace QM := Lib.hid (QM.out.below hb)
  have hsz25 : w24.heap.size ≤ w25.heap.size := hb.size
  replace hba : ba < w25.heap.size := Nat.lt_of_lt_of_le hba hsz25
  replace hzb6 : b6 < w25.heap.size := Nat.lt_of_lt_of_le hzb6 hsz25
  replace hzb8 : b8 < w25.heap.size := Nat.lt_of_lt_of_le hzb8 hsz25
  replace hzb10 : b10 < w25.heap.size := Nat.lt_of_lt_of_le hzb10 hsz25
  replace hzb15 : b15 < w25.heap.size := Nat.lt_of_lt_of_le hzb15 hsz25
  clear hb hsz25
  rw [HY9.out]
  go_wp2_with fail
  go_ret
  exact ⟨rfl, HB0.out.trans (HX.out.mono HB0.out.size)⟩
end Go.Proofs.YtpkhpaioddommaaDoor.fnExactTreeAt
