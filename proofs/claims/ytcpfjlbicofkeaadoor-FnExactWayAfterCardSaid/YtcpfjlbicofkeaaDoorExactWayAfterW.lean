/- The law FnExactWayAfter answers true at every two trees and way, and leaves them as they were, where the library's variables stand. -/
import Derived.Test.YtcpfjlbicofkeaaDoorWpdM
import Derived.Test.YtcpfjlbicofkeaaDoorIto1
import Derived.Test.YtcpfjlbicofkeaaDoorTre4
import Derived.Test.YtcpfjlbicofkeaaDoorTre17
import Derived.Test.YtcpfjlbicofkeaaDoorTre18
import Derived.Deep.RegionHeld3
namespace Go.Proofs.YtcpfjlbicofkeaaDoor.fnExactWayAfter
open Go.Joins Go.ChangeShapes Go.WideShapes Go.ChangeAt Go.RowKit Go.Deep
open List renaming getElem_toArray → qa, getElem_cons_zero → qb, getElem_cons_succ → qc, setIfInBounds_toArray → qd, set_cons_zero → qe, set_cons_succ → qf
set_option linter.unusedVariables false
set_option linter.unusedSimpArgs false

theorem mk_tag (a b : Int) (s : ByteArray) (p : List Pr) (k : List Tr) : (Tr.mk a b s p k).tag = a := rfl
theorem mk_key (a b : Int) (s : ByteArray) (p : List Pr) (k : List Tr) : (Tr.mk a b s p k).key = b := rfl
theorem mk_text (a b : Int) (s : ByteArray) (p : List Pr) (k : List Tr) : (Tr.mk a b s p k).text = s := rfl
theorem mk_ps (a b : Int) (s : ByteArray) (p : List Pr) (k : List Tr) : (Tr.mk a b s p k).ps = p := rfl
theorem mk_ks (a b : Int) (s : ByteArray) (p : List Pr) (k : List Tr) : (Tr.mk a b s p k).ks = k := rfl
theorem IntO.of_row {w : World} {base lo c : Nat} {A : Option Addr} {zs : List Int} (h : w.ownsRow base 3 1 (.slice A zs.length c) zs.length (zV zs)) (hb : lo ≤ base) : IntO w lo w.heap.size A c zs := fun h0 => by
  rcases h.2 with ⟨_, hn⟩ | ⟨g, cap, cur, e, hbg, _⟩
  · omega
  · injection e with e1 e2 e3
    subst e1 e3
    exact ⟨g, rfl, Nat.le_trans hb hbg, (h.lt g rfl).2, row_less h (Nat.zero_le _)⟩
def RsX (rz : List Int) (ok : Bool) (w : World) (e : Ending) (w' : World) : Prop := ∃ (A : Option Addr) (c : Nat), e = .returned (.tuple #[.slice A rz.length c, .bool ok]) ∧ w'.ownsRow w.heap.size 3 1 (.slice A rz.length c) rz.length (zV rz) ∧ Below w.heap.size w w'
theorem waT_len (a b : Tr) (zs : List Int) : ((waT a b zs).getD []).length ≤ zs.length := by
  cases h : waT a b zs with
  | none => simp
  | some r =>
    unfold waT at h
    split at h
    · rw [Option.getD_some, waV_len zs a b r h]
      exact Nat.le_refl _
    · cases h
theorem shOk : ShOk Vs := ⟨fun w w' h hb => h.next hb, fun s w hl hv => ishown_any s w hl hv⟩
set_option maxRecDepth 100000 in
set_option maxHeartbeats 8000000 in
theorem walk (a b : Tr) (A A0 A1 B0 B1 : Option Addr) (c c0 c1 e0 e1 : Nat) (zs : List Int) (w : World) (hT : Vs w) (hzl : zs.length ≤ maxLen) (hsa : SmT a) (hwa : szT a ≤ 1048576 → KwT a) (hsb : SmT b) (hwb : szT b ≤ 1048576 → KwT b) (hp : PrL w A0 a.ps) (hk : TrL w 0 A1 a.ks) (hpb : PrL w B0 b.ps) (hkb : TrL w 0 B1 b.ks) (hi : IntL w A zs) :
    Calls Tryd.prog 3 #[.agg #[.int .i64 a.tag, .int .i64 a.key, .string a.text, .slice A0 a.ps.length c0, .slice A1 a.ks.length c1], .agg #[.int .i64 b.tag, .int .i64 b.key, .string b.text, .slice B0 b.ps.length e0, .slice B1 b.ks.length e1], .slice A zs.length c] w fun e w' => e = .returned (.bool true) ∧ Below w.heap.size w w' := by
  have hz := szTree_any a hsa 1048576 A0 A1 c0 c1
  have hz2 := fun left => szTree_any b hsb left B0 B1 e0 e1
  have k1 := fun h => toTree_any a (BdT.of_sz a h)
  have k1o := fun h => toTree_own a (BdT.of_sz a h)
  have k1b := fun h => toTree_any b (BdT.of_sz b h)
  have k1bo := fun h => toTree_own b (BdT.of_sz b h)
  have k2 := fun (hm : zs.length ≤ 1048576) (h : szT a ≤ 1048576) (h2 : szT b ≤ 1048576) C X0 X1 Y0 Y1 d p0 p1 q0 q1 w hpa ha hpb hb hz => (sWayAfter_any a b zs zs.length rfl hm hsa hsb (hwa h) (hwb h2) C X0 X1 Y0 Y1 d p0 p1 q0 q1 w hpa ha hpb hb hz).mono fun e w' h => (show RsX ((waT a b zs).getD []) (waT a b zs).isSome w e w' from h)
  have k3 := fun (hm : zs.length ≤ 1048576) (h : szT a ≤ 1048576) (h2 : szT b ≤ 1048576) C X0 X1 Y0 Y1 d p0 p1 q0 q1 w hv hpa ha hpb hb hz => (iWayAfter_any Vs shOk a b zs zs.length rfl hm hsa hsb (hwa h) (hwb h2) C X0 X1 Y0 Y1 d p0 p1 q0 q1 w hv hpa ha hpb hb hz).mono fun e w' h => (show RsX ((waT a b zs).getD []) (waT a b zs).isSome w e w' from h)
  have k4 := eqTree_any a hsa
  have k4b := eqTree_any b hsb
  have hrl := waT_len a b zs
  obtain ⟨rz, hrz⟩ : ∃ q, (waT a b zs).getD [] = q := ⟨_, rfl⟩
  obtain ⟨ok, hok⟩ : ∃ q, (waT a b zs).isSome = q := ⟨_, rfl⟩
  rw [hrz, hok] at k2 k3
  rw [hrz] at hrl
  have k5 := fun h A c w hi => toIntS_any A c zs w hi h
  have k6 := fun A B c d w ha hb => eqL_any A B c d zs zs w ha hb hzl hzl
  have k6r := fun A B c d w ha hb => eqL_any A B c d rz rz w ha hb (Nat.le_trans hrl hzl) (Nat.le_trans hrl hzl)
  rw [decide_eq_true rfl] at k6 k6r
  have ki := fun h lo hi k A c w ho (hk5 : k ≤ 50000000) => markInts_own lo hi k zs.length c A zs w ho rfl h hk5
  have kir := fun h lo hi k A c w ho (hk5 : k ≤ 50000000) => markInts_own lo hi k rz.length c A rz w ho rfl h hk5
  have kh := fun (h : rz.length ≤ 1048576) A c w ho => (heldInts_any A c 1 rz.length w ho h (by omega)).mono (fun e w' h => (show e = .returned (.int .i64 (1 + rz.length : Nat)) ∧ Below w.heap.size w w' from ⟨h.1, h.2 ▸ Below.refl _ _⟩))
  have km := fun h lo hi g0 g1 w ho hh => markTree_any a (BdT.of_sz a h) lo hi 1 a.ps.length a.ks.length (some ⟨g0, 0, none⟩) (some ⟨g1, 0, none⟩) w ho hh (by omega) (by have := wT_le a; rw [wT_eq] at this; omega)
  have kmb := fun h lo hi g0 g1 k w ho hh h0 h5 => markTree_any b (BdT.of_sz b h) lo hi k b.ps.length b.ks.length (some ⟨g0, 0, none⟩) (some ⟨g1, 0, none⟩) w ho hh h0 h5
  have hwk0 := wT_le a
  have hwk1 := wT_le b
  rw [wT_eq] at hwk0 hwk1
  unfold ToZX at k5
  unfold ToT ToX at k1 k1b
  unfold ToOT ToO at k1o k1bo
  unfold RsX at k2 k3
  unfold EqT at k4 k4b
  unfold MktX at km kmb
  have uo := fun w lo hi g0 g1 (h : TrO w lo hi [.int .i64 a.tag, .int .i64 a.key, .string a.text, .slice (some ⟨g0, 0, none⟩) a.ps.length a.ps.length, .slice (some ⟨g1, 0, none⟩) a.ks.length a.ks.length] a) => h.use
  have uob := fun w lo hi g0 g1 (h : TrO w lo hi [.int .i64 b.tag, .int .i64 b.key, .string b.text, .slice (some ⟨g0, 0, none⟩) b.ps.length b.ps.length, .slice (some ⟨g1, 0, none⟩) b.ks.length b.ks.length] b) => h.use
  have hzp := szT_pos a
  have hzp2 := szT_pos b
  obtain ⟨u, hu⟩ : ∃ u, szT a = u := ⟨_, rfl⟩
  obtain ⟨u2, hu2⟩ : ∃ u, szT b = u := ⟨_, rfl⟩
  rw [hu] at hz hzp k1 k1o k2 k3 km hwk0
  rw [hu2] at hz2 hzp2 k1b k1bo k2 k3 kmb hwk1
  obtain ⟨m, hm⟩ : ∃ m, zs.length = m := ⟨_, rfl⟩
  obtain ⟨m9, hm9⟩ : ∃ m, rz.length = m := ⟨_, rfl⟩
  have HM := Lib.hid hm
  have HM9 := Lib.hid hm9
  rw [hm9] at k2 k3 k6r kir kh hrl
  rw [hm] at hzl k2 k3 k5 k6 ki hrl ⊢
  unfold maxLen at hzl
  clear hsa hwa hsb hwb hu hu2 hm hm9 hrz hok
  obtain ⟨wk, hwk⟩ : ∃ q, wL a.ks = q := ⟨_, rfl⟩
  obtain ⟨wk2, hwk2⟩ : ∃ q, wL b.ks = q := ⟨_, rfl⟩
  rw [hwk] at km hwk0
  rw [hwk2] at kmb hwk1
  clear hwk hwk2
  obtain ⟨tag, key, text, ps, ks⟩ := a
  obtain ⟨tag2, key2, text2, ps2, ks2⟩ := b
  dsimp only [mk_tag, mk_key, mk_text, mk_ps, mk_ks] at hz hz2 k1 k1o k1b k1bo k2 k3 k4 k4b km kmb uo uob hp hk hpb hkb hwk0 hwk1 ⊢
  generalize ps.length = np at *
  generalize ks.length = n at *
  generalize ps2.length = np2 at *
  generalize ks2.length = n2 at *
  have hb0 : Below w.heap.size w ((w.alloc (.cells #[.int .i64 tag, .int .i64 key, .string text, .slice A0 np c0, .slice A1 n c1] 25)).alloc (.cells #[.int .i64 tag2, .int .i64 key2, .string text2, .slice B0 np2 e0, .slice B1 n2 e1] 25)) := (Below.alloc (Below.refl w.heap.size w) (Nat.le_refl _) _).alloc (by simp) _
  have HB0 := Lib.hid hb0
  have HP := Lib.hid (hp.below hb0)
  have HK := Lib.hid (hk.below hb0)
  have HPB := Lib.hid (hpb.below hb0)
  have HKB := Lib.hid (hkb.below hb0)
  have HI := Lib.hid (hi.below hb0)
  have HT := Lib.hid (hT.next hb0)
  have hbb : w.heap.size + 1 < ((w.alloc (.cells #[.int .i64 tag, .int .i64 key, .string text, .slice A0 np c0, .slice A1 n c1] 25)).alloc (.cells #[.int .i64 tag2, .int .i64 key2, .string text2, .slice B0 np2 e0, .slice B1 n2 e1] 25)).heap.size := by simp
  have hba : w.heap.size < ((w.alloc (.cells #[.int .i64 tag, .int .i64 key, .string text, .slice A0 np c0, .slice A1 n c1] 25)).alloc (.cells #[.int .i64 tag2, .int .i64 key2, .string text2, .slice B0 np2 e0, .slice B1 n2 e1] 25)).heap.size := Nat.lt_of_succ_lt hbb
  have f0 : ((w.alloc (.cells #[.int .i64 tag, .int .i64 key, .string text, .slice A0 np c0, .slice A1 n c1] 25)).alloc (.cells #[.int .i64 tag2, .int .i64 key2, .string text2, .slice B0 np2 e0, .slice B1 n2 e1] 25)).cell? ⟨w.heap.size, 0, none⟩ = some (.int .i64 tag) := by rw [Below.cell (Below.alloc (Below.refl (w.alloc (.cells #[.int .i64 tag, .int .i64 key, .string text, .slice A0 np c0, .slice A1 n c1] 25)).heap.size _) (Nat.le_refl _) _) (p := ⟨w.heap.size, 0, none⟩) (by simp), World.cell?_alloc_new]; rfl
  have f1 : ((w.alloc (.cells #[.int .i64 tag, .int .i64 key, .string text, .slice A0 np c0, .slice A1 n c1] 25)).alloc (.cells #[.int .i64 tag2, .int .i64 key2, .string text2, .slice B0 np2 e0, .slice B1 n2 e1] 25)).cell? ⟨w.heap.size, 1, none⟩ = some (.int .i64 key) := by rw [Below.cell (Below.alloc (Below.refl (w.alloc (.cells #[.int .i64 tag, .int .i64 key, .string text, .slice A0 np c0, .slice A1 n c1] 25)).heap.size _) (Nat.le_refl _) _) (p := ⟨w.heap.size, 1, none⟩) (by simp), World.cell?_alloc_new]; rfl
  have f2 : ((w.alloc (.cells #[.int .i64 tag, .int .i64 key, .string text, .slice A0 np c0, .slice A1 n c1] 25)).alloc (.cells #[.int .i64 tag2, .int .i64 key2, .string text2, .slice B0 np2 e0, .slice B1 n2 e1] 25)).cell? ⟨w.heap.size, 2, none⟩ = some (.string text) := by rw [Below.cell (Below.alloc (Below.refl (w.alloc (.cells #[.int .i64 tag, .int .i64 key, .string text, .slice A0 np c0, .slice A1 n c1] 25)).heap.size _) (Nat.le_refl _) _) (p := ⟨w.heap.size, 2, none⟩) (by simp), World.cell?_alloc_new]; rfl
  have f3 : ((w.alloc (.cells #[.int .i64 tag, .int .i64 key, .string text, .slice A0 np c0, .slice A1 n c1] 25)).alloc (.cells #[.int .i64 tag2, .int .i64 key2, .string text2, .slice B0 np2 e0, .slice B1 n2 e1] 25)).cell? ⟨w.heap.size, 3, none⟩ = some (.slice A0 np c0) := by rw [Below.cell (Below.alloc (Below.refl (w.alloc (.cells #[.int .i64 tag, .int .i64 key, .string text, .slice A0 np c0, .slice A1 n c1] 25)).heap.size _) (Nat.le_refl _) _) (p := ⟨w.heap.size, 3, none⟩) (by simp), World.cell?_alloc_new]; rfl
  have f4 : ((w.alloc (.cells #[.int .i64 tag, .int .i64 key, .string text, .slice A0 np c0, .slice A1 n c1] 25)).alloc (.cells #[.int .i64 tag2, .int .i64 key2, .string text2, .slice B0 np2 e0, .slice B1 n2 e1] 25)).cell? ⟨w.heap.size, 4, none⟩ = some (.slice A1 n c1) := by rw [Below.cell (Below.alloc (Below.refl (w.alloc (.cells #[.int .i64 tag, .int .i64 key, .string text, .slice A0 np c0, .slice A1 n c1] 25)).heap.size _) (Nat.le_refl _) _) (p := ⟨w.heap.size, 4, none⟩) (by simp), World.cell?_alloc_new]; rfl
  have y0 : ((w.alloc (.cells #[.int .i64 tag, .int .i64 key, .string text, .slice A0 np c0, .slice A1 n c1] 25)).alloc (.cells #[.int .i64 tag2, .int .i64 key2, .string text2, .slice B0 np2 e0, .slice B1 n2 e1] 25)).cell? ⟨w.heap.size + 1, 0, none⟩ = some (.int .i64 tag2) := by have h : ((w.alloc (.cells #[.int .i64 tag, .int .i64 key, .string text, .slice A0 np c0, .slice A1 n c1] 25)).alloc (.cells #[.int .i64 tag2, .int .i64 key2, .string text2, .slice B0 np2 e0, .slice B1 n2 e1] 25)).cell? ⟨(w.alloc (.cells #[.int .i64 tag, .int .i64 key, .string text, .slice A0 np c0, .slice A1 n c1] 25)).heap.size, 0, none⟩ = some (.int .i64 tag2) := (by rw [World.cell?_alloc_new]; rfl); rwa [World.size_alloc] at h
  have y1 : ((w.alloc (.cells #[.int .i64 tag, .int .i64 key, .string text, .slice A0 np c0, .slice A1 n c1] 25)).alloc (.cells #[.int .i64 tag2, .int .i64 key2, .string text2, .slice B0 np2 e0, .slice B1 n2 e1] 25)).cell? ⟨w.heap.size + 1, 1, none⟩ = some (.int .i64 key2) := by have h : ((w.alloc (.cells #[.int .i64 tag, .int .i64 key, .string text, .slice A0 np c0, .slice A1 n c1] 25)).alloc (.cells #[.int .i64 tag2, .int .i64 key2, .string text2, .slice B0 np2 e0, .slice B1 n2 e1] 25)).cell? ⟨(w.alloc (.cells #[.int .i64 tag, .int .i64 key, .string text, .slice A0 np c0, .slice A1 n c1] 25)).heap.size, 1, none⟩ = some (.int .i64 key2) := (by rw [World.cell?_alloc_new]; rfl); rwa [World.size_alloc] at h
  have y2 : ((w.alloc (.cells #[.int .i64 tag, .int .i64 key, .string text, .slice A0 np c0, .slice A1 n c1] 25)).alloc (.cells #[.int .i64 tag2, .int .i64 key2, .string text2, .slice B0 np2 e0, .slice B1 n2 e1] 25)).cell? ⟨w.heap.size + 1, 2, none⟩ = some (.string text2) := by have h : ((w.alloc (.cells #[.int .i64 tag, .int .i64 key, .string text, .slice A0 np c0, .slice A1 n c1] 25)).alloc (.cells #[.int .i64 tag2, .int .i64 key2, .string text2, .slice B0 np2 e0, .slice B1 n2 e1] 25)).cell? ⟨(w.alloc (.cells #[.int .i64 tag, .int .i64 key, .string text, .slice A0 np c0, .slice A1 n c1] 25)).heap.size, 2, none⟩ = some (.string text2) := (by rw [World.cell?_alloc_new]; rfl); rwa [World.size_alloc] at h
  have y3 : ((w.alloc (.cells #[.int .i64 tag, .int .i64 key, .string text, .slice A0 np c0, .slice A1 n c1] 25)).alloc (.cells #[.int .i64 tag2, .int .i64 key2, .string text2, .slice B0 np2 e0, .slice B1 n2 e1] 25)).cell? ⟨w.heap.size + 1, 3, none⟩ = some (.slice B0 np2 e0) := by have h : ((w.alloc (.cells #[.int .i64 tag, .int .i64 key, .string text, .slice A0 np c0, .slice A1 n c1] 25)).alloc (.cells #[.int .i64 tag2, .int .i64 key2, .string text2, .slice B0 np2 e0, .slice B1 n2 e1] 25)).cell? ⟨(w.alloc (.cells #[.int .i64 tag, .int .i64 key, .string text, .slice A0 np c0, .slice A1 n c1] 25)).heap.size, 3, none⟩ = some (.slice B0 np2 e0) := (by rw [World.cell?_alloc_new]; rfl); rwa [World.size_alloc] at h
  have y4 : ((w.alloc (.cells #[.int .i64 tag, .int .i64 key, .string text, .slice A0 np c0, .slice A1 n c1] 25)).alloc (.cells #[.int .i64 tag2, .int .i64 key2, .string text2, .slice B0 np2 e0, .slice B1 n2 e1] 25)).cell? ⟨w.heap.size + 1, 4, none⟩ = some (.slice B1 n2 e1) := by have h : ((w.alloc (.cells #[.int .i64 tag, .int .i64 key, .string text, .slice A0 np c0, .slice A1 n c1] 25)).alloc (.cells #[.int .i64 tag2, .int .i64 key2, .string text2, .slice B0 np2 e0, .slice B1 n2 e1] 25)).cell? ⟨(w.alloc (.cells #[.int .i64 tag, .int .i64 key, .string text, .slice A0 np c0, .slice A1 n c1] 25)).heap.size, 4, none⟩ = some (.slice B1 n2 e1) := (by rw [World.cell?_alloc_new]; rfl); rwa [World.size_alloc] at h
  have HX := Lib.hid (Below.refl ((w.alloc (.cells #[.int .i64 tag, .int .i64 key, .string text, .slice A0 np c0, .slice A1 n c1] 25)).alloc (.cells #[.int .i64 tag2, .int .i64 key2, .string text2, .slice B0 np2 e0, .slice B1 n2 e1] 25)).heap.size ((w.alloc (.cells #[.int .i64 tag, .int .i64 key, .string text, .slice A0 np c0, .slice A1 n c1] 25)).alloc (.cells #[.int .i64 tag2, .int .i64 key2, .string text2, .slice B0 np2 e0, .slice B1 n2 e1] 25)))
  obtain ⟨w0, hw0⟩ : ∃ v, ((w.alloc (.cells #[.int .i64 tag, .int .i64 key, .string text, .slice A0 np c0, .slice A1 n c1] 25)).alloc (.cells #[.int .i64 tag2, .int .i64 key2, .string text2, .slice B0 np2 e0, .slice B1 n2 e1] 25)) = v := ⟨_, rfl⟩
  rw [hw0] at HB0 HP HK HPB HKB HI HT hba hbb f0 f1 f2 f3 f4 y0 y1 y2 y3 y4 HX
  have hZ := fun w hp hk => hz w hp hk (by omega) (by omega)
  clear hp hk hpb hkb hi hT hz hb0
  by_cases hbig : (1048576 : Int) < (m : Int)
  · clear k1 k1o k1b k1bo k2 k3 k4 k4b k5 k6 k6r ki kir km kmb kh uo uob hZ hz2
    go_enter Tryd.func3, Tryd.ntmps3
    go_wp2_with fail
    go_ret
    exact ⟨rfl, by first | exact HB0.out | (rw [hw0]; exact HB0.out)⟩
  have hmle : m ≤ 1048576 := by omega
  have hm9le : m9 ≤ 1048576 := by omega
  have hbd : decide ((1048576 : Int) < (m : Int)) = false := by simp; omega
  by_cases hl : (1048576 : Int) < u
  · rw [leftV_neg hl] at hZ
    have HZ := Lib.hid hZ
    clear hZ k1 k1o k1b k1bo k2 k3 k4 k4b k5 k6 k6r ki kir km kmb kh uo uob hz2
    go_enter Tryd.func3, Tryd.ntmps3
    go_wp2_with fail
    (try rw [hw0])
    refine (HZ.out _ HP.out HK.out).mono ?_
    rintro e w1 ⟨rfl, hb⟩
    go_wp2_with fail
    go_ret
    exact ⟨rfl, HB0.out.trans (hb.mono HB0.out.size)⟩
  rw [leftV_pos (by omega)] at hZ
  have hle : u ≤ 1048576 := by omega
  obtain ⟨y, hzz⟩ : ∃ y, (1048576 : Int) - u = y := ⟨_, rfl⟩
  have hy0 : 0 ≤ y := by omega
  rw [hzz] at hZ
  have HZ := Lib.hid hZ
  have hZ2 := fun w hp hk => hz2 y w hp hk (by omega) hy0
  clear hz2 hZ
  by_cases hl2 : y < u2
  · rw [leftV_neg hl2] at hZ2
    have HZ2 := Lib.hid hZ2
    clear hZ2 k1 k1o k1b k1bo k2 k3 k4 k4b k5 k6 k6r ki kir km kmb kh uo uob
    go_enter Tryd.func3, Tryd.ntmps3
    go_wp2_with fail
    (try rw [hw0])
    refine (HZ.out _ HP.out HK.out).mono ?_
    rintro e w1 ⟨rfl, hb⟩
    have HB1 := Lib.hid hb
    replace y0 := (hb.cell (p := ⟨w.heap.size + 1, 0, none⟩) hbb).trans y0
    replace y1 := (hb.cell (p := ⟨w.heap.size + 1, 1, none⟩) hbb).trans y1
    replace y2 := (hb.cell (p := ⟨w.heap.size + 1, 2, none⟩) hbb).trans y2
    replace y3 := (hb.cell (p := ⟨w.heap.size + 1, 3, none⟩) hbb).trans y3
    replace y4 := (hb.cell (p := ⟨w.heap.size + 1, 4, none⟩) hbb).trans y4
    clear hb
    go_wp2_with fail
    refine (HZ2.out _ (HPB.out.below HB1.out) (HKB.out.below HB1.out)).mono ?_
    rintro e w2 ⟨rfl, hb⟩
    have HB2 := Lib.hid (more HB1.out (Nat.le_refl _) hb)
    clear hb
    go_wp2_with fail
    go_ret
    exact ⟨rfl, HB0.out.trans (HB2.out.mono HB0.out.size)⟩
  rw [leftV_pos (by omega)] at hZ2
  have hle2 : u2 ≤ 1048576 := by omega
  obtain ⟨y8, hzz2⟩ : ∃ y2, y - u2 = y2 := ⟨_, rfl⟩
  have hy2 : 0 ≤ y8 := by omega
  rw [hzz2] at hZ2
  have HZ2 := Lib.hid hZ2
  have K1 := Lib.hid (fun w hp hk => k1 hle A0 A1 c0 c1 w hp hk)
  have K1O := Lib.hid (fun w hp hk => k1o hle A0 A1 c0 c1 w hp hk)
  have K1B := Lib.hid (fun w hp hk => k1b hle2 B0 B1 e0 e1 w hp hk)
  have K1BO := Lib.hid (fun w hp hk => k1bo hle2 B0 B1 e0 e1 w hp hk)
  have K2 := Lib.hid (fun h0 g0 g1 q0 q1 w hpa ha hpb hb hz => k2 hmle hle hle2 (some ⟨h0, 0, none⟩) (some ⟨g0, 0, none⟩) (some ⟨g1, 0, none⟩) (some ⟨q0, 0, none⟩) (some ⟨q1, 0, none⟩) m np n np2 n2 w hpa ha hpb hb hz)
  have K3 := Lib.hid (fun h0 g0 g1 q0 q1 w hv hpa ha hpb hb hz => k3 hmle hle hle2 (some ⟨h0, 0, none⟩) (some ⟨g0, 0, none⟩) (some ⟨g1, 0, none⟩) (some ⟨q0, 0, none⟩) (some ⟨q1, 0, none⟩) m np n np2 n2 w hv hpa ha hpb hb hz)
  have K4 := Lib.hid (fun g0 g1 h0 h1 w hp hk hq hj => k4 (some ⟨g0, 0, none⟩) (some ⟨g1, 0, none⟩) (some ⟨h0, 0, none⟩) (some ⟨h1, 0, none⟩) np n np n w hp hk hq hj)
  have K4B := Lib.hid (fun g0 g1 h0 h1 w hp hk hq hj => k4b (some ⟨g0, 0, none⟩) (some ⟨g1, 0, none⟩) (some ⟨h0, 0, none⟩) (some ⟨h1, 0, none⟩) np2 n2 np2 n2 w hp hk hq hj)
  have K5 := Lib.hid (fun w hi => k5 hmle A c w hi)
  have K6 := Lib.hid k6
  have K6R := Lib.hid k6r
  have KI := Lib.hid (ki hmle)
  have KIR := Lib.hid (kir hm9le)
  have KH := Lib.hid (kh hm9le)
  have KM := Lib.hid (fun lo hi g0 g1 w ho hh => km hle lo hi g0 g1 w ho hh)
  have KMB := Lib.hid (fun lo hi g0 g1 k w ho hh h0 h5 => kmb hle2 lo hi g0 g1 k w ho hh h0 h5)
  have UO := Lib.hid uo
  have UOB := Lib.hid uob
  clear hZ2 k1 k1o k1b k1bo k2 k3 k4 k4b k5 k6 k6r ki kir km kmb kh uo uob hzz hzz2 hl hl2 hzp hzp2 hbig hrl
  obtain ⟨ba, hbaq⟩ : ∃ q, w.heap.size = q := ⟨_, rfl⟩
  rw [hbaq] at f0 f1 f2 f3 f4 hba y0 y1 y2 y3 y4 hbb
  obtain ⟨bb, hbbq⟩ : ∃ q, ba + 1 = q := ⟨_, rfl⟩
  rw [hbbq] at y0 y1 y2 y3 y4 hbb
  go_enter Tryd.func3, Tryd.ntmps3
  go_wp2_with fail
  (try rw [hw0])
  (try rw [hbaq])
  (try rw [hbbq])
  refine (HZ.out _ HP.out HK.out).mono ?_
  rintro e w1 ⟨rfl, hb⟩
  replace f0 := (hb.cell (p := ⟨ba, 0, none⟩) (by first | omega | (dsimp only; omega))).trans f0
  replace f1 := (hb.cell (p := ⟨ba, 1, none⟩) (by first | omega | (dsimp only; omega))).trans f1
  replace f2 := (hb.cell (p := ⟨ba, 2, none⟩) (by first | omega | (dsimp only; omega))).trans f2
  replace f3 := (hb.cell (p := ⟨ba, 3, none⟩) (by first | omega | (dsimp only; omega))).trans f3
  replace f4 := (hb.cell (p := ⟨ba, 4, none⟩) (by first | omega | (dsimp only; omega))).trans f4
  replace y0 := (hb.cell (p := ⟨bb, 0, none⟩) (by first | omega | (dsimp only; omega))).trans y0
  replace y1 := (hb.cell (p := ⟨bb, 1, none⟩) (by first | omega | (dsimp only; omega))).trans y1
  replace y2 := (hb.cell (p := ⟨bb, 2, none⟩) (by first | omega | (dsimp only; omega))).trans y2
  replace y3 := (hb.cell (p := ⟨bb, 3, none⟩) (by first | omega | (dsimp only; omega))).trans y3
  replace y4 := (hb.cell (p := ⟨bb, 4, none⟩) (by first | omega | (dsimp only; omega))).trans y4
  replace HX := Lib.hid (more HX.out (Nat.le_refl _) hb)
  have hsz1 : w0.heap.size ≤ w1.heap.size := hb.size
  replace hba : ba < w1.heap.size := Nat.lt_of_lt_of_le hba hsz1
  replace hbb : bb < w1.heap.size := Nat.lt_of_lt_of_le hbb hsz1
  clear hb hsz1 HZ
  go_wp2_with fail
  refine (HZ2.out _ (HPB.out.below HX.out) (HKB.out.below HX.out)).mono ?_
  rintro e w2 ⟨rfl, hb⟩
  replace f0 := (hb.cell (p := ⟨ba, 0, none⟩) (by first | omega | (dsimp only; omega))).trans f0
  replace f1 := (hb.cell (p := ⟨ba, 1, none⟩) (by first | omega | (dsimp only; omega))).trans f1
  replace f2 := (hb.cell (p := ⟨ba, 2, none⟩) (by first | omega | (dsimp only; omega))).trans f2
  replace f3 := (hb.cell (p := ⟨ba, 3, none⟩) (by first | omega | (dsimp only; omega))).trans f3
  replace f4 := (hb.cell (p := ⟨ba, 4, none⟩) (by first | omega | (dsimp only; omega))).trans f4
  replace y0 := (hb.cell (p := ⟨bb, 0, none⟩) (by first | omega | (dsimp only; omega))).trans y0
  replace y1 := (hb.cell (p := ⟨bb, 1, none⟩) (by first | omega | (dsimp only; omega))).trans y1
  replace y2 := (hb.cell (p := ⟨bb, 2, none⟩) (by first | omega | (dsimp only; omega))).trans y2
  replace y3 := (hb.cell (p := ⟨bb, 3, none⟩) (by first | omega | (dsimp only; omega))).trans y3
  replace y4 := (hb.cell (p := ⟨bb, 4, none⟩) (by first | omega | (dsimp only; omega))).trans y4
  replace HX := Lib.hid (more HX.out (Nat.le_refl _) hb)
  have hsz2 : w1.heap.size ≤ w2.heap.size := hb.size
  replace hba : ba < w2.heap.size := Nat.lt_of_lt_of_le hba hsz2
  replace hbb : bb < w2.heap.size := Nat.lt_of_lt_of_le hbb hsz2
  clear hb hsz2 HZ2
  go_wp2_with fail
  refine wp_region_held_drew (S := fun w' => Below w2.heap.size w2 w' ∧ w'.cell? ⟨ba, 0, none⟩ = some (.int .i64 tag) ∧ w'.cell? ⟨ba, 1, none⟩ = some (.int .i64 key) ∧ w'.cell? ⟨ba, 2, none⟩ = some (.string text) ∧ w'.cell? ⟨ba, 3, none⟩ = some (.slice A0 np c0) ∧ w'.cell? ⟨ba, 4, none⟩ = some (.slice A1 n c1) ∧ w'.cell? ⟨bb, 0, none⟩ = some (.int .i64 tag2) ∧ w'.cell? ⟨bb, 1, none⟩ = some (.int .i64 key2) ∧ w'.cell? ⟨bb, 2, none⟩ = some (.string text2) ∧ w'.cell? ⟨bb, 3, none⟩ = some (.slice B0 np2 e0) ∧ w'.cell? ⟨bb, 4, none⟩ = some (.slice B1 n2 e1)) (by kernel_rfl) ?_ (fun hHeld => ?_)
  · exact ⟨Below.drew (Below.refl _ _), f0, f1, f2, f3, f4, y0, y1, y2, y3, y4⟩
  refine wpAnyH_take (i := 0) (oi := _) (v := ?_) rfl (by kernel_rfl) (by kernel_rfl) (by kernel_rfl) (fun _ _ _ h => h) (Or.inl ⟨by kernel_rfl, ?_⟩) (by assumption) ?_
  rotate_left
  · (intro w hSw; (try dsimp only at hSw); go_simp)
    try with_reducible rfl
  (try simp only [Act.put, qa, qb, qc, qd, qe, qf])
  refine wpAnyH_take (i := 2) (oi := _) (v := ?_) rfl (by kernel_rfl) (by kernel_rfl) (by kernel_rfl) (fun _ _ _ h => h) (Or.inl ⟨by kernel_rfl, ?_⟩) (by assumption) ?_
  rotate_left
  · (intro w hSw; (try dsimp only at hSw); go_simp)
    try with_reducible rfl
  (try simp only [Act.put, qa, qb, qc, qd, qe, qf])
  refine wpAnyH_take (i := 4) (oi := _) (v := ?_) rfl (by kernel_rfl) (by kernel_rfl) (by kernel_rfl) (fun _ _ _ h => h) (Or.inl ⟨by kernel_rfl, ?_⟩) (by assumption) ?_
  rotate_left
  · (intro w hSw; (try dsimp only at hSw); go_simp)
    try with_reducible rfl
  (try simp only [Act.put, qa, qb, qc, qd, qe, qf])
  refine wpAnyH_ready (rs := [1]) (by kernel_rfl) (by simp) ?_
  refine AllReadyH.cons (o := _) rfl (fun K hK => ?_) AllReadyH.nil
  go_simp
  have hB0 := hHeld.1
  refine (K1.out _ (HP.out.below (more HX.out (Nat.le_refl _) hB0)) (HK.out.below (more HX.out (Nat.le_refl _) hB0))).mono ?_
  rintro e v0 ⟨g0, g1, rfl, hp, _, hk, hb⟩
  refine hK.out _ _ ?_ (fun hHeld2 => ?_)
  · obtain ⟨_, f0, f1, f2, f3, f4, y0, y1, y2, y3, y4⟩ := hHeld
    exact ⟨hB0.trans (hb.mono hB0.size), (hb.cell (p := ⟨ba, 0, none⟩) (Nat.lt_of_lt_of_le hba hB0.size)).trans f0, (hb.cell (p := ⟨ba, 1, none⟩) (Nat.lt_of_lt_of_le hba hB0.size)).trans f1, (hb.cell (p := ⟨ba, 2, none⟩) (Nat.lt_of_lt_of_le hba hB0.size)).trans f2, (hb.cell (p := ⟨ba, 3, none⟩) (Nat.lt_of_lt_of_le hba hB0.size)).trans f3, (hb.cell (p := ⟨ba, 4, none⟩) (Nat.lt_of_lt_of_le hba hB0.size)).trans f4, (hb.cell (p := ⟨bb, 0, none⟩) (Nat.lt_of_lt_of_le hbb hB0.size)).trans y0, (hb.cell (p := ⟨bb, 1, none⟩) (Nat.lt_of_lt_of_le hbb hB0.size)).trans y1, (hb.cell (p := ⟨bb, 2, none⟩) (Nat.lt_of_lt_of_le hbb hB0.size)).trans y2, (hb.cell (p := ⟨bb, 3, none⟩) (Nat.lt_of_lt_of_le hbb hB0.size)).trans y3, (hb.cell (p := ⟨bb, 4, none⟩) (Nat.lt_of_lt_of_le hbb hB0.size)).trans y4⟩
  have P1 := Lib.hid hp
  have Q1 := Lib.hid (hk.mono (Nat.zero_le _))
  clear hp hk
  clear hK K hb hB0 hHeld
  have hHeld := hHeld2
  clear hHeld2
  (try simp only [Act.put, qa, qb, qc, qd, qe, qf])
  refine wpAnyH_ready (rs := [3]) (by kernel_rfl) (by simp) ?_
  refine AllReadyH.cons (o := _) rfl (fun K hK => ?_) AllReadyH.nil
  go_simp
  have hB0 := hHeld.1
  refine (K1B.out _ (HPB.out.below (more HX.out (Nat.le_refl _) hB0)) (HKB.out.below (more HX.out (Nat.le_refl _) hB0))).mono ?_
  rintro e v1 ⟨g0b, g1b, rfl, hp, _, hk, hb⟩
  refine hK.out _ _ ?_ (fun hHeld2 => ?_)
  · obtain ⟨_, f0, f1, f2, f3, f4, y0, y1, y2, y3, y4⟩ := hHeld
    exact ⟨hB0.trans (hb.mono hB0.size), (hb.cell (p := ⟨ba, 0, none⟩) (Nat.lt_of_lt_of_le hba hB0.size)).trans f0, (hb.cell (p := ⟨ba, 1, none⟩) (Nat.lt_of_lt_of_le hba hB0.size)).trans f1, (hb.cell (p := ⟨ba, 2, none⟩) (Nat.lt_of_lt_of_le hba hB0.size)).trans f2, (hb.cell (p := ⟨ba, 3, none⟩) (Nat.lt_of_lt_of_le hba hB0.size)).trans f3, (hb.cell (p := ⟨ba, 4, none⟩) (Nat.lt_of_lt_of_le hba hB0.size)).trans f4, (hb.cell (p := ⟨bb, 0, none⟩) (Nat.lt_of_lt_of_le hbb hB0.size)).trans y0, (hb.cell (p := ⟨bb, 1, none⟩) (Nat.lt_of_lt_of_le hbb hB0.size)).trans y1, (hb.cell (p := ⟨bb, 2, none⟩) (Nat.lt_of_lt_of_le hbb hB0.size)).trans y2, (hb.cell (p := ⟨bb, 3, none⟩) (Nat.lt_of_lt_of_le hbb hB0.size)).trans y3, (hb.cell (p := ⟨bb, 4, none⟩) (Nat.lt_of_lt_of_le hbb hB0.size)).trans y4⟩
  replace P1 := Lib.hid (P1.out.below hb)
  replace Q1 := Lib.hid (Q1.out.below hb)
  have P2 := Lib.hid hp
  have Q2 := Lib.hid (hk.mono (Nat.zero_le _))
  clear hp hk
  clear hK K hb hB0 hHeld
  have hHeld := hHeld2
  clear hHeld2
  (try simp only [Act.put, qa, qb, qc, qd, qe, qf])
  refine wpAnyH_ready (rs := [5]) (by kernel_rfl) (by simp) ?_
  refine AllReadyH.cons (o := _) rfl (fun K hK => ?_) AllReadyH.nil
  go_simp
  have hB0 := hHeld.1
  refine (K5.out _ (HI.out.below (more HX.out (Nat.le_refl _) hB0))).mono ?_
  rintro e v2 ⟨h0, rfl, ho, hb⟩
  refine hK.out _ _ ?_ (fun hHeld2 => ?_)
  · obtain ⟨_, f0, f1, f2, f3, f4, y0, y1, y2, y3, y4⟩ := hHeld
    exact ⟨hB0.trans (hb.mono hB0.size), (hb.cell (p := ⟨ba, 0, none⟩) (Nat.lt_of_lt_of_le hba hB0.size)).trans f0, (hb.cell (p := ⟨ba, 1, none⟩) (Nat.lt_of_lt_of_le hba hB0.size)).trans f1, (hb.cell (p := ⟨ba, 2, none⟩) (Nat.lt_of_lt_of_le hba hB0.size)).trans f2, (hb.cell (p := ⟨ba, 3, none⟩) (Nat.lt_of_lt_of_le hba hB0.size)).trans f3, (hb.cell (p := ⟨ba, 4, none⟩) (Nat.lt_of_lt_of_le hba hB0.size)).trans f4, (hb.cell (p := ⟨bb, 0, none⟩) (Nat.lt_of_lt_of_le hbb hB0.size)).trans y0, (hb.cell (p := ⟨bb, 1, none⟩) (Nat.lt_of_lt_of_le hbb hB0.size)).trans y1, (hb.cell (p := ⟨bb, 2, none⟩) (Nat.lt_of_lt_of_le hbb hB0.size)).trans y2, (hb.cell (p := ⟨bb, 3, none⟩) (Nat.lt_of_lt_of_le hbb hB0.size)).trans y3, (hb.cell (p := ⟨bb, 4, none⟩) (Nat.lt_of_lt_of_le hbb hB0.size)).trans y4⟩
  replace P1 := Lib.hid (P1.out.below hb)
  replace Q1 := Lib.hid (Q1.out.below hb)
  replace P2 := Lib.hid (P2.out.below hb)
  replace Q2 := Lib.hid (Q2.out.below hb)
  have I1 := Lib.hid (IntL.of_own (zs := zs) (by rw [HM.out]; exact ho))
  clear ho
  clear hK K hb hB0 hHeld
  have hHeld := hHeld2
  clear hHeld2
  (try simp only [Act.put, qa, qb, qc, qd, qe, qf])
  refine wpAnyH_ready (rs := [6]) (by kernel_rfl) (by simp) ?_
  refine AllReadyH.cons (o := _) rfl (fun K hK => ?_) AllReadyH.nil
  go_simp
  have hB0 := hHeld.1
  refine (K2.out _ _ _ _ _ _ P1.out Q1.out P2.out Q2.out I1.out).mono ?_
  rintro e v3 ⟨R0, r0, rfl, ho, hb⟩
  refine hK.out _ _ ?_ (fun hHeld2 => ?_)
  · obtain ⟨_, f0, f1, f2, f3, f4, y0, y1, y2, y3, y4⟩ := hHeld
    exact ⟨hB0.trans (hb.mono hB0.size), (hb.cell (p := ⟨ba, 0, none⟩) (Nat.lt_of_lt_of_le hba hB0.size)).trans f0, (hb.cell (p := ⟨ba, 1, none⟩) (Nat.lt_of_lt_of_le hba hB0.size)).trans f1, (hb.cell (p := ⟨ba, 2, none⟩) (Nat.lt_of_lt_of_le hba hB0.size)).trans f2, (hb.cell (p := ⟨ba, 3, none⟩) (Nat.lt_of_lt_of_le hba hB0.size)).trans f3, (hb.cell (p := ⟨ba, 4, none⟩) (Nat.lt_of_lt_of_le hba hB0.size)).trans f4, (hb.cell (p := ⟨bb, 0, none⟩) (Nat.lt_of_lt_of_le hbb hB0.size)).trans y0, (hb.cell (p := ⟨bb, 1, none⟩) (Nat.lt_of_lt_of_le hbb hB0.size)).trans y1, (hb.cell (p := ⟨bb, 2, none⟩) (Nat.lt_of_lt_of_le hbb hB0.size)).trans y2, (hb.cell (p := ⟨bb, 3, none⟩) (Nat.lt_of_lt_of_le hbb hB0.size)).trans y3, (hb.cell (p := ⟨bb, 4, none⟩) (Nat.lt_of_lt_of_le hbb hB0.size)).trans y4⟩
  have HR0 := Lib.hid ho
  clear ho P1 Q1 P2 Q2 I1
  clear hK K hb hB0 hHeld
  have hHeld := hHeld2
  clear hHeld2
  (try simp only [Act.put, qa, qb, qc, qd, qe, qf])
  refine wpAnyH_take (i := 7) (oi := _) (v := ?_) rfl (by kernel_rfl) (by kernel_rfl) (by kernel_rfl) (fun _ _ _ h => h) (Or.inl ⟨by kernel_rfl, ?_⟩) (by assumption) ?_
  rotate_left
  · (intro w hSw; (try dsimp only at hSw); go_simp)
    try with_reducible rfl
  (try simp only [Act.put, qa, qb, qc, qd, qe, qf])
  refine wpAnyH_take (i := 8) (oi := _) (v := ?_) rfl (by kernel_rfl) (by kernel_rfl) (by kernel_rfl) (fun _ _ _ h => h) (Or.inl ⟨by kernel_rfl, ?_⟩) (by assumption) ?_
  rotate_left
  · (intro w hSw; (try dsimp only at hSw); go_simp)
    try with_reducible rfl
  (try simp only [Act.put, qa, qb, qc, qd, qe, qf])
  refine wpAnyH_take (i := 9) (oi := _) (v := ?_) rfl (by kernel_rfl) (by kernel_rfl) (by kernel_rfl) (fun _ _ _ h => h) (Or.inl ⟨by kernel_rfl, ?_⟩) (by assumption) ?_
  rotate_left
  · (intro w hSw; (try dsimp only at hSw); go_simp)
    try with_reducible rfl
  (try simp only [Act.put, qa, qb, qc, qd, qe, qf])
  refine wpAnyH_take (i := 10) (oi := _) (v := ?_) rfl (by kernel_rfl) (by kernel_rfl) (by kernel_rfl) (fun _ _ _ h => h) (Or.inl ⟨by kernel_rfl, ?_⟩) (by assumption) ?_
  rotate_left
  · (intro w hSw; (try dsimp only at hSw); go_simp)
    try with_reducible rfl
  (try simp only [Act.put, qa, qb, qc, qd, qe, qf])
  refine wpAnyH_take (i := 11) (oi := _) (v := ?_) rfl (by kernel_rfl) (by kernel_rfl) (by kernel_rfl) (fun _ _ _ h => h) (Or.inl ⟨by kernel_rfl, ?_⟩) (by assumption) ?_
  rotate_left
  · (intro w hSw; (try dsimp only at hSw); go_simp)
    try with_reducible rfl
  (try simp only [Act.put, qa, qb, qc, qd, qe, qf])
  refine wpAnyH_done (by kernel_rfl) ?_ _
  have hb := hHeld.1
  clear hHeld
  obtain ⟨w3, hlast⟩ : ∃ v, v3 = v := ⟨_, rfl⟩
  rw [hlast] at hb ⊢
  replace f0 := (hb.cell (p := ⟨ba, 0, none⟩) (by first | omega | (dsimp only; omega))).trans f0
  replace f1 := (hb.cell (p := ⟨ba, 1, none⟩) (by first | omega | (dsimp only; omega))).trans f1
  replace f2 := (hb.cell (p := ⟨ba, 2, none⟩) (by first | omega | (dsimp only; omega))).trans f2
  replace f3 := (hb.cell (p := ⟨ba, 3, none⟩) (by first | omega | (dsimp only; omega))).trans f3
  replace f4 := (hb.cell (p := ⟨ba, 4, none⟩) (by first | omega | (dsimp only; omega))).trans f4
  replace y0 := (hb.cell (p := ⟨bb, 0, none⟩) (by first | omega | (dsimp only; omega))).trans y0
  replace y1 := (hb.cell (p := ⟨bb, 1, none⟩) (by first | omega | (dsimp only; omega))).trans y1
  replace y2 := (hb.cell (p := ⟨bb, 2, none⟩) (by first | omega | (dsimp only; omega))).trans y2
  replace y3 := (hb.cell (p := ⟨bb, 3, none⟩) (by first | omega | (dsimp only; omega))).trans y3
  replace y4 := (hb.cell (p := ⟨bb, 4, none⟩) (by first | omega | (dsimp only; omega))).trans y4
  replace HX := Lib.hid (more HX.out (Nat.le_refl _) hb)
  have hsz3 : w2.heap.size ≤ w3.heap.size := hb.size
  replace hba : ba < w3.heap.size := Nat.lt_of_lt_of_le hba hsz3
  replace hbb : bb < w3.heap.size := Nat.lt_of_lt_of_le hbb hsz3
  rw [hlast] at HR0
  obtain ⟨L, hL⟩ : ∃ q, w3.heap.size = q := ⟨_, rfl⟩
  have HR := Lib.hid (IntO.of_row (lo := 0) (zs := rz) (by rw [HM9.out]; exact HR0.out) (Nat.zero_le _))
  rw [hL] at HR
  have hbaL : ba < L := by omega
  have hbbL : bb < L := by omega
  have h0L : w0.heap.size ≤ L := by have := HX.out.size; omega
  clear hlast HR0 hb hsz3
  go_wp2_with fail
  refine (K1O.out _ (HP.out.below HX.out) (HK.out.below HX.out)).mono ?_
  rintro e w4 ⟨gx0, gx1, rfl, hto, hb⟩
  have hL' := hL
  replace f0 := (hb.cell (p := ⟨ba, 0, none⟩) (by first | omega | (dsimp only; omega))).trans f0
  replace f1 := (hb.cell (p := ⟨ba, 1, none⟩) (by first | omega | (dsimp only; omega))).trans f1
  replace f2 := (hb.cell (p := ⟨ba, 2, none⟩) (by first | omega | (dsimp only; omega))).trans f2
  replace f3 := (hb.cell (p := ⟨ba, 3, none⟩) (by first | omega | (dsimp only; omega))).trans f3
  replace f4 := (hb.cell (p := ⟨ba, 4, none⟩) (by first | omega | (dsimp only; omega))).trans f4
  replace y0 := (hb.cell (p := ⟨bb, 0, none⟩) (by first | omega | (dsimp only; omega))).trans y0
  replace y1 := (hb.cell (p := ⟨bb, 1, none⟩) (by first | omega | (dsimp only; omega))).trans y1
  replace y2 := (hb.cell (p := ⟨bb, 2, none⟩) (by first | omega | (dsimp only; omega))).trans y2
  replace y3 := (hb.cell (p := ⟨bb, 3, none⟩) (by first | omega | (dsimp only; omega))).trans y3
  replace y4 := (hb.cell (p := ⟨bb, 4, none⟩) (by first | omega | (dsimp only; omega))).trans y4
  replace HX := Lib.hid (more HX.out (Nat.le_refl _) hb)
  replace HR := Lib.hid (HR.out.below hb)
  have hsz4 : w3.heap.size ≤ w4.heap.size := hb.size
  replace hba : ba < w4.heap.size := Nat.lt_of_lt_of_le hba hsz4
  replace hbb : bb < w4.heap.size := Nat.lt_of_lt_of_le hbb hsz4
  obtain ⟨H, hH⟩ : ∃ q, w4.heap.size = q := ⟨_, rfl⟩
  have hLH : L ≤ H := by omega
  have HHQ := Lib.hid hH
  rw [hL] at hto
  clear hb hH hsz4 hL hL'
  have hbabx := Below.alloc (Below.refl w4.heap.size w4) (Nat.le_refl _) (.cells #[.int .i64 tag, .int .i64 key, .string text, .slice (some ⟨gx0, 0, none⟩) np np, .slice (some ⟨gx1, 0, none⟩) n n] 33)
  have HO := Lib.hid (hto.later (Nat.le_refl _) hbabx)
  rw [HHQ.out] at HO
  clear hto
  have d0 : (w4.alloc (.cells #[.int .i64 tag, .int .i64 key, .string text, .slice (some ⟨gx0, 0, none⟩) np np, .slice (some ⟨gx1, 0, none⟩) n n] 33)).cell? ⟨w4.heap.size, 0, none⟩ = some (.int .i64 tag) := by rw [World.cell?_alloc_new]; rfl
  have d1 : (w4.alloc (.cells #[.int .i64 tag, .int .i64 key, .string text, .slice (some ⟨gx0, 0, none⟩) np np, .slice (some ⟨gx1, 0, none⟩) n n] 33)).cell? ⟨w4.heap.size, 1, none⟩ = some (.int .i64 key) := by rw [World.cell?_alloc_new]; rfl
  have d2 : (w4.alloc (.cells #[.int .i64 tag, .int .i64 key, .string text, .slice (some ⟨gx0, 0, none⟩) np np, .slice (some ⟨gx1, 0, none⟩) n n] 33)).cell? ⟨w4.heap.size, 2, none⟩ = some (.string text) := by rw [World.cell?_alloc_new]; rfl
  have d3 : (w4.alloc (.cells #[.int .i64 tag, .int .i64 key, .string text, .slice (some ⟨gx0, 0, none⟩) np np, .slice (some ⟨gx1, 0, none⟩) n n] 33)).cell? ⟨w4.heap.size, 3, none⟩ = some (.slice (some ⟨gx0, 0, none⟩) np np) := by rw [World.cell?_alloc_new]; rfl
  have d4 : (w4.alloc (.cells #[.int .i64 tag, .int .i64 key, .string text, .slice (some ⟨gx0, 0, none⟩) np np, .slice (some ⟨gx1, 0, none⟩) n n] 33)).cell? ⟨w4.heap.size, 4, none⟩ = some (.slice (some ⟨gx1, 0, none⟩) n n) := by rw [World.cell?_alloc_new]; rfl
  go_wp2_with fail
  have hb := hbabx
  clear hbabx
  obtain ⟨bx, hbox⟩ : ∃ q, w4.heap.size = q := ⟨_, rfl⟩
  have hzbx : bx < (w4.alloc (.cells #[.int .i64 tag, .int .i64 key, .string text, .slice (some ⟨gx0, 0, none⟩) np np, .slice (some ⟨gx1, 0, none⟩) n n] 33)).heap.size := by simp; omega
  have hHbx : H ≤ bx := by have := HHQ.out; omega
  obtain ⟨w5, hw2⟩ : ∃ v, w4.alloc (.cells #[.int .i64 tag, .int .i64 key, .string text, .slice (some ⟨gx0, 0, none⟩) np np, .slice (some ⟨gx1, 0, none⟩) n n] 33) = v := ⟨_, rfl⟩
  rw [hw2] at d0 d1 d2 d3 d4 hb hzbx HO ⊢
  replace f0 := (hb.cell (p := ⟨ba, 0, none⟩) (by first | omega | (dsimp only; omega))).trans f0
  replace f1 := (hb.cell (p := ⟨ba, 1, none⟩) (by first | omega | (dsimp only; omega))).trans f1
  replace f2 := (hb.cell (p := ⟨ba, 2, none⟩) (by first | omega | (dsimp only; omega))).trans f2
  replace f3 := (hb.cell (p := ⟨ba, 3, none⟩) (by first | omega | (dsimp only; omega))).trans f3
  replace f4 := (hb.cell (p := ⟨ba, 4, none⟩) (by first | omega | (dsimp only; omega))).trans f4
  replace y0 := (hb.cell (p := ⟨bb, 0, none⟩) (by first | omega | (dsimp only; omega))).trans y0
  replace y1 := (hb.cell (p := ⟨bb, 1, none⟩) (by first | omega | (dsimp only; omega))).trans y1
  replace y2 := (hb.cell (p := ⟨bb, 2, none⟩) (by first | omega | (dsimp only; omega))).trans y2
  replace y3 := (hb.cell (p := ⟨bb, 3, none⟩) (by first | omega | (dsimp only; omega))).trans y3
  replace y4 := (hb.cell (p := ⟨bb, 4, none⟩) (by first | omega | (dsimp only; omega))).trans y4
  replace HX := Lib.hid (more HX.out (Nat.le_refl _) hb)
  replace HR := Lib.hid (HR.out.below hb)
  have hsz5 : w4.heap.size ≤ w5.heap.size := hb.size
  replace hba : ba < w5.heap.size := Nat.lt_of_lt_of_le hba hsz5
  replace hbb : bb < w5.heap.size := Nat.lt_of_lt_of_le hbb hsz5
  rw [hbox] at d0 d1 d2 d3 d4 ⊢
  clear hb hsz5 hw2 hbox
  clear HHQ
  refine (K1BO.out _ (HPB.out.below HX.out) (HKB.out.below HX.out)).mono ?_
  rintro e w6 ⟨gy0, gy1, rfl, hto, hb⟩
  obtain ⟨L2, hL2⟩ : ∃ q, w5.heap.size = q := ⟨_, rfl⟩
  have hbxL2 : bx < L2 := by omega
  replace f0 := (hb.cell (p := ⟨ba, 0, none⟩) (by first | omega | (dsimp only; omega))).trans f0
  replace f1 := (hb.cell (p := ⟨ba, 1, none⟩) (by first | omega | (dsimp only; omega))).trans f1
  replace f2 := (hb.cell (p := ⟨ba, 2, none⟩) (by first | omega | (dsimp only; omega))).trans f2
  replace f3 := (hb.cell (p := ⟨ba, 3, none⟩) (by first | omega | (dsimp only; omega))).trans f3
  replace f4 := (hb.cell (p := ⟨ba, 4, none⟩) (by first | omega | (dsimp only; omega))).trans f4
  replace y0 := (hb.cell (p := ⟨bb, 0, none⟩) (by first | omega | (dsimp only; omega))).trans y0
  replace y1 := (hb.cell (p := ⟨bb, 1, none⟩) (by first | omega | (dsimp only; omega))).trans y1
  replace y2 := (hb.cell (p := ⟨bb, 2, none⟩) (by first | omega | (dsimp only; omega))).trans y2
  replace y3 := (hb.cell (p := ⟨bb, 3, none⟩) (by first | omega | (dsimp only; omega))).trans y3
  replace y4 := (hb.cell (p := ⟨bb, 4, none⟩) (by first | omega | (dsimp only; omega))).trans y4
  replace d0 := (hb.cell (p := ⟨bx, 0, none⟩) (by first | omega | (dsimp only; omega))).trans d0
  replace d1 := (hb.cell (p := ⟨bx, 1, none⟩) (by first | omega | (dsimp only; omega))).trans d1
  replace d2 := (hb.cell (p := ⟨bx, 2, none⟩) (by first | omega | (dsimp only; omega))).trans d2
  replace d3 := (hb.cell (p := ⟨bx, 3, none⟩) (by first | omega | (dsimp only; omega))).trans d3
  replace d4 := (hb.cell (p := ⟨bx, 4, none⟩) (by first | omega | (dsimp only; omega))).trans d4
  replace HX := Lib.hid (more HX.out (Nat.le_refl _) hb)
  replace HR := Lib.hid (HR.out.below hb)
  replace HO := Lib.hid (HO.out.later (by omega) hb)
  have hsz6 : w5.heap.size ≤ w6.heap.size := hb.size
  replace hba : ba < w6.heap.size := Nat.lt_of_lt_of_le hba hsz6
  replace hbb : bb < w6.heap.size := Nat.lt_of_lt_of_le hbb hsz6
  replace hzbx : bx < w6.heap.size := Nat.lt_of_lt_of_le hzbx hsz6
  obtain ⟨H2, hH2⟩ : ∃ q, w6.heap.size = q := ⟨_, rfl⟩
  have hL2H2 : L2 ≤ H2 := by omega
  have HHQ := Lib.hid hH2
  rw [hL2] at hto
  clear hb hH2 hsz6
  have hbabz := Below.alloc (Below.refl w6.heap.size w6) (Nat.le_refl _) (.cells #[.int .i64 tag2, .int .i64 key2, .string text2, .slice (some ⟨gy0, 0, none⟩) np2 np2, .slice (some ⟨gy1, 0, none⟩) n2 n2] 33)
  have HOB := Lib.hid (hto.later (Nat.le_refl _) hbabz)
  rw [HHQ.out] at HOB
  clear hto
  have z0 : (w6.alloc (.cells #[.int .i64 tag2, .int .i64 key2, .string text2, .slice (some ⟨gy0, 0, none⟩) np2 np2, .slice (some ⟨gy1, 0, none⟩) n2 n2] 33)).cell? ⟨w6.heap.size, 0, none⟩ = some (.int .i64 tag2) := by rw [World.cell?_alloc_new]; rfl
  have z1 : (w6.alloc (.cells #[.int .i64 tag2, .int .i64 key2, .string text2, .slice (some ⟨gy0, 0, none⟩) np2 np2, .slice (some ⟨gy1, 0, none⟩) n2 n2] 33)).cell? ⟨w6.heap.size, 1, none⟩ = some (.int .i64 key2) := by rw [World.cell?_alloc_new]; rfl
  have z2 : (w6.alloc (.cells #[.int .i64 tag2, .int .i64 key2, .string text2, .slice (some ⟨gy0, 0, none⟩) np2 np2, .slice (some ⟨gy1, 0, none⟩) n2 n2] 33)).cell? ⟨w6.heap.size, 2, none⟩ = some (.string text2) := by rw [World.cell?_alloc_new]; rfl
  have z3 : (w6.alloc (.cells #[.int .i64 tag2, .int .i64 key2, .string text2, .slice (some ⟨gy0, 0, none⟩) np2 np2, .slice (some ⟨gy1, 0, none⟩) n2 n2] 33)).cell? ⟨w6.heap.size, 3, none⟩ = some (.slice (some ⟨gy0, 0, none⟩) np2 np2) := by rw [World.cell?_alloc_new]; rfl
  have z4 : (w6.alloc (.cells #[.int .i64 tag2, .int .i64 key2, .string text2, .slice (some ⟨gy0, 0, none⟩) np2 np2, .slice (some ⟨gy1, 0, none⟩) n2 n2] 33)).cell? ⟨w6.heap.size, 4, none⟩ = some (.slice (some ⟨gy1, 0, none⟩) n2 n2) := by rw [World.cell?_alloc_new]; rfl
  go_wp2_with fail
  have hb := hbabz
  clear hbabz
  obtain ⟨bz, hbox⟩ : ∃ q, w6.heap.size = q := ⟨_, rfl⟩
  have hzbz : bz < (w6.alloc (.cells #[.int .i64 tag2, .int .i64 key2, .string text2, .slice (some ⟨gy0, 0, none⟩) np2 np2, .slice (some ⟨gy1, 0, none⟩) n2 n2] 33)).heap.size := by simp; omega
  have hH2bz : H2 ≤ bz := by have := HHQ.out; omega
  obtain ⟨w7, hw2⟩ : ∃ v, w6.alloc (.cells #[.int .i64 tag2, .int .i64 key2, .string text2, .slice (some ⟨gy0, 0, none⟩) np2 np2, .slice (some ⟨gy1, 0, none⟩) n2 n2] 33) = v := ⟨_, rfl⟩
  rw [hw2] at z0 z1 z2 z3 z4 hb hzbz HOB ⊢
  replace f0 := (hb.cell (p := ⟨ba, 0, none⟩) (by first | omega | (dsimp only; omega))).trans f0
  replace f1 := (hb.cell (p := ⟨ba, 1, none⟩) (by first | omega | (dsimp only; omega))).trans f1
  replace f2 := (hb.cell (p := ⟨ba, 2, none⟩) (by first | omega | (dsimp only; omega))).trans f2
  replace f3 := (hb.cell (p := ⟨ba, 3, none⟩) (by first | omega | (dsimp only; omega))).trans f3
  replace f4 := (hb.cell (p := ⟨ba, 4, none⟩) (by first | omega | (dsimp only; omega))).trans f4
  replace y0 := (hb.cell (p := ⟨bb, 0, none⟩) (by first | omega | (dsimp only; omega))).trans y0
  replace y1 := (hb.cell (p := ⟨bb, 1, none⟩) (by first | omega | (dsimp only; omega))).trans y1
  replace y2 := (hb.cell (p := ⟨bb, 2, none⟩) (by first | omega | (dsimp only; omega))).trans y2
  replace y3 := (hb.cell (p := ⟨bb, 3, none⟩) (by first | omega | (dsimp only; omega))).trans y3
  replace y4 := (hb.cell (p := ⟨bb, 4, none⟩) (by first | omega | (dsimp only; omega))).trans y4
  replace d0 := (hb.cell (p := ⟨bx, 0, none⟩) (by first | omega | (dsimp only; omega))).trans d0
  replace d1 := (hb.cell (p := ⟨bx, 1, none⟩) (by first | omega | (dsimp only; omega))).trans d1
  replace d2 := (hb.cell (p := ⟨bx, 2, none⟩) (by first | omega | (dsimp only; omega))).trans d2
  replace d3 := (hb.cell (p := ⟨bx, 3, none⟩) (by first | omega | (dsimp only; omega))).trans d3
  replace d4 := (hb.cell (p := ⟨bx, 4, none⟩) (by first | omega | (dsimp only; omega))).trans d4
  replace HX := Lib.hid (more HX.out (Nat.le_refl _) hb)
  replace HR := Lib.hid (HR.out.below hb)
  replace HO := Lib.hid (HO.out.later (by omega) hb)
  have hsz7 : w6.heap.size ≤ w7.heap.size := hb.size
  replace hba : ba < w7.heap.size := Nat.lt_of_lt_of_le hba hsz7
  replace hbb : bb < w7.heap.size := Nat.lt_of_lt_of_le hbb hsz7
  replace hzbx : bx < w7.heap.size := Nat.lt_of_lt_of_le hzbx hsz7
  rw [hbox] at z0 z1 z2 z3 z4 ⊢
  clear hb hsz7 hw2 hbox
  clear HHQ
  clear hL2
  obtain ⟨l1, hl1⟩ : ∃ q, w7.heap.size = q := ⟨_, rfl⟩
  have hzl1 : bz < l1 := by omega
  have hH2l1 : H2 ≤ l1 := by omega
  have HL1 := Lib.hid hl1
  clear hl1
  refine (K5.out _ (HI.out.below HX.out)).mono ?_
  rintro e w8 ⟨h1, rfl, ho, hb⟩
  replace f0 := (hb.cell (p := ⟨ba, 0, none⟩) (by first | omega | (dsimp only; omega))).trans f0
  replace f1 := (hb.cell (p := ⟨ba, 1, none⟩) (by first | omega | (dsimp only; omega))).trans f1
  replace f2 := (hb.cell (p := ⟨ba, 2, none⟩) (by first | omega | (dsimp only; omega))).trans f2
  replace f3 := (hb.cell (p := ⟨ba, 3, none⟩) (by first | omega | (dsimp only; omega))).trans f3
  replace f4 := (hb.cell (p := ⟨ba, 4, none⟩) (by first | omega | (dsimp only; omega))).trans f4
  replace y0 := (hb.cell (p := ⟨bb, 0, none⟩) (by first | omega | (dsimp only; omega))).trans y0
  replace y1 := (hb.cell (p := ⟨bb, 1, none⟩) (by first | omega | (dsimp only; omega))).trans y1
  replace y2 := (hb.cell (p := ⟨bb, 2, none⟩) (by first | omega | (dsimp only; omega))).trans y2
  replace y3 := (hb.cell (p := ⟨bb, 3, none⟩) (by first | omega | (dsimp only; omega))).trans y3
  replace y4 := (hb.cell (p := ⟨bb, 4, none⟩) (by first | omega | (dsimp only; omega))).trans y4
  replace d0 := (hb.cell (p := ⟨bx, 0, none⟩) (by first | omega | (dsimp only; omega))).trans d0
  replace d1 := (hb.cell (p := ⟨bx, 1, none⟩) (by first | omega | (dsimp only; omega))).trans d1
  replace d2 := (hb.cell (p := ⟨bx, 2, none⟩) (by first | omega | (dsimp only; omega))).trans d2
  replace d3 := (hb.cell (p := ⟨bx, 3, none⟩) (by first | omega | (dsimp only; omega))).trans d3
  replace d4 := (hb.cell (p := ⟨bx, 4, none⟩) (by first | omega | (dsimp only; omega))).trans d4
  replace z0 := (hb.cell (p := ⟨bz, 0, none⟩) (by first | omega | (dsimp only; omega))).trans z0
  replace z1 := (hb.cell (p := ⟨bz, 1, none⟩) (by first | omega | (dsimp only; omega))).trans z1
  replace z2 := (hb.cell (p := ⟨bz, 2, none⟩) (by first | omega | (dsimp only; omega))).trans z2
  replace z3 := (hb.cell (p := ⟨bz, 3, none⟩) (by first | omega | (dsimp only; omega))).trans z3
  replace z4 := (hb.cell (p := ⟨bz, 4, none⟩) (by first | omega | (dsimp only; omega))).trans z4
  replace HX := Lib.hid (more HX.out (Nat.le_refl _) hb)
  replace HR := Lib.hid (HR.out.below hb)
  replace HO := Lib.hid (HO.out.later (by omega) hb)
  replace HOB := Lib.hid (HOB.out.later (by omega) hb)
  have hsz8 : w7.heap.size ≤ w8.heap.size := hb.size
  replace hba : ba < w8.heap.size := Nat.lt_of_lt_of_le hba hsz8
  replace hbb : bb < w8.heap.size := Nat.lt_of_lt_of_le hbb hsz8
  replace hzbx : bx < w8.heap.size := Nat.lt_of_lt_of_le hzbx hsz8
  replace hzbz : bz < w8.heap.size := Nat.lt_of_lt_of_le hzbz hsz8
  obtain ⟨m1, hm1⟩ : ∃ q, w8.heap.size = q := ⟨_, rfl⟩
  have I8 := Lib.hid (IntO.of_row (lo := l1) (zs := zs) (by rw [HM.out]; exact ho) (by rw [HL1.out]; exact Nat.le_refl _))
  rw [hm1] at I8
  have hl1m1 : l1 ≤ m1 := by have := HL1.out; omega
  have HM1 := Lib.hid hm1
  clear hb hsz8 ho hm1 HL1
  obtain ⟨hpx, hkx⟩ := UO.out _ _ _ _ _ HO.out
  obtain ⟨hpy, hky⟩ := UOB.out _ _ _ _ _ HOB.out
  have PX := Lib.hid hpx
  have QX := Lib.hid hkx
  have PY := Lib.hid hpy
  have QY := Lib.hid hky
  clear hpx hkx hpy hky
  go_wp2_with fail
  have hml5 : m1 ≤ w8.heap.size := by have := HM1.out; omega
  obtain ⟨l5, hl5⟩ : ∃ q, w8.heap.size = q := ⟨_, rfl⟩
  have HL5 := Lib.hid hl5
  rw [hl5] at hml5
  clear hl5 HM1
  refine (K3.out _ _ _ _ _ _ (HT.out.next HX.out) PX.out QX.out PY.out QY.out I8.out.lies).mono ?_
  rintro e w9 ⟨S0, s0, rfl, ho, hb⟩
  replace f0 := (hb.cell (p := ⟨ba, 0, none⟩) (by first | omega | (dsimp only; omega))).trans f0
  replace f1 := (hb.cell (p := ⟨ba, 1, none⟩) (by first | omega | (dsimp only; omega))).trans f1
  replace f2 := (hb.cell (p := ⟨ba, 2, none⟩) (by first | omega | (dsimp only; omega))).trans f2
  replace f3 := (hb.cell (p := ⟨ba, 3, none⟩) (by first | omega | (dsimp only; omega))).trans f3
  replace f4 := (hb.cell (p := ⟨ba, 4, none⟩) (by first | omega | (dsimp only; omega))).trans f4
  replace y0 := (hb.cell (p := ⟨bb, 0, none⟩) (by first | omega | (dsimp only; omega))).trans y0
  replace y1 := (hb.cell (p := ⟨bb, 1, none⟩) (by first | omega | (dsimp only; omega))).trans y1
  replace y2 := (hb.cell (p := ⟨bb, 2, none⟩) (by first | omega | (dsimp only; omega))).trans y2
  replace y3 := (hb.cell (p := ⟨bb, 3, none⟩) (by first | omega | (dsimp only; omega))).trans y3
  replace y4 := (hb.cell (p := ⟨bb, 4, none⟩) (by first | omega | (dsimp only; omega))).trans y4
  replace d0 := (hb.cell (p := ⟨bx, 0, none⟩) (by first | omega | (dsimp only; omega))).trans d0
  replace d1 := (hb.cell (p := ⟨bx, 1, none⟩) (by first | omega | (dsimp only; omega))).trans d1
  replace d2 := (hb.cell (p := ⟨bx, 2, none⟩) (by first | omega | (dsimp only; omega))).trans d2
  replace d3 := (hb.cell (p := ⟨bx, 3, none⟩) (by first | omega | (dsimp only; omega))).trans d3
  replace d4 := (hb.cell (p := ⟨bx, 4, none⟩) (by first | omega | (dsimp only; omega))).trans d4
  replace z0 := (hb.cell (p := ⟨bz, 0, none⟩) (by first | omega | (dsimp only; omega))).trans z0
  replace z1 := (hb.cell (p := ⟨bz, 1, none⟩) (by first | omega | (dsimp only; omega))).trans z1
  replace z2 := (hb.cell (p := ⟨bz, 2, none⟩) (by first | omega | (dsimp only; omega))).trans z2
  replace z3 := (hb.cell (p := ⟨bz, 3, none⟩) (by first | omega | (dsimp only; omega))).trans z3
  replace z4 := (hb.cell (p := ⟨bz, 4, none⟩) (by first | omega | (dsimp only; omega))).trans z4
  replace HX := Lib.hid (more HX.out (Nat.le_refl _) hb)
  replace HR := Lib.hid (HR.out.below hb)
  replace HO := Lib.hid (HO.out.later (by omega) hb)
  replace HOB := Lib.hid (HOB.out.later (by omega) hb)
  replace I8 := Lib.hid (I8.out.below hb)
  have hsz9 : w8.heap.size ≤ w9.heap.size := hb.size
  replace hba : ba < w9.heap.size := Nat.lt_of_lt_of_le hba hsz9
  replace hbb : bb < w9.heap.size := Nat.lt_of_lt_of_le hbb hsz9
  replace hzbx : bx < w9.heap.size := Nat.lt_of_lt_of_le hzbx hsz9
  replace hzbz : bz < w9.heap.size := Nat.lt_of_lt_of_le hzbz hsz9
  obtain ⟨h9, hh9⟩ : ∃ q, w9.heap.size = q := ⟨_, rfl⟩
  have HS := Lib.hid (IntO.of_row (lo := l5) (zs := rz) (by rw [HM9.out]; exact ho) (by rw [HL5.out]; exact Nat.le_refl _))
  rw [hh9] at HS
  have hl59 : l5 ≤ h9 := by have := HL5.out; omega
  have HH9 := Lib.hid hh9
  clear hb hsz9 ho hh9 HL5 PX QX PY QY
  go_wp2_with fail
  refine (K6R.out _ _ _ _ _ HS.out.lies HR.out.lies).mono ?_
  rintro e w10 ⟨rfl, hb⟩
  replace f0 := (hb.cell (p := ⟨ba, 0, none⟩) (by first | omega | (dsimp only; omega))).trans f0
  replace f1 := (hb.cell (p := ⟨ba, 1, none⟩) (by first | omega | (dsimp only; omega))).trans f1
  replace f2 := (hb.cell (p := ⟨ba, 2, none⟩) (by first | omega | (dsimp only; omega))).trans f2
  replace f3 := (hb.cell (p := ⟨ba, 3, none⟩) (by first | omega | (dsimp only; omega))).trans f3
  replace f4 := (hb.cell (p := ⟨ba, 4, none⟩) (by first | omega | (dsimp only; omega))).trans f4
  replace y0 := (hb.cell (p := ⟨bb, 0, none⟩) (by first | omega | (dsimp only; omega))).trans y0
  replace y1 := (hb.cell (p := ⟨bb, 1, none⟩) (by first | omega | (dsimp only; omega))).trans y1
  replace y2 := (hb.cell (p := ⟨bb, 2, none⟩) (by first | omega | (dsimp only; omega))).trans y2
  replace y3 := (hb.cell (p := ⟨bb, 3, none⟩) (by first | omega | (dsimp only; omega))).trans y3
  replace y4 := (hb.cell (p := ⟨bb, 4, none⟩) (by first | omega | (dsimp only; omega))).trans y4
  replace d0 := (hb.cell (p := ⟨bx, 0, none⟩) (by first | omega | (dsimp only; omega))).trans d0
  replace d1 := (hb.cell (p := ⟨bx, 1, none⟩) (by first | omega | (dsimp only; omega))).trans d1
  replace d2 := (hb.cell (p := ⟨bx, 2, none⟩) (by first | omega | (dsimp only; omega))).trans d2
  replace d3 := (hb.cell (p := ⟨bx, 3, none⟩) (by first | omega | (dsimp only; omega))).trans d3
  replace d4 := (hb.cell (p := ⟨bx, 4, none⟩) (by first | omega | (dsimp only; omega))).trans d4
  replace z0 := (hb.cell (p := ⟨bz, 0, none⟩) (by first | omega | (dsimp only; omega))).trans z0
  replace z1 := (hb.cell (p := ⟨bz, 1, none⟩) (by first | omega | (dsimp only; omega))).trans z1
  replace z2 := (hb.cell (p := ⟨bz, 2, none⟩) (by first | omega | (dsimp only; omega))).trans z2
  replace z3 := (hb.cell (p := ⟨bz, 3, none⟩) (by first | omega | (dsimp only; omega))).trans z3
  replace z4 := (hb.cell (p := ⟨bz, 4, none⟩) (by first | omega | (dsimp only; omega))).trans z4
  replace HX := Lib.hid (more HX.out (Nat.le_refl _) hb)
  replace HR := Lib.hid (HR.out.below hb)
  replace HO := Lib.hid (HO.out.later (by omega) hb)
  replace HOB := Lib.hid (HOB.out.later (by omega) hb)
  replace I8 := Lib.hid (I8.out.below hb)
  replace HS := Lib.hid (HS.out.below hb)
  have hsz10 : w9.heap.size ≤ w10.heap.size := hb.size
  replace hba : ba < w10.heap.size := Nat.lt_of_lt_of_le hba hsz10
  replace hbb : bb < w10.heap.size := Nat.lt_of_lt_of_le hbb hsz10
  replace hzbx : bx < w10.heap.size := Nat.lt_of_lt_of_le hzbx hsz10
  replace hzbz : bz < w10.heap.size := Nat.lt_of_lt_of_le hzbz hsz10
  have hh10 : h9 ≤ w10.heap.size := by have := HH9.out; omega
  clear hb hsz10 HH9
  go_wp2_with fail
  refine wp_region_held_drew (S := fun w' => Below w10.heap.size w10 w' ∧ w'.cell? ⟨ba, 0, none⟩ = some (.int .i64 tag) ∧ w'.cell? ⟨ba, 1, none⟩ = some (.int .i64 key) ∧ w'.cell? ⟨ba, 2, none⟩ = some (.string text) ∧ w'.cell? ⟨ba, 3, none⟩ = some (.slice A0 np c0) ∧ w'.cell? ⟨ba, 4, none⟩ = some (.slice A1 n c1) ∧ w'.cell? ⟨bb, 0, none⟩ = some (.int .i64 tag2) ∧ w'.cell? ⟨bb, 1, none⟩ = some (.int .i64 key2) ∧ w'.cell? ⟨bb, 2, none⟩ = some (.string text2) ∧ w'.cell? ⟨bb, 3, none⟩ = some (.slice B0 np2 e0) ∧ w'.cell? ⟨bb, 4, none⟩ = some (.slice B1 n2 e1) ∧ w'.cell? ⟨bx, 0, none⟩ = some (.int .i64 tag) ∧ w'.cell? ⟨bx, 1, none⟩ = some (.int .i64 key) ∧ w'.cell? ⟨bx, 2, none⟩ = some (.string text) ∧ w'.cell? ⟨bx, 3, none⟩ = some (.slice (some ⟨gx0, 0, none⟩) np np) ∧ w'.cell? ⟨bx, 4, none⟩ = some (.slice (some ⟨gx1, 0, none⟩) n n) ∧ w'.cell? ⟨bz, 0, none⟩ = some (.int .i64 tag2) ∧ w'.cell? ⟨bz, 1, none⟩ = some (.int .i64 key2) ∧ w'.cell? ⟨bz, 2, none⟩ = some (.string text2) ∧ w'.cell? ⟨bz, 3, none⟩ = some (.slice (some ⟨gy0, 0, none⟩) np2 np2) ∧ w'.cell? ⟨bz, 4, none⟩ = some (.slice (some ⟨gy1, 0, none⟩) n2 n2)) (by kernel_rfl) ?_ (fun hHeld => ?_)
  · exact ⟨Below.drew (Below.refl _ _), f0, f1, f2, f3, f4, y0, y1, y2, y3, y4, d0, d1, d2, d3, d4, z0, z1, z2, z3, z4⟩
  refine wpAnyH_take (i := 0) (oi := _) (v := ?_) rfl (by kernel_rfl) (by kernel_rfl) (by kernel_rfl) (fun _ _ _ h => h) (Or.inl ⟨by kernel_rfl, ?_⟩) (by assumption) ?_
  rotate_left
  · (intro w hSw; (try dsimp only at hSw); go_simp)
    try with_reducible rfl
  (try simp only [Act.put, qa, qb, qc, qd, qe, qf])
  refine wpAnyH_take (i := 1) (oi := _) (v := ?_) rfl (by kernel_rfl) (by kernel_rfl) (by kernel_rfl) (fun _ _ _ h => h) (Or.inl ⟨by kernel_rfl, ?_⟩) (by assumption) ?_
  rotate_left
  · (intro w hSw; (try dsimp only at hSw); go_simp)
    try with_reducible rfl
  (try simp only [Act.put, qa, qb, qc, qd, qe, qf])
  refine wpAnyH_ready (rs := [2]) (by kernel_rfl) (by simp) ?_
  refine AllReadyH.cons (o := _) rfl (fun K hK => ?_) AllReadyH.nil
  go_simp
  have hB0 := hHeld.1
  refine (K1.out _ (HP.out.below (more HX.out (Nat.le_refl _) hB0)) (HK.out.below (more HX.out (Nat.le_refl _) hB0))).mono ?_
  rintro e v0 ⟨g0, g1, rfl, hp, _, hk, hb⟩
  refine hK.out _ _ ?_ (fun hHeld2 => ?_)
  · obtain ⟨_, f0, f1, f2, f3, f4, y0, y1, y2, y3, y4, d0, d1, d2, d3, d4, z0, z1, z2, z3, z4⟩ := hHeld
    exact ⟨hB0.trans (hb.mono hB0.size), (hb.cell (p := ⟨ba, 0, none⟩) (Nat.lt_of_lt_of_le hba hB0.size)).trans f0, (hb.cell (p := ⟨ba, 1, none⟩) (Nat.lt_of_lt_of_le hba hB0.size)).trans f1, (hb.cell (p := ⟨ba, 2, none⟩) (Nat.lt_of_lt_of_le hba hB0.size)).trans f2, (hb.cell (p := ⟨ba, 3, none⟩) (Nat.lt_of_lt_of_le hba hB0.size)).trans f3, (hb.cell (p := ⟨ba, 4, none⟩) (Nat.lt_of_lt_of_le hba hB0.size)).trans f4, (hb.cell (p := ⟨bb, 0, none⟩) (Nat.lt_of_lt_of_le hbb hB0.size)).trans y0, (hb.cell (p := ⟨bb, 1, none⟩) (Nat.lt_of_lt_of_le hbb hB0.size)).trans y1, (hb.cell (p := ⟨bb, 2, none⟩) (Nat.lt_of_lt_of_le hbb hB0.size)).trans y2, (hb.cell (p := ⟨bb, 3, none⟩) (Nat.lt_of_lt_of_le hbb hB0.size)).trans y3, (hb.cell (p := ⟨bb, 4, none⟩) (Nat.lt_of_lt_of_le hbb hB0.size)).trans y4, (hb.cell (p := ⟨bx, 0, none⟩) (Nat.lt_of_lt_of_le hzbx hB0.size)).trans d0, (hb.cell (p := ⟨bx, 1, none⟩) (Nat.lt_of_lt_of_le hzbx hB0.size)).trans d1, (hb.cell (p := ⟨bx, 2, none⟩) (Nat.lt_of_lt_of_le hzbx hB0.size)).trans d2, (hb.cell (p := ⟨bx, 3, none⟩) (Nat.lt_of_lt_of_le hzbx hB0.size)).trans d3, (hb.cell (p := ⟨bx, 4, none⟩) (Nat.lt_of_lt_of_le hzbx hB0.size)).trans d4, (hb.cell (p := ⟨bz, 0, none⟩) (Nat.lt_of_lt_of_le hzbz hB0.size)).trans z0, (hb.cell (p := ⟨bz, 1, none⟩) (Nat.lt_of_lt_of_le hzbz hB0.size)).trans z1, (hb.cell (p := ⟨bz, 2, none⟩) (Nat.lt_of_lt_of_le hzbz hB0.size)).trans z2, (hb.cell (p := ⟨bz, 3, none⟩) (Nat.lt_of_lt_of_le hzbz hB0.size)).trans z3, (hb.cell (p := ⟨bz, 4, none⟩) (Nat.lt_of_lt_of_le hzbz hB0.size)).trans z4⟩
  have P1 := Lib.hid hp
  have Q1 := Lib.hid (hk.mono (Nat.zero_le _))
  clear hp hk
  clear hK K hb hB0 hHeld
  have hHeld := hHeld2
  clear hHeld2
  (try simp only [Act.put, qa, qb, qc, qd, qe, qf])
  refine wpAnyH_ready (rs := [3]) (by kernel_rfl) (by simp) ?_
  refine AllReadyH.cons (o := _) rfl (fun K hK => ?_) AllReadyH.nil
  go_simp
  have hB0 := hHeld.1
  obtain ⟨hpx, hkx⟩ := UO.out _ _ _ _ _ (HO.out.later (by omega) hB0)
  refine (K4.out _ _ _ _ _ hpx hkx P1.out Q1.out).mono ?_
  rintro e v1 ⟨rfl, hb⟩
  refine hK.out _ _ ?_ (fun hHeld2 => ?_)
  · obtain ⟨_, f0, f1, f2, f3, f4, y0, y1, y2, y3, y4, d0, d1, d2, d3, d4, z0, z1, z2, z3, z4⟩ := hHeld
    exact ⟨hB0.trans (hb.mono hB0.size), (hb.cell (p := ⟨ba, 0, none⟩) (Nat.lt_of_lt_of_le hba hB0.size)).trans f0, (hb.cell (p := ⟨ba, 1, none⟩) (Nat.lt_of_lt_of_le hba hB0.size)).trans f1, (hb.cell (p := ⟨ba, 2, none⟩) (Nat.lt_of_lt_of_le hba hB0.size)).trans f2, (hb.cell (p := ⟨ba, 3, none⟩) (Nat.lt_of_lt_of_le hba hB0.size)).trans f3, (hb.cell (p := ⟨ba, 4, none⟩) (Nat.lt_of_lt_of_le hba hB0.size)).trans f4, (hb.cell (p := ⟨bb, 0, none⟩) (Nat.lt_of_lt_of_le hbb hB0.size)).trans y0, (hb.cell (p := ⟨bb, 1, none⟩) (Nat.lt_of_lt_of_le hbb hB0.size)).trans y1, (hb.cell (p := ⟨bb, 2, none⟩) (Nat.lt_of_lt_of_le hbb hB0.size)).trans y2, (hb.cell (p := ⟨bb, 3, none⟩) (Nat.lt_of_lt_of_le hbb hB0.size)).trans y3, (hb.cell (p := ⟨bb, 4, none⟩) (Nat.lt_of_lt_of_le hbb hB0.size)).trans y4, (hb.cell (p := ⟨bx, 0, none⟩) (Nat.lt_of_lt_of_le hzbx hB0.size)).trans d0, (hb.cell (p := ⟨bx, 1, none⟩) (Nat.lt_of_lt_of_le hzbx hB0.size)).trans d1, (hb.cell (p := ⟨bx, 2, none⟩) (Nat.lt_of_lt_of_le hzbx hB0.size)).trans d2, (hb.cell (p := ⟨bx, 3, none⟩) (Nat.lt_of_lt_of_le hzbx hB0.size)).trans d3, (hb.cell (p := ⟨bx, 4, none⟩) (Nat.lt_of_lt_of_le hzbx hB0.size)).trans d4, (hb.cell (p := ⟨bz, 0, none⟩) (Nat.lt_of_lt_of_le hzbz hB0.size)).trans z0, (hb.cell (p := ⟨bz, 1, none⟩) (Nat.lt_of_lt_of_le hzbz hB0.size)).trans z1, (hb.cell (p := ⟨bz, 2, none⟩) (Nat.lt_of_lt_of_le hzbz hB0.size)).trans z2, (hb.cell (p := ⟨bz, 3, none⟩) (Nat.lt_of_lt_of_le hzbz hB0.size)).trans z3, (hb.cell (p := ⟨bz, 4, none⟩) (Nat.lt_of_lt_of_le hzbz hB0.size)).trans z4⟩
  clear hpx hkx P1 Q1
  clear hK K hb hB0 hHeld
  have hHeld := hHeld2
  clear hHeld2
  (try simp only [Act.put, qa, qb, qc, qd, qe, qf])
  refine wpAnyH_take (i := 4) (oi := _) (v := ?_) rfl (by kernel_rfl) (by kernel_rfl) (by kernel_rfl) (fun _ _ _ h => h) (Or.inl ⟨by kernel_rfl, ?_⟩) (by assumption) ?_
  rotate_left
  · (intro w hSw; (try dsimp only at hSw); go_simp)
    try with_reducible rfl
  (try simp only [Act.put, qa, qb, qc, qd, qe, qf])
  refine wpAnyH_done (by kernel_rfl) ?_ _
  have hb := hHeld.1
  clear hHeld
  obtain ⟨w11, hlast⟩ : ∃ v, v1 = v := ⟨_, rfl⟩
  rw [hlast] at hb ⊢
  replace f0 := (hb.cell (p := ⟨ba, 0, none⟩) (by first | omega | (dsimp only; omega))).trans f0
  replace f1 := (hb.cell (p := ⟨ba, 1, none⟩) (by first | omega | (dsimp only; omega))).trans f1
  replace f2 := (hb.cell (p := ⟨ba, 2, none⟩) (by first | omega | (dsimp only; omega))).trans f2
  replace f3 := (hb.cell (p := ⟨ba, 3, none⟩) (by first | omega | (dsimp only; omega))).trans f3
  replace f4 := (hb.cell (p := ⟨ba, 4, none⟩) (by first | omega | (dsimp only; omega))).trans f4
  replace y0 := (hb.cell (p := ⟨bb, 0, none⟩) (by first | omega | (dsimp only; omega))).trans y0
  replace y1 := (hb.cell (p := ⟨bb, 1, none⟩) (by first | omega | (dsimp only; omega))).trans y1
  replace y2 := (hb.cell (p := ⟨bb, 2, none⟩) (by first | omega | (dsimp only; omega))).trans y2
  replace y3 := (hb.cell (p := ⟨bb, 3, none⟩) (by first | omega | (dsimp only; omega))).trans y3
  replace y4 := (hb.cell (p := ⟨bb, 4, none⟩) (by first | omega | (dsimp only; omega))).trans y4
  replace d0 := (hb.cell (p := ⟨bx, 0, none⟩) (by first | omega | (dsimp only; omega))).trans d0
  replace d1 := (hb.cell (p := ⟨bx, 1, none⟩) (by first | omega | (dsimp only; omega))).trans d1
  replace d2 := (hb.cell (p := ⟨bx, 2, none⟩) (by first | omega | (dsimp only; omega))).trans d2
  replace d3 := (hb.cell (p := ⟨bx, 3, none⟩) (by first | omega | (dsimp only; omega))).trans d3
  replace d4 := (hb.cell (p := ⟨bx, 4, none⟩) (by first | omega | (dsimp only; omega))).trans d4
  replace z0 := (hb.cell (p := ⟨bz, 0, none⟩) (by first | omega | (dsimp only; omega))).trans z0
  replace z1 := (hb.cell (p := ⟨bz, 1, none⟩) (by first | omega | (dsimp only; omega))).trans z1
  replace z2 := (hb.cell (p := ⟨bz, 2, none⟩) (by first | omega | (dsimp only; omega))).trans z2
  replace z3 := (hb.cell (p := ⟨bz, 3, none⟩) (by first | omega | (dsimp only; omega))).trans z3
  replace z4 := (hb.cell (p := ⟨bz, 4, none⟩) (by first | omega | (dsimp only; omega))).trans z4
  replace HX := Lib.hid (more HX.out (Nat.le_refl _) hb)
  replace HR := Lib.hid (HR.out.below hb)
  replace HO := Lib.hid (HO.out.later (by omega) hb)
  replace HOB := Lib.hid (HOB.out.later (by omega) hb)
  replace I8 := Lib.hid (I8.out.below hb)
  replace HS := Lib.hid (HS.out.below hb)
  have hsz11 : w10.heap.size ≤ w11.heap.size := hb.size
  replace hba : ba < w11.heap.size := Nat.lt_of_lt_of_le hba hsz11
  replace hbb : bb < w11.heap.size := Nat.lt_of_lt_of_le hbb hsz11
  replace hzbx : bx < w11.heap.size := Nat.lt_of_lt_of_le hzbx hsz11
  replace hzbz : bz < w11.heap.size := Nat.lt_of_lt_of_le hzbz hsz11
  have hhw11 : h9 ≤ w11.heap.size := by omega
  clear hlast hb hsz11 hh10
  go_wp2_with fail
  refine wp_region_held_drew (S := fun w' => Below w11.heap.size w11 w' ∧ w'.cell? ⟨ba, 0, none⟩ = some (.int .i64 tag) ∧ w'.cell? ⟨ba, 1, none⟩ = some (.int .i64 key) ∧ w'.cell? ⟨ba, 2, none⟩ = some (.string text) ∧ w'.cell? ⟨ba, 3, none⟩ = some (.slice A0 np c0) ∧ w'.cell? ⟨ba, 4, none⟩ = some (.slice A1 n c1) ∧ w'.cell? ⟨bb, 0, none⟩ = some (.int .i64 tag2) ∧ w'.cell? ⟨bb, 1, none⟩ = some (.int .i64 key2) ∧ w'.cell? ⟨bb, 2, none⟩ = some (.string text2) ∧ w'.cell? ⟨bb, 3, none⟩ = some (.slice B0 np2 e0) ∧ w'.cell? ⟨bb, 4, none⟩ = some (.slice B1 n2 e1) ∧ w'.cell? ⟨bx, 0, none⟩ = some (.int .i64 tag) ∧ w'.cell? ⟨bx, 1, none⟩ = some (.int .i64 key) ∧ w'.cell? ⟨bx, 2, none⟩ = some (.string text) ∧ w'.cell? ⟨bx, 3, none⟩ = some (.slice (some ⟨gx0, 0, none⟩) np np) ∧ w'.cell? ⟨bx, 4, none⟩ = some (.slice (some ⟨gx1, 0, none⟩) n n) ∧ w'.cell? ⟨bz, 0, none⟩ = some (.int .i64 tag2) ∧ w'.cell? ⟨bz, 1, none⟩ = some (.int .i64 key2) ∧ w'.cell? ⟨bz, 2, none⟩ = some (.string text2) ∧ w'.cell? ⟨bz, 3, none⟩ = some (.slice (some ⟨gy0, 0, none⟩) np2 np2) ∧ w'.cell? ⟨bz, 4, none⟩ = some (.slice (some ⟨gy1, 0, none⟩) n2 n2)) (by kernel_rfl) ?_ (fun hHeld => ?_)
  · exact ⟨Below.drew (Below.refl _ _), f0, f1, f2, f3, f4, y0, y1, y2, y3, y4, d0, d1, d2, d3, d4, z0, z1, z2, z3, z4⟩
  refine wpAnyH_take (i := 0) (oi := _) (v := ?_) rfl (by kernel_rfl) (by kernel_rfl) (by kernel_rfl) (fun _ _ _ h => h) (Or.inl ⟨by kernel_rfl, ?_⟩) (by assumption) ?_
  rotate_left
  · (intro w hSw; (try dsimp only at hSw); go_simp)
    try with_reducible rfl
  (try simp only [Act.put, qa, qb, qc, qd, qe, qf])
  refine wpAnyH_take (i := 1) (oi := _) (v := ?_) rfl (by kernel_rfl) (by kernel_rfl) (by kernel_rfl) (fun _ _ _ h => h) (Or.inl ⟨by kernel_rfl, ?_⟩) (by assumption) ?_
  rotate_left
  · (intro w hSw; (try dsimp only at hSw); go_simp)
    try with_reducible rfl
  (try simp only [Act.put, qa, qb, qc, qd, qe, qf])
  refine wpAnyH_ready (rs := [2]) (by kernel_rfl) (by simp) ?_
  refine AllReadyH.cons (o := _) rfl (fun K hK => ?_) AllReadyH.nil
  go_simp
  have hB0 := hHeld.1
  refine (K1B.out _ (HPB.out.below (more HX.out (Nat.le_refl _) hB0)) (HKB.out.below (more HX.out (Nat.le_refl _) hB0))).mono ?_
  rintro e v0 ⟨g0, g1, rfl, hp, _, hk, hb⟩
  refine hK.out _ _ ?_ (fun hHeld2 => ?_)
  · obtain ⟨_, f0, f1, f2, f3, f4, y0, y1, y2, y3, y4, d0, d1, d2, d3, d4, z0, z1, z2, z3, z4⟩ := hHeld
    exact ⟨hB0.trans (hb.mono hB0.size), (hb.cell (p := ⟨ba, 0, none⟩) (Nat.lt_of_lt_of_le hba hB0.size)).trans f0, (hb.cell (p := ⟨ba, 1, none⟩) (Nat.lt_of_lt_of_le hba hB0.size)).trans f1, (hb.cell (p := ⟨ba, 2, none⟩) (Nat.lt_of_lt_of_le hba hB0.size)).trans f2, (hb.cell (p := ⟨ba, 3, none⟩) (Nat.lt_of_lt_of_le hba hB0.size)).trans f3, (hb.cell (p := ⟨ba, 4, none⟩) (Nat.lt_of_lt_of_le hba hB0.size)).trans f4, (hb.cell (p := ⟨bb, 0, none⟩) (Nat.lt_of_lt_of_le hbb hB0.size)).trans y0, (hb.cell (p := ⟨bb, 1, none⟩) (Nat.lt_of_lt_of_le hbb hB0.size)).trans y1, (hb.cell (p := ⟨bb, 2, none⟩) (Nat.lt_of_lt_of_le hbb hB0.size)).trans y2, (hb.cell (p := ⟨bb, 3, none⟩) (Nat.lt_of_lt_of_le hbb hB0.size)).trans y3, (hb.cell (p := ⟨bb, 4, none⟩) (Nat.lt_of_lt_of_le hbb hB0.size)).trans y4, (hb.cell (p := ⟨bx, 0, none⟩) (Nat.lt_of_lt_of_le hzbx hB0.size)).trans d0, (hb.cell (p := ⟨bx, 1, none⟩) (Nat.lt_of_lt_of_le hzbx hB0.size)).trans d1, (hb.cell (p := ⟨bx, 2, none⟩) (Nat.lt_of_lt_of_le hzbx hB0.size)).trans d2, (hb.cell (p := ⟨bx, 3, none⟩) (Nat.lt_of_lt_of_le hzbx hB0.size)).trans d3, (hb.cell (p := ⟨bx, 4, none⟩) (Nat.lt_of_lt_of_le hzbx hB0.size)).trans d4, (hb.cell (p := ⟨bz, 0, none⟩) (Nat.lt_of_lt_of_le hzbz hB0.size)).trans z0, (hb.cell (p := ⟨bz, 1, none⟩) (Nat.lt_of_lt_of_le hzbz hB0.size)).trans z1, (hb.cell (p := ⟨bz, 2, none⟩) (Nat.lt_of_lt_of_le hzbz hB0.size)).trans z2, (hb.cell (p := ⟨bz, 3, none⟩) (Nat.lt_of_lt_of_le hzbz hB0.size)).trans z3, (hb.cell (p := ⟨bz, 4, none⟩) (Nat.lt_of_lt_of_le hzbz hB0.size)).trans z4⟩
  have P1 := Lib.hid hp
  have Q1 := Lib.hid (hk.mono (Nat.zero_le _))
  clear hp hk
  clear hK K hb hB0 hHeld
  have hHeld := hHeld2
  clear hHeld2
  (try simp only [Act.put, qa, qb, qc, qd, qe, qf])
  refine wpAnyH_ready (rs := [3]) (by kernel_rfl) (by simp) ?_
  refine AllReadyH.cons (o := _) rfl (fun K hK => ?_) AllReadyH.nil
  go_simp
  have hB0 := hHeld.1
  obtain ⟨hpx, hkx⟩ := UOB.out _ _ _ _ _ (HOB.out.later (by omega) hB0)
  refine (K4B.out _ _ _ _ _ hpx hkx P1.out Q1.out).mono ?_
  rintro e v1 ⟨rfl, hb⟩
  refine hK.out _ _ ?_ (fun hHeld2 => ?_)
  · obtain ⟨_, f0, f1, f2, f3, f4, y0, y1, y2, y3, y4, d0, d1, d2, d3, d4, z0, z1, z2, z3, z4⟩ := hHeld
    exact ⟨hB0.trans (hb.mono hB0.size), (hb.cell (p := ⟨ba, 0, none⟩) (Nat.lt_of_lt_of_le hba hB0.size)).trans f0, (hb.cell (p := ⟨ba, 1, none⟩) (Nat.lt_of_lt_of_le hba hB0.size)).trans f1, (hb.cell (p := ⟨ba, 2, none⟩) (Nat.lt_of_lt_of_le hba hB0.size)).trans f2, (hb.cell (p := ⟨ba, 3, none⟩) (Nat.lt_of_lt_of_le hba hB0.size)).trans f3, (hb.cell (p := ⟨ba, 4, none⟩) (Nat.lt_of_lt_of_le hba hB0.size)).trans f4, (hb.cell (p := ⟨bb, 0, none⟩) (Nat.lt_of_lt_of_le hbb hB0.size)).trans y0, (hb.cell (p := ⟨bb, 1, none⟩) (Nat.lt_of_lt_of_le hbb hB0.size)).trans y1, (hb.cell (p := ⟨bb, 2, none⟩) (Nat.lt_of_lt_of_le hbb hB0.size)).trans y2, (hb.cell (p := ⟨bb, 3, none⟩) (Nat.lt_of_lt_of_le hbb hB0.size)).trans y3, (hb.cell (p := ⟨bb, 4, none⟩) (Nat.lt_of_lt_of_le hbb hB0.size)).trans y4, (hb.cell (p := ⟨bx, 0, none⟩) (Nat.lt_of_lt_of_le hzbx hB0.size)).trans d0, (hb.cell (p := ⟨bx, 1, none⟩) (Nat.lt_of_lt_of_le hzbx hB0.size)).trans d1, (hb.cell (p := ⟨bx, 2, none⟩) (Nat.lt_of_lt_of_le hzbx hB0.size)).trans d2, (hb.cell (p := ⟨bx, 3, none⟩) (Nat.lt_of_lt_of_le hzbx hB0.size)).trans d3, (hb.cell (p := ⟨bx, 4, none⟩) (Nat.lt_of_lt_of_le hzbx hB0.size)).trans d4, (hb.cell (p := ⟨bz, 0, none⟩) (Nat.lt_of_lt_of_le hzbz hB0.size)).trans z0, (hb.cell (p := ⟨bz, 1, none⟩) (Nat.lt_of_lt_of_le hzbz hB0.size)).trans z1, (hb.cell (p := ⟨bz, 2, none⟩) (Nat.lt_of_lt_of_le hzbz hB0.size)).trans z2, (hb.cell (p := ⟨bz, 3, none⟩) (Nat.lt_of_lt_of_le hzbz hB0.size)).trans z3, (hb.cell (p := ⟨bz, 4, none⟩) (Nat.lt_of_lt_of_le hzbz hB0.size)).trans z4⟩
  clear hpx hkx P1 Q1
  clear hK K hb hB0 hHeld
  have hHeld := hHeld2
  clear hHeld2
  (try simp only [Act.put, qa, qb, qc, qd, qe, qf])
  refine wpAnyH_take (i := 4) (oi := _) (v := ?_) rfl (by kernel_rfl) (by kernel_rfl) (by kernel_rfl) (fun _ _ _ h => h) (Or.inl ⟨by kernel_rfl, ?_⟩) (by assumption) ?_
  rotate_left
  · (intro w hSw; (try dsimp only at hSw); go_simp)
    try with_reducible rfl
  (try simp only [Act.put, qa, qb, qc, qd, qe, qf])
  refine wpAnyH_done (by kernel_rfl) ?_ _
  have hb := hHeld.1
  clear hHeld
  obtain ⟨w12, hlast⟩ : ∃ v, v1 = v := ⟨_, rfl⟩
  rw [hlast] at hb ⊢
  replace f0 := (hb.cell (p := ⟨ba, 0, none⟩) (by first | omega | (dsimp only; omega))).trans f0
  replace f1 := (hb.cell (p := ⟨ba, 1, none⟩) (by first | omega | (dsimp only; omega))).trans f1
  replace f2 := (hb.cell (p := ⟨ba, 2, none⟩) (by first | omega | (dsimp only; omega))).trans f2
  replace f3 := (hb.cell (p := ⟨ba, 3, none⟩) (by first | omega | (dsimp only; omega))).trans f3
  replace f4 := (hb.cell (p := ⟨ba, 4, none⟩) (by first | omega | (dsimp only; omega))).trans f4
  replace y0 := (hb.cell (p := ⟨bb, 0, none⟩) (by first | omega | (dsimp only; omega))).trans y0
  replace y1 := (hb.cell (p := ⟨bb, 1, none⟩) (by first | omega | (dsimp only; omega))).trans y1
  replace y2 := (hb.cell (p := ⟨bb, 2, none⟩) (by first | omega | (dsimp only; omega))).trans y2
  replace y3 := (hb.cell (p := ⟨bb, 3, none⟩) (by first | omega | (dsimp only; omega))).trans y3
  replace y4 := (hb.cell (p := ⟨bb, 4, none⟩) (by first | omega | (dsimp only; omega))).trans y4
  replace d0 := (hb.cell (p := ⟨bx, 0, none⟩) (by first | omega | (dsimp only; omega))).trans d0
  replace d1 := (hb.cell (p := ⟨bx, 1, none⟩) (by first | omega | (dsimp only; omega))).trans d1
  replace d2 := (hb.cell (p := ⟨bx, 2, none⟩) (by first | omega | (dsimp only; omega))).trans d2
  replace d3 := (hb.cell (p := ⟨bx, 3, none⟩) (by first | omega | (dsimp only; omega))).trans d3
  replace d4 := (hb.cell (p := ⟨bx, 4, none⟩) (by first | omega | (dsimp only; omega))).trans d4
  replace z0 := (hb.cell (p := ⟨bz, 0, none⟩) (by first | omega | (dsimp only; omega))).trans z0
  replace z1 := (hb.cell (p := ⟨bz, 1, none⟩) (by first | omega | (dsimp only; omega))).trans z1
  replace z2 := (hb.cell (p := ⟨bz, 2, none⟩) (by first | omega | (dsimp only; omega))).trans z2
  replace z3 := (hb.cell (p := ⟨bz, 3, none⟩) (by first | omega | (dsimp only; omega))).trans z3
  replace z4 := (hb.cell (p := ⟨bz, 4, none⟩) (by first | omega | (dsimp only; omega))).trans z4
  replace HX := Lib.hid (more HX.out (Nat.le_refl _) hb)
  replace HR := Lib.hid (HR.out.below hb)
  replace HO := Lib.hid (HO.out.later (by omega) hb)
  replace HOB := Lib.hid (HOB.out.later (by omega) hb)
  replace I8 := Lib.hid (I8.out.below hb)
  replace HS := Lib.hid (HS.out.below hb)
  have hsz12 : w11.heap.size ≤ w12.heap.size := hb.size
  replace hba : ba < w12.heap.size := Nat.lt_of_lt_of_le hba hsz12
  replace hbb : bb < w12.heap.size := Nat.lt_of_lt_of_le hbb hsz12
  replace hzbx : bx < w12.heap.size := Nat.lt_of_lt_of_le hzbx hsz12
  replace hzbz : bz < w12.heap.size := Nat.lt_of_lt_of_le hzbz hsz12
  have hhw12 : h9 ≤ w12.heap.size := by omega
  clear hlast hb hsz12 hhw11
  go_wp2_with fail
  refine (K5.out _ (HI.out.below HX.out)).mono ?_
  rintro e w13 ⟨h0, rfl, ho, hb⟩
  replace f0 := (hb.cell (p := ⟨ba, 0, none⟩) (by first | omega | (dsimp only; omega))).trans f0
  replace f1 := (hb.cell (p := ⟨ba, 1, none⟩) (by first | omega | (dsimp only; omega))).trans f1
  replace f2 := (hb.cell (p := ⟨ba, 2, none⟩) (by first | omega | (dsimp only; omega))).trans f2
  replace f3 := (hb.cell (p := ⟨ba, 3, none⟩) (by first | omega | (dsimp only; omega))).trans f3
  replace f4 := (hb.cell (p := ⟨ba, 4, none⟩) (by first | omega | (dsimp only; omega))).trans f4
  replace y0 := (hb.cell (p := ⟨bb, 0, none⟩) (by first | omega | (dsimp only; omega))).trans y0
  replace y1 := (hb.cell (p := ⟨bb, 1, none⟩) (by first | omega | (dsimp only; omega))).trans y1
  replace y2 := (hb.cell (p := ⟨bb, 2, none⟩) (by first | omega | (dsimp only; omega))).trans y2
  replace y3 := (hb.cell (p := ⟨bb, 3, none⟩) (by first | omega | (dsimp only; omega))).trans y3
  replace y4 := (hb.cell (p := ⟨bb, 4, none⟩) (by first | omega | (dsimp only; omega))).trans y4
  replace d0 := (hb.cell (p := ⟨bx, 0, none⟩) (by first | omega | (dsimp only; omega))).trans d0
  replace d1 := (hb.cell (p := ⟨bx, 1, none⟩) (by first | omega | (dsimp only; omega))).trans d1
  replace d2 := (hb.cell (p := ⟨bx, 2, none⟩) (by first | omega | (dsimp only; omega))).trans d2
  replace d3 := (hb.cell (p := ⟨bx, 3, none⟩) (by first | omega | (dsimp only; omega))).trans d3
  replace d4 := (hb.cell (p := ⟨bx, 4, none⟩) (by first | omega | (dsimp only; omega))).trans d4
  replace z0 := (hb.cell (p := ⟨bz, 0, none⟩) (by first | omega | (dsimp only; omega))).trans z0
  replace z1 := (hb.cell (p := ⟨bz, 1, none⟩) (by first | omega | (dsimp only; omega))).trans z1
  replace z2 := (hb.cell (p := ⟨bz, 2, none⟩) (by first | omega | (dsimp only; omega))).trans z2
  replace z3 := (hb.cell (p := ⟨bz, 3, none⟩) (by first | omega | (dsimp only; omega))).trans z3
  replace z4 := (hb.cell (p := ⟨bz, 4, none⟩) (by first | omega | (dsimp only; omega))).trans z4
  replace HX := Lib.hid (more HX.out (Nat.le_refl _) hb)
  replace HR := Lib.hid (HR.out.below hb)
  replace HO := Lib.hid (HO.out.later (by omega) hb)
  replace HOB := Lib.hid (HOB.out.later (by omega) hb)
  replace I8 := Lib.hid (I8.out.below hb)
  replace HS := Lib.hid (HS.out.below hb)
  have hsz13 : w12.heap.size ≤ w13.heap.size := hb.size
  replace hba : ba < w13.heap.size := Nat.lt_of_lt_of_le hba hsz13
  replace hbb : bb < w13.heap.size := Nat.lt_of_lt_of_le hbb hsz13
  replace hzbx : bx < w13.heap.size := Nat.lt_of_lt_of_le hzbx hsz13
  replace hzbz : bz < w13.heap.size := Nat.lt_of_lt_of_le hzbz hsz13
  have I1 := Lib.hid (IntL.of_own (zs := zs) (by rw [HM.out]; exact ho))
  have hh13 : h9 ≤ w13.heap.size := by omega
  clear hb hsz13 ho hhw12
  go_wp2_with fail
  refine (K6.out _ _ _ _ _ I8.out.lies I1.out).mono ?_
  rintro e w14 ⟨rfl, hb⟩
  replace f0 := (hb.cell (p := ⟨ba, 0, none⟩) (by first | omega | (dsimp only; omega))).trans f0
  replace f1 := (hb.cell (p := ⟨ba, 1, none⟩) (by first | omega | (dsimp only; omega))).trans f1
  replace f2 := (hb.cell (p := ⟨ba, 2, none⟩) (by first | omega | (dsimp only; omega))).trans f2
  replace f3 := (hb.cell (p := ⟨ba, 3, none⟩) (by first | omega | (dsimp only; omega))).trans f3
  replace f4 := (hb.cell (p := ⟨ba, 4, none⟩) (by first | omega | (dsimp only; omega))).trans f4
  replace y0 := (hb.cell (p := ⟨bb, 0, none⟩) (by first | omega | (dsimp only; omega))).trans y0
  replace y1 := (hb.cell (p := ⟨bb, 1, none⟩) (by first | omega | (dsimp only; omega))).trans y1
  replace y2 := (hb.cell (p := ⟨bb, 2, none⟩) (by first | omega | (dsimp only; omega))).trans y2
  replace y3 := (hb.cell (p := ⟨bb, 3, none⟩) (by first | omega | (dsimp only; omega))).trans y3
  replace y4 := (hb.cell (p := ⟨bb, 4, none⟩) (by first | omega | (dsimp only; omega))).trans y4
  replace d0 := (hb.cell (p := ⟨bx, 0, none⟩) (by first | omega | (dsimp only; omega))).trans d0
  replace d1 := (hb.cell (p := ⟨bx, 1, none⟩) (by first | omega | (dsimp only; omega))).trans d1
  replace d2 := (hb.cell (p := ⟨bx, 2, none⟩) (by first | omega | (dsimp only; omega))).trans d2
  replace d3 := (hb.cell (p := ⟨bx, 3, none⟩) (by first | omega | (dsimp only; omega))).trans d3
  replace d4 := (hb.cell (p := ⟨bx, 4, none⟩) (by first | omega | (dsimp only; omega))).trans d4
  replace z0 := (hb.cell (p := ⟨bz, 0, none⟩) (by first | omega | (dsimp only; omega))).trans z0
  replace z1 := (hb.cell (p := ⟨bz, 1, none⟩) (by first | omega | (dsimp only; omega))).trans z1
  replace z2 := (hb.cell (p := ⟨bz, 2, none⟩) (by first | omega | (dsimp only; omega))).trans z2
  replace z3 := (hb.cell (p := ⟨bz, 3, none⟩) (by first | omega | (dsimp only; omega))).trans z3
  replace z4 := (hb.cell (p := ⟨bz, 4, none⟩) (by first | omega | (dsimp only; omega))).trans z4
  replace HX := Lib.hid (more HX.out (Nat.le_refl _) hb)
  replace HR := Lib.hid (HR.out.below hb)
  replace HO := Lib.hid (HO.out.later (by omega) hb)
  replace HOB := Lib.hid (HOB.out.later (by omega) hb)
  replace I8 := Lib.hid (I8.out.below hb)
  replace HS := Lib.hid (HS.out.below hb)
  have hsz14 : w13.heap.size ≤ w14.heap.size := hb.size
  replace hba : ba < w14.heap.size := Nat.lt_of_lt_of_le hba hsz14
  replace hbb : bb < w14.heap.size := Nat.lt_of_lt_of_le hbb hsz14
  replace hzbx : bx < w14.heap.size := Nat.lt_of_lt_of_le hzbx hsz14
  replace hzbz : bz < w14.heap.size := Nat.lt_of_lt_of_le hzbz hsz14
  have hh14 : h9 ≤ w14.heap.size := by omega
  clear hb hsz14 I1 hh13
  go_wp2_with fail
  obtain ⟨u9, hu9⟩ : ∃ q : Nat, 1 + 4 * np + wk = q := ⟨_, rfl⟩
  obtain ⟨x9, hx9⟩ : ∃ q : Nat, u9 + 4 * np2 + wk2 = q := ⟨_, rfl⟩
  obtain ⟨v9, hv9⟩ : ∃ q : Nat, x9 + m = q := ⟨_, rfl⟩
  obtain ⟨y9, hy9⟩ : ∃ q : Nat, 1 + m9 = q := ⟨_, rfl⟩
  have HU9 := Lib.hid hu9
  have HX9 := Lib.hid hx9
  have HV9 := Lib.hid hv9
  have HY9 := Lib.hid hy9
  have hx5 : x9 ≤ 50000000 := by omega
  have hu1 : 0 < u9 := by omega
  have hu5 : u9 + 4 * np2 + wk2 ≤ 50000000 := by omega
  have hneg : decide ((v9 : Int) < 0) = false := by simp
  have hneg2 : decide ((y9 : Int) < 0) = false := by simp
  clear hu9 hx9 hv9 hy9
  refine (KM.out _ _ _ _ w14 HO.out (by omega)).mono ?_
  rintro e w15 ⟨rfl, _, ht⟩
  replace f0 := (World.cell?_of_block (a := ⟨ba, 0, none⟩) (ht.block ba (by first | omega | (dsimp only; omega)) (by first | omega | (dsimp only; omega)))).trans f0
  replace f1 := (World.cell?_of_block (a := ⟨ba, 1, none⟩) (ht.block ba (by first | omega | (dsimp only; omega)) (by first | omega | (dsimp only; omega)))).trans f1
  replace f2 := (World.cell?_of_block (a := ⟨ba, 2, none⟩) (ht.block ba (by first | omega | (dsimp only; omega)) (by first | omega | (dsimp only; omega)))).trans f2
  replace f3 := (World.cell?_of_block (a := ⟨ba, 3, none⟩) (ht.block ba (by first | omega | (dsimp only; omega)) (by first | omega | (dsimp only; omega)))).trans f3
  replace f4 := (World.cell?_of_block (a := ⟨ba, 4, none⟩) (ht.block ba (by first | omega | (dsimp only; omega)) (by first | omega | (dsimp only; omega)))).trans f4
  replace y0 := (World.cell?_of_block (a := ⟨bb, 0, none⟩) (ht.block bb (by first | omega | (dsimp only; omega)) (by first | omega | (dsimp only; omega)))).trans y0
  replace y1 := (World.cell?_of_block (a := ⟨bb, 1, none⟩) (ht.block bb (by first | omega | (dsimp only; omega)) (by first | omega | (dsimp only; omega)))).trans y1
  replace y2 := (World.cell?_of_block (a := ⟨bb, 2, none⟩) (ht.block bb (by first | omega | (dsimp only; omega)) (by first | omega | (dsimp only; omega)))).trans y2
  replace y3 := (World.cell?_of_block (a := ⟨bb, 3, none⟩) (ht.block bb (by first | omega | (dsimp only; omega)) (by first | omega | (dsimp only; omega)))).trans y3
  replace y4 := (World.cell?_of_block (a := ⟨bb, 4, none⟩) (ht.block bb (by first | omega | (dsimp only; omega)) (by first | omega | (dsimp only; omega)))).trans y4
  replace d0 := (World.cell?_of_block (a := ⟨bx, 0, none⟩) (ht.block bx (by first | omega | (dsimp only; omega)) (by first | omega | (dsimp only; omega)))).trans d0
  replace d1 := (World.cell?_of_block (a := ⟨bx, 1, none⟩) (ht.block bx (by first | omega | (dsimp only; omega)) (by first | omega | (dsimp only; omega)))).trans d1
  replace d2 := (World.cell?_of_block (a := ⟨bx, 2, none⟩) (ht.block bx (by first | omega | (dsimp only; omega)) (by first | omega | (dsimp only; omega)))).trans d2
  replace d3 := (World.cell?_of_block (a := ⟨bx, 3, none⟩) (ht.block bx (by first | omega | (dsimp only; omega)) (by first | omega | (dsimp only; omega)))).trans d3
  replace d4 := (World.cell?_of_block (a := ⟨bx, 4, none⟩) (ht.block bx (by first | omega | (dsimp only; omega)) (by first | omega | (dsimp only; omega)))).trans d4
  replace z0 := (World.cell?_of_block (a := ⟨bz, 0, none⟩) (ht.block bz (by first | omega | (dsimp only; omega)) (by first | omega | (dsimp only; omega)))).trans z0
  replace z1 := (World.cell?_of_block (a := ⟨bz, 1, none⟩) (ht.block bz (by first | omega | (dsimp only; omega)) (by first | omega | (dsimp only; omega)))).trans z1
  replace z2 := (World.cell?_of_block (a := ⟨bz, 2, none⟩) (ht.block bz (by first | omega | (dsimp only; omega)) (by first | omega | (dsimp only; omega)))).trans z2
  replace z3 := (World.cell?_of_block (a := ⟨bz, 3, none⟩) (ht.block bz (by first | omega | (dsimp only; omega)) (by first | omega | (dsimp only; omega)))).trans z3
  replace z4 := (World.cell?_of_block (a := ⟨bz, 4, none⟩) (ht.block bz (by first | omega | (dsimp only; omega)) (by first | omega | (dsimp only; omega)))).trans z4
  replace HX := Lib.hid (HX.out.trans (ht.below (by omega) (by have := HX.out.size; omega)))
  replace HR := Lib.hid (HR.out.turn ht (by omega))
  replace HOB := Lib.hid (HOB.out.kept (fun b h1 h2 => ht.block b (by omega) (by omega)))
  replace I8 := Lib.hid (I8.out.turn ht (by omega))
  replace HS := Lib.hid (HS.out.turn ht (by omega))
  have hsz15 : w14.heap.size ≤ w15.heap.size := ht.size
  replace hba : ba < w15.heap.size := Nat.lt_of_lt_of_le hba hsz15
  replace hbb : bb < w15.heap.size := Nat.lt_of_lt_of_le hbb hsz15
  replace hzbx : bx < w15.heap.size := Nat.lt_of_lt_of_le hzbx hsz15
  replace hzbz : bz < w15.heap.size := Nat.lt_of_lt_of_le hzbz hsz15
  have hh15 : h9 ≤ w15.heap.size := by omega
  clear ht hsz15 HO hh14
  rw [HU9.out]
  go_wp2_with fail
  refine (KMB.out _ _ _ _ u9 w15 HOB.out (by omega) hu1 hu5).mono ?_
  rintro e w16 ⟨rfl, _, ht⟩
  replace f0 := (World.cell?_of_block (a := ⟨ba, 0, none⟩) (ht.block ba (by first | omega | (dsimp only; omega)) (by first | omega | (dsimp only; omega)))).trans f0
  replace f1 := (World.cell?_of_block (a := ⟨ba, 1, none⟩) (ht.block ba (by first | omega | (dsimp only; omega)) (by first | omega | (dsimp only; omega)))).trans f1
  replace f2 := (World.cell?_of_block (a := ⟨ba, 2, none⟩) (ht.block ba (by first | omega | (dsimp only; omega)) (by first | omega | (dsimp only; omega)))).trans f2
  replace f3 := (World.cell?_of_block (a := ⟨ba, 3, none⟩) (ht.block ba (by first | omega | (dsimp only; omega)) (by first | omega | (dsimp only; omega)))).trans f3
  replace f4 := (World.cell?_of_block (a := ⟨ba, 4, none⟩) (ht.block ba (by first | omega | (dsimp only; omega)) (by first | omega | (dsimp only; omega)))).trans f4
  replace y0 := (World.cell?_of_block (a := ⟨bb, 0, none⟩) (ht.block bb (by first | omega | (dsimp only; omega)) (by first | omega | (dsimp only; omega)))).trans y0
  replace y1 := (World.cell?_of_block (a := ⟨bb, 1, none⟩) (ht.block bb (by first | omega | (dsimp only; omega)) (by first | omega | (dsimp only; omega)))).trans y1
  replace y2 := (World.cell?_of_block (a := ⟨bb, 2, none⟩) (ht.block bb (by first | omega | (dsimp only; omega)) (by first | omega | (dsimp only; omega)))).trans y2
  replace y3 := (World.cell?_of_block (a := ⟨bb, 3, none⟩) (ht.block bb (by first | omega | (dsimp only; omega)) (by first | omega | (dsimp only; omega)))).trans y3
  replace y4 := (World.cell?_of_block (a := ⟨bb, 4, none⟩) (ht.block bb (by first | omega | (dsimp only; omega)) (by first | omega | (dsimp only; omega)))).trans y4
  replace d0 := (World.cell?_of_block (a := ⟨bx, 0, none⟩) (ht.block bx (by first | omega | (dsimp only; omega)) (by first | omega | (dsimp only; omega)))).trans d0
  replace d1 := (World.cell?_of_block (a := ⟨bx, 1, none⟩) (ht.block bx (by first | omega | (dsimp only; omega)) (by first | omega | (dsimp only; omega)))).trans d1
  replace d2 := (World.cell?_of_block (a := ⟨bx, 2, none⟩) (ht.block bx (by first | omega | (dsimp only; omega)) (by first | omega | (dsimp only; omega)))).trans d2
  replace d3 := (World.cell?_of_block (a := ⟨bx, 3, none⟩) (ht.block bx (by first | omega | (dsimp only; omega)) (by first | omega | (dsimp only; omega)))).trans d3
  replace d4 := (World.cell?_of_block (a := ⟨bx, 4, none⟩) (ht.block bx (by first | omega | (dsimp only; omega)) (by first | omega | (dsimp only; omega)))).trans d4
  replace z0 := (World.cell?_of_block (a := ⟨bz, 0, none⟩) (ht.block bz (by first | omega | (dsimp only; omega)) (by first | omega | (dsimp only; omega)))).trans z0
  replace z1 := (World.cell?_of_block (a := ⟨bz, 1, none⟩) (ht.block bz (by first | omega | (dsimp only; omega)) (by first | omega | (dsimp only; omega)))).trans z1
  replace z2 := (World.cell?_of_block (a := ⟨bz, 2, none⟩) (ht.block bz (by first | omega | (dsimp only; omega)) (by first | omega | (dsimp only; omega)))).trans z2
  replace z3 := (World.cell?_of_block (a := ⟨bz, 3, none⟩) (ht.block bz (by first | omega | (dsimp only; omega)) (by first | omega | (dsimp only; omega)))).trans z3
  replace z4 := (World.cell?_of_block (a := ⟨bz, 4, none⟩) (ht.block bz (by first | omega | (dsimp only; omega)) (by first | omega | (dsimp only; omega)))).trans z4
  replace HX := Lib.hid (HX.out.trans (ht.below (by omega) (by have := HX.out.size; omega)))
  replace HR := Lib.hid (HR.out.turn ht (by omega))
  replace I8 := Lib.hid (I8.out.turn ht (by omega))
  replace HS := Lib.hid (HS.out.turn ht (by omega))
  have hsz16 : w15.heap.size ≤ w16.heap.size := ht.size
  replace hba : ba < w16.heap.size := Nat.lt_of_lt_of_le hba hsz16
  replace hbb : bb < w16.heap.size := Nat.lt_of_lt_of_le hbb hsz16
  replace hzbx : bx < w16.heap.size := Nat.lt_of_lt_of_le hzbx hsz16
  replace hzbz : bz < w16.heap.size := Nat.lt_of_lt_of_le hzbz hsz16
  have hh16 : h9 ≤ w16.heap.size := by omega
  clear ht hsz16 HOB hh15
  rw [HX9.out]
  go_wp2_with fail
  refine (KI.out l1 m1 x9 _ _ w16 I8.out hx5).mono ?_
  rintro e w17 ⟨rfl, _, ht⟩
  replace f0 := (World.cell?_of_block (a := ⟨ba, 0, none⟩) (ht.block ba (by first | omega | (dsimp only; omega)) (by first | omega | (dsimp only; omega)))).trans f0
  replace f1 := (World.cell?_of_block (a := ⟨ba, 1, none⟩) (ht.block ba (by first | omega | (dsimp only; omega)) (by first | omega | (dsimp only; omega)))).trans f1
  replace f2 := (World.cell?_of_block (a := ⟨ba, 2, none⟩) (ht.block ba (by first | omega | (dsimp only; omega)) (by first | omega | (dsimp only; omega)))).trans f2
  replace f3 := (World.cell?_of_block (a := ⟨ba, 3, none⟩) (ht.block ba (by first | omega | (dsimp only; omega)) (by first | omega | (dsimp only; omega)))).trans f3
  replace f4 := (World.cell?_of_block (a := ⟨ba, 4, none⟩) (ht.block ba (by first | omega | (dsimp only; omega)) (by first | omega | (dsimp only; omega)))).trans f4
  replace y0 := (World.cell?_of_block (a := ⟨bb, 0, none⟩) (ht.block bb (by first | omega | (dsimp only; omega)) (by first | omega | (dsimp only; omega)))).trans y0
  replace y1 := (World.cell?_of_block (a := ⟨bb, 1, none⟩) (ht.block bb (by first | omega | (dsimp only; omega)) (by first | omega | (dsimp only; omega)))).trans y1
  replace y2 := (World.cell?_of_block (a := ⟨bb, 2, none⟩) (ht.block bb (by first | omega | (dsimp only; omega)) (by first | omega | (dsimp only; omega)))).trans y2
  replace y3 := (World.cell?_of_block (a := ⟨bb, 3, none⟩) (ht.block bb (by first | omega | (dsimp only; omega)) (by first | omega | (dsimp only; omega)))).trans y3
  replace y4 := (World.cell?_of_block (a := ⟨bb, 4, none⟩) (ht.block bb (by first | omega | (dsimp only; omega)) (by first | omega | (dsimp only; omega)))).trans y4
  replace d0 := (World.cell?_of_block (a := ⟨bx, 0, none⟩) (ht.block bx (by first | omega | (dsimp only; omega)) (by first | omega | (dsimp only; omega)))).trans d0
  replace d1 := (World.cell?_of_block (a := ⟨bx, 1, none⟩) (ht.block bx (by first | omega | (dsimp only; omega)) (by first | omega | (dsimp only; omega)))).trans d1
  replace d2 := (World.cell?_of_block (a := ⟨bx, 2, none⟩) (ht.block bx (by first | omega | (dsimp only; omega)) (by first | omega | (dsimp only; omega)))).trans d2
  replace d3 := (World.cell?_of_block (a := ⟨bx, 3, none⟩) (ht.block bx (by first | omega | (dsimp only; omega)) (by first | omega | (dsimp only; omega)))).trans d3
  replace d4 := (World.cell?_of_block (a := ⟨bx, 4, none⟩) (ht.block bx (by first | omega | (dsimp only; omega)) (by first | omega | (dsimp only; omega)))).trans d4
  replace z0 := (World.cell?_of_block (a := ⟨bz, 0, none⟩) (ht.block bz (by first | omega | (dsimp only; omega)) (by first | omega | (dsimp only; omega)))).trans z0
  replace z1 := (World.cell?_of_block (a := ⟨bz, 1, none⟩) (ht.block bz (by first | omega | (dsimp only; omega)) (by first | omega | (dsimp only; omega)))).trans z1
  replace z2 := (World.cell?_of_block (a := ⟨bz, 2, none⟩) (ht.block bz (by first | omega | (dsimp only; omega)) (by first | omega | (dsimp only; omega)))).trans z2
  replace z3 := (World.cell?_of_block (a := ⟨bz, 3, none⟩) (ht.block bz (by first | omega | (dsimp only; omega)) (by first | omega | (dsimp only; omega)))).trans z3
  replace z4 := (World.cell?_of_block (a := ⟨bz, 4, none⟩) (ht.block bz (by first | omega | (dsimp only; omega)) (by first | omega | (dsimp only; omega)))).trans z4
  replace HX := Lib.hid (HX.out.trans (ht.below (by omega) (by have := HX.out.size; omega)))
  replace HR := Lib.hid (HR.out.turn ht (by omega))
  replace HS := Lib.hid (HS.out.turn ht (by omega))
  have hsz17 : w16.heap.size ≤ w17.heap.size := ht.size
  replace hba : ba < w17.heap.size := Nat.lt_of_lt_of_le hba hsz17
  replace hbb : bb < w17.heap.size := Nat.lt_of_lt_of_le hbb hsz17
  replace hzbx : bx < w17.heap.size := Nat.lt_of_lt_of_le hzbx hsz17
  replace hzbz : bz < w17.heap.size := Nat.lt_of_lt_of_le hzbz hsz17
  have hh17 : h9 ≤ w17.heap.size := by omega
  clear ht hsz17 I8 hh16
  rw [HV9.out]
  go_wp2_with fail
  refine (K6R.out _ _ _ _ _ HS.out.lies HR.out.lies).mono ?_
  rintro e w18 ⟨rfl, hb⟩
  replace f0 := (hb.cell (p := ⟨ba, 0, none⟩) (by first | omega | (dsimp only; omega))).trans f0
  replace f1 := (hb.cell (p := ⟨ba, 1, none⟩) (by first | omega | (dsimp only; omega))).trans f1
  replace f2 := (hb.cell (p := ⟨ba, 2, none⟩) (by first | omega | (dsimp only; omega))).trans f2
  replace f3 := (hb.cell (p := ⟨ba, 3, none⟩) (by first | omega | (dsimp only; omega))).trans f3
  replace f4 := (hb.cell (p := ⟨ba, 4, none⟩) (by first | omega | (dsimp only; omega))).trans f4
  replace y0 := (hb.cell (p := ⟨bb, 0, none⟩) (by first | omega | (dsimp only; omega))).trans y0
  replace y1 := (hb.cell (p := ⟨bb, 1, none⟩) (by first | omega | (dsimp only; omega))).trans y1
  replace y2 := (hb.cell (p := ⟨bb, 2, none⟩) (by first | omega | (dsimp only; omega))).trans y2
  replace y3 := (hb.cell (p := ⟨bb, 3, none⟩) (by first | omega | (dsimp only; omega))).trans y3
  replace y4 := (hb.cell (p := ⟨bb, 4, none⟩) (by first | omega | (dsimp only; omega))).trans y4
  replace d0 := (hb.cell (p := ⟨bx, 0, none⟩) (by first | omega | (dsimp only; omega))).trans d0
  replace d1 := (hb.cell (p := ⟨bx, 1, none⟩) (by first | omega | (dsimp only; omega))).trans d1
  replace d2 := (hb.cell (p := ⟨bx, 2, none⟩) (by first | omega | (dsimp only; omega))).trans d2
  replace d3 := (hb.cell (p := ⟨bx, 3, none⟩) (by first | omega | (dsimp only; omega))).trans d3
  replace d4 := (hb.cell (p := ⟨bx, 4, none⟩) (by first | omega | (dsimp only; omega))).trans d4
  replace z0 := (hb.cell (p := ⟨bz, 0, none⟩) (by first | omega | (dsimp only; omega))).trans z0
  replace z1 := (hb.cell (p := ⟨bz, 1, none⟩) (by first | omega | (dsimp only; omega))).trans z1
  replace z2 := (hb.cell (p := ⟨bz, 2, none⟩) (by first | omega | (dsimp only; omega))).trans z2
  replace z3 := (hb.cell (p := ⟨bz, 3, none⟩) (by first | omega | (dsimp only; omega))).trans z3
  replace z4 := (hb.cell (p := ⟨bz, 4, none⟩) (by first | omega | (dsimp only; omega))).trans z4
  replace HX := Lib.hid (more HX.out (Nat.le_refl _) hb)
  replace HR := Lib.hid (HR.out.below hb)
  replace HS := Lib.hid (HS.out.below hb)
  have hsz18 : w17.heap.size ≤ w18.heap.size := hb.size
  replace hba : ba < w18.heap.size := Nat.lt_of_lt_of_le hba hsz18
  replace hbb : bb < w18.heap.size := Nat.lt_of_lt_of_le hbb hsz18
  replace hzbx : bx < w18.heap.size := Nat.lt_of_lt_of_le hzbx hsz18
  replace hzbz : bz < w18.heap.size := Nat.lt_of_lt_of_le hzbz hsz18
  have hh18 : h9 ≤ w18.heap.size := by omega
  clear hb hsz18 hh17
  go_wp2_with fail
  refine (KIR.out l5 h9 1 _ _ w18 HS.out (by omega)).mono ?_
  rintro e w19 ⟨rfl, ho, ht⟩
  replace f0 := (World.cell?_of_block (a := ⟨ba, 0, none⟩) (ht.block ba (by first | omega | (dsimp only; omega)) (by first | omega | (dsimp only; omega)))).trans f0
  replace f1 := (World.cell?_of_block (a := ⟨ba, 1, none⟩) (ht.block ba (by first | omega | (dsimp only; omega)) (by first | omega | (dsimp only; omega)))).trans f1
  replace f2 := (World.cell?_of_block (a := ⟨ba, 2, none⟩) (ht.block ba (by first | omega | (dsimp only; omega)) (by first | omega | (dsimp only; omega)))).trans f2
  replace f3 := (World.cell?_of_block (a := ⟨ba, 3, none⟩) (ht.block ba (by first | omega | (dsimp only; omega)) (by first | omega | (dsimp only; omega)))).trans f3
  replace f4 := (World.cell?_of_block (a := ⟨ba, 4, none⟩) (ht.block ba (by first | omega | (dsimp only; omega)) (by first | omega | (dsimp only; omega)))).trans f4
  replace y0 := (World.cell?_of_block (a := ⟨bb, 0, none⟩) (ht.block bb (by first | omega | (dsimp only; omega)) (by first | omega | (dsimp only; omega)))).trans y0
  replace y1 := (World.cell?_of_block (a := ⟨bb, 1, none⟩) (ht.block bb (by first | omega | (dsimp only; omega)) (by first | omega | (dsimp only; omega)))).trans y1
  replace y2 := (World.cell?_of_block (a := ⟨bb, 2, none⟩) (ht.block bb (by first | omega | (dsimp only; omega)) (by first | omega | (dsimp only; omega)))).trans y2
  replace y3 := (World.cell?_of_block (a := ⟨bb, 3, none⟩) (ht.block bb (by first | omega | (dsimp only; omega)) (by first | omega | (dsimp only; omega)))).trans y3
  replace y4 := (World.cell?_of_block (a := ⟨bb, 4, none⟩) (ht.block bb (by first | omega | (dsimp only; omega)) (by first | omega | (dsimp only; omega)))).trans y4
  replace d0 := (World.cell?_of_block (a := ⟨bx, 0, none⟩) (ht.block bx (by first | omega | (dsimp only; omega)) (by first | omega | (dsimp only; omega)))).trans d0
  replace d1 := (World.cell?_of_block (a := ⟨bx, 1, none⟩) (ht.block bx (by first | omega | (dsimp only; omega)) (by first | omega | (dsimp only; omega)))).trans d1
  replace d2 := (World.cell?_of_block (a := ⟨bx, 2, none⟩) (ht.block bx (by first | omega | (dsimp only; omega)) (by first | omega | (dsimp only; omega)))).trans d2
  replace d3 := (World.cell?_of_block (a := ⟨bx, 3, none⟩) (ht.block bx (by first | omega | (dsimp only; omega)) (by first | omega | (dsimp only; omega)))).trans d3
  replace d4 := (World.cell?_of_block (a := ⟨bx, 4, none⟩) (ht.block bx (by first | omega | (dsimp only; omega)) (by first | omega | (dsimp only; omega)))).trans d4
  replace z0 := (World.cell?_of_block (a := ⟨bz, 0, none⟩) (ht.block bz (by first | omega | (dsimp only; omega)) (by first | omega | (dsimp only; omega)))).trans z0
  replace z1 := (World.cell?_of_block (a := ⟨bz, 1, none⟩) (ht.block bz (by first | omega | (dsimp only; omega)) (by first | omega | (dsimp only; omega)))).trans z1
  replace z2 := (World.cell?_of_block (a := ⟨bz, 2, none⟩) (ht.block bz (by first | omega | (dsimp only; omega)) (by first | omega | (dsimp only; omega)))).trans z2
  replace z3 := (World.cell?_of_block (a := ⟨bz, 3, none⟩) (ht.block bz (by first | omega | (dsimp only; omega)) (by first | omega | (dsimp only; omega)))).trans z3
  replace z4 := (World.cell?_of_block (a := ⟨bz, 4, none⟩) (ht.block bz (by first | omega | (dsimp only; omega)) (by first | omega | (dsimp only; omega)))).trans z4
  replace HX := Lib.hid (HX.out.trans (ht.below (by omega) (by have := HX.out.size; omega)))
  replace HR := Lib.hid (HR.out.turn ht (by omega))
  have hsz19 : w18.heap.size ≤ w19.heap.size := ht.size
  replace hba : ba < w19.heap.size := Nat.lt_of_lt_of_le hba hsz19
  replace hbb : bb < w19.heap.size := Nat.lt_of_lt_of_le hbb hsz19
  replace hzbx : bx < w19.heap.size := Nat.lt_of_lt_of_le hzbx hsz19
  replace hzbz : bz < w19.heap.size := Nat.lt_of_lt_of_le hzbz hsz19
  have HM2 := Lib.hid ho
  clear ht hsz19 ho HS
  rw [HY9.out]
  go_wp2_with fail
  refine (KH.out _ _ w19 HM2.out.lies).mono ?_
  rintro e w20 ⟨rfl, hb⟩
  replace f0 := (hb.cell (p := ⟨ba, 0, none⟩) (by first | omega | (dsimp only; omega))).trans f0
  replace f1 := (hb.cell (p := ⟨ba, 1, none⟩) (by first | omega | (dsimp only; omega))).trans f1
  replace f2 := (hb.cell (p := ⟨ba, 2, none⟩) (by first | omega | (dsimp only; omega))).trans f2
  replace f3 := (hb.cell (p := ⟨ba, 3, none⟩) (by first | omega | (dsimp only; omega))).trans f3
  replace f4 := (hb.cell (p := ⟨ba, 4, none⟩) (by first | omega | (dsimp only; omega))).trans f4
  replace y0 := (hb.cell (p := ⟨bb, 0, none⟩) (by first | omega | (dsimp only; omega))).trans y0
  replace y1 := (hb.cell (p := ⟨bb, 1, none⟩) (by first | omega | (dsimp only; omega))).trans y1
  replace y2 := (hb.cell (p := ⟨bb, 2, none⟩) (by first | omega | (dsimp only; omega))).trans y2
  replace y3 := (hb.cell (p := ⟨bb, 3, none⟩) (by first | omega | (dsimp only; omega))).trans y3
  replace y4 := (hb.cell (p := ⟨bb, 4, none⟩) (by first | omega | (dsimp only; omega))).trans y4
  replace d0 := (hb.cell (p := ⟨bx, 0, none⟩) (by first | omega | (dsimp only; omega))).trans d0
  replace d1 := (hb.cell (p := ⟨bx, 1, none⟩) (by first | omega | (dsimp only; omega))).trans d1
  replace d2 := (hb.cell (p := ⟨bx, 2, none⟩) (by first | omega | (dsimp only; omega))).trans d2
  replace d3 := (hb.cell (p := ⟨bx, 3, none⟩) (by first | omega | (dsimp only; omega))).trans d3
  replace d4 := (hb.cell (p := ⟨bx, 4, none⟩) (by first | omega | (dsimp only; omega))).trans d4
  replace z0 := (hb.cell (p := ⟨bz, 0, none⟩) (by first | omega | (dsimp only; omega))).trans z0
  replace z1 := (hb.cell (p := ⟨bz, 1, none⟩) (by first | omega | (dsimp only; omega))).trans z1
  replace z2 := (hb.cell (p := ⟨bz, 2, none⟩) (by first | omega | (dsimp only; omega))).trans z2
  replace z3 := (hb.cell (p := ⟨bz, 3, none⟩) (by first | omega | (dsimp only; omega))).trans z3
  replace z4 := (hb.cell (p := ⟨bz, 4, none⟩) (by first | omega | (dsimp only; omega))).trans z4
  replace HX := Lib.hid (more HX.out (Nat.le_refl _) hb)
  replace HR := Lib.hid (HR.out.below hb)
  replace HM2 := Lib.hid (HM2.out.below hb)
  have hsz20 : w19.heap.size ≤ w20.heap.size := hb.size
  replace hba : ba < w20.heap.size := Nat.lt_of_lt_of_le hba hsz20
  replace hbb : bb < w20.heap.size := Nat.lt_of_lt_of_le hbb hsz20
  replace hzbx : bx < w20.heap.size := Nat.lt_of_lt_of_le hzbx hsz20
  replace hzbz : bz < w20.heap.size := Nat.lt_of_lt_of_le hzbz hsz20
  clear hb hsz20
  rw [HY9.out]
  go_wp2_with fail
  refine wp_region_held_drew (S := fun w' => Below w20.heap.size w20 w' ∧ w'.cell? ⟨ba, 0, none⟩ = some (.int .i64 tag) ∧ w'.cell? ⟨ba, 1, none⟩ = some (.int .i64 key) ∧ w'.cell? ⟨ba, 2, none⟩ = some (.string text) ∧ w'.cell? ⟨ba, 3, none⟩ = some (.slice A0 np c0) ∧ w'.cell? ⟨ba, 4, none⟩ = some (.slice A1 n c1) ∧ w'.cell? ⟨bb, 0, none⟩ = some (.int .i64 tag2) ∧ w'.cell? ⟨bb, 1, none⟩ = some (.int .i64 key2) ∧ w'.cell? ⟨bb, 2, none⟩ = some (.string text2) ∧ w'.cell? ⟨bb, 3, none⟩ = some (.slice B0 np2 e0) ∧ w'.cell? ⟨bb, 4, none⟩ = some (.slice B1 n2 e1) ∧ w'.cell? ⟨bx, 0, none⟩ = some (.int .i64 tag) ∧ w'.cell? ⟨bx, 1, none⟩ = some (.int .i64 key) ∧ w'.cell? ⟨bx, 2, none⟩ = some (.string text) ∧ w'.cell? ⟨bx, 3, none⟩ = some (.slice (some ⟨gx0, 0, none⟩) np np) ∧ w'.cell? ⟨bx, 4, none⟩ = some (.slice (some ⟨gx1, 0, none⟩) n n) ∧ w'.cell? ⟨bz, 0, none⟩ = some (.int .i64 tag2) ∧ w'.cell? ⟨bz, 1, none⟩ = some (.int .i64 key2) ∧ w'.cell? ⟨bz, 2, none⟩ = some (.string text2) ∧ w'.cell? ⟨bz, 3, none⟩ = some (.slice (some ⟨gy0, 0, none⟩) np2 np2) ∧ w'.cell? ⟨bz, 4, none⟩ = some (.slice (some ⟨gy1, 0, none⟩) n2 n2)) (by kernel_rfl) ?_ (fun hHeld => ?_)
  · exact ⟨Below.drew (Below.refl _ _), f0, f1, f2, f3, f4, y0, y1, y2, y3, y4, d0, d1, d2, d3, d4, z0, z1, z2, z3, z4⟩
  refine wpAnyH_take (i := 0) (oi := _) (v := ?_) rfl (by kernel_rfl) (by kernel_rfl) (by kernel_rfl) (fun _ _ _ h => h) (Or.inl ⟨by kernel_rfl, ?_⟩) (by assumption) ?_
  rotate_left
  · (intro w hSw; (try dsimp only at hSw); go_simp)
    try with_reducible rfl
  (try simp only [Act.put, qa, qb, qc, qd, qe, qf])
  refine wpAnyH_take (i := 2) (oi := _) (v := ?_) rfl (by kernel_rfl) (by kernel_rfl) (by kernel_rfl) (fun _ _ _ h => h) (Or.inl ⟨by kernel_rfl, ?_⟩) (by assumption) ?_
  rotate_left
  · (intro w hSw; (try dsimp only at hSw); go_simp)
    try with_reducible rfl
  (try simp only [Act.put, qa, qb, qc, qd, qe, qf])
  refine wpAnyH_take (i := 4) (oi := _) (v := ?_) rfl (by kernel_rfl) (by kernel_rfl) (by kernel_rfl) (fun _ _ _ h => h) (Or.inl ⟨by kernel_rfl, ?_⟩) (by assumption) ?_
  rotate_left
  · (intro w hSw; (try dsimp only at hSw); go_simp)
    try with_reducible rfl
  (try simp only [Act.put, qa, qb, qc, qd, qe, qf])
  refine wpAnyH_ready (rs := [1]) (by kernel_rfl) (by simp) ?_
  refine AllReadyH.cons (o := _) rfl (fun K hK => ?_) AllReadyH.nil
  go_simp
  have hB0 := hHeld.1
  refine (K1.out _ (HP.out.below (more HX.out (Nat.le_refl _) hB0)) (HK.out.below (more HX.out (Nat.le_refl _) hB0))).mono ?_
  rintro e v0 ⟨g0, g1, rfl, hp, _, hk, hb⟩
  refine hK.out _ _ ?_ (fun hHeld2 => ?_)
  · obtain ⟨_, f0, f1, f2, f3, f4, y0, y1, y2, y3, y4, d0, d1, d2, d3, d4, z0, z1, z2, z3, z4⟩ := hHeld
    exact ⟨hB0.trans (hb.mono hB0.size), (hb.cell (p := ⟨ba, 0, none⟩) (Nat.lt_of_lt_of_le hba hB0.size)).trans f0, (hb.cell (p := ⟨ba, 1, none⟩) (Nat.lt_of_lt_of_le hba hB0.size)).trans f1, (hb.cell (p := ⟨ba, 2, none⟩) (Nat.lt_of_lt_of_le hba hB0.size)).trans f2, (hb.cell (p := ⟨ba, 3, none⟩) (Nat.lt_of_lt_of_le hba hB0.size)).trans f3, (hb.cell (p := ⟨ba, 4, none⟩) (Nat.lt_of_lt_of_le hba hB0.size)).trans f4, (hb.cell (p := ⟨bb, 0, none⟩) (Nat.lt_of_lt_of_le hbb hB0.size)).trans y0, (hb.cell (p := ⟨bb, 1, none⟩) (Nat.lt_of_lt_of_le hbb hB0.size)).trans y1, (hb.cell (p := ⟨bb, 2, none⟩) (Nat.lt_of_lt_of_le hbb hB0.size)).trans y2, (hb.cell (p := ⟨bb, 3, none⟩) (Nat.lt_of_lt_of_le hbb hB0.size)).trans y3, (hb.cell (p := ⟨bb, 4, none⟩) (Nat.lt_of_lt_of_le hbb hB0.size)).trans y4, (hb.cell (p := ⟨bx, 0, none⟩) (Nat.lt_of_lt_of_le hzbx hB0.size)).trans d0, (hb.cell (p := ⟨bx, 1, none⟩) (Nat.lt_of_lt_of_le hzbx hB0.size)).trans d1, (hb.cell (p := ⟨bx, 2, none⟩) (Nat.lt_of_lt_of_le hzbx hB0.size)).trans d2, (hb.cell (p := ⟨bx, 3, none⟩) (Nat.lt_of_lt_of_le hzbx hB0.size)).trans d3, (hb.cell (p := ⟨bx, 4, none⟩) (Nat.lt_of_lt_of_le hzbx hB0.size)).trans d4, (hb.cell (p := ⟨bz, 0, none⟩) (Nat.lt_of_lt_of_le hzbz hB0.size)).trans z0, (hb.cell (p := ⟨bz, 1, none⟩) (Nat.lt_of_lt_of_le hzbz hB0.size)).trans z1, (hb.cell (p := ⟨bz, 2, none⟩) (Nat.lt_of_lt_of_le hzbz hB0.size)).trans z2, (hb.cell (p := ⟨bz, 3, none⟩) (Nat.lt_of_lt_of_le hzbz hB0.size)).trans z3, (hb.cell (p := ⟨bz, 4, none⟩) (Nat.lt_of_lt_of_le hzbz hB0.size)).trans z4⟩
  have P1 := Lib.hid hp
  have Q1 := Lib.hid (hk.mono (Nat.zero_le _))
  clear hp hk
  clear hK K hb hB0 hHeld
  have hHeld := hHeld2
  clear hHeld2
  (try simp only [Act.put, qa, qb, qc, qd, qe, qf])
  refine wpAnyH_ready (rs := [3]) (by kernel_rfl) (by simp) ?_
  refine AllReadyH.cons (o := _) rfl (fun K hK => ?_) AllReadyH.nil
  go_simp
  have hB0 := hHeld.1
  refine (K1B.out _ (HPB.out.below (more HX.out (Nat.le_refl _) hB0)) (HKB.out.below (more HX.out (Nat.le_refl _) hB0))).mono ?_
  rintro e v1 ⟨g0b, g1b, rfl, hp, _, hk, hb⟩
  refine hK.out _ _ ?_ (fun hHeld2 => ?_)
  · obtain ⟨_, f0, f1, f2, f3, f4, y0, y1, y2, y3, y4, d0, d1, d2, d3, d4, z0, z1, z2, z3, z4⟩ := hHeld
    exact ⟨hB0.trans (hb.mono hB0.size), (hb.cell (p := ⟨ba, 0, none⟩) (Nat.lt_of_lt_of_le hba hB0.size)).trans f0, (hb.cell (p := ⟨ba, 1, none⟩) (Nat.lt_of_lt_of_le hba hB0.size)).trans f1, (hb.cell (p := ⟨ba, 2, none⟩) (Nat.lt_of_lt_of_le hba hB0.size)).trans f2, (hb.cell (p := ⟨ba, 3, none⟩) (Nat.lt_of_lt_of_le hba hB0.size)).trans f3, (hb.cell (p := ⟨ba, 4, none⟩) (Nat.lt_of_lt_of_le hba hB0.size)).trans f4, (hb.cell (p := ⟨bb, 0, none⟩) (Nat.lt_of_lt_of_le hbb hB0.size)).trans y0, (hb.cell (p := ⟨bb, 1, none⟩) (Nat.lt_of_lt_of_le hbb hB0.size)).trans y1, (hb.cell (p := ⟨bb, 2, none⟩) (Nat.lt_of_lt_of_le hbb hB0.size)).trans y2, (hb.cell (p := ⟨bb, 3, none⟩) (Nat.lt_of_lt_of_le hbb hB0.size)).trans y3, (hb.cell (p := ⟨bb, 4, none⟩) (Nat.lt_of_lt_of_le hbb hB0.size)).trans y4, (hb.cell (p := ⟨bx, 0, none⟩) (Nat.lt_of_lt_of_le hzbx hB0.size)).trans d0, (hb.cell (p := ⟨bx, 1, none⟩) (Nat.lt_of_lt_of_le hzbx hB0.size)).trans d1, (hb.cell (p := ⟨bx, 2, none⟩) (Nat.lt_of_lt_of_le hzbx hB0.size)).trans d2, (hb.cell (p := ⟨bx, 3, none⟩) (Nat.lt_of_lt_of_le hzbx hB0.size)).trans d3, (hb.cell (p := ⟨bx, 4, none⟩) (Nat.lt_of_lt_of_le hzbx hB0.size)).trans d4, (hb.cell (p := ⟨bz, 0, none⟩) (Nat.lt_of_lt_of_le hzbz hB0.size)).trans z0, (hb.cell (p := ⟨bz, 1, none⟩) (Nat.lt_of_lt_of_le hzbz hB0.size)).trans z1, (hb.cell (p := ⟨bz, 2, none⟩) (Nat.lt_of_lt_of_le hzbz hB0.size)).trans z2, (hb.cell (p := ⟨bz, 3, none⟩) (Nat.lt_of_lt_of_le hzbz hB0.size)).trans z3, (hb.cell (p := ⟨bz, 4, none⟩) (Nat.lt_of_lt_of_le hzbz hB0.size)).trans z4⟩
  replace P1 := Lib.hid (P1.out.below hb)
  replace Q1 := Lib.hid (Q1.out.below hb)
  have P2 := Lib.hid hp
  have Q2 := Lib.hid (hk.mono (Nat.zero_le _))
  clear hp hk
  clear hK K hb hB0 hHeld
  have hHeld := hHeld2
  clear hHeld2
  (try simp only [Act.put, qa, qb, qc, qd, qe, qf])
  refine wpAnyH_ready (rs := [5]) (by kernel_rfl) (by simp) ?_
  refine AllReadyH.cons (o := _) rfl (fun K hK => ?_) AllReadyH.nil
  go_simp
  have hB0 := hHeld.1
  refine (K5.out _ (HI.out.below (more HX.out (Nat.le_refl _) hB0))).mono ?_
  rintro e v2 ⟨h0, rfl, ho, hb⟩
  refine hK.out _ _ ?_ (fun hHeld2 => ?_)
  · obtain ⟨_, f0, f1, f2, f3, f4, y0, y1, y2, y3, y4, d0, d1, d2, d3, d4, z0, z1, z2, z3, z4⟩ := hHeld
    exact ⟨hB0.trans (hb.mono hB0.size), (hb.cell (p := ⟨ba, 0, none⟩) (Nat.lt_of_lt_of_le hba hB0.size)).trans f0, (hb.cell (p := ⟨ba, 1, none⟩) (Nat.lt_of_lt_of_le hba hB0.size)).trans f1, (hb.cell (p := ⟨ba, 2, none⟩) (Nat.lt_of_lt_of_le hba hB0.size)).trans f2, (hb.cell (p := ⟨ba, 3, none⟩) (Nat.lt_of_lt_of_le hba hB0.size)).trans f3, (hb.cell (p := ⟨ba, 4, none⟩) (Nat.lt_of_lt_of_le hba hB0.size)).trans f4, (hb.cell (p := ⟨bb, 0, none⟩) (Nat.lt_of_lt_of_le hbb hB0.size)).trans y0, (hb.cell (p := ⟨bb, 1, none⟩) (Nat.lt_of_lt_of_le hbb hB0.size)).trans y1, (hb.cell (p := ⟨bb, 2, none⟩) (Nat.lt_of_lt_of_le hbb hB0.size)).trans y2, (hb.cell (p := ⟨bb, 3, none⟩) (Nat.lt_of_lt_of_le hbb hB0.size)).trans y3, (hb.cell (p := ⟨bb, 4, none⟩) (Nat.lt_of_lt_of_le hbb hB0.size)).trans y4, (hb.cell (p := ⟨bx, 0, none⟩) (Nat.lt_of_lt_of_le hzbx hB0.size)).trans d0, (hb.cell (p := ⟨bx, 1, none⟩) (Nat.lt_of_lt_of_le hzbx hB0.size)).trans d1, (hb.cell (p := ⟨bx, 2, none⟩) (Nat.lt_of_lt_of_le hzbx hB0.size)).trans d2, (hb.cell (p := ⟨bx, 3, none⟩) (Nat.lt_of_lt_of_le hzbx hB0.size)).trans d3, (hb.cell (p := ⟨bx, 4, none⟩) (Nat.lt_of_lt_of_le hzbx hB0.size)).trans d4, (hb.cell (p := ⟨bz, 0, none⟩) (Nat.lt_of_lt_of_le hzbz hB0.size)).trans z0, (hb.cell (p := ⟨bz, 1, none⟩) (Nat.lt_of_lt_of_le hzbz hB0.size)).trans z1, (hb.cell (p := ⟨bz, 2, none⟩) (Nat.lt_of_lt_of_le hzbz hB0.size)).trans z2, (hb.cell (p := ⟨bz, 3, none⟩) (Nat.lt_of_lt_of_le hzbz hB0.size)).trans z3, (hb.cell (p := ⟨bz, 4, none⟩) (Nat.lt_of_lt_of_le hzbz hB0.size)).trans z4⟩
  replace P1 := Lib.hid (P1.out.below hb)
  replace Q1 := Lib.hid (Q1.out.below hb)
  replace P2 := Lib.hid (P2.out.below hb)
  replace Q2 := Lib.hid (Q2.out.below hb)
  have I1 := Lib.hid (IntL.of_own (zs := zs) (by rw [HM.out]; exact ho))
  clear ho
  clear hK K hb hB0 hHeld
  have hHeld := hHeld2
  clear hHeld2
  (try simp only [Act.put, qa, qb, qc, qd, qe, qf])
  refine wpAnyH_ready (rs := [6]) (by kernel_rfl) (by simp) ?_
  refine AllReadyH.cons (o := _) rfl (fun K hK => ?_) AllReadyH.nil
  go_simp
  have hB0 := hHeld.1
  refine (K3.out _ _ _ _ _ _ (HT.out.next (more HX.out (Nat.le_refl _) hB0)) P1.out Q1.out P2.out Q2.out I1.out).mono ?_
  rintro e v3 ⟨T0, t0, rfl, ho, hb⟩
  refine hK.out _ _ ?_ (fun hHeld2 => ?_)
  · obtain ⟨_, f0, f1, f2, f3, f4, y0, y1, y2, y3, y4, d0, d1, d2, d3, d4, z0, z1, z2, z3, z4⟩ := hHeld
    exact ⟨hB0.trans (hb.mono hB0.size), (hb.cell (p := ⟨ba, 0, none⟩) (Nat.lt_of_lt_of_le hba hB0.size)).trans f0, (hb.cell (p := ⟨ba, 1, none⟩) (Nat.lt_of_lt_of_le hba hB0.size)).trans f1, (hb.cell (p := ⟨ba, 2, none⟩) (Nat.lt_of_lt_of_le hba hB0.size)).trans f2, (hb.cell (p := ⟨ba, 3, none⟩) (Nat.lt_of_lt_of_le hba hB0.size)).trans f3, (hb.cell (p := ⟨ba, 4, none⟩) (Nat.lt_of_lt_of_le hba hB0.size)).trans f4, (hb.cell (p := ⟨bb, 0, none⟩) (Nat.lt_of_lt_of_le hbb hB0.size)).trans y0, (hb.cell (p := ⟨bb, 1, none⟩) (Nat.lt_of_lt_of_le hbb hB0.size)).trans y1, (hb.cell (p := ⟨bb, 2, none⟩) (Nat.lt_of_lt_of_le hbb hB0.size)).trans y2, (hb.cell (p := ⟨bb, 3, none⟩) (Nat.lt_of_lt_of_le hbb hB0.size)).trans y3, (hb.cell (p := ⟨bb, 4, none⟩) (Nat.lt_of_lt_of_le hbb hB0.size)).trans y4, (hb.cell (p := ⟨bx, 0, none⟩) (Nat.lt_of_lt_of_le hzbx hB0.size)).trans d0, (hb.cell (p := ⟨bx, 1, none⟩) (Nat.lt_of_lt_of_le hzbx hB0.size)).trans d1, (hb.cell (p := ⟨bx, 2, none⟩) (Nat.lt_of_lt_of_le hzbx hB0.size)).trans d2, (hb.cell (p := ⟨bx, 3, none⟩) (Nat.lt_of_lt_of_le hzbx hB0.size)).trans d3, (hb.cell (p := ⟨bx, 4, none⟩) (Nat.lt_of_lt_of_le hzbx hB0.size)).trans d4, (hb.cell (p := ⟨bz, 0, none⟩) (Nat.lt_of_lt_of_le hzbz hB0.size)).trans z0, (hb.cell (p := ⟨bz, 1, none⟩) (Nat.lt_of_lt_of_le hzbz hB0.size)).trans z1, (hb.cell (p := ⟨bz, 2, none⟩) (Nat.lt_of_lt_of_le hzbz hB0.size)).trans z2, (hb.cell (p := ⟨bz, 3, none⟩) (Nat.lt_of_lt_of_le hzbz hB0.size)).trans z3, (hb.cell (p := ⟨bz, 4, none⟩) (Nat.lt_of_lt_of_le hzbz hB0.size)).trans z4⟩
  have HT0 := Lib.hid (IntL.of_any (zs := rz) (by rw [HM9.out]; exact ho))
  clear ho P1 Q1 P2 Q2 I1
  clear hK K hb hB0 hHeld
  have hHeld := hHeld2
  clear hHeld2
  (try simp only [Act.put, qa, qb, qc, qd, qe, qf])
  refine wpAnyH_take (i := 7) (oi := _) (v := ?_) rfl (by kernel_rfl) (by kernel_rfl) (by kernel_rfl) (fun _ _ _ h => h) (Or.inl ⟨by kernel_rfl, ?_⟩) (by assumption) ?_
  rotate_left
  · (intro w hSw; (try dsimp only at hSw); go_simp)
    try with_reducible rfl
  (try simp only [Act.put, qa, qb, qc, qd, qe, qf])
  refine wpAnyH_take (i := 8) (oi := _) (v := ?_) rfl (by kernel_rfl) (by kernel_rfl) (by kernel_rfl) (fun _ _ _ h => h) (Or.inl ⟨by kernel_rfl, ?_⟩) (by assumption) ?_
  rotate_left
  · (intro w hSw; (try dsimp only at hSw); go_simp)
    try with_reducible rfl
  (try simp only [Act.put, qa, qb, qc, qd, qe, qf])
  refine wpAnyH_take (i := 9) (oi := _) (v := ?_) rfl (by kernel_rfl) (by kernel_rfl) (by kernel_rfl) (fun _ _ _ h => h) (Or.inl ⟨by kernel_rfl, ?_⟩) (by assumption) ?_
  rotate_left
  · (intro w hSw; (try dsimp only at hSw); go_simp)
    try with_reducible rfl
  (try simp only [Act.put, qa, qb, qc, qd, qe, qf])
  refine wpAnyH_take (i := 10) (oi := _) (v := ?_) rfl (by kernel_rfl) (by kernel_rfl) (by kernel_rfl) (fun _ _ _ h => h) (Or.inl ⟨by kernel_rfl, ?_⟩) (by assumption) ?_
  rotate_left
  · (intro w hSw; (try dsimp only at hSw); go_simp)
    try with_reducible rfl
  (try simp only [Act.put, qa, qb, qc, qd, qe, qf])
  refine wpAnyH_take (i := 11) (oi := _) (v := ?_) rfl (by kernel_rfl) (by kernel_rfl) (by kernel_rfl) (fun _ _ _ h => h) (Or.inl ⟨by kernel_rfl, ?_⟩) (by assumption) ?_
  rotate_left
  · (intro w hSw; (try dsimp only at hSw); go_simp)
    try with_reducible rfl
  (try simp only [Act.put, qa, qb, qc, qd, qe, qf])
  refine wpAnyH_done (by kernel_rfl) ?_ _
  have hb := hHeld.1
  clear hHeld
  obtain ⟨w21, hlast⟩ : ∃ v, v3 = v := ⟨_, rfl⟩
  rw [hlast] at hb ⊢
  rw [hlast] at HT0
  clear hlast
  replace f0 := (hb.cell (p := ⟨ba, 0, none⟩) (by first | omega | (dsimp only; omega))).trans f0
  replace f1 := (hb.cell (p := ⟨ba, 1, none⟩) (by first | omega | (dsimp only; omega))).trans f1
  replace f2 := (hb.cell (p := ⟨ba, 2, none⟩) (by first | omega | (dsimp only; omega))).trans f2
  replace f3 := (hb.cell (p := ⟨ba, 3, none⟩) (by first | omega | (dsimp only; omega))).trans f3
  replace f4 := (hb.cell (p := ⟨ba, 4, none⟩) (by first | omega | (dsimp only; omega))).trans f4
  replace y0 := (hb.cell (p := ⟨bb, 0, none⟩) (by first | omega | (dsimp only; omega))).trans y0
  replace y1 := (hb.cell (p := ⟨bb, 1, none⟩) (by first | omega | (dsimp only; omega))).trans y1
  replace y2 := (hb.cell (p := ⟨bb, 2, none⟩) (by first | omega | (dsimp only; omega))).trans y2
  replace y3 := (hb.cell (p := ⟨bb, 3, none⟩) (by first | omega | (dsimp only; omega))).trans y3
  replace y4 := (hb.cell (p := ⟨bb, 4, none⟩) (by first | omega | (dsimp only; omega))).trans y4
  replace d0 := (hb.cell (p := ⟨bx, 0, none⟩) (by first | omega | (dsimp only; omega))).trans d0
  replace d1 := (hb.cell (p := ⟨bx, 1, none⟩) (by first | omega | (dsimp only; omega))).trans d1
  replace d2 := (hb.cell (p := ⟨bx, 2, none⟩) (by first | omega | (dsimp only; omega))).trans d2
  replace d3 := (hb.cell (p := ⟨bx, 3, none⟩) (by first | omega | (dsimp only; omega))).trans d3
  replace d4 := (hb.cell (p := ⟨bx, 4, none⟩) (by first | omega | (dsimp only; omega))).trans d4
  replace z0 := (hb.cell (p := ⟨bz, 0, none⟩) (by first | omega | (dsimp only; omega))).trans z0
  replace z1 := (hb.cell (p := ⟨bz, 1, none⟩) (by first | omega | (dsimp only; omega))).trans z1
  replace z2 := (hb.cell (p := ⟨bz, 2, none⟩) (by first | omega | (dsimp only; omega))).trans z2
  replace z3 := (hb.cell (p := ⟨bz, 3, none⟩) (by first | omega | (dsimp only; omega))).trans z3
  replace z4 := (hb.cell (p := ⟨bz, 4, none⟩) (by first | omega | (dsimp only; omega))).trans z4
  replace HX := Lib.hid (more HX.out (Nat.le_refl _) hb)
  replace HR := Lib.hid (HR.out.below hb)
  replace HM2 := Lib.hid (HM2.out.below hb)
  have hsz21 : w20.heap.size ≤ w21.heap.size := hb.size
  replace hba : ba < w21.heap.size := Nat.lt_of_lt_of_le hba hsz21
  replace hbb : bb < w21.heap.size := Nat.lt_of_lt_of_le hbb hsz21
  replace hzbx : bx < w21.heap.size := Nat.lt_of_lt_of_le hzbx hsz21
  replace hzbz : bz < w21.heap.size := Nat.lt_of_lt_of_le hzbz hsz21
  clear hb hsz21
  go_wp2_with fail
  refine (K6R.out _ _ _ _ _ HT0.out HR.out.lies).mono ?_
  rintro e w22 ⟨rfl, hb⟩
  replace f0 := (hb.cell (p := ⟨ba, 0, none⟩) (by first | omega | (dsimp only; omega))).trans f0
  replace f1 := (hb.cell (p := ⟨ba, 1, none⟩) (by first | omega | (dsimp only; omega))).trans f1
  replace f2 := (hb.cell (p := ⟨ba, 2, none⟩) (by first | omega | (dsimp only; omega))).trans f2
  replace f3 := (hb.cell (p := ⟨ba, 3, none⟩) (by first | omega | (dsimp only; omega))).trans f3
  replace f4 := (hb.cell (p := ⟨ba, 4, none⟩) (by first | omega | (dsimp only; omega))).trans f4
  replace y0 := (hb.cell (p := ⟨bb, 0, none⟩) (by first | omega | (dsimp only; omega))).trans y0
  replace y1 := (hb.cell (p := ⟨bb, 1, none⟩) (by first | omega | (dsimp only; omega))).trans y1
  replace y2 := (hb.cell (p := ⟨bb, 2, none⟩) (by first | omega | (dsimp only; omega))).trans y2
  replace y3 := (hb.cell (p := ⟨bb, 3, none⟩) (by first | omega | (dsimp only; omega))).trans y3
  replace y4 := (hb.cell (p := ⟨bb, 4, none⟩) (by first | omega | (dsimp only; omega))).trans y4
  replace d0 := (hb.cell (p := ⟨bx, 0, none⟩) (by first | omega | (dsimp only; omega))).trans d0
  replace d1 := (hb.cell (p := ⟨bx, 1, none⟩) (by first | omega | (dsimp only; omega))).trans d1
  replace d2 := (hb.cell (p := ⟨bx, 2, none⟩) (by first | omega | (dsimp only; omega))).trans d2
  replace d3 := (hb.cell (p := ⟨bx, 3, none⟩) (by first | omega | (dsimp only; omega))).trans d3
  replace d4 := (hb.cell (p := ⟨bx, 4, none⟩) (by first | omega | (dsimp only; omega))).trans d4
  replace z0 := (hb.cell (p := ⟨bz, 0, none⟩) (by first | omega | (dsimp only; omega))).trans z0
  replace z1 := (hb.cell (p := ⟨bz, 1, none⟩) (by first | omega | (dsimp only; omega))).trans z1
  replace z2 := (hb.cell (p := ⟨bz, 2, none⟩) (by first | omega | (dsimp only; omega))).trans z2
  replace z3 := (hb.cell (p := ⟨bz, 3, none⟩) (by first | omega | (dsimp only; omega))).trans z3
  replace z4 := (hb.cell (p := ⟨bz, 4, none⟩) (by first | omega | (dsimp only; omega))).trans z4
  replace HX := Lib.hid (more HX.out (Nat.le_refl _) hb)
  replace HR := Lib.hid (HR.out.below hb)
  replace HM2 := Lib.hid (HM2.out.below hb)
  have hsz22 : w21.heap.size ≤ w22.heap.size := hb.size
  replace hba : ba < w22.heap.size := Nat.lt_of_lt_of_le hba hsz22
  replace hbb : bb < w22.heap.size := Nat.lt_of_lt_of_le hbb hsz22
  replace hzbx : bx < w22.heap.size := Nat.lt_of_lt_of_le hzbx hsz22
  replace hzbz : bz < w22.heap.size := Nat.lt_of_lt_of_le hzbz hsz22
  clear hb hsz22 HT0
  go_wp2_with fail
  refine (KH.out _ _ w22 HM2.out.lies).mono ?_
  rintro e w23 ⟨rfl, hb⟩
  replace f0 := (hb.cell (p := ⟨ba, 0, none⟩) (by first | omega | (dsimp only; omega))).trans f0
  replace f1 := (hb.cell (p := ⟨ba, 1, none⟩) (by first | omega | (dsimp only; omega))).trans f1
  replace f2 := (hb.cell (p := ⟨ba, 2, none⟩) (by first | omega | (dsimp only; omega))).trans f2
  replace f3 := (hb.cell (p := ⟨ba, 3, none⟩) (by first | omega | (dsimp only; omega))).trans f3
  replace f4 := (hb.cell (p := ⟨ba, 4, none⟩) (by first | omega | (dsimp only; omega))).trans f4
  replace y0 := (hb.cell (p := ⟨bb, 0, none⟩) (by first | omega | (dsimp only; omega))).trans y0
  replace y1 := (hb.cell (p := ⟨bb, 1, none⟩) (by first | omega | (dsimp only; omega))).trans y1
  replace y2 := (hb.cell (p := ⟨bb, 2, none⟩) (by first | omega | (dsimp only; omega))).trans y2
  replace y3 := (hb.cell (p := ⟨bb, 3, none⟩) (by first | omega | (dsimp only; omega))).trans y3
  replace y4 := (hb.cell (p := ⟨bb, 4, none⟩) (by first | omega | (dsimp only; omega))).trans y4
  replace d0 := (hb.cell (p := ⟨bx, 0, none⟩) (by first | omega | (dsimp only; omega))).trans d0
  replace d1 := (hb.cell (p := ⟨bx, 1, none⟩) (by first | omega | (dsimp only; omega))).trans d1
  replace d2 := (hb.cell (p := ⟨bx, 2, none⟩) (by first | omega | (dsimp only; omega))).trans d2
  replace d3 := (hb.cell (p := ⟨bx, 3, none⟩) (by first | omega | (dsimp only; omega))).trans d3
  replace d4 := (hb.cell (p := ⟨bx, 4, none⟩) (by first | omega | (dsimp only; omega))).trans d4
  replace z0 := (hb.cell (p := ⟨bz, 0, none⟩) (by first | omega | (dsimp only; omega))).trans z0
  replace z1 := (hb.cell (p := ⟨bz, 1, none⟩) (by first | omega | (dsimp only; omega))).trans z1
  replace z2 := (hb.cell (p := ⟨bz, 2, none⟩) (by first | omega | (dsimp only; omega))).trans z2
  replace z3 := (hb.cell (p := ⟨bz, 3, none⟩) (by first | omega | (dsimp only; omega))).trans z3
  replace z4 := (hb.cell (p := ⟨bz, 4, none⟩) (by first | omega | (dsimp only; omega))).trans z4
  replace HX := Lib.hid (more HX.out (Nat.le_refl _) hb)
  replace HR := Lib.hid (HR.out.below hb)
  replace HM2 := Lib.hid (HM2.out.below hb)
  have hsz23 : w22.heap.size ≤ w23.heap.size := hb.size
  replace hba : ba < w23.heap.size := Nat.lt_of_lt_of_le hba hsz23
  replace hbb : bb < w23.heap.size := Nat.lt_of_lt_of_le hbb hsz23
  replace hzbx : bx < w23.heap.size := Nat.lt_of_lt_of_le hzbx hsz23
  replace hzbz : bz < w23.heap.size := Nat.lt_of_lt_of_le hzbz hsz23
  clear hb hsz23
  rw [HY9.out]
  go_wp2_with fail
  go_ret
  exact ⟨rfl, HB0.out.trans (HX.out.mono HB0.out.size)⟩
end Go.Proofs.YtcpfjlbicofkeaaDoor.fnExactWayAfter
