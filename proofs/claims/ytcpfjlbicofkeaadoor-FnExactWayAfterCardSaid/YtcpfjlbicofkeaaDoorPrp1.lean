/- Prop: one, and what the laws do with it. -/
import Derived.Test.YtcpfjlbicofkeaaDoorVaq
namespace Go.Proofs.YtcpfjlbicofkeaaDoor
open Go.Joins Go.ChangeShapes Go.WideShapes Go.ChangeAt Go.RowKit Go.Deep
set_option linter.unusedVariables false
set_option linter.unusedSimpArgs false

structure Pr where
  nm : Int
  v : Va
deriving DecidableEq
def Pr.cells (x : Pr) : List Value := [.int .i64 x.nm, .int .i64 x.v.k, .int .i64 x.v.n, .string x.v.s]
theorem Pr.cells_len (x : Pr) : x.cells.length = 4 := rfl
abbrev PrL := Lie Pr.cells 4
theorem PrL.at_ {w : World} {A : Option Addr} {xs : List Pr} (h : PrL w A xs) (h0 : 0 < xs.length) : ∃ b off, A = some ⟨b, off, none⟩ ∧ b < w.heap.size ∧ ∀ i (x : Pr), xs[i]? = some x →
    w.cell? ⟨b, off + i * 4, none⟩ = some (.int .i64 x.nm) ∧ w.cell? ⟨b, off + i * 4 + 1, none⟩ = some (.int .i64 x.v.k) ∧ w.cell? ⟨b, off + i * 4 + 2, none⟩ = some (.int .i64 x.v.n) ∧ w.cell? ⟨b, off + i * 4 + 3, none⟩ = some (.string x.v.s) := by
  obtain ⟨b, off, rfl, hlt, hc⟩ := h h0
  exact ⟨b, off, rfl, hlt, fun i x hx => ⟨hc i x hx 0 _ rfl, hc i x hx 1 _ rfl, hc i x hx 2 _ rfl, hc i x hx 3 _ rfl⟩⟩
theorem infoPr : (Tryd.prog.info? 76).map (fun i => (i.zero, i.size, i.bytes)) = some (some (.agg #[.int .i64 0, .int .i64 0, .int .i64 0, .string ⟨#[]⟩]), 4, 40) := by kernel_rfl
def szPr (x : Pr) : Int := (x.v.s.size : Int)
theorem szPr_pos (x : Pr) : 0 ≤ szPr x := by unfold szPr; omega
set_option maxHeartbeats 400000 in
theorem szPr_any (x : Pr) (left : Int) (w : World) (h : left ≤ 1048576) (h0 : 0 ≤ left) (hs : x.v.s.size ≤ maxLen) :
    Calls Tryd.prog 38 #[.agg #[.int .i64 x.nm, .int .i64 x.v.k, .int .i64 x.v.n, .string x.v.s], .int .i64 left] w fun e w' => e = .returned (.int .i64 (leftV left (szPr x))) ∧ Below w.heap.size w w' := by
  obtain ⟨nm, ⟨vk, vn, vs⟩⟩ := x
  have hk := fun w => szValue_any vk vn left vs w h h0 hs
  by_cases hl : left < vs.size
  · simp only [if_pos hl] at hk
    have K := Lib.hid hk
    have HV := Lib.hid (show leftV left (szPr ⟨nm, ⟨vk, vn, vs⟩⟩) = -1 from leftV_neg hl)
    clear hk hs
    go_enter Tryd.func38, Tryd.ntmps38
    go_wp2_with (go_at_call 56; ((with_reducible refine (K.out _).mono ?_); rintro e w' ⟨rfl, hb⟩))
    go_ret
    exact ⟨ret_int HV.out.symm, front (W0 := _) (by go_grown) (by simp <;> omega) hb⟩
  · simp only [if_neg hl] at hk
    have K := Lib.hid hk
    have HV := Lib.hid (show leftV left (szPr ⟨nm, ⟨vk, vn, vs⟩⟩) = left - vs.size from leftV_pos (by show (vs.size : Int) ≤ left; omega))
    have hq : 0 ≤ left - (vs.size : Int) := by omega
    clear hk hs
    go_enter Tryd.func38, Tryd.ntmps38
    go_wp2_with (go_at_call 56; ((with_reducible refine (K.out _).mono ?_); rintro e w' ⟨rfl, hb⟩))
    go_ret
    exact ⟨ret_int HV.out.symm, front (W0 := _) (by go_grown) (by simp <;> omega) hb⟩
set_option maxHeartbeats 2000000 in
theorem toPr_any (x : Pr) (w : World) :
    Calls Tryd.prog 44 #[.agg #[.int .i64 x.nm, .int .i64 x.v.k, .int .i64 x.v.n, .string x.v.s]] w fun e w' => e = .returned (.agg #[.int .i64 x.nm, .int .i64 x.v.k, .int .i64 x.v.n, .string x.v.s]) ∧ Below w.heap.size w w' := by
  obtain ⟨nm, ⟨vk, vn, vs⟩⟩ := x
  have K := Lib.hid (fun w => toValue_any vk vn vs w)
  go_enter Tryd.func44, Tryd.ntmps44
  go_wp2_with fail
  refine (K.out _).mono ?_
  rintro e w1 ⟨rfl, hb⟩
  have HB := Lib.hid (front (w := w) (W0 := _) (by go_grown) (by simp <;> omega) hb)
  have hz := hb.size
  simp at hz
  obtain ⟨hc, hf⟩ := bcell hb
  simp at hc hf
  have a0 : w1.cell? ⟨w.heap.size + 1 + 1, 0, none⟩ = some (.int .i64 nm) := by rw [hc _ _ (by omega)]; go_simp
  have z0 : w1.cell? ⟨w.heap.size + 1, 0, none⟩ = some (.int .i64 0) := by rw [hc _ _ (by omega)]; go_simp
  have a1 : w1.cell? ⟨w.heap.size + 1 + 1, 1, none⟩ = some (.int .i64 0) := by rw [hc _ _ (by omega)]; go_simp
  have z1 : w1.cell? ⟨w.heap.size + 1, 1, none⟩ = some (.int .i64 0) := by rw [hc _ _ (by omega)]; go_simp
  have a2 : w1.cell? ⟨w.heap.size + 1 + 1, 2, none⟩ = some (.int .i64 0) := by rw [hc _ _ (by omega)]; go_simp
  have z2 : w1.cell? ⟨w.heap.size + 1, 2, none⟩ = some (.int .i64 0) := by rw [hc _ _ (by omega)]; go_simp
  have a3 : w1.cell? ⟨w.heap.size + 1 + 1, 3, none⟩ = some (.string ⟨#[]⟩) := by rw [hc _ _ (by omega)]; go_simp
  have z3 : w1.cell? ⟨w.heap.size + 1, 3, none⟩ = some (.string ⟨#[]⟩) := by rw [hc _ _ (by omega)]; go_simp
  have af : ∀ o, w1.frozen? ⟨w.heap.size + 1 + 1, o, none⟩ = false := fun o => by rw [hf _ _ (by omega)]; go_simp
  have zf : ∀ o, w1.frozen? ⟨w.heap.size + 1, o, none⟩ = false := fun o => by rw [hf _ _ (by omega)]; go_simp
  clear hb hc hf
  go_upto_region 4 with (fail)
  have b0 : (((w1.setCell ⟨w.heap.size + 1 + 1, 1, none⟩ (.int .i64 vk)).setCell ⟨w.heap.size + 1 + 1, 2, none⟩ (.int .i64 vn)).setCell ⟨w.heap.size + 1 + 1, 3, none⟩ (.string vs)).cell? ⟨w.heap.size + 1 + 1, 0, none⟩ = some (.int .i64 nm) := by go_simp
  have y0 : (((w1.setCell ⟨w.heap.size + 1 + 1, 1, none⟩ (.int .i64 vk)).setCell ⟨w.heap.size + 1 + 1, 2, none⟩ (.int .i64 vn)).setCell ⟨w.heap.size + 1 + 1, 3, none⟩ (.string vs)).cell? ⟨w.heap.size + 1, 0, none⟩ = some (.int .i64 0) := by go_simp
  have b1 : (((w1.setCell ⟨w.heap.size + 1 + 1, 1, none⟩ (.int .i64 vk)).setCell ⟨w.heap.size + 1 + 1, 2, none⟩ (.int .i64 vn)).setCell ⟨w.heap.size + 1 + 1, 3, none⟩ (.string vs)).cell? ⟨w.heap.size + 1 + 1, 1, none⟩ = some (.int .i64 vk) := by go_simp
  have y1 : (((w1.setCell ⟨w.heap.size + 1 + 1, 1, none⟩ (.int .i64 vk)).setCell ⟨w.heap.size + 1 + 1, 2, none⟩ (.int .i64 vn)).setCell ⟨w.heap.size + 1 + 1, 3, none⟩ (.string vs)).cell? ⟨w.heap.size + 1, 1, none⟩ = some (.int .i64 0) := by go_simp
  have b2 : (((w1.setCell ⟨w.heap.size + 1 + 1, 1, none⟩ (.int .i64 vk)).setCell ⟨w.heap.size + 1 + 1, 2, none⟩ (.int .i64 vn)).setCell ⟨w.heap.size + 1 + 1, 3, none⟩ (.string vs)).cell? ⟨w.heap.size + 1 + 1, 2, none⟩ = some (.int .i64 vn) := by go_simp
  have y2 : (((w1.setCell ⟨w.heap.size + 1 + 1, 1, none⟩ (.int .i64 vk)).setCell ⟨w.heap.size + 1 + 1, 2, none⟩ (.int .i64 vn)).setCell ⟨w.heap.size + 1 + 1, 3, none⟩ (.string vs)).cell? ⟨w.heap.size + 1, 2, none⟩ = some (.int .i64 0) := by go_simp
  have b3 : (((w1.setCell ⟨w.heap.size + 1 + 1, 1, none⟩ (.int .i64 vk)).setCell ⟨w.heap.size + 1 + 1, 2, none⟩ (.int .i64 vn)).setCell ⟨w.heap.size + 1 + 1, 3, none⟩ (.string vs)).cell? ⟨w.heap.size + 1 + 1, 3, none⟩ = some (.string vs) := by go_simp
  have y3 : (((w1.setCell ⟨w.heap.size + 1 + 1, 1, none⟩ (.int .i64 vk)).setCell ⟨w.heap.size + 1 + 1, 2, none⟩ (.int .i64 vn)).setCell ⟨w.heap.size + 1 + 1, 3, none⟩ (.string vs)).cell? ⟨w.heap.size + 1, 3, none⟩ = some (.string ⟨#[]⟩) := by go_simp
  have bf : ∀ o, (((w1.setCell ⟨w.heap.size + 1 + 1, 1, none⟩ (.int .i64 vk)).setCell ⟨w.heap.size + 1 + 1, 2, none⟩ (.int .i64 vn)).setCell ⟨w.heap.size + 1 + 1, 3, none⟩ (.string vs)).frozen? ⟨w.heap.size + 1 + 1, o, none⟩ = false := fun o => by simp only [World.frozen?_setCell]; exact af o
  have yf : ∀ o, (((w1.setCell ⟨w.heap.size + 1 + 1, 1, none⟩ (.int .i64 vk)).setCell ⟨w.heap.size + 1 + 1, 2, none⟩ (.int .i64 vn)).setCell ⟨w.heap.size + 1 + 1, 3, none⟩ (.string vs)).frozen? ⟨w.heap.size + 1, o, none⟩ = false := fun o => by simp only [World.frozen?_setCell]; exact zf o
  have HB2 : Hid (Below w.heap.size w (((w1.setCell ⟨w.heap.size + 1 + 1, 1, none⟩ (.int .i64 vk)).setCell ⟨w.heap.size + 1 + 1, 2, none⟩ (.int .i64 vn)).setCell ⟨w.heap.size + 1 + 1, 3, none⟩ (.string vs))) := Lib.hid (((HB.out.setCell (by first | omega | (simp <;> omega)) _).setCell (by first | omega | (simp <;> omega)) _).setCell (by first | omega | (simp <;> omega)) _)
  clear a0 z0 a1 z1 a2 z2 a3 z3  af zf HB
  obtain ⟨ws, hws⟩ : ∃ ws, (((w1.setCell ⟨w.heap.size + 1 + 1, 1, none⟩ (.int .i64 vk)).setCell ⟨w.heap.size + 1 + 1, 2, none⟩ (.int .i64 vn)).setCell ⟨w.heap.size + 1 + 1, 3, none⟩ (.string vs)) = ws := ⟨_, rfl⟩
  have hzs : w.heap.size + 2 < ws.heap.size := by rw [← hws]; simp [World.setCell]; omega
  rw [hws] at b0 y0 b1 y1 b2 y2 b3 y3 bf yf HB2 ⊢
  clear hws hz
  go_wp2_with fail
  refine bodyPost_ret (v := .agg #[.int .i64 nm, .int .i64 vk, .int .i64 vn, .string vs]) (by simp [results, Tryd.results44, go_sem, y0, y1, y2, y3, yf]) rfl ⟨rfl, ?_⟩
  exact ((((HB2.out.setCell (by first | omega | (simp <;> omega)) _).setCell (by first | omega | (simp <;> omega)) _).setCell (by first | omega | (simp <;> omega)) _).setCell (by first | omega | (simp <;> omega)) _)
set_option maxHeartbeats 1000000 in
theorem eqPr_any (x y : Pr) (w : World) :
    Calls Tryd.prog 48 #[.agg #[.int .i64 x.nm, .int .i64 x.v.k, .int .i64 x.v.n, .string x.v.s], .agg #[.int .i64 y.nm, .int .i64 y.v.k, .int .i64 y.v.n, .string y.v.s]] w fun e w' => e = .returned (.bool (decide (x = y))) ∧ Below w.heap.size w w' := by
  obtain ⟨nm, ⟨vk, vn, vs⟩⟩ := x
  obtain ⟨nm', ⟨vk', vn', vs'⟩⟩ := y
  dsimp only
  have hk := fun w => eqValue_any ⟨vk, vn, vs⟩ ⟨vk', vn', vs'⟩ w
  by_cases hnm : nm = nm'
  case neg =>
    have HV := Lib.hid (show decide ((⟨nm, ⟨vk, vn, vs⟩⟩ : Pr) = ⟨nm', ⟨vk', vn', vs'⟩⟩) = false by simp [hnm])
    have hd : (nm == nm') = false := by simpa using hnm
    have hd2 : (nm != nm') = true := by show (!(nm == nm')) = true; rw [hd]; rfl
    clear hk
    clear hnm
    go_enter Tryd.func48, Tryd.ntmps48
    go_wp2
    go_ret
    exact ⟨ret_bool HV.out.symm, by go_grown⟩
  subst hnm
  by_cases hv : (⟨vk, vn, vs⟩ : Va) = ⟨vk', vn', vs'⟩
  case neg =>
    rw [decide_eq_false hv] at hk
    have HV := Lib.hid (show decide ((⟨nm, ⟨vk, vn, vs⟩⟩ : Pr) = ⟨nm, ⟨vk', vn', vs'⟩⟩) = false by rw [decide_eq_false]; intro e; injection e; contradiction)
    have K := Lib.hid hk
    clear hk hv
    go_enter Tryd.func48, Tryd.ntmps48
    go_wp2_with (go_at_call 62; ((with_reducible refine (K.out _).mono ?_); rintro e w' ⟨rfl, hb⟩); obtain ⟨hc, hf⟩ := bcell hb; simp at hc hf; have hz := hb.size; simp at hz)
    go_ret
    exact ⟨ret_bool HV.out.symm, front (W0 := _) (by go_grown) (by simp <;> omega) hb⟩
  rw [decide_eq_true hv] at hk
  injection hv with h1 h2 h3
  subst h1 h2 h3
  have HV := Lib.hid (show decide ((⟨nm, ⟨vk, vn, vs⟩⟩ : Pr) = ⟨nm, ⟨vk, vn, vs⟩⟩) = true by simp)
  have K := Lib.hid hk
  clear hk
  go_enter Tryd.func48, Tryd.ntmps48
  go_wp2_with (go_at_call 62; ((with_reducible refine (K.out _).mono ?_); rintro e w' ⟨rfl, hb⟩); obtain ⟨hc, hf⟩ := bcell hb; simp at hc hf; have hz := hb.size; simp at hz)
  go_ret
  exact ⟨ret_bool HV.out.symm, front (W0 := _) (by go_grown) (by simp <;> omega) hb⟩
end Go.Proofs.YtcpfjlbicofkeaaDoor
