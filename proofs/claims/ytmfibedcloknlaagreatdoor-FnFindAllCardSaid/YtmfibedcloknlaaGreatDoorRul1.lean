/- Rule: one, and what the laws do with it. -/
import Derived.Test.YtmfibedcloknlaaGreatDoorVaq
namespace Go.Proofs.YtmfibedcloknlaaGreatDoor
open Go.Joins Go.ChangeShapes Go.WideShapes Go.ChangeAt Go.RowKit Go.Deep
set_option linter.unusedVariables false
set_option linter.unusedSimpArgs false

structure Ru where
 t : Int
 a : Int
 nm : Int
 v : Va
 l : Int
 g : Int
deriving DecidableEq
def Ru.cells (x : Ru) : List Value := [.int .i64 x.t, .int .i64 x.a, .int .i64 x.nm, .int .i64 x.v.k, .int .i64 x.v.n, .string x.v.s, .int .i64 x.l, .int .i64 x.g]
theorem Ru.cells_len (x : Ru) : x.cells.length = 8 := rfl
abbrev RuL := Lie Ru.cells 8
theorem RuL.at_ {w : World} {A : Option Addr} {xs : List Ru} (h : RuL w A xs) (h0 : 0 < xs.length) : ∃ b off, A = some ⟨b, off, none⟩ ∧ b < w.heap.size ∧ ∀ i (x : Ru), xs[i]? = some x →
  w.cell? ⟨b, off + i * 8, none⟩ = some (.int .i64 x.t) ∧ w.cell? ⟨b, off + i * 8 + 1, none⟩ = some (.int .i64 x.a) ∧ w.cell? ⟨b, off + i * 8 + 2, none⟩ = some (.int .i64 x.nm) ∧ w.cell? ⟨b, off + i * 8 + 3, none⟩ = some (.int .i64 x.v.k) ∧ w.cell? ⟨b, off + i * 8 + 4, none⟩ = some (.int .i64 x.v.n) ∧ w.cell? ⟨b, off + i * 8 + 5, none⟩ = some (.string x.v.s) ∧ w.cell? ⟨b, off + i * 8 + 6, none⟩ = some (.int .i64 x.l) ∧ w.cell? ⟨b, off + i * 8 + 7, none⟩ = some (.int .i64 x.g) := by
 obtain ⟨b, off, rfl, hlt, hc⟩ := h h0
 exact ⟨b, off, rfl, hlt, fun i x hx => ⟨hc i x hx 0 _ rfl, hc i x hx 1 _ rfl, hc i x hx 2 _ rfl, hc i x hx 3 _ rfl, hc i x hx 4 _ rfl, hc i x hx 5 _ rfl, hc i x hx 6 _ rfl, hc i x hx 7 _ rfl⟩⟩
theorem infoRu : (Tryz.prog.info? 42).map (fun i => (i.zero, i.size, i.bytes)) = some (some (.agg #[.int .i64 0, .int .i64 0, .int .i64 0, .int .i64 0, .int .i64 0, .string ⟨#[]⟩, .int .i64 0, .int .i64 0]), 8, 72) := by kernel_rfl
def szRu (x : Ru) : Int := (x.v.s.size : Int)
theorem szRu_pos (x : Ru) : 0 ≤ szRu x := by unfold szRu; omega
set_option maxHeartbeats 400000 in
theorem szRu_any (x : Ru) (left : Int) (w : World) (h : left ≤ 1048576) (h0 : 0 ≤ left) (hs : x.v.s.size ≤ maxLen) :
  Calls Tryz.prog 30 #[.agg #[.int .i64 x.t, .int .i64 x.a, .int .i64 x.nm, .int .i64 x.v.k, .int .i64 x.v.n, .string x.v.s, .int .i64 x.l, .int .i64 x.g], .int .i64 left] w fun e w' => e = .returned (.int .i64 (leftV left (szRu x))) ∧ Below w.heap.size w w' := by
 obtain ⟨t, a, nm, ⟨vk, vn, vs⟩, l, g⟩ := x
 have hk := fun w => szValue_any vk vn left vs w h h0 hs
 by_cases hl : left < vs.size
 ·simp only [if_pos hl] at hk
  have K := Lib.hid hk
  have HV := Lib.hid (show leftV left (szRu ⟨t, a, nm, ⟨vk, vn, vs⟩, l, g⟩) = -1 from leftV_neg hl)
  clear hk hs
  go_enter Tryz.func30, Tryz.ntmps30
  go_wp2_with (go_at_call 62; ((with_reducible refine (K.out _).mono ?_); rintro e w' ⟨rfl, hb⟩))
  go_ret
  exact ⟨ret_int HV.out.symm, front (W0 := _) (by go_grown) (by simp <;> omega) hb⟩
 ·simp only [if_neg hl] at hk
  have K := Lib.hid hk
  have HV := Lib.hid (show leftV left (szRu ⟨t, a, nm, ⟨vk, vn, vs⟩, l, g⟩) = left - vs.size from leftV_pos (by show (vs.size : Int) ≤ left; omega))
  have hq : 0 ≤ left - (vs.size : Int) := by omega
  clear hk hs
  go_enter Tryz.func30, Tryz.ntmps30
  go_wp2_with (go_at_call 62; ((with_reducible refine (K.out _).mono ?_); rintro e w' ⟨rfl, hb⟩))
  go_ret
  exact ⟨ret_int HV.out.symm, front (W0 := _) (by go_grown) (by simp <;> omega) hb⟩
set_option maxHeartbeats 2000000 in
theorem toRu_any (x : Ru) (w : World) :
  Calls Tryz.prog 31 #[.agg #[.int .i64 x.t, .int .i64 x.a, .int .i64 x.nm, .int .i64 x.v.k, .int .i64 x.v.n, .string x.v.s, .int .i64 x.l, .int .i64 x.g]] w fun e w' => e = .returned (.agg #[.int .i64 x.t, .int .i64 x.a, .int .i64 x.nm, .int .i64 x.v.k, .int .i64 x.v.n, .string x.v.s, .int .i64 x.l, .int .i64 x.g]) ∧ Below w.heap.size w w' := by
 obtain ⟨t, a, nm, ⟨vk, vn, vs⟩, l, g⟩ := x
 have K := Lib.hid (fun w => toValue_any vk vn vs w)
 go_enter Tryz.func31, Tryz.ntmps31
 go_wp2_with fail
 refine (K.out _).mono ?_
 rintro e w1 ⟨rfl, hb⟩
 have HB := Lib.hid (front (w := w) (W0 := _) (by go_grown) (by simp <;> omega) hb)
 have hz := hb.size
 simp at hz
 obtain ⟨hc, hf⟩ := bcell hb
 simp at hc hf
 have p6 : w1.cell? ⟨w.heap.size, 6, none⟩ = some (.int .i64 l) := by rw [hc _ _ (by omega)]; go_simp
 have p7 : w1.cell? ⟨w.heap.size, 7, none⟩ = some (.int .i64 g) := by rw [hc _ _ (by omega)]; go_simp
 have a0 : w1.cell? ⟨w.heap.size + 1 + 1, 0, none⟩ = some (.int .i64 t) := by rw [hc _ _ (by omega)]; go_simp
 have z0 : w1.cell? ⟨w.heap.size + 1, 0, none⟩ = some (.int .i64 0) := by rw [hc _ _ (by omega)]; go_simp
 have a1 : w1.cell? ⟨w.heap.size + 1 + 1, 1, none⟩ = some (.int .i64 a) := by rw [hc _ _ (by omega)]; go_simp
 have z1 : w1.cell? ⟨w.heap.size + 1, 1, none⟩ = some (.int .i64 0) := by rw [hc _ _ (by omega)]; go_simp
 have a2 : w1.cell? ⟨w.heap.size + 1 + 1, 2, none⟩ = some (.int .i64 nm) := by rw [hc _ _ (by omega)]; go_simp
 have z2 : w1.cell? ⟨w.heap.size + 1, 2, none⟩ = some (.int .i64 0) := by rw [hc _ _ (by omega)]; go_simp
 have a3 : w1.cell? ⟨w.heap.size + 1 + 1, 3, none⟩ = some (.int .i64 0) := by rw [hc _ _ (by omega)]; go_simp
 have z3 : w1.cell? ⟨w.heap.size + 1, 3, none⟩ = some (.int .i64 0) := by rw [hc _ _ (by omega)]; go_simp
 have a4 : w1.cell? ⟨w.heap.size + 1 + 1, 4, none⟩ = some (.int .i64 0) := by rw [hc _ _ (by omega)]; go_simp
 have z4 : w1.cell? ⟨w.heap.size + 1, 4, none⟩ = some (.int .i64 0) := by rw [hc _ _ (by omega)]; go_simp
 have a5 : w1.cell? ⟨w.heap.size + 1 + 1, 5, none⟩ = some (.string ⟨#[]⟩) := by rw [hc _ _ (by omega)]; go_simp
 have z5 : w1.cell? ⟨w.heap.size + 1, 5, none⟩ = some (.string ⟨#[]⟩) := by rw [hc _ _ (by omega)]; go_simp
 have a6 : w1.cell? ⟨w.heap.size + 1 + 1, 6, none⟩ = some (.int .i64 0) := by rw [hc _ _ (by omega)]; go_simp
 have z6 : w1.cell? ⟨w.heap.size + 1, 6, none⟩ = some (.int .i64 0) := by rw [hc _ _ (by omega)]; go_simp
 have a7 : w1.cell? ⟨w.heap.size + 1 + 1, 7, none⟩ = some (.int .i64 0) := by rw [hc _ _ (by omega)]; go_simp
 have z7 : w1.cell? ⟨w.heap.size + 1, 7, none⟩ = some (.int .i64 0) := by rw [hc _ _ (by omega)]; go_simp
 have af : ∀ o, w1.frozen? ⟨w.heap.size + 1 + 1, o, none⟩ = false := fun o => by rw [hf _ _ (by omega)]; go_simp
 have zf : ∀ o, w1.frozen? ⟨w.heap.size + 1, o, none⟩ = false := fun o => by rw [hf _ _ (by omega)]; go_simp
 clear hb hc hf
 go_upto_region 8 with (fail)
 have b0 : (((((w1.setCell ⟨w.heap.size + 1 + 1, 3, none⟩ (.int .i64 vk)).setCell ⟨w.heap.size + 1 + 1, 4, none⟩ (.int .i64 vn)).setCell ⟨w.heap.size + 1 + 1, 5, none⟩ (.string vs)).setCell ⟨w.heap.size + 1 + 1, 6, none⟩ (.int .i64 l)).setCell ⟨w.heap.size + 1 + 1, 7, none⟩ (.int .i64 g)).cell? ⟨w.heap.size + 1 + 1, 0, none⟩ = some (.int .i64 t) := by go_simp
 have y0 : (((((w1.setCell ⟨w.heap.size + 1 + 1, 3, none⟩ (.int .i64 vk)).setCell ⟨w.heap.size + 1 + 1, 4, none⟩ (.int .i64 vn)).setCell ⟨w.heap.size + 1 + 1, 5, none⟩ (.string vs)).setCell ⟨w.heap.size + 1 + 1, 6, none⟩ (.int .i64 l)).setCell ⟨w.heap.size + 1 + 1, 7, none⟩ (.int .i64 g)).cell? ⟨w.heap.size + 1, 0, none⟩ = some (.int .i64 0) := by go_simp
 have b1 : (((((w1.setCell ⟨w.heap.size + 1 + 1, 3, none⟩ (.int .i64 vk)).setCell ⟨w.heap.size + 1 + 1, 4, none⟩ (.int .i64 vn)).setCell ⟨w.heap.size + 1 + 1, 5, none⟩ (.string vs)).setCell ⟨w.heap.size + 1 + 1, 6, none⟩ (.int .i64 l)).setCell ⟨w.heap.size + 1 + 1, 7, none⟩ (.int .i64 g)).cell? ⟨w.heap.size + 1 + 1, 1, none⟩ = some (.int .i64 a) := by go_simp
 have y1 : (((((w1.setCell ⟨w.heap.size + 1 + 1, 3, none⟩ (.int .i64 vk)).setCell ⟨w.heap.size + 1 + 1, 4, none⟩ (.int .i64 vn)).setCell ⟨w.heap.size + 1 + 1, 5, none⟩ (.string vs)).setCell ⟨w.heap.size + 1 + 1, 6, none⟩ (.int .i64 l)).setCell ⟨w.heap.size + 1 + 1, 7, none⟩ (.int .i64 g)).cell? ⟨w.heap.size + 1, 1, none⟩ = some (.int .i64 0) := by go_simp
 have b2 : (((((w1.setCell ⟨w.heap.size + 1 + 1, 3, none⟩ (.int .i64 vk)).setCell ⟨w.heap.size + 1 + 1, 4, none⟩ (.int .i64 vn)).setCell ⟨w.heap.size + 1 + 1, 5, none⟩ (.string vs)).setCell ⟨w.heap.size + 1 + 1, 6, none⟩ (.int .i64 l)).setCell ⟨w.heap.size + 1 + 1, 7, none⟩ (.int .i64 g)).cell? ⟨w.heap.size + 1 + 1, 2, none⟩ = some (.int .i64 nm) := by go_simp
 have y2 : (((((w1.setCell ⟨w.heap.size + 1 + 1, 3, none⟩ (.int .i64 vk)).setCell ⟨w.heap.size + 1 + 1, 4, none⟩ (.int .i64 vn)).setCell ⟨w.heap.size + 1 + 1, 5, none⟩ (.string vs)).setCell ⟨w.heap.size + 1 + 1, 6, none⟩ (.int .i64 l)).setCell ⟨w.heap.size + 1 + 1, 7, none⟩ (.int .i64 g)).cell? ⟨w.heap.size + 1, 2, none⟩ = some (.int .i64 0) := by go_simp
 have b3 : (((((w1.setCell ⟨w.heap.size + 1 + 1, 3, none⟩ (.int .i64 vk)).setCell ⟨w.heap.size + 1 + 1, 4, none⟩ (.int .i64 vn)).setCell ⟨w.heap.size + 1 + 1, 5, none⟩ (.string vs)).setCell ⟨w.heap.size + 1 + 1, 6, none⟩ (.int .i64 l)).setCell ⟨w.heap.size + 1 + 1, 7, none⟩ (.int .i64 g)).cell? ⟨w.heap.size + 1 + 1, 3, none⟩ = some (.int .i64 vk) := by go_simp
 have y3 : (((((w1.setCell ⟨w.heap.size + 1 + 1, 3, none⟩ (.int .i64 vk)).setCell ⟨w.heap.size + 1 + 1, 4, none⟩ (.int .i64 vn)).setCell ⟨w.heap.size + 1 + 1, 5, none⟩ (.string vs)).setCell ⟨w.heap.size + 1 + 1, 6, none⟩ (.int .i64 l)).setCell ⟨w.heap.size + 1 + 1, 7, none⟩ (.int .i64 g)).cell? ⟨w.heap.size + 1, 3, none⟩ = some (.int .i64 0) := by go_simp
 have b4 : (((((w1.setCell ⟨w.heap.size + 1 + 1, 3, none⟩ (.int .i64 vk)).setCell ⟨w.heap.size + 1 + 1, 4, none⟩ (.int .i64 vn)).setCell ⟨w.heap.size + 1 + 1, 5, none⟩ (.string vs)).setCell ⟨w.heap.size + 1 + 1, 6, none⟩ (.int .i64 l)).setCell ⟨w.heap.size + 1 + 1, 7, none⟩ (.int .i64 g)).cell? ⟨w.heap.size + 1 + 1, 4, none⟩ = some (.int .i64 vn) := by go_simp
 have y4 : (((((w1.setCell ⟨w.heap.size + 1 + 1, 3, none⟩ (.int .i64 vk)).setCell ⟨w.heap.size + 1 + 1, 4, none⟩ (.int .i64 vn)).setCell ⟨w.heap.size + 1 + 1, 5, none⟩ (.string vs)).setCell ⟨w.heap.size + 1 + 1, 6, none⟩ (.int .i64 l)).setCell ⟨w.heap.size + 1 + 1, 7, none⟩ (.int .i64 g)).cell? ⟨w.heap.size + 1, 4, none⟩ = some (.int .i64 0) := by go_simp
 have b5 : (((((w1.setCell ⟨w.heap.size + 1 + 1, 3, none⟩ (.int .i64 vk)).setCell ⟨w.heap.size + 1 + 1, 4, none⟩ (.int .i64 vn)).setCell ⟨w.heap.size + 1 + 1, 5, none⟩ (.string vs)).setCell ⟨w.heap.size + 1 + 1, 6, none⟩ (.int .i64 l)).setCell ⟨w.heap.size + 1 + 1, 7, none⟩ (.int .i64 g)).cell? ⟨w.heap.size + 1 + 1, 5, none⟩ = some (.string vs) := by go_simp
 have y5 : (((((w1.setCell ⟨w.heap.size + 1 + 1, 3, none⟩ (.int .i64 vk)).setCell ⟨w.heap.size + 1 + 1, 4, none⟩ (.int .i64 vn)).setCell ⟨w.heap.size + 1 + 1, 5, none⟩ (.string vs)).setCell ⟨w.heap.size + 1 + 1, 6, none⟩ (.int .i64 l)).setCell ⟨w.heap.size + 1 + 1, 7, none⟩ (.int .i64 g)).cell? ⟨w.heap.size + 1, 5, none⟩ = some (.string ⟨#[]⟩) := by go_simp
 have b6 : (((((w1.setCell ⟨w.heap.size + 1 + 1, 3, none⟩ (.int .i64 vk)).setCell ⟨w.heap.size + 1 + 1, 4, none⟩ (.int .i64 vn)).setCell ⟨w.heap.size + 1 + 1, 5, none⟩ (.string vs)).setCell ⟨w.heap.size + 1 + 1, 6, none⟩ (.int .i64 l)).setCell ⟨w.heap.size + 1 + 1, 7, none⟩ (.int .i64 g)).cell? ⟨w.heap.size + 1 + 1, 6, none⟩ = some (.int .i64 l) := by go_simp
 have y6 : (((((w1.setCell ⟨w.heap.size + 1 + 1, 3, none⟩ (.int .i64 vk)).setCell ⟨w.heap.size + 1 + 1, 4, none⟩ (.int .i64 vn)).setCell ⟨w.heap.size + 1 + 1, 5, none⟩ (.string vs)).setCell ⟨w.heap.size + 1 + 1, 6, none⟩ (.int .i64 l)).setCell ⟨w.heap.size + 1 + 1, 7, none⟩ (.int .i64 g)).cell? ⟨w.heap.size + 1, 6, none⟩ = some (.int .i64 0) := by go_simp
 have b7 : (((((w1.setCell ⟨w.heap.size + 1 + 1, 3, none⟩ (.int .i64 vk)).setCell ⟨w.heap.size + 1 + 1, 4, none⟩ (.int .i64 vn)).setCell ⟨w.heap.size + 1 + 1, 5, none⟩ (.string vs)).setCell ⟨w.heap.size + 1 + 1, 6, none⟩ (.int .i64 l)).setCell ⟨w.heap.size + 1 + 1, 7, none⟩ (.int .i64 g)).cell? ⟨w.heap.size + 1 + 1, 7, none⟩ = some (.int .i64 g) := by go_simp
 have y7 : (((((w1.setCell ⟨w.heap.size + 1 + 1, 3, none⟩ (.int .i64 vk)).setCell ⟨w.heap.size + 1 + 1, 4, none⟩ (.int .i64 vn)).setCell ⟨w.heap.size + 1 + 1, 5, none⟩ (.string vs)).setCell ⟨w.heap.size + 1 + 1, 6, none⟩ (.int .i64 l)).setCell ⟨w.heap.size + 1 + 1, 7, none⟩ (.int .i64 g)).cell? ⟨w.heap.size + 1, 7, none⟩ = some (.int .i64 0) := by go_simp
 have bf : ∀ o, (((((w1.setCell ⟨w.heap.size + 1 + 1, 3, none⟩ (.int .i64 vk)).setCell ⟨w.heap.size + 1 + 1, 4, none⟩ (.int .i64 vn)).setCell ⟨w.heap.size + 1 + 1, 5, none⟩ (.string vs)).setCell ⟨w.heap.size + 1 + 1, 6, none⟩ (.int .i64 l)).setCell ⟨w.heap.size + 1 + 1, 7, none⟩ (.int .i64 g)).frozen? ⟨w.heap.size + 1 + 1, o, none⟩ = false := fun o => by simp only [World.frozen?_setCell]; exact af o
 have yf : ∀ o, (((((w1.setCell ⟨w.heap.size + 1 + 1, 3, none⟩ (.int .i64 vk)).setCell ⟨w.heap.size + 1 + 1, 4, none⟩ (.int .i64 vn)).setCell ⟨w.heap.size + 1 + 1, 5, none⟩ (.string vs)).setCell ⟨w.heap.size + 1 + 1, 6, none⟩ (.int .i64 l)).setCell ⟨w.heap.size + 1 + 1, 7, none⟩ (.int .i64 g)).frozen? ⟨w.heap.size + 1, o, none⟩ = false := fun o => by simp only [World.frozen?_setCell]; exact zf o
 have HB2 : Hid (Below w.heap.size w (((((w1.setCell ⟨w.heap.size + 1 + 1, 3, none⟩ (.int .i64 vk)).setCell ⟨w.heap.size + 1 + 1, 4, none⟩ (.int .i64 vn)).setCell ⟨w.heap.size + 1 + 1, 5, none⟩ (.string vs)).setCell ⟨w.heap.size + 1 + 1, 6, none⟩ (.int .i64 l)).setCell ⟨w.heap.size + 1 + 1, 7, none⟩ (.int .i64 g))) := Lib.hid (((((HB.out.setCell (by first | omega | (simp <;> omega)) _).setCell (by first | omega | (simp <;> omega)) _).setCell (by first | omega | (simp <;> omega)) _).setCell (by first | omega | (simp <;> omega)) _).setCell (by first | omega | (simp <;> omega)) _)
 clear a0 z0 a1 z1 a2 z2 a3 z3 a4 z4 a5 z5 a6 z6 a7 z7 p6 p7 af zf HB
 obtain ⟨ws, hws⟩ : ∃ ws, (((((w1.setCell ⟨w.heap.size + 1 + 1, 3, none⟩ (.int .i64 vk)).setCell ⟨w.heap.size + 1 + 1, 4, none⟩ (.int .i64 vn)).setCell ⟨w.heap.size + 1 + 1, 5, none⟩ (.string vs)).setCell ⟨w.heap.size + 1 + 1, 6, none⟩ (.int .i64 l)).setCell ⟨w.heap.size + 1 + 1, 7, none⟩ (.int .i64 g)) = ws := ⟨_, rfl⟩
 have hzs : w.heap.size + 2 < ws.heap.size := by rw [← hws]; simp [World.setCell]; omega
 rw [hws] at b0 y0 b1 y1 b2 y2 b3 y3 b4 y4 b5 y5 b6 y6 b7 y7 bf yf HB2 ⊢
 clear hws hz
 go_wp2_with fail
 refine bodyPost_ret (v := .agg #[.int .i64 t, .int .i64 a, .int .i64 nm, .int .i64 vk, .int .i64 vn, .string vs, .int .i64 l, .int .i64 g]) (by simp [results, Tryz.results31, go_sem, y0, y1, y2, y3, y4, y5, y6, y7, yf]) rfl ⟨rfl, ?_⟩
 exact ((((((((HB2.out.setCell (by first | omega | (simp <;> omega)) _).setCell (by first | omega | (simp <;> omega)) _).setCell (by first | omega | (simp <;> omega)) _).setCell (by first | omega | (simp <;> omega)) _).setCell (by first | omega | (simp <;> omega)) _).setCell (by first | omega | (simp <;> omega)) _).setCell (by first | omega | (simp <;> omega)) _).setCell (by first | omega | (simp <;> omega)) _)
set_option maxHeartbeats 1000000 in
theorem eqRu_any (x y : Ru) (w : World) :
  Calls Tryz.prog 56 #[.agg #[.int .i64 x.t, .int .i64 x.a, .int .i64 x.nm, .int .i64 x.v.k, .int .i64 x.v.n, .string x.v.s, .int .i64 x.l, .int .i64 x.g], .agg #[.int .i64 y.t, .int .i64 y.a, .int .i64 y.nm, .int .i64 y.v.k, .int .i64 y.v.n, .string y.v.s, .int .i64 y.l, .int .i64 y.g]] w fun e w' => e = .returned (.bool (decide (x = y))) ∧ Below w.heap.size w w' := by
 obtain ⟨t, a, nm, ⟨vk, vn, vs⟩, l, g⟩ := x
 obtain ⟨t', a', nm', ⟨vk', vn', vs'⟩, l', g'⟩ := y
 dsimp only
 have hk := fun w => eqValue_any ⟨vk, vn, vs⟩ ⟨vk', vn', vs'⟩ w
 by_cases ht : t = t'
 case neg =>
  have HV := Lib.hid (show decide ((⟨t, a, nm, ⟨vk, vn, vs⟩, l, g⟩ : Ru) = ⟨t', a', nm', ⟨vk', vn', vs'⟩, l', g'⟩) = false by simp [ht])
  have hd : (t == t') = false := by simpa using ht
  have hd2 : (t != t') = true := by show (!(t == t')) = true; rw [hd]; rfl
  clear hk
  clear ht
  go_enter Tryz.func56, Tryz.ntmps56
  go_wp2
  go_ret
  exact ⟨ret_bool HV.out.symm, by go_grown⟩
 subst ht
 by_cases ha : a = a'
 case neg =>
  have HV := Lib.hid (show decide ((⟨t, a, nm, ⟨vk, vn, vs⟩, l, g⟩ : Ru) = ⟨t, a', nm', ⟨vk', vn', vs'⟩, l', g'⟩) = false by simp [ha])
  have hd : (a == a') = false := by simpa using ha
  have hd2 : (a != a') = true := by show (!(a == a')) = true; rw [hd]; rfl
  clear hk
  clear ha
  go_enter Tryz.func56, Tryz.ntmps56
  go_wp2
  go_ret
  exact ⟨ret_bool HV.out.symm, by go_grown⟩
 subst ha
 by_cases hnm : nm = nm'
 case neg =>
  have HV := Lib.hid (show decide ((⟨t, a, nm, ⟨vk, vn, vs⟩, l, g⟩ : Ru) = ⟨t, a, nm', ⟨vk', vn', vs'⟩, l', g'⟩) = false by simp [hnm])
  have hd : (nm == nm') = false := by simpa using hnm
  have hd2 : (nm != nm') = true := by show (!(nm == nm')) = true; rw [hd]; rfl
  clear hk
  clear hnm
  go_enter Tryz.func56, Tryz.ntmps56
  go_wp2
  go_ret
  exact ⟨ret_bool HV.out.symm, by go_grown⟩
 subst hnm
 by_cases hv : (⟨vk, vn, vs⟩ : Va) = ⟨vk', vn', vs'⟩
 case neg =>
  rw [decide_eq_false hv] at hk
  have HV := Lib.hid (show decide ((⟨t, a, nm, ⟨vk, vn, vs⟩, l, g⟩ : Ru) = ⟨t, a, nm, ⟨vk', vn', vs'⟩, l', g'⟩) = false by rw [decide_eq_false]; intro e; injection e; contradiction)
  have K := Lib.hid hk
  clear hk hv
  go_enter Tryz.func56, Tryz.ntmps56
  go_wp2_with (go_at_call 90; ((with_reducible refine (K.out _).mono ?_); rintro e w' ⟨rfl, hb⟩); obtain ⟨hc, hf⟩ := bcell hb; simp at hc hf; have hz := hb.size; simp at hz)
  go_ret
  exact ⟨ret_bool HV.out.symm, front (W0 := _) (by go_grown) (by simp <;> omega) hb⟩
 rw [decide_eq_true hv] at hk
 injection hv with h1 h2 h3
 subst h1 h2 h3
 by_cases hl : l = l'
 case neg =>
  have HV := Lib.hid (show decide ((⟨t, a, nm, ⟨vk, vn, vs⟩, l, g⟩ : Ru) = ⟨t, a, nm, ⟨vk, vn, vs⟩, l', g'⟩) = false by simp [hl])
  have hd : (l == l') = false := by simpa using hl
  have hd2 : (l != l') = true := by show (!(l == l')) = true; rw [hd]; rfl
  have K := Lib.hid hk
  clear hk hl
  go_enter Tryz.func56, Tryz.ntmps56
  go_wp2_with (go_at_call 90; ((with_reducible refine (K.out _).mono ?_); rintro e w' ⟨rfl, hb⟩); obtain ⟨hc, hf⟩ := bcell hb; simp at hc hf; have hz := hb.size; simp at hz)
  go_ret
  exact ⟨ret_bool HV.out.symm, front (W0 := _) (by go_grown) (by simp <;> omega) hb⟩
 subst hl
 by_cases hg : g = g'
 case neg =>
  have HV := Lib.hid (show decide ((⟨t, a, nm, ⟨vk, vn, vs⟩, l, g⟩ : Ru) = ⟨t, a, nm, ⟨vk, vn, vs⟩, l, g'⟩) = false by simp [hg])
  have hd : (g == g') = false := by simpa using hg
  have hd2 : (g != g') = true := by show (!(g == g')) = true; rw [hd]; rfl
  have K := Lib.hid hk
  clear hk hg
  go_enter Tryz.func56, Tryz.ntmps56
  go_wp2_with (go_at_call 90; ((with_reducible refine (K.out _).mono ?_); rintro e w' ⟨rfl, hb⟩); obtain ⟨hc, hf⟩ := bcell hb; simp at hc hf; have hz := hb.size; simp at hz)
  go_ret
  exact ⟨ret_bool HV.out.symm, front (W0 := _) (by go_grown) (by simp <;> omega) hb⟩
 subst hg
 have HV := Lib.hid (show decide ((⟨t, a, nm, ⟨vk, vn, vs⟩, l, g⟩ : Ru) = ⟨t, a, nm, ⟨vk, vn, vs⟩, l, g⟩) = true by simp)
 have K := Lib.hid hk
 clear hk
 go_enter Tryz.func56, Tryz.ntmps56
 go_wp2_with (go_at_call 90; ((with_reducible refine (K.out _).mono ?_); rintro e w' ⟨rfl, hb⟩); obtain ⟨hc, hf⟩ := bcell hb; simp at hc hf; have hz := hb.size; simp at hz)
 go_ret
 exact ⟨ret_bool HV.out.symm, front (W0 := _) (by go_grown) (by simp <;> omega) hb⟩
end Go.Proofs.YtmfibedcloknlaaGreatDoor
