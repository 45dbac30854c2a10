/- Trees drawn: DrawTreeText. -/
import Derived.Test.YtpkhpaioddommaaDoorDrTM
namespace Go.Proofs.YtpkhpaioddommaaDoor
open Go.Joins Go.ChangeShapes Go.WideShapes Go.ChangeAt Go.RowKit Go.Deep
set_option linter.unusedVariables false
set_option linter.unusedSimpArgs false

set_option maxHeartbeats 8000000 in
set_option maxRecDepth 100000 in
theorem DrawTreeText_any (A : Option Addr) (len cap : Nat) (w : World) (hc : Code w w.heap.size A len) (hl : len ≤ maxLen) :
    Calls Tryd.prog 22 #[.slice A len cap] w (DrawTX w) := by
  have hb0 := Below.alloc (Below.refl w.heap.size w) (Nat.le_refl _) (.cells #[.int .i64 0, .int .i64 0, .string ⟨#[]⟩, .slice none 0 0, .slice none 0 0] 26)
  have HB0 := Lib.hid hb0
  have r0 : (w.alloc (.cells #[.int .i64 0, .int .i64 0, .string ⟨#[]⟩, .slice none 0 0, .slice none 0 0] 26)).cell? ⟨w.heap.size, 0, none⟩ = some (.int .i64 0) := by go_simp
  have r1 : (w.alloc (.cells #[.int .i64 0, .int .i64 0, .string ⟨#[]⟩, .slice none 0 0, .slice none 0 0] 26)).cell? ⟨w.heap.size, 1, none⟩ = some (.int .i64 0) := by go_simp
  have r2 : (w.alloc (.cells #[.int .i64 0, .int .i64 0, .string ⟨#[]⟩, .slice none 0 0, .slice none 0 0] 26)).cell? ⟨w.heap.size, 2, none⟩ = some (.string ⟨#[]⟩) := by go_simp
  have r3 : (w.alloc (.cells #[.int .i64 0, .int .i64 0, .string ⟨#[]⟩, .slice none 0 0, .slice none 0 0] 26)).cell? ⟨w.heap.size, 3, none⟩ = some (.slice none 0 0) := by go_simp
  have r4 : (w.alloc (.cells #[.int .i64 0, .int .i64 0, .string ⟨#[]⟩, .slice none 0 0, .slice none 0 0] 26)).cell? ⟨w.heap.size, 4, none⟩ = some (.slice none 0 0) := by go_simp
  have rf : ∀ o, (w.alloc (.cells #[.int .i64 0, .int .i64 0, .string ⟨#[]⟩, .slice none 0 0, .slice none 0 0] 26)).frozen? ⟨w.heap.size, o, none⟩ = false := fun o => by go_simp
  have hz : w.heap.size < (w.alloc (.cells #[.int .i64 0, .int .i64 0, .string ⟨#[]⟩, .slice none 0 0, .slice none 0 0] 26)).heap.size := by simp
  have HC := Lib.hid (Code.next hc hb0)
  obtain ⟨wc, hwc⟩ : ∃ wc, w.alloc (.cells #[.int .i64 0, .int .i64 0, .string ⟨#[]⟩, .slice none 0 0, .slice none 0 0] 26) = wc := ⟨_, rfl⟩
  rw [hwc] at HC HB0 r0 r1 r2 r3 r4 rf hz
  clear hc hb0
  go_enter Tryd.func22, Tryd.ntmps22
  have HS := Lib.hid (St.new (cap := cap) HC.out hl)
  go_wp2_with fail
  refine (newSource_any A len cap wc).mono ?_
  rintro e w1 ⟨rfl, rfl⟩
  have hb1 := Below.alloc (Below.refl wc.heap.size wc) (Nat.le_refl _) (.cells #[.slice A len cap, .int .i64 0, .int .i64 4000] 88)
  have HB1 := Lib.hid hb1
  have hz1 : wc.heap.size < (wc.alloc (.cells #[.slice A len cap, .int .i64 0, .int .i64 4000] 88)).heap.size := by simp
  replace r0 := (hb1.cell (p := ⟨w.heap.size, 0, none⟩) hz).trans r0
  replace r1 := (hb1.cell (p := ⟨w.heap.size, 1, none⟩) hz).trans r1
  replace r2 := (hb1.cell (p := ⟨w.heap.size, 2, none⟩) hz).trans r2
  replace r3 := (hb1.cell (p := ⟨w.heap.size, 3, none⟩) hz).trans r3
  replace r4 := (hb1.cell (p := ⟨w.heap.size, 4, none⟩) hz).trans r4
  replace rf := fun o => (hb1.frozen (p := ⟨w.heap.size, o, none⟩) hz).trans (rf o)
  clear hb1
  obtain ⟨w1, hw1⟩ : ∃ w1, wc.alloc (.cells #[.slice A len cap, .int .i64 0, .int .i64 4000] 88) = w1 := ⟨_, rfl⟩
  rw [hw1] at HS HB1 r0 r1 r2 r3 r4 rf hz1 ⊢
  clear hw1
  go_wp2_with fail
  refine (whole_any wc.heap.size A len cap w1 HS.out).mono ?_
  rintro e w2 ⟨A0, c0, A1, c1, ⟨tag, key, text, ps, ks⟩, rfl, hT, hGd, hs, hk⟩
  simp only [Tr.tag, Tr.key, Tr.text, Tr.ps, Tr.ks] at hT ⊢
  replace r0 := (hk.cell.1 w.heap.size 0 (by first | omega | (simp; done) | (simp; omega)) (by first | omega | (simp; done) | (simp; omega))).trans r0
  replace r1 := (hk.cell.1 w.heap.size 1 (by first | omega | (simp; done) | (simp; omega)) (by first | omega | (simp; done) | (simp; omega))).trans r1
  replace r2 := (hk.cell.1 w.heap.size 2 (by first | omega | (simp; done) | (simp; omega)) (by first | omega | (simp; done) | (simp; omega))).trans r2
  replace r3 := (hk.cell.1 w.heap.size 3 (by first | omega | (simp; done) | (simp; omega)) (by first | omega | (simp; done) | (simp; omega))).trans r3
  replace r4 := (hk.cell.1 w.heap.size 4 (by first | omega | (simp; done) | (simp; omega)) (by first | omega | (simp; done) | (simp; omega))).trans r4
  replace rf := fun o => (hk.cell.2 w.heap.size o (by first | omega | (simp; done) | (simp; omega)) (by first | omega | (simp; done) | (simp; omega))).trans (rf o)
  have HT := Lib.hid hT
  have HGd := Lib.hid hGd
  have HB2 := Lib.hid ((HB0.out.trans (HB1.out.mono (Nat.le_of_lt hz))).trans ((hk.mono (Nat.le_of_lt (Nat.lt_trans hz hz1))).below (Nat.le_of_lt hz)))
  have hz2 := hk.size
  clear hT hGd hs hk HB0 HB1 HS HC
  go_wp2_with fail
  refine bodyPost_ret (v := .agg #[.int .i64 tag, .int .i64 key, .string text, .slice A0 ps.length c0, .slice A1 ks.length c1]) (by simp [results, Tryd.results22, go_sem, *]) rfl ⟨A0, c0, A1, c1, .mk tag key text ps ks, rfl, ?_, HGd.out, ?_⟩
  · refine TrD.mono (lo := w1.heap.size) (by omega) ?_ (TrD.stored (TrD.stored (TrD.stored (TrD.stored (TrD.stored HT.out ?_ _) ?_ _) ?_ _) ?_ _) ?_ _)
    all_goals first | omega | (simp; done) | (simp; omega) | (simp [World.setCell])
  · exact HB2.out.trans ⟨rfl, rfl, rfl, by simp [World.setCell], fun k hk => by repeat rw [heap_setCell_other _ _ _ _ (by show k ≠ w.heap.size; omega)]⟩
end Go.Proofs.YtpkhpaioddommaaDoor
