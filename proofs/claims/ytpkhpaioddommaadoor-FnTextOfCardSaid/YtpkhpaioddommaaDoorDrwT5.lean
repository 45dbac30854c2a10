/- Trees drawn. -/
import Derived.Test.YtpkhpaioddommaaDoorDrwT4
import Derived.Deep.RegionLaw
namespace Go.Proofs.YtpkhpaioddommaaDoor
open Go.Joins Go.ChangeShapes Go.WideShapes Go.ChangeAt Go.RowKit Go.Deep
set_option linter.unusedVariables false
set_option linter.unusedSimpArgs false

/-- A tree that was drawn. -/
def TreeX (g : Nat) (A : Option Addr) (len cap : Nat) (w : World) (e : Ending) (w' : World) : Prop :=
  ∃ (A0 : Option Addr) (c0 : Nat) (A1 : Option Addr) (c1 : Nat) (t : Tr), e = .returned (.agg #[.int .i64 t.tag, .int .i64 t.key, .string t.text, .slice A0 t.ps.length c0, .slice A1 t.ks.length c1]) ∧
    TrD w' w.heap.size w'.heap.size [.int .i64 t.tag, .int .i64 t.key, .string t.text, .slice A0 t.ps.length c0, .slice A1 t.ks.length c1] t ∧ GdT t ∧ St g A len cap w' ∧ Keep g w.heap.size w w'
theorem valid_small {k n : Int} {s : ByteArray} (h : validB k n s = true) : s.size ≤ 1000 := by
  unfold validB at h
  simp only [Bool.or_eq_true, Bool.and_eq_true] at h
  rcases h with (⟨_, h⟩ | ⟨_, h⟩) | ⟨_, h⟩
  · have e : s.data.toList = [] := by rw [← Lib.toList_data]; exact List.isEmpty_iff.1 h
    have : s.data.size = 0 := by rw [← Array.length_toList, e]; rfl
    show s.data.size ≤ 1000
    omega
  · have e : s.data.toList = [] := by rw [← Lib.toList_data]; exact List.isEmpty_iff.1 h
    have : s.data.size = 0 := by rw [← Array.length_toList, e]; rfl
    show s.data.size ≤ 1000
    omega
  · unfold wordB at h
    simp only [Bool.and_eq_true, decide_eq_true_eq] at h
    omega
theorem lit_cells (w : World) (x : List Value) (t : TypeId) : ∀ j u, x[j]? = some u → (w.alloc (.cells x.toArray t)).cell? ((⟨w.heap.size, 0, none⟩ : Addr).add j) = some u := by
  intro j u hu
  rw [add_plain, Nat.zero_add]
  exact cell_of_row _ _ _ _ _ _ (heap_alloc_new w _) |>.trans (by simpa using hu)
theorem prop_one (x : Pr) : ∀ u ∈ x.cells, u.oneCell' = true := by
  intro u hu
  simp [Pr.cells] at hu
  rcases hu with rfl | rfl | rfl | rfl <;> rfl
set_option maxHeartbeats 8000000 in
set_option maxRecDepth 100000 in
theorem tree_any : ∀ (n : Nat) (deep : Int) (g : Nat) (A : Option Addr) (len cap : Nat) (w : World), n ≤ 100 → -1 ≤ deep → deep ≤ n → St g A len cap w →
    Calls Tryd.prog 78 #[.pointer (some ⟨g, 0, none⟩), .int .i64 deep] w (TreeX g A len cap w) := by
  intro n
  induction n with
  | zero =>
    intro deep g A len cap w hn100 hd0 hdn hs
    have hdd : decide (deep ≤ 0) = true := by simp; omega
    have HG := Lib.hid hs.lt
    have hgw := hs.lt
    have HS0 := Lib.hid (hs.alloc (.cells #[.int .i64 0, .int .i64 0, .string ⟨#[]⟩, .slice none 0 0, .slice none 0 0] 26))
    have HK0 := Lib.hid ((Keep.refl g w.heap.size w).alloc (Nat.le_refl _) (.cells #[.int .i64 0, .int .i64 0, .string ⟨#[]⟩, .slice none 0 0, .slice none 0 0] 26))
    have r0 : (w.alloc (.cells #[.int .i64 0, .int .i64 0, .string ⟨#[]⟩, .slice none 0 0, .slice none 0 0] 26)).cell? ⟨w.heap.size, 0, none⟩ = some (.int .i64 0) := by go_simp
    have r1 : (w.alloc (.cells #[.int .i64 0, .int .i64 0, .string ⟨#[]⟩, .slice none 0 0, .slice none 0 0] 26)).cell? ⟨w.heap.size, 1, none⟩ = some (.int .i64 0) := by go_simp
    have r2 : (w.alloc (.cells #[.int .i64 0, .int .i64 0, .string ⟨#[]⟩, .slice none 0 0, .slice none 0 0] 26)).cell? ⟨w.heap.size, 2, none⟩ = some (.string ⟨#[]⟩) := by go_simp
    have r3 : (w.alloc (.cells #[.int .i64 0, .int .i64 0, .string ⟨#[]⟩, .slice none 0 0, .slice none 0 0] 26)).cell? ⟨w.heap.size, 3, none⟩ = some (.slice none 0 0) := by go_simp
    have r4 : (w.alloc (.cells #[.int .i64 0, .int .i64 0, .string ⟨#[]⟩, .slice none 0 0, .slice none 0 0] 26)).cell? ⟨w.heap.size, 4, none⟩ = some (.slice none 0 0) := by go_simp
    have rf : ∀ o, (w.alloc (.cells #[.int .i64 0, .int .i64 0, .string ⟨#[]⟩, .slice none 0 0, .slice none 0 0] 26)).frozen? ⟨w.heap.size, o, none⟩ = false := fun o => by go_simp
    have hz : w.heap.size < (w.alloc (.cells #[.int .i64 0, .int .i64 0, .string ⟨#[]⟩, .slice none 0 0, .slice none 0 0] 26)).heap.size := by simp
    obtain ⟨wc, hwc⟩ : ∃ wc, w.alloc (.cells #[.int .i64 0, .int .i64 0, .string ⟨#[]⟩, .slice none 0 0, .slice none 0 0] 26) = wc := ⟨_, rfl⟩
    rw [hwc] at HS0 HK0 r0 r1 r2 r3 r4 rf hz
    clear hs
    go_enter Tryd.func78, Tryd.ntmps78
    have hA := HS0.out.alloc (.cells #[.string ⟨#[]⟩, .string ⟨#[97]⟩, .string ⟨#[98, 32, 99]⟩, .string ⟨#[108, 111, 110, 103, 32, 116, 101, 120, 116, 32, 49, 50]⟩] 9)
    have hB := HK0.out.alloc (by omega) (.cells #[.string ⟨#[]⟩, .string ⟨#[97]⟩, .string ⟨#[98, 32, 99]⟩, .string ⟨#[108, 111, 110, 103, 32, 116, 101, 120, 116, 32, 49, 50]⟩] 9)
    have HA := Lib.hid hA
    have HB := Lib.hid hB
    have hN : ¬ wc.heap.size = g := by omega
    replace r0 : (wc.alloc (.cells #[.string ⟨#[]⟩, .string ⟨#[97]⟩, .string ⟨#[98, 32, 99]⟩, .string ⟨#[108, 111, 110, 103, 32, 116, 101, 120, 116, 32, 49, 50]⟩] 9)).cell? ⟨w.heap.size, 0, none⟩ = some (.int .i64 0) := (Below.cell (Below.alloc (Below.refl wc.heap.size wc) (Nat.le_refl _) (.cells #[.string ⟨#[]⟩, .string ⟨#[97]⟩, .string ⟨#[98, 32, 99]⟩, .string ⟨#[108, 111, 110, 103, 32, 116, 101, 120, 116, 32, 49, 50]⟩] 9)) (p := ⟨w.heap.size, 0, none⟩) (by first | omega | (simp; done) | (simp; omega))).trans r0
    replace r1 : (wc.alloc (.cells #[.string ⟨#[]⟩, .string ⟨#[97]⟩, .string ⟨#[98, 32, 99]⟩, .string ⟨#[108, 111, 110, 103, 32, 116, 101, 120, 116, 32, 49, 50]⟩] 9)).cell? ⟨w.heap.size, 1, none⟩ = some (.int .i64 0) := (Below.cell (Below.alloc (Below.refl wc.heap.size wc) (Nat.le_refl _) (.cells #[.string ⟨#[]⟩, .string ⟨#[97]⟩, .string ⟨#[98, 32, 99]⟩, .string ⟨#[108, 111, 110, 103, 32, 116, 101, 120, 116, 32, 49, 50]⟩] 9)) (p := ⟨w.heap.size, 1, none⟩) (by first | omega | (simp; done) | (simp; omega))).trans r1
    replace r2 : (wc.alloc (.cells #[.string ⟨#[]⟩, .string ⟨#[97]⟩, .string ⟨#[98, 32, 99]⟩, .string ⟨#[108, 111, 110, 103, 32, 116, 101, 120, 116, 32, 49, 50]⟩] 9)).cell? ⟨w.heap.size, 2, none⟩ = some (.string ⟨#[]⟩) := (Below.cell (Below.alloc (Below.refl wc.heap.size wc) (Nat.le_refl _) (.cells #[.string ⟨#[]⟩, .string ⟨#[97]⟩, .string ⟨#[98, 32, 99]⟩, .string ⟨#[108, 111, 110, 103, 32, 116, 101, 120, 116, 32, 49, 50]⟩] 9)) (p := ⟨w.heap.size, 2, none⟩) (by first | omega | (simp; done) | (simp; omega))).trans r2
    replace r3 : (wc.alloc (.cells #[.string ⟨#[]⟩, .string ⟨#[97]⟩, .string ⟨#[98, 32, 99]⟩, .string ⟨#[108, 111, 110, 103, 32, 116, 101, 120, 116, 32, 49, 50]⟩] 9)).cell? ⟨w.heap.size, 3, none⟩ = some (.slice none 0 0) := (Below.cell (Below.alloc (Below.refl wc.heap.size wc) (Nat.le_refl _) (.cells #[.string ⟨#[]⟩, .string ⟨#[97]⟩, .string ⟨#[98, 32, 99]⟩, .string ⟨#[108, 111, 110, 103, 32, 116, 101, 120, 116, 32, 49, 50]⟩] 9)) (p := ⟨w.heap.size, 3, none⟩) (by first | omega | (simp; done) | (simp; omega))).trans r3
    replace r4 : (wc.alloc (.cells #[.string ⟨#[]⟩, .string ⟨#[97]⟩, .string ⟨#[98, 32, 99]⟩, .string ⟨#[108, 111, 110, 103, 32, 116, 101, 120, 116, 32, 49, 50]⟩] 9)).cell? ⟨w.heap.size, 4, none⟩ = some (.slice none 0 0) := (Below.cell (Below.alloc (Below.refl wc.heap.size wc) (Nat.le_refl _) (.cells #[.string ⟨#[]⟩, .string ⟨#[97]⟩, .string ⟨#[98, 32, 99]⟩, .string ⟨#[108, 111, 110, 103, 32, 116, 101, 120, 116, 32, 49, 50]⟩] 9)) (p := ⟨w.heap.size, 4, none⟩) (by first | omega | (simp; done) | (simp; omega))).trans r4
    replace rf : ∀ o, (wc.alloc (.cells #[.string ⟨#[]⟩, .string ⟨#[97]⟩, .string ⟨#[98, 32, 99]⟩, .string ⟨#[108, 111, 110, 103, 32, 116, 101, 120, 116, 32, 49, 50]⟩] 9)).frozen? ⟨w.heap.size, o, none⟩ = false := fun o => (Below.frozen (Below.alloc (Below.refl wc.heap.size wc) (Nat.le_refl _) (.cells #[.string ⟨#[]⟩, .string ⟨#[97]⟩, .string ⟨#[98, 32, 99]⟩, .string ⟨#[108, 111, 110, 103, 32, 116, 101, 120, 116, 32, 49, 50]⟩] 9)) (p := ⟨w.heap.size, o, none⟩) (by first | omega | (simp; done) | (simp; omega))).trans (rf o)
    clear hA hB
    go_wp2_with fail
    refine (pick_any g A len cap 4 _ HA.out (by omega)).mono ?_
    rintro e wp ⟨r, rfl, p, q, hs, hk⟩
    have hr4 : r < 4 := by omega
    obtain ⟨tt, ht1, ht0⟩ := str4 wc r p hr4
    have ht := (hk.cell.1 wc.heap.size r.toNat (by simp) hN).trans ht0
    replace r0 := (hk.cell.1 w.heap.size 0 (by first | omega | (simp; done) | (simp; omega)) (by first | omega | (simp; done) | (simp; omega))).trans r0
    replace r1 := (hk.cell.1 w.heap.size 1 (by first | omega | (simp; done) | (simp; omega)) (by first | omega | (simp; done) | (simp; omega))).trans r1
    replace r2 := (hk.cell.1 w.heap.size 2 (by first | omega | (simp; done) | (simp; omega)) (by first | omega | (simp; done) | (simp; omega))).trans r2
    replace r3 := (hk.cell.1 w.heap.size 3 (by first | omega | (simp; done) | (simp; omega)) (by first | omega | (simp; done) | (simp; omega))).trans r3
    replace r4 := (hk.cell.1 w.heap.size 4 (by first | omega | (simp; done) | (simp; omega)) (by first | omega | (simp; done) | (simp; omega))).trans r4
    replace rf := fun o => (hk.cell.2 w.heap.size o (by first | omega | (simp; done) | (simp; omega)) (by first | omega | (simp; done) | (simp; omega))).trans (rf o)
    have HS9 := Lib.hid hs
    have HK9 := Lib.hid (HB.out.more (Nat.le_refl _) hk)
    clear hs hk ht0 q
    go_wp2_with fail
    refine bodyPost_ret (v := .agg #[.int .i64 (-1), .int .i64 (-1), .string tt, .slice none 0 0, .slice none 0 0]) (by simp [results, Tryd.results78, go_sem, *]) rfl ⟨none, 0, none, 0, .mk (-1) (-1) tt [] [], rfl, TrD.text _ _ _ _, GdT.text ht1, ?_, ?_⟩
    · exact ((((HS9.out.set_ HG.out _).set_ HG.out _).set_ HG.out _).set_ HG.out _).set_ HG.out _
    · exact ((((HK9.out.set_ (.inr (Nat.le_refl _)) _).set_ (.inr (Nat.le_refl _)) _).set_ (.inr (Nat.le_refl _)) _).set_ (.inr (Nat.le_refl _)) _).set_ (.inr (Nat.le_refl _)) _
  | succ n ih =>
    intro deep g A len cap w hn100 hd0 hdn hs
    have IH := Lib.hid (fun deep w h0 h1 hs => ih deep g A len cap w (by omega) h0 h1 hs)
    clear ih
    have HG := Lib.hid hs.lt
    have hgw := hs.lt
    have HS0 := Lib.hid (hs.alloc (.cells #[.int .i64 0, .int .i64 0, .string ⟨#[]⟩, .slice none 0 0, .slice none 0 0] 26))
    have HK0 := Lib.hid ((Keep.refl g w.heap.size w).alloc (Nat.le_refl _) (.cells #[.int .i64 0, .int .i64 0, .string ⟨#[]⟩, .slice none 0 0, .slice none 0 0] 26))
    have r0 : (w.alloc (.cells #[.int .i64 0, .int .i64 0, .string ⟨#[]⟩, .slice none 0 0, .slice none 0 0] 26)).cell? ⟨w.heap.size, 0, none⟩ = some (.int .i64 0) := by go_simp
    have r1 : (w.alloc (.cells #[.int .i64 0, .int .i64 0, .string ⟨#[]⟩, .slice none 0 0, .slice none 0 0] 26)).cell? ⟨w.heap.size, 1, none⟩ = some (.int .i64 0) := by go_simp
    have r2 : (w.alloc (.cells #[.int .i64 0, .int .i64 0, .string ⟨#[]⟩, .slice none 0 0, .slice none 0 0] 26)).cell? ⟨w.heap.size, 2, none⟩ = some (.string ⟨#[]⟩) := by go_simp
    have r3 : (w.alloc (.cells #[.int .i64 0, .int .i64 0, .string ⟨#[]⟩, .slice none 0 0, .slice none 0 0] 26)).cell? ⟨w.heap.size, 3, none⟩ = some (.slice none 0 0) := by go_simp
    have r4 : (w.alloc (.cells #[.int .i64 0, .int .i64 0, .string ⟨#[]⟩, .slice none 0 0, .slice none 0 0] 26)).cell? ⟨w.heap.size, 4, none⟩ = some (.slice none 0 0) := by go_simp
    have rf : ∀ o, (w.alloc (.cells #[.int .i64 0, .int .i64 0, .string ⟨#[]⟩, .slice none 0 0, .slice none 0 0] 26)).frozen? ⟨w.heap.size, o, none⟩ = false := fun o => by go_simp
    have hz : w.heap.size < (w.alloc (.cells #[.int .i64 0, .int .i64 0, .string ⟨#[]⟩, .slice none 0 0, .slice none 0 0] 26)).heap.size := by simp
    obtain ⟨wc, hwc⟩ : ∃ wc, w.alloc (.cells #[.int .i64 0, .int .i64 0, .string ⟨#[]⟩, .slice none 0 0, .slice none 0 0] 26) = wc := ⟨_, rfl⟩
    rw [hwc] at HS0 HK0 r0 r1 r2 r3 r4 rf hz
    clear hs
    by_cases hle : deep ≤ 0
    · have hdd : decide (deep ≤ 0) = true := by simpa using hle
      go_enter Tryd.func78, Tryd.ntmps78
      have hA := HS0.out.alloc (.cells #[.string ⟨#[]⟩, .string ⟨#[97]⟩, .string ⟨#[98, 32, 99]⟩, .string ⟨#[108, 111, 110, 103, 32, 116, 101, 120, 116, 32, 49, 50]⟩] 9)
      have hB := HK0.out.alloc (by omega) (.cells #[.string ⟨#[]⟩, .string ⟨#[97]⟩, .string ⟨#[98, 32, 99]⟩, .string ⟨#[108, 111, 110, 103, 32, 116, 101, 120, 116, 32, 49, 50]⟩] 9)
      have HA := Lib.hid hA
      have HB := Lib.hid hB
      have hN : ¬ wc.heap.size = g := by omega
      replace r0 : (wc.alloc (.cells #[.string ⟨#[]⟩, .string ⟨#[97]⟩, .string ⟨#[98, 32, 99]⟩, .string ⟨#[108, 111, 110, 103, 32, 116, 101, 120, 116, 32, 49, 50]⟩] 9)).cell? ⟨w.heap.size, 0, none⟩ = some (.int .i64 0) := (Below.cell (Below.alloc (Below.refl wc.heap.size wc) (Nat.le_refl _) (.cells #[.string ⟨#[]⟩, .string ⟨#[97]⟩, .string ⟨#[98, 32, 99]⟩, .string ⟨#[108, 111, 110, 103, 32, 116, 101, 120, 116, 32, 49, 50]⟩] 9)) (p := ⟨w.heap.size, 0, none⟩) (by first | omega | (simp; done) | (simp; omega))).trans r0
      replace r1 : (wc.alloc (.cells #[.string ⟨#[]⟩, .string ⟨#[97]⟩, .string ⟨#[98, 32, 99]⟩, .string ⟨#[108, 111, 110, 103, 32, 116, 101, 120, 116, 32, 49, 50]⟩] 9)).cell? ⟨w.heap.size, 1, none⟩ = some (.int .i64 0) := (Below.cell (Below.alloc (Below.refl wc.heap.size wc) (Nat.le_refl _) (.cells #[.string ⟨#[]⟩, .string ⟨#[97]⟩, .string ⟨#[98, 32, 99]⟩, .string ⟨#[108, 111, 110, 103, 32, 116, 101, 120, 116, 32, 49, 50]⟩] 9)) (p := ⟨w.heap.size, 1, none⟩) (by first | omega | (simp; done) | (simp; omega))).trans r1
      replace r2 : (wc.alloc (.cells #[.string ⟨#[]⟩, .string ⟨#[97]⟩, .string ⟨#[98, 32, 99]⟩, .string ⟨#[108, 111, 110, 103, 32, 116, 101, 120, 116, 32, 49, 50]⟩] 9)).cell? ⟨w.heap.size, 2, none⟩ = some (.string ⟨#[]⟩) := (Below.cell (Below.alloc (Below.refl wc.heap.size wc) (Nat.le_refl _) (.cells #[.string ⟨#[]⟩, .string ⟨#[97]⟩, .string ⟨#[98, 32, 99]⟩, .string ⟨#[108, 111, 110, 103, 32, 116, 101, 120, 116, 32, 49, 50]⟩] 9)) (p := ⟨w.heap.size, 2, none⟩) (by first | omega | (simp; done) | (simp; omega))).trans r2
      replace r3 : (wc.alloc (.cells #[.string ⟨#[]⟩, .string ⟨#[97]⟩, .string ⟨#[98, 32, 99]⟩, .string ⟨#[108, 111, 110, 103, 32, 116, 101, 120, 116, 32, 49, 50]⟩] 9)).cell? ⟨w.heap.size, 3, none⟩ = some (.slice none 0 0) := (Below.cell (Below.alloc (Below.refl wc.heap.size wc) (Nat.le_refl _) (.cells #[.string ⟨#[]⟩, .string ⟨#[97]⟩, .string ⟨#[98, 32, 99]⟩, .string ⟨#[108, 111, 110, 103, 32, 116, 101, 120, 116, 32, 49, 50]⟩] 9)) (p := ⟨w.heap.size, 3, none⟩) (by first | omega | (simp; done) | (simp; omega))).trans r3
      replace r4 : (wc.alloc (.cells #[.string ⟨#[]⟩, .string ⟨#[97]⟩, .string ⟨#[98, 32, 99]⟩, .string ⟨#[108, 111, 110, 103, 32, 116, 101, 120, 116, 32, 49, 50]⟩] 9)).cell? ⟨w.heap.size, 4, none⟩ = some (.slice none 0 0) := (Below.cell (Below.alloc (Below.refl wc.heap.size wc) (Nat.le_refl _) (.cells #[.string ⟨#[]⟩, .string ⟨#[97]⟩, .string ⟨#[98, 32, 99]⟩, .string ⟨#[108, 111, 110, 103, 32, 116, 101, 120, 116, 32, 49, 50]⟩] 9)) (p := ⟨w.heap.size, 4, none⟩) (by first | omega | (simp; done) | (simp; omega))).trans r4
      replace rf : ∀ o, (wc.alloc (.cells #[.string ⟨#[]⟩, .string ⟨#[97]⟩, .string ⟨#[98, 32, 99]⟩, .string ⟨#[108, 111, 110, 103, 32, 116, 101, 120, 116, 32, 49, 50]⟩] 9)).frozen? ⟨w.heap.size, o, none⟩ = false := fun o => (Below.frozen (Below.alloc (Below.refl wc.heap.size wc) (Nat.le_refl _) (.cells #[.string ⟨#[]⟩, .string ⟨#[97]⟩, .string ⟨#[98, 32, 99]⟩, .string ⟨#[108, 111, 110, 103, 32, 116, 101, 120, 116, 32, 49, 50]⟩] 9)) (p := ⟨w.heap.size, o, none⟩) (by first | omega | (simp; done) | (simp; omega))).trans (rf o)
      clear hA hB
      go_wp2_with fail
      refine (pick_any g A len cap 4 _ HA.out (by omega)).mono ?_
      rintro e wp ⟨r, rfl, p, q, hs, hk⟩
      have hr4 : r < 4 := by omega
      obtain ⟨tt, ht1, ht0⟩ := str4 wc r p hr4
      have ht := (hk.cell.1 wc.heap.size r.toNat (by simp) hN).trans ht0
      replace r0 := (hk.cell.1 w.heap.size 0 (by first | omega | (simp; done) | (simp; omega)) (by first | omega | (simp; done) | (simp; omega))).trans r0
      replace r1 := (hk.cell.1 w.heap.size 1 (by first | omega | (simp; done) | (simp; omega)) (by first | omega | (simp; done) | (simp; omega))).trans r1
      replace r2 := (hk.cell.1 w.heap.size 2 (by first | omega | (simp; done) | (simp; omega)) (by first | omega | (simp; done) | (simp; omega))).trans r2
      replace r3 := (hk.cell.1 w.heap.size 3 (by first | omega | (simp; done) | (simp; omega)) (by first | omega | (simp; done) | (simp; omega))).trans r3
      replace r4 := (hk.cell.1 w.heap.size 4 (by first | omega | (simp; done) | (simp; omega)) (by first | omega | (simp; done) | (simp; omega))).trans r4
      replace rf := fun o => (hk.cell.2 w.heap.size o (by first | omega | (simp; done) | (simp; omega)) (by first | omega | (simp; done) | (simp; omega))).trans (rf o)
      have HS9 := Lib.hid hs
      have HK9 := Lib.hid (HB.out.more (Nat.le_refl _) hk)
      clear hs hk ht0 q
      go_wp2_with fail
      refine bodyPost_ret (v := .agg #[.int .i64 (-1), .int .i64 (-1), .string tt, .slice none 0 0, .slice none 0 0]) (by simp [results, Tryd.results78, go_sem, *]) rfl ⟨none, 0, none, 0, .mk (-1) (-1) tt [] [], rfl, TrD.text _ _ _ _, GdT.text ht1, ?_, ?_⟩
      · exact ((((HS9.out.set_ HG.out _).set_ HG.out _).set_ HG.out _).set_ HG.out _).set_ HG.out _
      · exact ((((HK9.out.set_ (.inr (Nat.le_refl _)) _).set_ (.inr (Nat.le_refl _)) _).set_ (.inr (Nat.le_refl _)) _).set_ (.inr (Nat.le_refl _)) _).set_ (.inr (Nat.le_refl _)) _
    have hdd : decide (deep ≤ 0) = false := by simpa using hle
    go_enter Tryd.func78, Tryd.ntmps78
    go_wp2_with fail
    refine (pick_any g A len cap 4 _ HS0.out (by omega)).mono ?_
    rintro e w1 ⟨ra, rfl, ra0, ra1, hs, hk⟩
    replace r0 := (hk.cell.1 w.heap.size 0 (by first | omega | (simp; done) | (simp; omega)) (by first | omega | (simp; done) | (simp; omega))).trans r0
    replace r1 := (hk.cell.1 w.heap.size 1 (by first | omega | (simp; done) | (simp; omega)) (by first | omega | (simp; done) | (simp; omega))).trans r1
    replace r2 := (hk.cell.1 w.heap.size 2 (by first | omega | (simp; done) | (simp; omega)) (by first | omega | (simp; done) | (simp; omega))).trans r2
    replace r3 := (hk.cell.1 w.heap.size 3 (by first | omega | (simp; done) | (simp; omega)) (by first | omega | (simp; done) | (simp; omega))).trans r3
    replace r4 := (hk.cell.1 w.heap.size 4 (by first | omega | (simp; done) | (simp; omega)) (by first | omega | (simp; done) | (simp; omega))).trans r4
    replace rf := fun o => (hk.cell.2 w.heap.size o (by first | omega | (simp; done) | (simp; omega)) (by first | omega | (simp; done) | (simp; omega))).trans (rf o)
    have HS1 := Lib.hid hs
    have HK1 := Lib.hid (HK0.out.more (Nat.le_refl _) hk)
    have hz1 : w.heap.size < w1.heap.size := by have := hk.size; omega
    clear hs hk
    by_cases hra : ra = 0
    · subst hra
      have hA := HS1.out.alloc (.cells #[.string ⟨#[]⟩, .string ⟨#[97]⟩, .string ⟨#[98, 32, 99]⟩, .string ⟨#[108, 111, 110, 103, 32, 116, 101, 120, 116, 32, 49, 50]⟩] 9)
      have hB := HK1.out.alloc (by omega) (.cells #[.string ⟨#[]⟩, .string ⟨#[97]⟩, .string ⟨#[98, 32, 99]⟩, .string ⟨#[108, 111, 110, 103, 32, 116, 101, 120, 116, 32, 49, 50]⟩] 9)
      have HA := Lib.hid hA
      have HB := Lib.hid hB
      have hN : ¬ w1.heap.size = g := by omega
      replace r0 : (w1.alloc (.cells #[.string ⟨#[]⟩, .string ⟨#[97]⟩, .string ⟨#[98, 32, 99]⟩, .string ⟨#[108, 111, 110, 103, 32, 116, 101, 120, 116, 32, 49, 50]⟩] 9)).cell? ⟨w.heap.size, 0, none⟩ = some (.int .i64 0) := (Below.cell (Below.alloc (Below.refl w1.heap.size w1) (Nat.le_refl _) (.cells #[.string ⟨#[]⟩, .string ⟨#[97]⟩, .string ⟨#[98, 32, 99]⟩, .string ⟨#[108, 111, 110, 103, 32, 116, 101, 120, 116, 32, 49, 50]⟩] 9)) (p := ⟨w.heap.size, 0, none⟩) (by first | omega | (simp; done) | (simp; omega))).trans r0
      replace r1 : (w1.alloc (.cells #[.string ⟨#[]⟩, .string ⟨#[97]⟩, .string ⟨#[98, 32, 99]⟩, .string ⟨#[108, 111, 110, 103, 32, 116, 101, 120, 116, 32, 49, 50]⟩] 9)).cell? ⟨w.heap.size, 1, none⟩ = some (.int .i64 0) := (Below.cell (Below.alloc (Below.refl w1.heap.size w1) (Nat.le_refl _) (.cells #[.string ⟨#[]⟩, .string ⟨#[97]⟩, .string ⟨#[98, 32, 99]⟩, .string ⟨#[108, 111, 110, 103, 32, 116, 101, 120, 116, 32, 49, 50]⟩] 9)) (p := ⟨w.heap.size, 1, none⟩) (by first | omega | (simp; done) | (simp; omega))).trans r1
      replace r2 : (w1.alloc (.cells #[.string ⟨#[]⟩, .string ⟨#[97]⟩, .string ⟨#[98, 32, 99]⟩, .string ⟨#[108, 111, 110, 103, 32, 116, 101, 120, 116, 32, 49, 50]⟩] 9)).cell? ⟨w.heap.size, 2, none⟩ = some (.string ⟨#[]⟩) := (Below.cell (Below.alloc (Below.refl w1.heap.size w1) (Nat.le_refl _) (.cells #[.string ⟨#[]⟩, .string ⟨#[97]⟩, .string ⟨#[98, 32, 99]⟩, .string ⟨#[108, 111, 110, 103, 32, 116, 101, 120, 116, 32, 49, 50]⟩] 9)) (p := ⟨w.heap.size, 2, none⟩) (by first | omega | (simp; done) | (simp; omega))).trans r2
      replace r3 : (w1.alloc (.cells #[.string ⟨#[]⟩, .string ⟨#[97]⟩, .string ⟨#[98, 32, 99]⟩, .string ⟨#[108, 111, 110, 103, 32, 116, 101, 120, 116, 32, 49, 50]⟩] 9)).cell? ⟨w.heap.size, 3, none⟩ = some (.slice none 0 0) := (Below.cell (Below.alloc (Below.refl w1.heap.size w1) (Nat.le_refl _) (.cells #[.string ⟨#[]⟩, .string ⟨#[97]⟩, .string ⟨#[98, 32, 99]⟩, .string ⟨#[108, 111, 110, 103, 32, 116, 101, 120, 116, 32, 49, 50]⟩] 9)) (p := ⟨w.heap.size, 3, none⟩) (by first | omega | (simp; done) | (simp; omega))).trans r3
      replace r4 : (w1.alloc (.cells #[.string ⟨#[]⟩, .string ⟨#[97]⟩, .string ⟨#[98, 32, 99]⟩, .string ⟨#[108, 111, 110, 103, 32, 116, 101, 120, 116, 32, 49, 50]⟩] 9)).cell? ⟨w.heap.size, 4, none⟩ = some (.slice none 0 0) := (Below.cell (Below.alloc (Below.refl w1.heap.size w1) (Nat.le_refl _) (.cells #[.string ⟨#[]⟩, .string ⟨#[97]⟩, .string ⟨#[98, 32, 99]⟩, .string ⟨#[108, 111, 110, 103, 32, 116, 101, 120, 116, 32, 49, 50]⟩] 9)) (p := ⟨w.heap.size, 4, none⟩) (by first | omega | (simp; done) | (simp; omega))).trans r4
      replace rf : ∀ o, (w1.alloc (.cells #[.string ⟨#[]⟩, .string ⟨#[97]⟩, .string ⟨#[98, 32, 99]⟩, .string ⟨#[108, 111, 110, 103, 32, 116, 101, 120, 116, 32, 49, 50]⟩] 9)).frozen? ⟨w.heap.size, o, none⟩ = false := fun o => (Below.frozen (Below.alloc (Below.refl w1.heap.size w1) (Nat.le_refl _) (.cells #[.string ⟨#[]⟩, .string ⟨#[97]⟩, .string ⟨#[98, 32, 99]⟩, .string ⟨#[108, 111, 110, 103, 32, 116, 101, 120, 116, 32, 49, 50]⟩] 9)) (p := ⟨w.heap.size, o, none⟩) (by first | omega | (simp; done) | (simp; omega))).trans (rf o)
      clear hA hB
      go_wp2_with fail
      refine (pick_any g A len cap 4 _ HA.out (by omega)).mono ?_
      rintro e wp ⟨r, rfl, p, q, hs, hk⟩
      have hr4 : r < 4 := by omega
      obtain ⟨tt, ht1, ht0⟩ := str4 w1 r p hr4
      have ht := (hk.cell.1 w1.heap.size r.toNat (by simp) hN).trans ht0
      replace r0 := (hk.cell.1 w.heap.size 0 (by first | omega | (simp; done) | (simp; omega)) (by first | omega | (simp; done) | (simp; omega))).trans r0
      replace r1 := (hk.cell.1 w.heap.size 1 (by first | omega | (simp; done) | (simp; omega)) (by first | omega | (simp; done) | (simp; omega))).trans r1
      replace r2 := (hk.cell.1 w.heap.size 2 (by first | omega | (simp; done) | (simp; omega)) (by first | omega | (simp; done) | (simp; omega))).trans r2
      replace r3 := (hk.cell.1 w.heap.size 3 (by first | omega | (simp; done) | (simp; omega)) (by first | omega | (simp; done) | (simp; omega))).trans r3
      replace r4 := (hk.cell.1 w.heap.size 4 (by first | omega | (simp; done) | (simp; omega)) (by first | omega | (simp; done) | (simp; omega))).trans r4
      replace rf := fun o => (hk.cell.2 w.heap.size o (by first | omega | (simp; done) | (simp; omega)) (by first | omega | (simp; done) | (simp; omega))).trans (rf o)
      have HS9 := Lib.hid hs
      have HK9 := Lib.hid (HB.out.more (Nat.le_refl _) hk)
      clear hs hk ht0 q
      go_wp2_with fail
      refine bodyPost_ret (v := .agg #[.int .i64 (-1), .int .i64 (-1), .string tt, .slice none 0 0, .slice none 0 0]) (by simp [results, Tryd.results78, go_sem, *]) rfl ⟨none, 0, none, 0, .mk (-1) (-1) tt [] [], rfl, TrD.text _ _ _ _, GdT.text ht1, ?_, ?_⟩
      · exact ((((HS9.out.set_ HG.out _).set_ HG.out _).set_ HG.out _).set_ HG.out _).set_ HG.out _
      · exact ((((HK9.out.set_ (.inr (Nat.le_refl _)) _).set_ (.inr (Nat.le_refl _)) _).set_ (.inr (Nat.le_refl _)) _).set_ (.inr (Nat.le_refl _)) _).set_ (.inr (Nat.le_refl _)) _
    have hrb : (ra == 0) = false := by simp; omega
    go_wp2_with fail
    refine (pick_any g A len cap 5 _ HS1.out (by omega)).mono ?_
    rintro e w2 ⟨tag, rfl, tg0, tg1, hs, hk⟩
    replace r0 := (hk.cell.1 w.heap.size 0 (by first | omega | (simp; done) | (simp; omega)) (by first | omega | (simp; done) | (simp; omega))).trans r0
    replace r1 := (hk.cell.1 w.heap.size 1 (by first | omega | (simp; done) | (simp; omega)) (by first | omega | (simp; done) | (simp; omega))).trans r1
    replace r2 := (hk.cell.1 w.heap.size 2 (by first | omega | (simp; done) | (simp; omega)) (by first | omega | (simp; done) | (simp; omega))).trans r2
    replace r3 := (hk.cell.1 w.heap.size 3 (by first | omega | (simp; done) | (simp; omega)) (by first | omega | (simp; done) | (simp; omega))).trans r3
    replace r4 := (hk.cell.1 w.heap.size 4 (by first | omega | (simp; done) | (simp; omega)) (by first | omega | (simp; done) | (simp; omega))).trans r4
    replace rf := fun o => (hk.cell.2 w.heap.size o (by first | omega | (simp; done) | (simp; omega)) (by first | omega | (simp; done) | (simp; omega))).trans (rf o)
    have HS2 := Lib.hid hs
    have HK2 := Lib.hid (HK1.out.more (Nat.le_refl _) hk)
    have hz2 : w.heap.size < w2.heap.size := by have := hk.size; omega
    clear hs hk
    have HL := Lib.hid (keys7 w2)
    have HA2 := Lib.hid (HS2.out.alloc (.cells #[.int .i64 (-1), .int .i64 (-1), .int .i64 0, .int .i64 1, .int .i64 2, .int .i64 50, .int .i64 99] 3))
    have HB2 := Lib.hid (HK2.out.alloc (by omega) (.cells #[.int .i64 (-1), .int .i64 (-1), .int .i64 0, .int .i64 1, .int .i64 2, .int .i64 50, .int .i64 99] 3))
    have hN2 : ¬ w2.heap.size = g := by omega
    replace r0 : (w2.alloc (.cells #[.int .i64 (-1), .int .i64 (-1), .int .i64 0, .int .i64 1, .int .i64 2, .int .i64 50, .int .i64 99] 3)).cell? ⟨w.heap.size, 0, none⟩ = some (.int .i64 0) := (Below.cell (Below.alloc (Below.refl w2.heap.size w2) (Nat.le_refl _) (.cells #[.int .i64 (-1), .int .i64 (-1), .int .i64 0, .int .i64 1, .int .i64 2, .int .i64 50, .int .i64 99] 3)) (p := ⟨w.heap.size, 0, none⟩) (by first | omega | (simp; done) | (simp; omega))).trans r0
    replace r1 : (w2.alloc (.cells #[.int .i64 (-1), .int .i64 (-1), .int .i64 0, .int .i64 1, .int .i64 2, .int .i64 50, .int .i64 99] 3)).cell? ⟨w.heap.size, 1, none⟩ = some (.int .i64 0) := (Below.cell (Below.alloc (Below.refl w2.heap.size w2) (Nat.le_refl _) (.cells #[.int .i64 (-1), .int .i64 (-1), .int .i64 0, .int .i64 1, .int .i64 2, .int .i64 50, .int .i64 99] 3)) (p := ⟨w.heap.size, 1, none⟩) (by first | omega | (simp; done) | (simp; omega))).trans r1
    replace r2 : (w2.alloc (.cells #[.int .i64 (-1), .int .i64 (-1), .int .i64 0, .int .i64 1, .int .i64 2, .int .i64 50, .int .i64 99] 3)).cell? ⟨w.heap.size, 2, none⟩ = some (.string ⟨#[]⟩) := (Below.cell (Below.alloc (Below.refl w2.heap.size w2) (Nat.le_refl _) (.cells #[.int .i64 (-1), .int .i64 (-1), .int .i64 0, .int .i64 1, .int .i64 2, .int .i64 50, .int .i64 99] 3)) (p := ⟨w.heap.size, 2, none⟩) (by first | omega | (simp; done) | (simp; omega))).trans r2
    replace r3 : (w2.alloc (.cells #[.int .i64 (-1), .int .i64 (-1), .int .i64 0, .int .i64 1, .int .i64 2, .int .i64 50, .int .i64 99] 3)).cell? ⟨w.heap.size, 3, none⟩ = some (.slice none 0 0) := (Below.cell (Below.alloc (Below.refl w2.heap.size w2) (Nat.le_refl _) (.cells #[.int .i64 (-1), .int .i64 (-1), .int .i64 0, .int .i64 1, .int .i64 2, .int .i64 50, .int .i64 99] 3)) (p := ⟨w.heap.size, 3, none⟩) (by first | omega | (simp; done) | (simp; omega))).trans r3
    replace r4 : (w2.alloc (.cells #[.int .i64 (-1), .int .i64 (-1), .int .i64 0, .int .i64 1, .int .i64 2, .int .i64 50, .int .i64 99] 3)).cell? ⟨w.heap.size, 4, none⟩ = some (.slice none 0 0) := (Below.cell (Below.alloc (Below.refl w2.heap.size w2) (Nat.le_refl _) (.cells #[.int .i64 (-1), .int .i64 (-1), .int .i64 0, .int .i64 1, .int .i64 2, .int .i64 50, .int .i64 99] 3)) (p := ⟨w.heap.size, 4, none⟩) (by first | omega | (simp; done) | (simp; omega))).trans r4
    replace rf : ∀ o, (w2.alloc (.cells #[.int .i64 (-1), .int .i64 (-1), .int .i64 0, .int .i64 1, .int .i64 2, .int .i64 50, .int .i64 99] 3)).frozen? ⟨w.heap.size, o, none⟩ = false := fun o => (Below.frozen (Below.alloc (Below.refl w2.heap.size w2) (Nat.le_refl _) (.cells #[.int .i64 (-1), .int .i64 (-1), .int .i64 0, .int .i64 1, .int .i64 2, .int .i64 50, .int .i64 99] 3)) (p := ⟨w.heap.size, o, none⟩) (by first | omega | (simp; done) | (simp; omega))).trans (rf o)
    go_wp2_with fail
    refine (one_any g A len cap w2.heap.size 7 7 (-1) 99 _ HA2.out (by simp) hN2 HL.out (by omega) (by omega)).mono ?_
    rintro e w3 ⟨key, rfl, ky0, ky1, hs, hk⟩
    replace r0 := (hk.cell.1 w.heap.size 0 (by first | omega | (simp; done) | (simp; omega)) (by first | omega | (simp; done) | (simp; omega))).trans r0
    replace r1 := (hk.cell.1 w.heap.size 1 (by first | omega | (simp; done) | (simp; omega)) (by first | omega | (simp; done) | (simp; omega))).trans r1
    replace r2 := (hk.cell.1 w.heap.size 2 (by first | omega | (simp; done) | (simp; omega)) (by first | omega | (simp; done) | (simp; omega))).trans r2
    replace r3 := (hk.cell.1 w.heap.size 3 (by first | omega | (simp; done) | (simp; omega)) (by first | omega | (simp; done) | (simp; omega))).trans r3
    replace r4 := (hk.cell.1 w.heap.size 4 (by first | omega | (simp; done) | (simp; omega)) (by first | omega | (simp; done) | (simp; omega))).trans r4
    replace rf := fun o => (hk.cell.2 w.heap.size o (by first | omega | (simp; done) | (simp; omega)) (by first | omega | (simp; done) | (simp; omega))).trans (rf o)
    have HS3 := Lib.hid hs
    have HK3 := Lib.hid (HB2.out.more (Nat.le_refl _) hk)
    have hz3 : w.heap.size < w3.heap.size := by have := hk.size; simp at this; omega
    clear hs hk HL HA2 HB2 hN2 HS2 HK2 HS1 HK1
    replace r0 : (w3.alloc (.cells #[.int .i64 tag, .int .i64 key, .string ⟨#[]⟩, .slice none 0 0, .slice none 0 0] 26)).cell? ⟨w.heap.size, 0, none⟩ = some (.int .i64 0) := (Below.cell (Below.alloc (Below.refl w3.heap.size w3) (Nat.le_refl _) (.cells #[.int .i64 tag, .int .i64 key, .string ⟨#[]⟩, .slice none 0 0, .slice none 0 0] 26)) (p := ⟨w.heap.size, 0, none⟩) (by first | omega | (simp; done) | (simp; omega))).trans r0
    replace r1 : (w3.alloc (.cells #[.int .i64 tag, .int .i64 key, .string ⟨#[]⟩, .slice none 0 0, .slice none 0 0] 26)).cell? ⟨w.heap.size, 1, none⟩ = some (.int .i64 0) := (Below.cell (Below.alloc (Below.refl w3.heap.size w3) (Nat.le_refl _) (.cells #[.int .i64 tag, .int .i64 key, .string ⟨#[]⟩, .slice none 0 0, .slice none 0 0] 26)) (p := ⟨w.heap.size, 1, none⟩) (by first | omega | (simp; done) | (simp; omega))).trans r1
    replace r2 : (w3.alloc (.cells #[.int .i64 tag, .int .i64 key, .string ⟨#[]⟩, .slice none 0 0, .slice none 0 0] 26)).cell? ⟨w.heap.size, 2, none⟩ = some (.string ⟨#[]⟩) := (Below.cell (Below.alloc (Below.refl w3.heap.size w3) (Nat.le_refl _) (.cells #[.int .i64 tag, .int .i64 key, .string ⟨#[]⟩, .slice none 0 0, .slice none 0 0] 26)) (p := ⟨w.heap.size, 2, none⟩) (by first | omega | (simp; done) | (simp; omega))).trans r2
    replace r3 : (w3.alloc (.cells #[.int .i64 tag, .int .i64 key, .string ⟨#[]⟩, .slice none 0 0, .slice none 0 0] 26)).cell? ⟨w.heap.size, 3, none⟩ = some (.slice none 0 0) := (Below.cell (Below.alloc (Below.refl w3.heap.size w3) (Nat.le_refl _) (.cells #[.int .i64 tag, .int .i64 key, .string ⟨#[]⟩, .slice none 0 0, .slice none 0 0] 26)) (p := ⟨w.heap.size, 3, none⟩) (by first | omega | (simp; done) | (simp; omega))).trans r3
    replace r4 : (w3.alloc (.cells #[.int .i64 tag, .int .i64 key, .string ⟨#[]⟩, .slice none 0 0, .slice none 0 0] 26)).cell? ⟨w.heap.size, 4, none⟩ = some (.slice none 0 0) := (Below.cell (Below.alloc (Below.refl w3.heap.size w3) (Nat.le_refl _) (.cells #[.int .i64 tag, .int .i64 key, .string ⟨#[]⟩, .slice none 0 0, .slice none 0 0] 26)) (p := ⟨w.heap.size, 4, none⟩) (by first | omega | (simp; done) | (simp; omega))).trans r4
    replace rf : ∀ o, (w3.alloc (.cells #[.int .i64 tag, .int .i64 key, .string ⟨#[]⟩, .slice none 0 0, .slice none 0 0] 26)).frozen? ⟨w.heap.size, o, none⟩ = false := fun o => (Below.frozen (Below.alloc (Below.refl w3.heap.size w3) (Nat.le_refl _) (.cells #[.int .i64 tag, .int .i64 key, .string ⟨#[]⟩, .slice none 0 0, .slice none 0 0] 26)) (p := ⟨w.heap.size, o, none⟩) (by first | omega | (simp; done) | (simp; omega))).trans (rf o)
    have HT0 : Hid (TS w g A len cap w.heap.size w3.heap.size tag key [] [] (.slice none 0 0) (.slice none 0 0) (w3.alloc (.cells #[.int .i64 tag, .int .i64 key, .string ⟨#[]⟩, .slice none 0 0, .slice none 0 0] 26))) := Lib.hid ⟨r0, r1, r2, r3, r4, rf, by go_simp, by go_simp, by go_simp, by go_simp, by go_simp, fun o => by go_simp, hgw, hz3, by simp, ⟨rfl, .inl ⟨rfl, rfl⟩⟩, KidsOwn.nil _ _, by simp, by simp, HS3.out.alloc _, HK3.out.alloc (by omega) _⟩
    clear r0 r1 r2 r3 r4 rf HS3 HK3
    obtain ⟨i0, hi, hj0, hj1, hj2⟩ := info_parts infoPr
    have I0 := Lib.hid (And.intro hi (And.intro hj0 (And.intro hj1 hj2)))
    clear hi hj0 hj1 hj2
    obtain ⟨i1, hi, hj0, hj1, hj2⟩ := info_parts infoTr
    have I1 := Lib.hid (And.intro hi (And.intro hj0 (And.intro hj1 hj2)))
    clear hi hj0 hj1 hj2
    go_wp2_with fail
    go_loopw [6] (fun i wr => ∃ (k : Nat) (ps : List Pr) (v : Value), k ≤ 4 ∧ i = .int .i64 k ∧ ps.length ≤ k ∧ Hid (TS w g A len cap w.heap.size w3.heap.size tag key ps [] v (.slice none 0 0) wr)) (fun i _ => 4 - (intOf i).toNat)
    case atStart => exact ⟨0, [], .slice none 0 0, by omega, rfl, by simp, HT0⟩
    case round =>
      clear HT0
      obtain ⟨k, ps, v, hk4, rfl, hpl, HT⟩ := hrel
      by_cases hlt : k < 4
      · go_wp2_with fail
        refine (pick_any g A len cap 3 _ HT.out.s (by omega)).mono ?_
        rintro e wp ⟨rq, rfl, p3, q3, hs, hk⟩
        replace HT := Lib.hid (HT.out.keep hk hs)
        clear hs hk
        by_cases hr3 : rq = 0
        · subst hr3
          have o3 := HT.out.o3
          have of_ := HT.out.of_
          have hzb := HT.out.hz
          go_wp2_with fail
          go_region_law (first
            | (refine step_append_own (by rfl) (.tmp 36) (.tmp 41) 23 95 i0 _ 4 40 (by rfl) Tryd.underlying23 I0.out.1 I0.out.2.1 I0.out.2.2.1 I0.out.2.2.2 (by rfl) (by omega) (w3.heap.size + 1) v ps.length (ps.flatMap Pr.cells) (by rfl) (HT.out.alloc _).p ⟨wg.heap.size, 0, none⟩ 1 (Pr.cells ⟨k, ⟨vk, vn, vs⟩⟩) (by rfl) (by rfl) (by intro j u hu; exact lit_cells _ _ _ j u hu) (by intro u hu; exact prop_one _ u hu) (by omega) (by omega) (by simp; omega) ?_; intro v' wx hox hgx hatx; obtain ⟨A9, c9, rfl, _⟩ := rowv_form hox; have HT9 := Lib.hid (TS.prop (x := ⟨k, ⟨vk, vn, vs⟩⟩) (HT.out.alloc _) HV.out hox hgx); have o3x : wx.cell? ⟨w3.heap.size, 3, none⟩ = some v := (((HT.out.alloc _).grown_cells (HT.out.alloc _).p hgx).1 _ _ (Nat.le_refl _)).trans (HT.out.alloc _).o3; have ofx : ∀ o, wx.frozen? ⟨w3.heap.size, o, none⟩ = false := fun o => (((HT.out.alloc _).grown_cells (HT.out.alloc _).p hgx).2.1 _ _ (Nat.le_refl _)).trans ((HT.out.alloc _).of_ o))
            | (go_simp; go_at_call 97; refine (good_any g A len cap _ (by first | exact HT.out.s | exact HT.out.drew.s | exact (HT.out.drewN _).s)).mono ?_; rintro e wg ⟨vk, vn, vs, rfl, hv, hs, hk⟩; replace HT := Lib.hid (TS.keep (by first | exact HT.out | exact HT.out.drew | exact HT.out.drewN _) hk hs); have HV := Lib.hid (valid_small hv); have o3g := HT.out.o3; have hzg := HT.out.hz; clear hs hk hv))
          all_goals
            go_wp2_with fail
            go_roundw
            case rel => exact ⟨k + 1, _, _, by omega, by go_num, by simp; omega, HT9⟩
            case measure => simp [intOf]; omega
        · have hr3b : (rq == 0) = false := by simp; omega
          go_wp2_with fail
          go_roundw
          case rel => exact ⟨k + 1, ps, v, by omega, by go_num, by omega, HT⟩
          case measure => simp [intOf]; omega
      · obtain rfl : k = 4 := by omega
        go_wp2_with fail
        refine (pick_any g A len cap 5 _ HT.out.s (by omega)).mono ?_
        rintro e wm ⟨m, rfl, m0, m1, hs, hk⟩
        have HTm := Lib.hid (HT.out.keep hk hs)
        clear hs hk HT
        go_wp2_with fail
        go_loopw [7] (fun i wr => ∃ (j : Nat) (ks : List Tr) (v2 : Value), i = .int .i64 j ∧ ks.length + j ≤ 4 ∧ Hid (TS w g A len cap w.heap.size w3.heap.size tag key ps ks v v2 wr)) (fun i _ => (intOf i).toNat)
        case atStart => exact ⟨m.toNat, [], .slice none 0 0, by rw [show (m.toNat : Int) = m by omega], by simp; omega, HTm⟩
        case round =>
          clear HTm
          obtain ⟨j, ks, v2, rfl, hkl, HT⟩ := hrel
          by_cases hj : j = 0
          · subst hj
            have o4 := HT.out.o4
            have of_ := HT.out.of_
            have hzb := HT.out.hz
            obtain ⟨A2, c2, hv2, hA2⟩ := kids_form HT.out.k
            rcases hA2 with ⟨rfl, rfl, rfl⟩ | ⟨b2, rfl⟩
            · subst hv2
              go_wp2_with fail
              refine (keyless_none _).mono ?_
              rintro e w' ⟨rfl, rfl⟩
              replace HT := Lib.hid HT.out.same4
              go_wp2_with fail
              go_loopw [8] (fun i wr => i = .int .i64 0 ∧ Hid (TS w g A len cap w.heap.size w3.heap.size tag key ps [] v (.slice none 0 0) wr)) (fun _ _ => 0)
              case atStart => exact ⟨rfl, HT⟩
              case round =>
                clear HT o4 of_ hzb
                obtain ⟨rfl, HT⟩ := hrel
                have o4 := HT.out.o4
                have hkl9 : ([] : List Tr).length ≤ 4 := by simp
                go_wp2_with fail
                refine (rarely_any g A len cap _ HT.out.s).mono ?_
                rintro e wy ⟨bb, rfl, hs, hk⟩
                replace HT := Lib.hid (HT.out.keep hk hs)
                clear hs hk
                have hzb := HT.out.hz
                cases bb
                · have hq0 : True := trivial
                  obtain ⟨B0, e0, B1, e1, hv1, hv2, hTD, hGD⟩ := HT.out.tree (by omega) (by omega) (by omega)
                  have HGD := Lib.hid hGD
                  have HTD := Lib.hid hTD
                  have HS9 := Lib.hid HT.out.s
                  have HK9 := Lib.hid HT.out.kp
                  obtain ⟨r0, r1, r2, r3, r4, rf, o0, o1, o2, o3, o4, of_, _, hRb, hzb, _, _, _, _, _, _⟩ := HT.out
                  rw [hv1] at o3
                  rw [hv2] at o4
                  clear hTD hGD HT hv1 hv2
                  go_wp2_with fail
                  refine bodyPost_ret (v := .agg #[.int .i64 _, .int .i64 _, .string ⟨#[]⟩, .slice B0 _ e0, .slice B1 _ e1]) (by simp [results, Tryd.results78, go_sem, *]; refine ⟨?_, ?_, ?_, ?_⟩ <;> first | rfl | exact hl3.symm | exact hl3 | omega) rfl ⟨B0, e0, B1, e1, .mk _ _ ⟨#[]⟩ _ _, rfl, ?_, HGD.out, ?_, ?_⟩
                  · refine TrD.mono (lo := w3.heap.size + 1) (by omega) ?_ (TrD.stored (TrD.stored (TrD.stored (TrD.stored (TrD.stored HTD.out ?_ _) ?_ _) ?_ _) ?_ _) ?_ _)
                    all_goals first | omega | (simp; done) | (simp; omega) | (simp [World.setCell])
                  · exact ((((HS9.out.set_ HG.out _).set_ HG.out _).set_ HG.out _).set_ HG.out _).set_ HG.out _
                  · exact ((((HK9.out.set_ (.inr (Nat.le_refl _)) _).set_ (.inr (Nat.le_refl _)) _).set_ (.inr (Nat.le_refl _)) _).set_ (.inr (Nat.le_refl _)) _).set_ (.inr (Nat.le_refl _)) _
                · have o1 := HT.out.o1
                  have of_ := HT.out.of_
                  replace HT := Lib.hid (HT.out.setKey 100)
                  have r0 := HT.out.r0
                  obtain ⟨B0, e0, B1, e1, hv1, hv2, hTD, hGD⟩ := HT.out.tree (by omega) (by omega) (by omega)
                  have HGD := Lib.hid hGD
                  have HTD := Lib.hid hTD
                  have HS9 := Lib.hid HT.out.s
                  have HK9 := Lib.hid HT.out.kp
                  obtain ⟨r0, r1, r2, r3, r4, rf, o0, o1, o2, o3, o4, of_, _, hRb, hzb, _, _, _, _, _, _⟩ := HT.out
                  rw [hv1] at o3
                  rw [hv2] at o4
                  clear hTD hGD HT hv1 hv2
                  go_wp2_with fail
                  refine bodyPost_ret (v := .agg #[.int .i64 _, .int .i64 _, .string ⟨#[]⟩, .slice B0 _ e0, .slice B1 _ e1]) (by simp [results, Tryd.results78, go_sem, *]; refine ⟨?_, ?_, ?_, ?_⟩ <;> first | rfl | exact hl3.symm | exact hl3 | omega) rfl ⟨B0, e0, B1, e1, .mk _ _ ⟨#[]⟩ _ _, rfl, ?_, HGD.out, ?_, ?_⟩
                  · refine TrD.mono (lo := w3.heap.size + 1) (by omega) ?_ (TrD.stored (TrD.stored (TrD.stored (TrD.stored (TrD.stored HTD.out ?_ _) ?_ _) ?_ _) ?_ _) ?_ _)
                    all_goals first | omega | (simp; done) | (simp; omega) | (simp [World.setCell])
                  · exact ((((HS9.out.set_ HG.out _).set_ HG.out _).set_ HG.out _).set_ HG.out _).set_ HG.out _
                  · exact ((((HK9.out.set_ (.inr (Nat.le_refl _)) _).set_ (.inr (Nat.le_refl _)) _).set_ (.inr (Nat.le_refl _)) _).set_ (.inr (Nat.le_refl _)) _).set_ (.inr (Nat.le_refl _)) _
            · subst hv2
              go_wp2_with fail
              refine (keyless_any b2 c2 ks.length (w3.heap.size + 1) ks _ rfl (by omega) HT.out.k HT.out.kg).mono ?_
              rintro e w' ⟨rfl, ks2, hl2, hk2, hg2, ho2⟩
              replace HT := Lib.hid (HT.out.rekid hk2 hg2 ho2)
              obtain ⟨N, hN⟩ : ∃ N, ks.length = N := ⟨_, rfl⟩
              rw [hN] at HT hl2 hkl
              have o4x := HT.out.o4
              have ofx := HT.out.of_
              have hzx := HT.out.hz
              clear hk2 hg2 ho2 o4 of_ hzb
              (try rw [hN])
              replace HT := Lib.hid HT.out.same4
              go_wp2_with fail
              go_loopw [8] (fun i wr => ∃ (q : Nat) (ks3 : List Tr), q ≤ N ∧ i = .int .i64 q ∧ ks3.length = N ∧ Hid (TS w g A len cap w.heap.size w3.heap.size tag key ps ks3 v (.slice (some ⟨b2, 0, none⟩) N c2) wr)) (fun i _ => N - (intOf i).toNat)
              case atStart => exact ⟨0, ks2, by omega, rfl, hl2, HT⟩
              case round =>
                clear HT o4x ofx hzx
                obtain ⟨q, ks3, hqN, rfl, hl3, HT⟩ := hrel
                have o4 := HT.out.o4
                by_cases hq : q < N
                · have hi1 : (0 : Int) ≤ (q : Int) := by omega
                  have hi2 : (q : Int) < (N : Int) := by omega
                  obtain ⟨x, hx⟩ := at_some (show q < ks3.length by omega)
                  have hko := HT.out.k
                  rw [← hl3] at hko
                  obtain ⟨a0, a1, a2⟩ := hko.at_ hx
                  obtain ⟨tg, htg⟩ : ∃ z, x.tag = z := ⟨_, rfl⟩
                  rw [htg] at a0
                  have HX9 := Lib.hid hx
                  clear htg hko hx
                  by_cases ht : tg = -1
                  · subst ht
                    go_wp2_with fail
                    go_roundw
                    case rel => exact ⟨q + 1, ks3.set q (x.withKey (-1)), by omega, by go_num, by simpa using hl3, Lib.hid (HT.out.set_kid hl3 HX9.out (-1) (by omega))⟩
                    case measure => simp [intOf]; omega
                  · have htb : (tg == -1) = false := by simpa using ht
                    go_wp2_with fail
                    go_roundw
                    case rel => exact ⟨q + 1, ks3, by omega, by go_num, hl3, HT⟩
                    case measure => simp [intOf]; omega
                · have hkl9 : ks3.length ≤ 4 := by omega
                  obtain rfl : q = N := by omega
                  go_wp2_with fail
                  refine (rarely_any g A len cap _ HT.out.s).mono ?_
                  rintro e wy ⟨bb, rfl, hs, hk⟩
                  replace HT := Lib.hid (HT.out.keep hk hs)
                  clear hs hk
                  have hzb := HT.out.hz
                  cases bb
                  · have hq0 : True := trivial
                    obtain ⟨B0, e0, B1, e1, hv1, hv2, hTD, hGD⟩ := HT.out.tree (by omega) (by omega) (by omega)
                    have HGD := Lib.hid hGD
                    have HTD := Lib.hid hTD
                    have HS9 := Lib.hid HT.out.s
                    have HK9 := Lib.hid HT.out.kp
                    obtain ⟨r0, r1, r2, r3, r4, rf, o0, o1, o2, o3, o4, of_, _, hRb, hzb, _, _, _, _, _, _⟩ := HT.out
                    rw [hv1] at o3
                    rw [hv2] at o4
                    clear hTD hGD HT hv1 hv2
                    go_wp2_with fail
                    refine bodyPost_ret (v := .agg #[.int .i64 _, .int .i64 _, .string ⟨#[]⟩, .slice B0 _ e0, .slice B1 _ e1]) (by simp [results, Tryd.results78, go_sem, *]; refine ⟨?_, ?_, ?_, ?_⟩ <;> first | rfl | exact hl3.symm | exact hl3 | omega) rfl ⟨B0, e0, B1, e1, .mk _ _ ⟨#[]⟩ _ _, rfl, ?_, HGD.out, ?_, ?_⟩
                    · refine TrD.mono (lo := w3.heap.size + 1) (by omega) ?_ (TrD.stored (TrD.stored (TrD.stored (TrD.stored (TrD.stored HTD.out ?_ _) ?_ _) ?_ _) ?_ _) ?_ _)
                      all_goals first | omega | (simp; done) | (simp; omega) | (simp [World.setCell])
                    · exact ((((HS9.out.set_ HG.out _).set_ HG.out _).set_ HG.out _).set_ HG.out _).set_ HG.out _
                    · exact ((((HK9.out.set_ (.inr (Nat.le_refl _)) _).set_ (.inr (Nat.le_refl _)) _).set_ (.inr (Nat.le_refl _)) _).set_ (.inr (Nat.le_refl _)) _).set_ (.inr (Nat.le_refl _)) _
                  · have o1 := HT.out.o1
                    have of_ := HT.out.of_
                    replace HT := Lib.hid (HT.out.setKey 100)
                    have r0 := HT.out.r0
                    obtain ⟨B0, e0, B1, e1, hv1, hv2, hTD, hGD⟩ := HT.out.tree (by omega) (by omega) (by omega)
                    have HGD := Lib.hid hGD
                    have HTD := Lib.hid hTD
                    have HS9 := Lib.hid HT.out.s
                    have HK9 := Lib.hid HT.out.kp
                    obtain ⟨r0, r1, r2, r3, r4, rf, o0, o1, o2, o3, o4, of_, _, hRb, hzb, _, _, _, _, _, _⟩ := HT.out
                    rw [hv1] at o3
                    rw [hv2] at o4
                    clear hTD hGD HT hv1 hv2
                    go_wp2_with fail
                    refine bodyPost_ret (v := .agg #[.int .i64 _, .int .i64 _, .string ⟨#[]⟩, .slice B0 _ e0, .slice B1 _ e1]) (by simp [results, Tryd.results78, go_sem, *]; refine ⟨?_, ?_, ?_, ?_⟩ <;> first | rfl | exact hl3.symm | exact hl3 | omega) rfl ⟨B0, e0, B1, e1, .mk _ _ ⟨#[]⟩ _ _, rfl, ?_, HGD.out, ?_, ?_⟩
                    · refine TrD.mono (lo := w3.heap.size + 1) (by omega) ?_ (TrD.stored (TrD.stored (TrD.stored (TrD.stored (TrD.stored HTD.out ?_ _) ?_ _) ?_ _) ?_ _) ?_ _)
                      all_goals first | omega | (simp; done) | (simp; omega) | (simp [World.setCell])
                    · exact ((((HS9.out.set_ HG.out _).set_ HG.out _).set_ HG.out _).set_ HG.out _).set_ HG.out _
                    · exact ((((HK9.out.set_ (.inr (Nat.le_refl _)) _).set_ (.inr (Nat.le_refl _)) _).set_ (.inr (Nat.le_refl _)) _).set_ (.inr (Nat.le_refl _)) _).set_ (.inr (Nat.le_refl _)) _
          · have kp : 0 < (j : Int) := by omega
            have o4 := HT.out.o4
            have of_ := HT.out.of_
            have hzb := HT.out.hz
            have ew := IntWalk.i64_in (deep - 1) (by omega)
            have hdp : 0 < deep := by omega
            go_wp2_with fail
            go_region_law (first
              | (obtain ⟨L, hdr, g1, g2, g3⟩ := (HT.out.alloc (.cells #[.int .i64 t.tag, .int .i64 t.key, .string t.text, .slice B0 t.ps.length e0, .slice B1 t.ks.length e1] 26)).k; refine step_append_own (by rfl) (.tmp 51) (.tmp 59) 24 26 i1 _ 5 80 (by rfl) Tryd.underlying24 I1.out.1 I1.out.2.1 I1.out.2.2.1 I1.out.2.2.2 (by rfl) (by omega) (w3.heap.size + 1) v2 ks.length L (by rfl) g1 ⟨wt.heap.size, 0, none⟩ 1 [.int .i64 t.tag, .int .i64 t.key, .string t.text, .slice B0 t.ps.length e0, .slice B1 t.ks.length e1] (by rfl) (by rfl) (by intro j u hu; exact lit_cells _ _ _ j u hu) (tree_one _ _ _ _ _ _ _ _ _) (by omega) (by omega) (by simp; omega) ?_; intro v' wx hox hgx hatx; obtain ⟨A9, c9, rfl, _⟩ := rowv_form hox; have HT9 := Lib.hid (TS.kid (HT.out.alloc (.cells #[.int .i64 t.tag, .int .i64 t.key, .string t.text, .slice B0 t.ps.length e0, .slice B1 t.ks.length e1] 26)) (HD.out.alloc (Nat.le_refl _) (.cells #[.int .i64 t.tag, .int .i64 t.key, .string t.text, .slice B0 t.ps.length e0, .slice B1 t.ks.length e1] 26)) (by omega) (by simp) (fun b hb => .inl (HV2.out b hb)) HGD2.out g1 hox hgx hatx); have o4y : wx.cell? ⟨w3.heap.size, 4, none⟩ = some v2 := (((HT.out.alloc (.cells #[.int .i64 t.tag, .int .i64 t.key, .string t.text, .slice B0 t.ps.length e0, .slice B1 t.ks.length e1] 26)).grown_cells g1 hgx).1 _ _ (Nat.le_refl _)).trans (HT.out.alloc (.cells #[.int .i64 t.tag, .int .i64 t.key, .string t.text, .slice B0 t.ps.length e0, .slice B1 t.ks.length e1] 26)).o4; have ofy : ∀ o, wx.frozen? ⟨w3.heap.size, o, none⟩ = false := fun o => (((HT.out.alloc (.cells #[.int .i64 t.tag, .int .i64 t.key, .string t.text, .slice B0 t.ps.length e0, .slice B1 t.ks.length e1] 26)).grown_cells g1 hgx).2.1 _ _ (Nat.le_refl _)).trans ((HT.out.alloc (.cells #[.int .i64 t.tag, .int .i64 t.key, .string t.text, .slice B0 t.ps.length e0, .slice B1 t.ks.length e1] 26)).of_ o))
              | (go_simp; go_at_call 65; refine (pick_any g A len cap 2 _ (by first | exact HT.out.s | exact HT.out.drew.s | exact (HT.out.drewN _).s) (by omega)).mono ?_; rintro e wg ⟨rz, rfl, z0, z1, hs, hk⟩; replace HT := Lib.hid (TS.keep (by first | exact HT.out | exact HT.out.drew | exact HT.out.drewN _) hk hs); have o4g := HT.out.o4; have hzg := HT.out.hz; have HV2 := Lib.hid (fun b hb => (kids_lt HT.out.k b hb).2); have ew2 := IntWalk.i64_in (deep - 1 - rz) (by omega); clear hs hk)
              | (go_simp; go_at_call 78; refine (IH.out (deep - 1 - rz) _ (by omega) (by omega) (by first | exact HT.out.s | exact HT.out.drew.s | exact (HT.out.drewN _).s)).mono ?_; rintro e wt ⟨B0, e0, B1, e1, t, rfl, hd, hgd, hs, hk⟩; have HD := Lib.hid hd; have HGD2 := Lib.hid hgd; replace HT := Lib.hid (TS.keep (by first | exact HT.out | exact HT.out.drew | exact HT.out.drewN _) hk hs); have o4t := HT.out.o4; have hzt := HT.out.hz; clear hs hk hd hgd))
            all_goals
              go_wp2_with fail
              go_roundw
              case rel => exact ⟨j - 1, _, _, by first | go_num | (rw [Int.ofNat_sub (by omega)]; rfl) | (congr 1; omega), by simp; omega, HT9⟩
              case measure => simp [intOf]; omega
end Go.Proofs.YtpkhpaioddommaaDoor
