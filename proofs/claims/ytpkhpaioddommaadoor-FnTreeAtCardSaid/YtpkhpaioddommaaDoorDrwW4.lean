/- Trees and ways drawn: DrawTreeAt, with the way's room. -/
import Derived.Test.YtpkhpaioddommaaDoorDwM
import Derived.Deep.RegionHeld3
namespace Go.Proofs.YtpkhpaioddommaaDoor
open Go.Joins Go.ChangeShapes Go.WideShapes Go.ChangeAt Go.RowKit Go.Deep
set_option linter.unusedVariables false
set_option linter.unusedSimpArgs false

def DrawVX (w : World) (e : Ending) (w' : World) : Prop :=
  ∃ (A0 : Option Addr) (c0 : Nat) (A1 : Option Addr) (c1 : Nat) (t : Tr) (b c : Nat) (zs : List Int), e = .returned (.tuple #[.agg #[.int .i64 t.tag, .int .i64 t.key, .string t.text, .slice A0 t.ps.length c0, .slice A1 t.ks.length c1], .slice (some ⟨b, 0, none⟩) zs.length c]) ∧ PrL w' A0 t.ps ∧ TrL w' 0 A1 t.ks ∧ GdT t ∧ IntL w' (some ⟨b, 0, none⟩) zs ∧ zs.length ≤ 5000 ∧ zs.length ≤ c ∧ Below w.heap.size w w'
set_option maxHeartbeats 8000000 in
set_option maxRecDepth 100000 in
theorem DrawTreeAtC_any (A : Option Addr) (len cap : Nat) (w : World) (hc : Code w w.heap.size A len) (hl : len ≤ maxLen) :
    Calls Tryd.prog 18 #[.slice A len cap] w (DrawVX w) := by
  have hb0 := Below.alloc (Below.refl w.heap.size w) (Nat.le_refl _) (.cells #[.int .i64 0, .int .i64 0, .string ⟨#[]⟩, .slice none 0 0, .slice none 0 0] 26)
  have HB0 := Lib.hid hb0
  have r0 : (w.alloc (.cells #[.int .i64 0, .int .i64 0, .string ⟨#[]⟩, .slice none 0 0, .slice none 0 0] 26)).cell? ⟨w.heap.size, 0, none⟩ = some (.int .i64 0) := by go_simp
  have r1 : (w.alloc (.cells #[.int .i64 0, .int .i64 0, .string ⟨#[]⟩, .slice none 0 0, .slice none 0 0] 26)).cell? ⟨w.heap.size, 1, none⟩ = some (.int .i64 0) := by go_simp
  have r2 : (w.alloc (.cells #[.int .i64 0, .int .i64 0, .string ⟨#[]⟩, .slice none 0 0, .slice none 0 0] 26)).cell? ⟨w.heap.size, 2, none⟩ = some (.string ⟨#[]⟩) := by go_simp
  have r3 : (w.alloc (.cells #[.int .i64 0, .int .i64 0, .string ⟨#[]⟩, .slice none 0 0, .slice none 0 0] 26)).cell? ⟨w.heap.size, 3, none⟩ = some (.slice none 0 0) := by go_simp
  have r4 : (w.alloc (.cells #[.int .i64 0, .int .i64 0, .string ⟨#[]⟩, .slice none 0 0, .slice none 0 0] 26)).cell? ⟨w.heap.size, 4, none⟩ = some (.slice none 0 0) := by go_simp
  have rf : ∀ o, (w.alloc (.cells #[.int .i64 0, .int .i64 0, .string ⟨#[]⟩, .slice none 0 0, .slice none 0 0] 26)).frozen? ⟨w.heap.size, o, none⟩ = false := fun o => by go_simp
  have hz : w.heap.size < (w.alloc (.cells #[.int .i64 0, .int .i64 0, .string ⟨#[]⟩, .slice none 0 0, .slice none 0 0] 26)).heap.size := by simp
  have HC := Lib.hid (Code.next hc hb0)
  obtain ⟨wc, hwc⟩ : ∃ wc, w.alloc (.cells #[.int .i64 0, .int .i64 0, .string ⟨#[]⟩, .slice none 0 0, .slice none 0 0] 26) = wc := ⟨_, rfl⟩
  rw [hwc] at HC HB0 r0 r1 r2 r3 r4 rf hz
  clear hc hb0
  go_enter Tryd.func18, Tryd.ntmps18
  have HS := Lib.hid (St.new (cap := cap) HC.out hl)
  go_wp2_with fail
  refine (newSource_any A len cap wc).mono ?_
  rintro e w1 ⟨rfl, rfl⟩
  have hb1 := Below.alloc (Below.refl wc.heap.size wc) (Nat.le_refl _) (.cells #[.slice A len cap, .int .i64 0, .int .i64 4000] 88)
  have HB1 := Lib.hid hb1
  have hz1 : wc.heap.size < (wc.alloc (.cells #[.slice A len cap, .int .i64 0, .int .i64 4000] 88)).heap.size := by simp
  replace r0 := (hb1.cell (p := ⟨w.heap.size, 0, none⟩) hz).trans r0
  replace r1 := (hb1.cell (p := ⟨w.heap.size, 1, none⟩) hz).trans r1
  replace r2 := (hb1.cell (p := ⟨w.heap.size, 2, none⟩) hz).trans r2
  replace r3 := (hb1.cell (p := ⟨w.heap.size, 3, none⟩) hz).trans r3
  replace r4 := (hb1.cell (p := ⟨w.heap.size, 4, none⟩) hz).trans r4
  replace rf := fun o => (hb1.frozen (p := ⟨w.heap.size, o, none⟩) hz).trans (rf o)
  clear hb1
  obtain ⟨w1, hw1⟩ : ∃ w1, wc.alloc (.cells #[.slice A len cap, .int .i64 0, .int .i64 4000] 88) = w1 := ⟨_, rfl⟩
  rw [hw1] at HS HB1 r0 r1 r2 r3 r4 rf hz1 ⊢
  clear hw1
  go_wp2_with fail
  refine (whole_any wc.heap.size A len cap w1 HS.out).mono ?_
  rintro e w2 ⟨A0, c0, A1, c1, ⟨tag, key, text, ps, ks⟩, rfl, hT, hGd, hs, hk⟩
  simp only [Tr.tag, Tr.key, Tr.text, Tr.ps, Tr.ks] at hT ⊢
  replace r0 := (hk.cell.1 w.heap.size 0 (by first | omega | (simp; done) | (simp; omega)) (by first | omega | (simp; done) | (simp; omega))).trans r0
  replace r1 := (hk.cell.1 w.heap.size 1 (by first | omega | (simp; done) | (simp; omega)) (by first | omega | (simp; done) | (simp; omega))).trans r1
  replace r2 := (hk.cell.1 w.heap.size 2 (by first | omega | (simp; done) | (simp; omega)) (by first | omega | (simp; done) | (simp; omega))).trans r2
  replace r3 := (hk.cell.1 w.heap.size 3 (by first | omega | (simp; done) | (simp; omega)) (by first | omega | (simp; done) | (simp; omega))).trans r3
  replace r4 := (hk.cell.1 w.heap.size 4 (by first | omega | (simp; done) | (simp; omega)) (by first | omega | (simp; done) | (simp; omega))).trans r4
  replace rf := fun o => (hk.cell.2 w.heap.size o (by first | omega | (simp; done) | (simp; omega)) (by first | omega | (simp; done) | (simp; omega))).trans (rf o)
  have HGd := Lib.hid hGd
  have hz2 := hk.size
  have HBa := Lib.hid ((HB0.out.trans (HB1.out.mono (Nat.le_of_lt hz))).trans ((hk.mono (Nat.le_of_lt (Nat.lt_trans hz hz1))).below (Nat.le_of_lt hz)))
  have hgw := hs.lt
  have hb3 := Below.alloc (Below.refl w2.heap.size w2) (Nat.le_refl _) (.cells #[.int .i64 tag, .int .i64 key, .string text, .slice A0 ps.length c0, .slice A1 ks.length c1] 26)
  have hbx : (w2.alloc (.cells #[.int .i64 tag, .int .i64 key, .string text, .slice A0 ps.length c0, .slice A1 ks.length c1] 26)).heap[w2.heap.size]? = some (.cells #[.int .i64 tag, .int .i64 key, .string text, .slice A0 ps.length c0, .slice A1 ks.length c1] 26 (0, 0)) := World.alloc_heap_new w2 _
  obtain ⟨o0, o1, o2, o3, o4⟩ := five_cells hbx
  replace r0 := (hb3.cell (p := ⟨w.heap.size, 0, none⟩) (by show w.heap.size < w2.heap.size; omega)).trans r0
  replace r1 := (hb3.cell (p := ⟨w.heap.size, 1, none⟩) (by show w.heap.size < w2.heap.size; omega)).trans r1
  replace r2 := (hb3.cell (p := ⟨w.heap.size, 2, none⟩) (by show w.heap.size < w2.heap.size; omega)).trans r2
  replace r3 := (hb3.cell (p := ⟨w.heap.size, 3, none⟩) (by show w.heap.size < w2.heap.size; omega)).trans r3
  replace r4 := (hb3.cell (p := ⟨w.heap.size, 4, none⟩) (by show w.heap.size < w2.heap.size; omega)).trans r4
  replace rf := fun o => (hb3.frozen (p := ⟨w.heap.size, o, none⟩) (by show w.heap.size < w2.heap.size; omega)).trans (rf o)
  have HT3 := Lib.hid (TrD.mono (lo := w1.heap.size) (lo' := wc.heap.size + 1) (by omega) (Nat.le_refl _) (TrD.kept (fun b _ h2 => hb3.block b h2) hT))
  have HTT := Lib.hid (TrD.kept (fun b _ h2 => hb3.block b h2) hT)
  have HS3 := Lib.hid (hs.below hb3)
  have HB3 := Lib.hid (HBa.out.trans (hb3.mono (by omega)))
  obtain ⟨w3, hw3⟩ : ∃ w3, w2.alloc (.cells #[.int .i64 tag, .int .i64 key, .string text, .slice A0 ps.length c0, .slice A1 ks.length c1] 26) = w3 := ⟨_, rfl⟩
  have hz3 : w3.heap.size = w2.heap.size + 1 := by rw [← hw3]; simp
  rw [hw3] at o0 o1 o2 o3 o4 r0 r1 r2 r3 r4 rf HT3 HTT HS3 HB3
  have HW3 := Lib.hid hw3
  clear hT hGd hs hk HB0 HB1 HS HC hb3 hbx hw3 HBa
  go_wp2_with fail
  rw [HW3.out]
  refine wp_region_held_drew (S := fun w' => w'.cell? ⟨w2.heap.size, 0, none⟩ = some (.int .i64 tag) ∧ w'.cell? ⟨w2.heap.size, 1, none⟩ = some (.int .i64 key) ∧ w'.cell? ⟨w2.heap.size, 2, none⟩ = some (.string text) ∧ w'.cell? ⟨w2.heap.size, 3, none⟩ = some (.slice A0 ps.length c0) ∧ w'.cell? ⟨w2.heap.size, 4, none⟩ = some (.slice A1 ks.length c1)) (by kernel_rfl) ?_ (fun hHeld => ?_)
  · exact ⟨o0, o1, o2, o3, o4⟩
  refine wpAnyH_take (i := 0) (oi := _) (v := ?_) rfl (by kernel_rfl) (by kernel_rfl) (by kernel_rfl) (fun _ _ _ h => h) (Or.inl ⟨by kernel_rfl, ?_⟩) (by assumption) ?_
  rotate_left
  · (intro w hSw; (try dsimp only at hSw); go_simp)
    try with_reducible rfl
  (try simp only [Act.put, List.getElem_toArray, List.getElem_cons_zero, List.getElem_cons_succ, List.setIfInBounds_toArray, List.set_cons_zero, List.set_cons_succ])
  refine wpAnyH_take (i := 1) (oi := _) (v := ?_) rfl (by kernel_rfl) (by kernel_rfl) (by kernel_rfl) (fun _ _ _ h => h) (Or.inl ⟨by kernel_rfl, ?_⟩) (by assumption) ?_
  rotate_left
  · (intro w hSw; (try dsimp only at hSw); go_simp)
    try with_reducible rfl
  (try simp only [Act.put, List.getElem_toArray, List.getElem_cons_zero, List.getElem_cons_succ, List.setIfInBounds_toArray, List.set_cons_zero, List.set_cons_succ])
  refine wpAnyH_take (i := 2) (oi := _) (v := ?_) rfl (by kernel_rfl) (by kernel_rfl) (by kernel_rfl) (fun _ _ _ h => h) (Or.inl ⟨by kernel_rfl, ?_⟩) (by assumption) ?_
  rotate_left
  · (intro w hSw; (try dsimp only at hSw); go_simp)
    try with_reducible rfl
  (try simp only [Act.put, List.getElem_toArray, List.getElem_cons_zero, List.getElem_cons_succ, List.setIfInBounds_toArray, List.set_cons_zero, List.set_cons_succ])
  refine wpAnyH_ready (rs := [3]) (by kernel_rfl) (by simp) ?_
  refine AllReadyH.cons (o := _) rfl (fun K hK => ?_) AllReadyH.nil
  go_simp
  refine (way_any wc.heap.size A len cap (.mk tag key text ps ks) HGd.out A0 A1 c0 c1 w3.drew HS3.out.drew w2.heap.size (by show w2.heap.size ≤ w3.heap.size; omega) (show TrD w3.drew (wc.heap.size + 1) w2.heap.size [.int .i64 tag, .int .i64 key, .string text, .slice A0 ps.length c0, .slice A1 ks.length c1] (.mk tag key text ps ks) from TrD.kept (w := w3) (w' := w3.drew) (fun b _ _ => rfl) HT3.out)).mono ?_
  rintro e w4 ⟨b, c, zs, rfl, hown, hzl, hst, hk⟩
  have hk' : Keep wc.heap.size w3.heap.size w3 w4 := ⟨hk.os, hk.tape, hk.output, hk.size, hk.block⟩
  have hob : b ≠ wc.heap.size ∧ w3.heap.size ≤ b := own_at hown (show wc.heap.size < w3.heap.size by omega)
  replace o0 := (hk'.cell.1 w2.heap.size 0 (by omega) (by omega)).trans o0
  replace o1 := (hk'.cell.1 w2.heap.size 1 (by omega) (by omega)).trans o1
  replace o2 := (hk'.cell.1 w2.heap.size 2 (by omega) (by omega)).trans o2
  replace o3 := (hk'.cell.1 w2.heap.size 3 (by omega) (by omega)).trans o3
  replace o4 := (hk'.cell.1 w2.heap.size 4 (by omega) (by omega)).trans o4
  replace r0 := (hk'.cell.1 w.heap.size 0 (by omega) (by omega)).trans r0
  replace r1 := (hk'.cell.1 w.heap.size 1 (by omega) (by omega)).trans r1
  replace r2 := (hk'.cell.1 w.heap.size 2 (by omega) (by omega)).trans r2
  replace r3 := (hk'.cell.1 w.heap.size 3 (by omega) (by omega)).trans r3
  replace r4 := (hk'.cell.1 w.heap.size 4 (by omega) (by omega)).trans r4
  replace rf := fun o => (hk'.cell.2 w.heap.size o (by omega) (by omega)).trans (rf o)
  have HTT4 := Lib.hid (TrD.kept (fun b h1 h2 => hk'.block b (by omega) (by omega)) HTT.out)
  have HB4 := Lib.hid (HB3.out.trans ((hk'.mono (show w.heap.size ≤ w3.heap.size by omega)).below (by omega)))
  have HOW := Lib.hid (show w4.ownsRow w3.heap.size 3 1 (.slice (some ⟨b, 0, none⟩) zs.length c) zs.length (zV zs) from hown)
  have hz4 := hk'.size
  refine hK.out _ _ ⟨o0, o1, o2, o3, o4⟩ (fun hHeld2 => ?_)
  clear hK K hown hst hk hk' hHeld HT3 HTT HS3 HB3 HW3
  (try simp only [Act.put, List.getElem_toArray, List.getElem_cons_zero, List.getElem_cons_succ, List.setIfInBounds_toArray, List.set_cons_zero, List.set_cons_succ])
  have hSS : ∀ v0 v1 v2 v3 v4, (fun w' : World => w'.cell? ⟨w2.heap.size, 0, none⟩ = some (.int .i64 tag) ∧ w'.cell? ⟨w2.heap.size, 1, none⟩ = some (.int .i64 key) ∧ w'.cell? ⟨w2.heap.size, 2, none⟩ = some (.string text) ∧ w'.cell? ⟨w2.heap.size, 3, none⟩ = some (.slice A0 ps.length c0) ∧ w'.cell? ⟨w2.heap.size, 4, none⟩ = some (.slice A1 ks.length c1)) (((((w4.setCell ⟨w.heap.size, 0, none⟩ v0).setCell ⟨w.heap.size, 1, none⟩ v1).setCell ⟨w.heap.size, 2, none⟩ v2).setCell ⟨w.heap.size, 3, none⟩ v3).setCell ⟨w.heap.size, 4, none⟩ v4) := fun v0 v1 v2 v3 v4 => ⟨set5_cell (by omega) o0, set5_cell (by omega) o1, set5_cell (by omega) o2, set5_cell (by omega) o3, set5_cell (by omega) o4⟩
  refine wpAnyH_ready (rs := [4]) (by kernel_rfl) (by simp) ?_
  refine AllReadyH.cons (o := _) rfl (fun K hK => ?_) AllReadyH.nil
  go_simp
  refine hK.out _ _ (hSS _ _ _ _ _) (fun hHeld3 => ?_)
  clear hK K hHeld2 hSS
  (try simp only [Act.put, List.getElem_toArray, List.getElem_cons_zero, List.getElem_cons_succ, List.setIfInBounds_toArray, List.set_cons_zero, List.set_cons_succ])
  refine wpAnyH_take (i := 5) (oi := _) (v := ?_) rfl (by kernel_rfl) (by kernel_rfl) (by kernel_rfl) (fun _ _ _ h => h) (Or.inl ⟨by kernel_rfl, ?_⟩) (by assumption) ?_
  rotate_left
  · (intro w hSw; (try dsimp only at hSw); go_simp)
    try with_reducible rfl
  (try simp only [Act.put, List.getElem_toArray, List.getElem_cons_zero, List.getElem_cons_succ, List.setIfInBounds_toArray, List.set_cons_zero, List.set_cons_succ])
  refine wpAnyH_done (by kernel_rfl) ?_ _
  have hb7 : ∀ k, k ≠ w.heap.size → (((((w4.setCell ⟨w.heap.size, 0, none⟩ (.int .i64 tag)).setCell ⟨w.heap.size, 1, none⟩ (.int .i64 key)).setCell ⟨w.heap.size, 2, none⟩ (.string text)).setCell ⟨w.heap.size, 3, none⟩ (.slice A0 ps.length c0)).setCell ⟨w.heap.size, 4, none⟩ (.slice A1 ks.length c1)).heap[k]? = w4.heap[k]? := fun k hk => by
    rw [Below.heap_setCell _ _ _ _ hk, Below.heap_setCell _ _ _ _ hk, Below.heap_setCell _ _ _ _ hk, Below.heap_setCell _ _ _ _ hk, Below.heap_setCell _ _ _ _ hk]
  have hT7 := TrD.kept (fun k h1 h2 => hb7 k (by omega)) HTT4.out
  obtain ⟨F0, f0, F1, f1, hfe, hp7, hk7, _⟩ := hT7.lies (by simp [World.setCell]; omega)
  simp only [Tr.tag, Tr.key, Tr.text, Tr.ps, Tr.ks, List.cons.injEq, Value.slice.injEq, true_and, and_true] at hfe hp7 hk7
  obtain ⟨⟨rfl, rfl⟩, rfl, rfl⟩ := hfe
  have hi7 := IntL.of_own (own_move HOW.out (fun q cur hq hh => hb7 q (by
    intro e
    subst e
    simp only [Value.slice.injEq, Option.some.injEq, Addr.mk.injEq, and_true] at hq
    omega)))
  have hcl : zs.length ≤ c := by
    rcases HOW.out.2 with ⟨h, _⟩ | ⟨g', cap', cur, h, _, _, hle, _⟩
    · cases h
    · cases h
      exact hle
  have HP7 := Lib.hid hp7
  have HK7 := Lib.hid hk7
  have HI7 := Lib.hid hi7
  clear hHeld3 hp7 hk7 hi7 hT7 hb7
  go_wp2_with fail
  refine bodyPost_ret (v := .tuple #[.agg #[.int .i64 tag, .int .i64 key, .string text, .slice A0 ps.length c0, .slice A1 ks.length c1], .slice (some ⟨b, 0, none⟩) zs.length c]) (by simp [results, Tryd.results18, go_sem, *]) rfl ⟨A0, c0, A1, c1, .mk tag key text ps ks, b, c, zs, rfl, HP7.out, HK7.out, HGd.out, HI7.out, hzl, hcl, ?_⟩
  exact (((((HB4.out.setCell (p := ⟨w.heap.size, 0, none⟩) (by simp) _).setCell (p := ⟨w.heap.size, 1, none⟩) (by simp) _).setCell (p := ⟨w.heap.size, 2, none⟩) (by simp) _).setCell (p := ⟨w.heap.size, 3, none⟩) (by simp) _).setCell (p := ⟨w.heap.size, 4, none⟩) (by simp) _)
end Go.Proofs.YtpkhpaioddommaaDoor
