/- The document's comparison of a tree with itself, twice in memory. -/
import Derived.Test.YtpkhpaioddommaaDoorTre11
import Derived.Test.YtpkhpaioddommaaDoorTreM
import Derived.Deep.RegionHeld3
import Derived.BigQuiet
import Derived.Deep.QuietTactic
namespace Go.Proofs.YtpkhpaioddommaaDoor
open Go.Joins Go.ChangeShapes Go.WideShapes Go.ChangeAt Go.RowKit Go.Deep
set_option linter.unusedVariables false
set_option linter.unusedSimpArgs false

set_option maxHeartbeats 1000000 in
theorem sameProps_any (A B : Option Addr) (c d n : Nat) (xs : List Pr) (w : World) (hx : PrL w A xs) (hy : PrL w B xs) (hn : xs.length = n) (hl : n ≤ maxLen) :
    Calls Tryd.prog 84 #[.slice A n c, .slice B n d] w fun e w' => e = .returned (.bool true) ∧ Below w.heap.size w w' := by
  unfold maxLen at hl
  have HN := Lib.hid hn
  have HX := Lib.hid hx
  have HY := Lib.hid hy
  clear hx hy hn
  go_enter Tryd.func84, Tryd.ntmps84
  go_wp2_with fail
  go_loopw [5] (fun i w2 => ∃ k : Nat, k ≤ n ∧ i = .int .i64 k ∧ Below w.heap.size w w2) (fun i _ => n - (intOf i).toNat)
  case atStart => exact ⟨0, by omega, rfl, by go_grown⟩
  case round =>
    obtain ⟨k, hk, rfl, hB⟩ := hrel
    by_cases hlt : k < n
    · obtain ⟨b, off, rfl, hblt, hcell⟩ := PrL.at_ (HX.out.below hB) (by have := HN.out; omega)
      obtain ⟨b', off', rfl, hblt', hcell'⟩ := PrL.at_ (HY.out.below hB) (by have := HN.out; omega)
      obtain ⟨x, hx⟩ := at_some (show k < xs.length by rw [HN.out]; exact hlt)
      obtain ⟨c0, c1, c2, c3⟩ := hcell k x hx
      obtain ⟨d0, d1, d2, d3⟩ := hcell' k x hx
      clear hcell hx hcell'
      obtain ⟨nm, ⟨vk, vn, vs⟩⟩ := x
      dsimp only at c0 c1 c2 c3 d0 d1 d2 d3
      have hi1 : (0 : Int) ≤ (k : Int) := by omega
      have hi2 : (k : Int) < (n : Int) := by omega
      have q0 : ((nm : Int) == nm) = true := by simp
      have q1 : ((vk : Int) == vk) = true := by simp
      have q2 : ((vn : Int) == vn) = true := by simp
      have q3 : (vs.toList == vs.toList) = true := by simp
      go_wp2_with fail
      go_quiet (fail)
      go_wp2_with fail
      go_roundw
      case rel => exact ⟨k + 1, by omega, by go_num, ⟨hB.os, hB.tape, hB.output, hB.size, hB.block⟩⟩
      case measure => simp [intOf]; omega
    · go_wp2_with fail
      go_ret
      exact ⟨rfl, hB⟩
def SameC (t : Tr) : Prop := ∀ (A0 A1 B0 B1 : Option Addr) (c0 c1 d0 d1 : Nat) (w : World), PrL w A0 t.ps → TrL w 0 A1 t.ks → PrL w B0 t.ps → TrL w 0 B1 t.ks →
  Calls Tryd.prog 55 #[.agg #[.int .i64 t.tag, .int .i64 t.key, .string t.text, .slice A0 t.ps.length c0, .slice A1 t.ks.length c1], .agg #[.int .i64 t.tag, .int .i64 t.key, .string t.text, .slice B0 t.ps.length d0, .slice B1 t.ks.length d1]] w fun e w' => e = .returned (.bool true) ∧ Below w.heap.size w w'
set_option maxRecDepth 100000 in
set_option maxHeartbeats 2000000 in
theorem sameTree_any (t : Tr) : SmT t → SameC t := by
  induction t using Tr.by_kids with
  | h t ih =>
  intro hsm A0 A1 B0 B1 c0 c1 d0 d1 w hp hk hq hj
  obtain ⟨s0, s1, s2, s3, s4⟩ := hsm.open_
  have HIP := Lib.hid (fun w hw hw' => sameProps_any A0 B0 c0 d0 t.ps.length t.ps w hw hw' rfl s1)
  have HI := Lib.hid (fun x hx => ih x hx (s4 x hx))
  have HP := Lib.hid (fun W (hb : Below w.heap.size w W) => hp.below hb)
  have HQ := Lib.hid (fun W (hb : Below w.heap.size w W) => hq.below hb)
  have HK := Lib.hid hk
  have HJ := Lib.hid hj
  clear hp hk hq hj ih s0 s1 s2 s4 hsm
  obtain ⟨tag, key, text, ps, ks⟩ := t
  dsimp only [Tr.tag, Tr.key, Tr.text, Tr.ps, Tr.ks] at *
  generalize ps.length = np at *
  obtain ⟨nk, hnk⟩ : ∃ q, ks.length = q := ⟨_, rfl⟩
  rw [hnk] at s3 ⊢
  unfold maxLen at s3
  have HNK := Lib.hid hnk
  clear hnk
  have q0 : ((tag : Int) == tag) = true := by simp
  have q1 : ((key : Int) == key) = true := by simp
  have q2 : (text.toList == text.toList) = true := by simp
  have q4 : ((nk : Int) == (nk : Int)) = true := by simp
  have p0 : ((tag : Int) != tag) = false := by simp
  have p1 : ((key : Int) != key) = false := by simp
  have p2 : (text.toList != text.toList) = false := by simp
  have p4 : ((nk : Int) != (nk : Int)) = false := by simp
  have hb0 : Below w.heap.size w ((w.alloc (.cells #[.int .i64 tag, .int .i64 key, .string text, .slice A0 np c0, .slice A1 nk c1] 26)).alloc (.cells #[.int .i64 tag, .int .i64 key, .string text, .slice B0 np d0, .slice B1 nk d1] 26)) := (Below.alloc (Below.refl w.heap.size w) (Nat.le_refl _) _).alloc (by simp) _
  have x0 : ((w.alloc (.cells #[.int .i64 tag, .int .i64 key, .string text, .slice A0 np c0, .slice A1 nk c1] 26)).alloc (.cells #[.int .i64 tag, .int .i64 key, .string text, .slice B0 np d0, .slice B1 nk d1] 26)).cell? ⟨w.heap.size, 0, none⟩ = some (.int .i64 tag) := by go_simp
  have y0 : ((w.alloc (.cells #[.int .i64 tag, .int .i64 key, .string text, .slice A0 np c0, .slice A1 nk c1] 26)).alloc (.cells #[.int .i64 tag, .int .i64 key, .string text, .slice B0 np d0, .slice B1 nk d1] 26)).cell? ⟨w.heap.size + 1, 0, none⟩ = some (.int .i64 tag) := by go_simp
  have x1 : ((w.alloc (.cells #[.int .i64 tag, .int .i64 key, .string text, .slice A0 np c0, .slice A1 nk c1] 26)).alloc (.cells #[.int .i64 tag, .int .i64 key, .string text, .slice B0 np d0, .slice B1 nk d1] 26)).cell? ⟨w.heap.size, 1, none⟩ = some (.int .i64 key) := by go_simp
  have y1 : ((w.alloc (.cells #[.int .i64 tag, .int .i64 key, .string text, .slice A0 np c0, .slice A1 nk c1] 26)).alloc (.cells #[.int .i64 tag, .int .i64 key, .string text, .slice B0 np d0, .slice B1 nk d1] 26)).cell? ⟨w.heap.size + 1, 1, none⟩ = some (.int .i64 key) := by go_simp
  have x2 : ((w.alloc (.cells #[.int .i64 tag, .int .i64 key, .string text, .slice A0 np c0, .slice A1 nk c1] 26)).alloc (.cells #[.int .i64 tag, .int .i64 key, .string text, .slice B0 np d0, .slice B1 nk d1] 26)).cell? ⟨w.heap.size, 2, none⟩ = some (.string text) := by go_simp
  have y2 : ((w.alloc (.cells #[.int .i64 tag, .int .i64 key, .string text, .slice A0 np c0, .slice A1 nk c1] 26)).alloc (.cells #[.int .i64 tag, .int .i64 key, .string text, .slice B0 np d0, .slice B1 nk d1] 26)).cell? ⟨w.heap.size + 1, 2, none⟩ = some (.string text) := by go_simp
  have x3 : ((w.alloc (.cells #[.int .i64 tag, .int .i64 key, .string text, .slice A0 np c0, .slice A1 nk c1] 26)).alloc (.cells #[.int .i64 tag, .int .i64 key, .string text, .slice B0 np d0, .slice B1 nk d1] 26)).cell? ⟨w.heap.size, 3, none⟩ = some (.slice A0 np c0) := by go_simp
  have y3 : ((w.alloc (.cells #[.int .i64 tag, .int .i64 key, .string text, .slice A0 np c0, .slice A1 nk c1] 26)).alloc (.cells #[.int .i64 tag, .int .i64 key, .string text, .slice B0 np d0, .slice B1 nk d1] 26)).cell? ⟨w.heap.size + 1, 3, none⟩ = some (.slice B0 np d0) := by go_simp
  have x4 : ((w.alloc (.cells #[.int .i64 tag, .int .i64 key, .string text, .slice A0 np c0, .slice A1 nk c1] 26)).alloc (.cells #[.int .i64 tag, .int .i64 key, .string text, .slice B0 np d0, .slice B1 nk d1] 26)).cell? ⟨w.heap.size, 4, none⟩ = some (.slice A1 nk c1) := by go_simp
  have y4 : ((w.alloc (.cells #[.int .i64 tag, .int .i64 key, .string text, .slice A0 np c0, .slice A1 nk c1] 26)).alloc (.cells #[.int .i64 tag, .int .i64 key, .string text, .slice B0 np d0, .slice B1 nk d1] 26)).cell? ⟨w.heap.size + 1, 4, none⟩ = some (.slice B1 nk d1) := by go_simp
  have hxl : w.heap.size + 1 < ((w.alloc (.cells #[.int .i64 tag, .int .i64 key, .string text, .slice A0 np c0, .slice A1 nk c1] 26)).alloc (.cells #[.int .i64 tag, .int .i64 key, .string text, .slice B0 np d0, .slice B1 nk d1] 26)).heap.size := by simp
  have HB0 := Lib.hid hb0
  obtain ⟨wb, hwb⟩ : ∃ v, ((w.alloc (.cells #[.int .i64 tag, .int .i64 key, .string text, .slice A0 np c0, .slice A1 nk c1] 26)).alloc (.cells #[.int .i64 tag, .int .i64 key, .string text, .slice B0 np d0, .slice B1 nk d1] 26)) = v := ⟨_, rfl⟩
  rw [hwb] at x0 x1 x2 x3 x4 y0 y1 y2 y3 y4 hxl HB0
  have HWB := Lib.hid hwb
  clear hb0
  go_enter Tryd.func55, Tryd.ntmps55
  go_wp2_with fail
  refine (HIP.out _ (HP.out _ HB0.out) (HQ.out _ HB0.out)).mono ?_
  rintro e w1 ⟨rfl, hb⟩
  replace x4 := (hb.cell (p := ⟨w.heap.size, 4, none⟩) (by first | omega | (simp; omega))).trans x4
  replace y4 := (hb.cell (p := ⟨w.heap.size + 1, 4, none⟩) (by first | omega | (simp; omega))).trans y4
  have hB1 := more HB0.out (Nat.le_refl _) hb
  replace hxl := Nat.lt_of_lt_of_le hxl hb.size
  clear hb hwb HWB x0 x1 x2 x3 y0 y1 y2 y3 HIP HP HQ HB0
  go_wp2_with fail
  go_loopw [5] (fun i wr => ∃ k : Nat, k ≤ nk ∧ i = .int .i64 k ∧ wr.cell? ⟨w.heap.size, 4, none⟩ = some (.slice A1 nk c1) ∧ wr.cell? ⟨w.heap.size + 1, 4, none⟩ = some (.slice B1 nk d1) ∧ w.heap.size + 1 < wr.heap.size ∧ Below w.heap.size w wr) (fun i _ => nk - (intOf i).toNat)
  case atStart => exact ⟨0, by omega, rfl, x4, y4, hxl, hB1⟩
  case round =>
    clear x4 y4 hxl hB1
    obtain ⟨k, hk, rfl, x4, y4, hxl, hB⟩ := hrel
    by_cases hlt : k < nk
    · obtain ⟨x, hx⟩ := at_some (show k < ks.length by rw [HNK.out]; exact hlt)
      obtain ⟨b, off, E0, f0, E1, f1, rfl, hblt, _, e0, e1, e2, e3, e4, hp, _, hks⟩ := (HK.out.below hB).at_ hx
      obtain ⟨b', off', F0, g0, F1, g1, rfl, hblt', _, i0, i1, i2, i3, i4, hq, _, hjs⟩ := (HJ.out.below hB).at_ hx
      have hs := HI.out x (List.mem_of_getElem? hx) E0 E1 F0 F1 f0 f1 g0 g1
      have HP2 := Lib.hid (fun W (hb : Below wr.heap.size wr W) => hp.below hb)
      have HK2 := Lib.hid (fun W (hb : Below wr.heap.size wr W) => hks.below hb)
      have HQ2 := Lib.hid (fun W (hb : Below wr.heap.size wr W) => hq.below hb)
      have HJ2 := Lib.hid (fun W (hb : Below wr.heap.size wr W) => hjs.below hb)
      clear hx hp hks hq hjs
      obtain ⟨xt, xk, xs, xp, xq⟩ := x
      dsimp only [Tr.tag, Tr.key, Tr.text, Tr.ps, Tr.ks] at e0 e1 e2 e3 e4 i0 i1 i2 i3 i4 hs
      obtain ⟨yp, hyp⟩ : ∃ q, xp.length = q := ⟨_, rfl⟩
      obtain ⟨yk, hyk⟩ : ∃ q, xq.length = q := ⟨_, rfl⟩
      rw [hyp] at e3 i3 hs
      rw [hyk] at e4 i4 hs
      have HS1 := Lib.hid hs
      have hi1 : (0 : Int) ≤ (k : Int) := by omega
      have hi2 : (k : Int) < (nk : Int) := by omega
      have hxl1 : w.heap.size < wr.heap.size := by omega
      clear hs hyp hyk
      go_wp2_with fail
      go_region_held3 (fun w' => w'.cell? ⟨w.heap.size, 4, none⟩ = some (.slice (some ⟨b, off, none⟩) nk c1) ∧ w'.cell? ⟨w.heap.size + 1, 4, none⟩ = some (.slice (some ⟨b', off', none⟩) nk d1) ∧ w'.cell? ⟨b, off + k * 5, none⟩ = some (.int .i64 xt) ∧ w'.cell? ⟨b, off + k * 5 + 1, none⟩ = some (.int .i64 xk) ∧ w'.cell? ⟨b, off + k * 5 + 2, none⟩ = some (.string xs) ∧ w'.cell? ⟨b, off + k * 5 + 3, none⟩ = some (.slice E0 yp f0) ∧ w'.cell? ⟨b, off + k * 5 + 4, none⟩ = some (.slice E1 yk f1) ∧ w'.cell? ⟨b', off' + k * 5, none⟩ = some (.int .i64 xt) ∧ w'.cell? ⟨b', off' + k * 5 + 1, none⟩ = some (.int .i64 xk) ∧ w'.cell? ⟨b', off' + k * 5 + 2, none⟩ = some (.string xs) ∧ w'.cell? ⟨b', off' + k * 5 + 3, none⟩ = some (.slice F0 yp g0) ∧ w'.cell? ⟨b', off' + k * 5 + 4, none⟩ = some (.slice F1 yk g1)) (go_keep) (first | (go_at_call 55; ((with_reducible refine (HS1.out _ (HP2.out _ (by go_grown)) (HK2.out _ (by go_grown)) (HQ2.out _ (by go_grown)) (HJ2.out _ (by go_grown))).mono ?_); rintro e w' ⟨rfl, hb⟩; replace x4 := (hb.cell (p := ⟨w.heap.size, 4, none⟩) hxl1).trans x4; replace y4 := (hb.cell (p := ⟨w.heap.size + 1, 4, none⟩) hxl).trans y4; replace e0 := (hb.cell (p := ⟨b, off + k * 5, none⟩) hblt).trans e0; replace e1 := (hb.cell (p := ⟨b, off + k * 5 + 1, none⟩) hblt).trans e1; replace e2 := (hb.cell (p := ⟨b, off + k * 5 + 2, none⟩) hblt).trans e2; replace e3 := (hb.cell (p := ⟨b, off + k * 5 + 3, none⟩) hblt).trans e3; replace e4 := (hb.cell (p := ⟨b, off + k * 5 + 4, none⟩) hblt).trans e4; replace i0 := (hb.cell (p := ⟨b', off' + k * 5, none⟩) hblt').trans i0; replace i1 := (hb.cell (p := ⟨b', off' + k * 5 + 1, none⟩) hblt').trans i1; replace i2 := (hb.cell (p := ⟨b', off' + k * 5 + 2, none⟩) hblt').trans i2; replace i3 := (hb.cell (p := ⟨b', off' + k * 5 + 3, none⟩) hblt').trans i3; replace i4 := (hb.cell (p := ⟨b', off' + k * 5 + 4, none⟩) hblt').trans i4; replace hB := more (W1 := _) (B := w.heap.size) (W0 := w) (by go_grown) (Nat.le_refl _) hb; replace hxl := Nat.lt_of_lt_of_le hxl hb.size; clear hb)))
      go_wp2_with fail
      go_roundw
      case rel => exact ⟨k + 1, by omega, by go_num, x4, y4, hxl, hB⟩
      case measure => simp [intOf]; omega
    · go_wp2_with fail
      go_ret
      exact ⟨rfl, hB⟩
set_option maxHeartbeats 1000000 in
theorem SameTree_any (t : Tr) (hsm : SmT t) (A0 A1 B0 B1 : Option Addr) (c0 c1 d0 d1 : Nat) (w : World) (hp : PrL w A0 t.ps) (hk : TrL w 0 A1 t.ks) (hq : PrL w B0 t.ps) (hj : TrL w 0 B1 t.ks) :
    Calls Tryd.prog 21 #[.agg #[.int .i64 t.tag, .int .i64 t.key, .string t.text, .slice A0 t.ps.length c0, .slice A1 t.ks.length c1], .agg #[.int .i64 t.tag, .int .i64 t.key, .string t.text, .slice B0 t.ps.length d0, .slice B1 t.ks.length d1]] w fun e w' => e = .returned (.bool true) ∧ Below w.heap.size w w' := by
  have k1 := fun w hp hk hq hj => sameTree_any t hsm A0 A1 B0 B1 c0 c1 d0 d1 w hp hk hq hj
  obtain ⟨tag, key, text, ps, ks⟩ := t
  dsimp only [Tr.tag, Tr.key, Tr.text, Tr.ps, Tr.ks] at *
  generalize ps.length = np at *
  generalize ks.length = nk at *
  have hb0 : Below w.heap.size w ((w.alloc (.cells #[.int .i64 tag, .int .i64 key, .string text, .slice A0 np c0, .slice A1 nk c1] 26)).alloc (.cells #[.int .i64 tag, .int .i64 key, .string text, .slice B0 np d0, .slice B1 nk d1] 26)) := (Below.alloc (Below.refl w.heap.size w) (Nat.le_refl _) _).alloc (by simp) _
  have K1 := Lib.hid (k1 _ (hp.below hb0) (hk.below hb0) (hq.below hb0) (hj.below hb0))
  have HB0 := Lib.hid hb0
  clear k1 hp hk hq hj hb0 hsm
  go_enter Tryd.func21, Tryd.ntmps21
  go_wp2_with fail
  refine K1.out.mono ?_
  rintro e w1 ⟨rfl, hb⟩
  have HB1 := Lib.hid (more HB0.out (Nat.le_refl _) hb)
  clear hb
  go_wp2_with fail
  go_ret
  exact ⟨rfl, HB1.out⟩
end Go.Proofs.YtpkhpaioddommaaDoor
