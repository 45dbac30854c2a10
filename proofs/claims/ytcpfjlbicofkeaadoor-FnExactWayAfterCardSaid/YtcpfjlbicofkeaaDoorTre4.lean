/- Trees: how the laws compare one with itself. -/
import Derived.Test.YtcpfjlbicofkeaaDoorTre3
namespace Go.Proofs.YtcpfjlbicofkeaaDoor
open Go.Joins Go.ChangeShapes Go.WideShapes Go.ChangeAt Go.RowKit Go.Deep
set_option linter.unusedVariables false
set_option linter.unusedSimpArgs false

def EqT (t : Tr) : Prop := ∀ (A0 A1 B0 B1 : Option Addr) (c0 c1 d0 d1 : Nat) (w : World), PrL w A0 t.ps → TrL w 0 A1 t.ks → PrL w B0 t.ps → TrL w 0 B1 t.ks →
  Calls Tryd.prog 11 #[.agg #[.int .i64 t.tag, .int .i64 t.key, .string t.text, .slice A0 t.ps.length c0, .slice A1 t.ks.length c1], .agg #[.int .i64 t.tag, .int .i64 t.key, .string t.text, .slice B0 t.ps.length d0, .slice B1 t.ks.length d1]] w fun e w' => e = .returned (.bool true) ∧ Below w.heap.size w w'
set_option maxHeartbeats 2000000 in
theorem eqTrees_of (A B : Option Addr) (c c' n : Nat) (xs : List Tr) (IH : ∀ x ∈ xs, EqT x) (w : World) (hx : TrL w 0 A xs) (hy : TrL w 0 B xs) (hn : xs.length = n) (hl : n ≤ maxLen) :
    Calls Tryd.prog 29 #[.slice A n c, .slice B n c'] w fun e w' => e = .returned (.bool true) ∧ Below w.heap.size w w' := by
  unfold maxLen at hl
  have HN := Lib.hid hn
  have HX := Lib.hid hx
  have HY := Lib.hid hy
  have HI := Lib.hid IH
  clear hx hy hn IH
  go_enter Tryd.func29, Tryd.ntmps29
  go_wp2_with fail
  go_loopw [5] (fun i w2 => ∃ k : Nat, k ≤ n ∧ i = .int .i64 k ∧ Below w.heap.size w w2) (fun i _ => n - (intOf i).toNat)
  case atStart => exact ⟨0, by omega, rfl, by go_grown⟩
  case round =>
    obtain ⟨k, hk, rfl, hB⟩ := hrel
    by_cases hlt : k < n
    · obtain ⟨x, hx⟩ := at_some (show k < xs.length by rw [HN.out]; exact hlt)
      obtain ⟨b, off, A0, c0, A1, c1, rfl, hblt, _, e0, e1, e2, e3, e4, hp, _, hks⟩ := (HX.out.below hB).at_ hx
      obtain ⟨b', off', B0, d0, B1, d1, rfl, hblt', _, f0, f1, f2, f3, f4, hq, _, hjs⟩ := (HY.out.below hB).at_ hx
      have hs := HI.out x (List.mem_of_getElem? hx) A0 A1 B0 B1 c0 c1 d0 d1
      have HP := Lib.hid (fun W (hb : Below wr.heap.size wr W) => hp.below hb)
      have HK := Lib.hid (fun W (hb : Below wr.heap.size wr W) => hks.below hb)
      have HQ := Lib.hid (fun W (hb : Below wr.heap.size wr W) => hq.below hb)
      have HJ := Lib.hid (fun W (hb : Below wr.heap.size wr W) => hjs.below hb)
      clear hx hp hks hq hjs
      obtain ⟨tag, key, text, ps, ks⟩ := x
      dsimp only [Tr.tag, Tr.key, Tr.text, Tr.ps, Tr.ks] at e0 e1 e2 e3 e4 f0 f1 f2 f3 f4 hs
      obtain ⟨np, hnp⟩ : ∃ q, ps.length = q := ⟨_, rfl⟩
      obtain ⟨nk, hnk⟩ : ∃ q, ks.length = q := ⟨_, rfl⟩
      rw [hnp] at e3 f3 hs
      rw [hnk] at e4 f4 hs
      have HS1 := Lib.hid hs
      have hi1 : (0 : Int) ≤ (k : Int) := by omega
      have hi2 : (k : Int) < (n : Int) := by omega
      clear hs hnp hnk
      go_wp2_with fail
      go_region_held3 (fun w' => w'.cell? ⟨b, off + k * 5, none⟩ = some (.int .i64 tag) ∧ w'.cell? ⟨b, off + k * 5 + 1, none⟩ = some (.int .i64 key) ∧ w'.cell? ⟨b, off + k * 5 + 2, none⟩ = some (.string text) ∧ w'.cell? ⟨b, off + k * 5 + 3, none⟩ = some (.slice A0 np c0) ∧ w'.cell? ⟨b, off + k * 5 + 4, none⟩ = some (.slice A1 nk c1) ∧ w'.cell? ⟨b', off' + k * 5, none⟩ = some (.int .i64 tag) ∧ w'.cell? ⟨b', off' + k * 5 + 1, none⟩ = some (.int .i64 key) ∧ w'.cell? ⟨b', off' + k * 5 + 2, none⟩ = some (.string text) ∧ w'.cell? ⟨b', off' + k * 5 + 3, none⟩ = some (.slice B0 np d0) ∧ w'.cell? ⟨b', off' + k * 5 + 4, none⟩ = some (.slice B1 nk d1)) (go_keep) (first | (go_at_call 11; refine (HS1.out _ (HP.out _ (by go_grown)) (HK.out _ (by go_grown)) (HQ.out _ (by go_grown)) (HJ.out _ (by go_grown))).mono ?_; rintro e w' ⟨rfl, hb⟩; replace e0 := (hb.cell (p := ⟨b, off + k * 5, none⟩) hblt).trans e0; replace e1 := (hb.cell (p := ⟨b, off + k * 5 + 1, none⟩) hblt).trans e1; replace e2 := (hb.cell (p := ⟨b, off + k * 5 + 2, none⟩) hblt).trans e2; replace e3 := (hb.cell (p := ⟨b, off + k * 5 + 3, none⟩) hblt).trans e3; replace e4 := (hb.cell (p := ⟨b, off + k * 5 + 4, none⟩) hblt).trans e4; replace f0 := (hb.cell (p := ⟨b', off' + k * 5, none⟩) hblt').trans f0; replace f1 := (hb.cell (p := ⟨b', off' + k * 5 + 1, none⟩) hblt').trans f1; replace f2 := (hb.cell (p := ⟨b', off' + k * 5 + 2, none⟩) hblt').trans f2; replace f3 := (hb.cell (p := ⟨b', off' + k * 5 + 3, none⟩) hblt').trans f3; replace f4 := (hb.cell (p := ⟨b', off' + k * 5 + 4, none⟩) hblt').trans f4; replace hB := more (W1 := _) (B := w.heap.size) (W0 := w) (by go_grown) (Nat.le_refl _) hb; clear hb))
      go_wp2_with fail
      go_roundw
      case rel => exact ⟨k + 1, by omega, by go_num, hB⟩
      case measure => simp [intOf]; omega
    · go_wp2_with fail
      go_ret
      exact ⟨rfl, hB⟩

set_option maxHeartbeats 1000000 in
theorem eqTree_any (t : Tr) : SmT t → EqT t := by
  induction t using Tr.by_kids with
  | h t ih =>
  intro hsm A0 A1 B0 B1 c0 c1 d0 d1 w hp hk hq hj
  obtain ⟨s0, s1, s2, s3, s4⟩ := hsm.open_
  have HIK := Lib.hid (fun w hw hw' => eqTrees_of A1 B1 c1 d1 t.ks.length t.ks (fun x hx => ih x hx (s4 x hx)) w hw hw' rfl s3)
  have HIP := Lib.hid (fun w hw hw' => by have h := eqPrs_any A0 B0 c0 d0 t.ps.length t.ps.length t.ps t.ps w hw hw' rfl rfl s1 s1; rw [eqPrs_refl] at h; exact h)
  have HP := Lib.hid (fun W (hb : Below w.heap.size w W) => hp.below hb)
  have HK := Lib.hid (fun W (hb : Below w.heap.size w W) => hk.below hb)
  have HQ := Lib.hid (fun W (hb : Below w.heap.size w W) => hq.below hb)
  have HJ := Lib.hid (fun W (hb : Below w.heap.size w W) => hj.below hb)
  clear hp hk hq hj ih s0 s1 s2 s3 s4 hsm
  obtain ⟨tag, key, text, ps, ks⟩ := t
  dsimp only [Tr.tag, Tr.key, Tr.text, Tr.ps, Tr.ks] at *
  generalize ps.length = np at *
  generalize ks.length = nk at *
  go_enter Tryd.func11, Tryd.ntmps11
  go_wp2_with fail
  refine (HIP.out _ (HP.out _ (by go_grown)) (HQ.out _ (by go_grown))).mono ?_
  rintro e w1 ⟨rfl, hb⟩
  have HB1 := Lib.hid (front (w := w) (W0 := _) (by go_grown) (by simp <;> omega) hb)
  obtain ⟨hc, hf⟩ := bcell hb
  simp at hc hf
  have hz := hb.size
  simp at hz
  clear hb
  go_wp2_with fail
  refine (HIK.out _ (HK.out _ HB1.out) (HJ.out _ HB1.out)).mono ?_
  rintro e w2 ⟨rfl, hb⟩
  have HB2 := Lib.hid (more HB1.out (Nat.le_refl _) hb)
  clear hb
  go_wp2_with fail
  go_ret
  exact ⟨rfl, HB2.out⟩
end Go.Proofs.YtcpfjlbicofkeaaDoor
