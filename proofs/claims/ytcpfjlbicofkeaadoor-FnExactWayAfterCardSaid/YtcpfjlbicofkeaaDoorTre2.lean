/- Trees: how the laws measure them. -/
import Derived.Test.YtcpfjlbicofkeaaDoorTre1
namespace Go.Proofs.YtcpfjlbicofkeaaDoor
open Go.Joins Go.ChangeShapes Go.WideShapes Go.ChangeAt Go.RowKit Go.Deep
set_option linter.unusedVariables false
set_option linter.unusedSimpArgs false

mutual
  def szT : Tr → Int
    | .mk _ _ text ps ks => text.size + ((ps.length + szPrs ps) + (ks.length + szL ks))
  def szL : List Tr → Int
    | [] => 0
    | x :: xs => szT x + szL xs
end
theorem szT_eq (t : Tr) : szT t = t.text.size + ((t.ps.length + szPrs t.ps) + (t.ks.length + szL t.ks)) := by
  obtain ⟨_, _, _, _, _⟩ := t
  simp only [szT, Tr.text, Tr.ps, Tr.ks]
theorem szT_pos : ∀ t, 0 ≤ szT t := Tr.by_kids fun t ih => by
  have hl : ∀ ks : List Tr, (∀ x ∈ ks, 0 ≤ szT x) → 0 ≤ szL ks := by
    intro ks
    induction ks with
    | nil => intro _; simp [szL]
    | cons x xs ih =>
      intro h
      have := h x (by simp)
      have := ih (fun y hy => h y (List.mem_cons_of_mem _ hy))
      simp only [szL]; omega
  have := hl t.ks ih
  have := szPrs_pos t.ps
  rw [szT_eq]
  omega
theorem szL_pos : ∀ ks : List Tr, 0 ≤ szL ks
  | [] => by simp [szL]
  | x :: xs => by have := szT_pos x; have := szL_pos xs; simp only [szL]; omega
theorem szL_mem {ks : List Tr} {x : Tr} (h : x ∈ ks) : szT x ≤ szL ks := by
  induction ks with
  | nil => cases h
  | cons y ys ih =>
    have := szT_pos y
    have := szL_pos ys
    rcases List.mem_cons.1 h with rfl | h
    · simp only [szL]; omega
    · have := ih h; simp only [szL]; omega

def TREE (t : Tr) (A0 : Option Addr) (c0 : Nat) (A1 : Option Addr) (c1 : Nat) : Value := .agg #[.int .i64 t.tag, .int .i64 t.key, .string t.text, .slice A0 t.ps.length c0, .slice A1 t.ks.length c1]
def SzT (t : Tr) : Prop := ∀ (left : Int) (A0 A1 : Option Addr) (c0 c1 : Nat) (w : World), PrL w A0 t.ps → TrL w 0 A1 t.ks → left ≤ 1048576 → 0 ≤ left →
  Calls Tryd.prog 5 #[.agg #[.int .i64 t.tag, .int .i64 t.key, .string t.text, .slice A0 t.ps.length c0, .slice A1 t.ks.length c1], .int .i64 left] w fun e w' => e = .returned (.int .i64 (leftV left (szT t))) ∧ Below w.heap.size w w'

set_option maxHeartbeats 1000000 in
theorem szTrees_of (A : Option Addr) (c n : Nat) (xs : List Tr) (IH : ∀ x ∈ xs, SzT x) (left : Int) (w : World) (hx : TrL w 0 A xs) (hn : xs.length = n) (hl : n ≤ maxLen) (h : left ≤ 1048576) (h0 : 0 ≤ left) :
    Calls Tryd.prog 19 #[.slice A n c, .int .i64 left] w fun e w' => e = .returned (.int .i64 (leftV left (n + szL xs))) ∧ Below w.heap.size w w' := by
  unfold maxLen at hl
  have HN := Lib.hid hn
  have HX := Lib.hid hx
  have HI := Lib.hid IH
  have hpos := szL_pos xs
  clear hx IH
  by_cases hlt0 : left < n
  · have HV := Lib.hid (leftV_neg (show left < n + szL xs by omega))
    clear hn hpos
    go_enter Tryd.func19, Tryd.ntmps19
    go_wp2_with fail
    go_ret
    exact ⟨ret_int HV.out.symm, by go_grown⟩
  clear hn hpos
  go_enter Tryd.func19, Tryd.ntmps19
  go_wp2_with fail
  go_loopw [1, 5] (fun l i w2 => ∃ (k : Nat) (z : Int), k ≤ n ∧ i = .int .i64 k ∧ l = .int .i64 z ∧ 0 ≤ z ∧ z ≤ 1048576 ∧ Below w.heap.size w w2 ∧ leftV left (n + szL xs) = leftV z (szL (xs.drop k))) (fun _ i _ => n - (intOf i).toNat)
  case atStart => exact ⟨0, left - n, by omega, rfl, rfl, by omega, by omega, by go_grown, by show leftV left (n + szL xs) = leftV (left - n) (szL xs); unfold leftV; split <;> split <;> omega⟩
  case round =>
    obtain ⟨k, z, hk, rfl, rfl, hz0, hz1, hB, hrun⟩ := hrel
    have HR := Lib.hid hrun
    clear hrun
    by_cases hlt : k < n
    · obtain ⟨x, hx⟩ := at_some (show k < xs.length by rw [HN.out]; exact hlt)
      obtain ⟨b, off, A0, d0, A1, d1, rfl, hblt, _, e0, e1, e2, e3, e4, hp, _, hks⟩ := (HX.out.below hB).at_ hx
      have HR2 := Lib.hid (HR.out.trans (by rw [drop_cons hx]; simp only [szL] : leftV z (szL (xs.drop k)) = leftV z (szT x + szL (xs.drop (k + 1)))))
      have hp1 := szL_pos (xs.drop (k + 1))
      have hp2 := szT_pos x
      have hs := HI.out x (List.mem_of_getElem? hx) z A0 A1 d0 d1 wr hp hks hz1 hz0
      clear hx hp hks
      obtain ⟨tag, key, text, ps, ks⟩ := x
      generalize szT (.mk tag key text ps ks) = u at hs HR2 hp2
      dsimp only [Tr.tag, Tr.key, Tr.text, Tr.ps, Tr.ks] at e0 e1 e2 e3 e4 hs
      by_cases hle : z < u
      · have HV := Lib.hid (HR2.out.trans (leftV_neg (by omega)))
        rw [leftV_neg hle] at hs
        have HS1 := Lib.hid hs
        clear hs HR2 HR hp1 hp2 hle
        go_wp2_with (go_at_call 5; ((with_reducible refine HS1.out.mono ?_); rintro e w' ⟨rfl, hb⟩); replace hB := more hB (Nat.le_refl _) hb; clear hb)
        go_ret
        exact ⟨ret_int HV.out.symm, hB⟩
      · have HV := Lib.hid (HR2.out.trans (by unfold leftV; split <;> split <;> omega : leftV z (u + szL (xs.drop (k + 1))) = leftV (z - u) (szL (xs.drop (k + 1)))))
        rw [leftV_pos (by omega)] at hs
        have HS1 := Lib.hid hs
        have hq : 0 ≤ z - u := by omega
        have hq2 : z - u ≤ 1048576 := by omega
        have HQ := Lib.hid hq
        have HQ2 := Lib.hid hq2
        clear hs HR2 HR hp1 hle
        go_wp2_with (go_at_call 5; ((with_reducible refine HS1.out.mono ?_); rintro e w' ⟨rfl, hb⟩); replace hB := more hB (Nat.le_refl _) hb; clear hb)
        go_roundw
        case rel => exact ⟨k + 1, z - u, by omega, by go_num, rfl, HQ.out, HQ2.out, hB, HV.out⟩
        case measure => simp [intOf]; omega
    · have HV := Lib.hid (HR.out.trans (by rw [drop_none (by rw [HN.out]; omega)]; show leftV z (szL []) = z; simp only [szL]; unfold leftV; split <;> omega : leftV z (szL (xs.drop k)) = z))
      go_wp2_with fail
      go_ret
      exact ⟨ret_int HV.out.symm, hB⟩

set_option maxHeartbeats 1000000 in
theorem szTree_any (t : Tr) : SmT t → SzT t := by
  induction t using Tr.by_kids with
  | h t ih =>
  intro hsm left A0 A1 c0 c1 w hp hk h h0
  obtain ⟨s0, s1, s2, s3, s4⟩ := hsm.open_
  have HIK := Lib.hid (fun z w hw => szTrees_of A1 c1 t.ks.length t.ks (fun x hx => ih x hx (s4 x hx)) z w hw rfl s3)
  have HIP := Lib.hid (fun z w hw => szPrs_any A0 c0 t.ps.length t.ps z w hw rfl s1 s2)
  have hpos0 := szPrs_pos t.ps
  have hpos1 := szL_pos t.ks
  have hsz := szT_eq t
  obtain ⟨v, hv⟩ : ∃ v, szT t = v := ⟨_, rfl⟩
  obtain ⟨y, hy⟩ : ∃ y, (t.ps.length : Int) + szPrs t.ps = y := ⟨_, rfl⟩
  obtain ⟨z, hz⟩ : ∃ z, (t.ks.length : Int) + szL t.ks = z := ⟨_, rfl⟩
  have hy0 : 0 ≤ y := by omega
  have hz0 : 0 ≤ z := by omega
  rw [hy, hz] at hsz
  rw [hy] at HIP
  rw [hz] at HIK
  rw [hv] at hsz ⊢
  have hB := Lib.hid (Below.alloc (Below.refl w.heap.size w) (Nat.le_refl _) (.cells #[.int .i64 t.tag, .int .i64 t.key, .string t.text, .slice A0 t.ps.length c0, .slice A1 t.ks.length c1] 25))
  have HP := Lib.hid (hp.below hB.out)
  have HK := Lib.hid (hk.below hB.out)
  unfold maxLen at s0
  clear hp hk ih s1 s2 s3 s4 hsm hpos0 hpos1 hv hy hz
  obtain ⟨tag, key, text, ps, ks⟩ := t
  dsimp only [Tr.tag, Tr.key, Tr.text, Tr.ps, Tr.ks] at *
  generalize ps.length = np at *
  generalize ks.length = nk at *
  by_cases hl0 : left < text.size
  · have HV := Lib.hid (leftV_neg (show left < v by omega))
    clear hsz
    go_enter Tryd.func5, Tryd.ntmps5
    go_wp2_with fail
    go_ret
    exact ⟨ret_int HV.out.symm, by go_grown⟩
  by_cases hl1 : left - text.size < y
  · have HV := Lib.hid (leftV_neg (show left < v by omega))
    have HIP2 := Lib.hid (fun w hw => by have h := HIP.out (left - text.size) w hw (by omega) (by omega); rw [leftV_neg hl1] at h; exact h)
    clear hsz
    go_enter Tryd.func5, Tryd.ntmps5
    go_wp2_with (go_at_call 18; ((with_reducible refine (HIP2.out _ HP.out).mono ?_); rintro e w1 ⟨rfl, hb⟩); have hB1 := Lib.hid (hB.out.trans (hb.mono hB.out.size)); clear hb)
    go_ret
    exact ⟨ret_int HV.out.symm, hB1.out⟩
  have HIP2 := Lib.hid (fun w hw => by have h := HIP.out (left - text.size) w hw (by omega) (by omega); rw [leftV_pos (by omega)] at h; exact h)
  have hq1 : 0 ≤ left - text.size - y := by omega
  by_cases hl2 : left - text.size - y < z
  · have HV := Lib.hid (leftV_neg (show left < v by omega))
    have HIK2 := Lib.hid (fun w hw => by have h := HIK.out (left - text.size - y) w hw (by omega) (by omega); rw [leftV_neg hl2] at h; exact h)
    clear hsz
    go_enter Tryd.func5, Tryd.ntmps5
    go_wp2_with fail
    refine (HIP2.out _ HP.out).mono ?_
    rintro e w1 ⟨rfl, hb⟩
    have HK1 := Lib.hid (HK.out.below hb)
    obtain ⟨hc, hf⟩ := bcell hb
    simp at hc hf
    have hz1 := hb.size
    simp at hz1
    have hB1 := Lib.hid (hB.out.trans (hb.mono hB.out.size))
    clear hb
    go_wp2_with fail
    refine (HIK2.out _ HK1.out).mono ?_
    rintro e w2 ⟨rfl, hb⟩
    have HB2 := Lib.hid (more hB1.out (Nat.le_refl _) hb)
    clear hb
    go_wp2_with fail
    go_ret
    exact ⟨ret_int HV.out.symm, HB2.out⟩
  · have HV := Lib.hid (leftV_pos (show v ≤ left by omega))
    have HIK2 := Lib.hid (fun w hw => by have h := HIK.out (left - text.size - y) w hw (by omega) (by omega); rw [leftV_pos (by omega)] at h; exact h)
    have hq2 : 0 ≤ left - text.size - y - z := by omega
    have HQ := Lib.hid (show left - v = left - text.size - y - z by omega)
    clear hsz
    go_enter Tryd.func5, Tryd.ntmps5
    go_wp2_with fail
    refine (HIP2.out _ HP.out).mono ?_
    rintro e w1 ⟨rfl, hb⟩
    have HK1 := Lib.hid (HK.out.below hb)
    obtain ⟨hc, hf⟩ := bcell hb
    simp at hc hf
    have hz1 := hb.size
    simp at hz1
    have hB1 := Lib.hid (hB.out.trans (hb.mono hB.out.size))
    clear hb
    go_wp2_with fail
    refine (HIK2.out _ HK1.out).mono ?_
    rintro e w2 ⟨rfl, hb⟩
    have HB2 := Lib.hid (more hB1.out (Nat.le_refl _) hb)
    clear hb
    go_wp2_with fail
    go_ret
    exact ⟨ret_int (by rw [HV.out, HQ.out]), HB2.out⟩
end Go.Proofs.YtcpfjlbicofkeaaDoor
