/- Trees: the program's TreeOk and TreeSize. -/
import Derived.Test.YtpkhpaioddommaaDoorTre14
namespace Go.Proofs.YtpkhpaioddommaaDoor
open Go.Joins Go.ChangeShapes Go.WideShapes Go.ChangeAt Go.RowKit Go.Deep
set_option linter.unusedVariables false
set_option linter.unusedSimpArgs false

/-- The keys of the parts below are numbers of the machine, the texts not too long. -/
inductive KwT : Tr → Prop
  | mk {tag key : Int} {text : ByteArray} {ps : List Pr} {ks : List Tr} (h0 : ∀ x ∈ ks, (Lit.int .i64 x.key).wf = true) (h1 : ∀ x ∈ ks, KwT x) (h2 : text.size ≤ 281474976710656) : KwT (.mk tag key text ps ks)
theorem KwT.open_ {t : Tr} (h : KwT t) : (∀ x ∈ t.ks, (Lit.int .i64 x.key).wf = true) ∧ (∀ x ∈ t.ks, KwT x) ∧ t.text.size ≤ 281474976710656 := by
  cases h with | mk h0 h1 h2 => exact ⟨h0, h1, h2⟩
def cpV : Option Nat → Array Value
  | none => #[.int .i64 0, .bool false]
  | some n => #[.int .i64 n, .bool true]
theorem cpL_none {d room n : Nat} {x : Tr} {xs : List Tr} (h : cpT shownB (d + 1) (room - n) x = none) : cpL shownB d room n (x :: xs) = none := by simp only [cpL, h]
theorem cpL_some {d room n b : Nat} {x : Tr} {xs : List Tr} (h : cpT shownB (d + 1) (room - n) x = some b) : cpL shownB d room n (x :: xs) = cpL shownB d room (n + b) xs := by simp only [cpL, h]
theorem cpT_le {d room b : Nat} {t : Tr} (h : cpT shownB d room t = some b) : b ≤ room := by
  have h1 := cpT_is shownB t d room
  by_cases hc : deepT t + d ≤ 25 ∧ sizeT t ≤ room ∧ vpT shownB t = true
  · rw [h1.1 hc] at h; injection h with h; omega
  · rw [h1.2 hc] at h; cases h
def CpC (V : World → Prop) (t : Tr) : Prop := ∀ (d room : Nat) (A0 A1 : Option Addr) (c0 c1 : Nat) (w : World), V w → PrL w A0 t.ps → TrL w 0 A1 t.ks → d ≤ 30 → room ≤ 200 →
  Calls Tryd.prog 47 #[.agg #[.int .i64 t.tag, .int .i64 t.key, .string t.text, .slice A0 t.ps.length c0, .slice A1 t.ks.length c1], .int .i64 d, .int .i64 room] w fun e w' => e = .returned (.tuple (cpV (cpT shownB d room t))) ∧ Below w.heap.size w w'
theorem ret_cp {o : Option Nat} {vs : Array Value} (h : vs = cpV o) : Ending.returned (.tuple vs) = .returned (.tuple (cpV o)) := by rw [h]
set_option maxRecDepth 100000 in
set_option maxHeartbeats 2000000 in
theorem icount_any (V : World → Prop) (hV : ShOk V) (t : Tr) : SmT t → KwT t → CpC V t := by
  induction t using Tr.by_kids with
  | h t ih =>
  intro hsm hkw d room A0 A1 c0 c1 w hv hp hk hd hroom
  obtain ⟨s0, s1, s2, s3, s4⟩ := hsm.open_
  obtain ⟨q0, q1, q2⟩ := hkw.open_
  have HI := Lib.hid (fun x hx d room A0 A1 c0 c1 w hv hp hk hd hr => ih x hx (s4 x hx) (q1 x hx) d room A0 A1 c0 c1 w hv hp hk hd hr)
  have KP := Lib.hid (fun hl A0 A1 c0 c1 w hv hp hk => ipartOk_any V hV t hsm q0 hl q2 A0 A1 c0 c1 w hv hp hk)
  have HQ := Lib.hid (cpT_eq shownB d room t)
  obtain ⟨o, ho⟩ : ∃ o, cpT shownB d room t = o := ⟨_, rfl⟩
  rw [ho] at HQ ⊢
  have HB0 := Lib.hid (Below.alloc (Below.refl w.heap.size w) (Nat.le_refl _) (.cells #[.int .i64 t.tag, .int .i64 t.key, .string t.text, .slice A0 t.ps.length c0, .slice A1 t.ks.length c1] 26))
  have HK0 := Lib.hid hk
  have HK := Lib.hid (hk.below HB0.out)
  have HP := Lib.hid (hp.below HB0.out)
  have HVV := Lib.hid (hV.stays _ _ hv HB0.out)
  have HV0 := Lib.hid hv
  unfold maxLen at s1 s3
  clear hk hp ih s0 s2 s4 hsm hkw q0 q1 q2 hv ho
  obtain ⟨tag, key, text, ps, ks⟩ := t
  dsimp only [Tr.tag, Tr.key, Tr.text, Tr.ps, Tr.ks] at *
  obtain ⟨p, hpv⟩ : ∃ p, partB shownB (.mk tag key text ps ks) = p := ⟨_, rfl⟩
  rw [hpv] at HQ KP
  clear hpv
  have HQ := Lib.hid (show o = if 24 < d ∨ room ≤ ks.length then none else if p = false then none else cpL shownB d room 1 ks from HQ.out)
  obtain ⟨np, hnp⟩ : ∃ n, ps.length = n := ⟨_, rfl⟩
  obtain ⟨n, hn⟩ : ∃ n, ks.length = n := ⟨_, rfl⟩
  rw [hnp] at s1 HB0 HP HK HVV KP ⊢
  rw [hn] at s3 HB0 HP HK HVV KP HQ ⊢
  have HN := Lib.hid hn
  clear hn hnp
  by_cases h24 : 24 < d
  · have h24' : (24 : Int) < (d : Int) := by omega
    have HO := Lib.hid (HQ.out.trans (if_pos (.inl h24)))
    go_enter Tryd.func47, Tryd.ntmps47
    go_wp2_with fail
    go_ret2
    exact ⟨ret_cp (by rw [HO.out]; rfl), HB0.out⟩
  have h24' : ¬ (24 : Int) < (d : Int) := by omega
  by_cases hr : room ≤ n
  · have hr' : (room : Int) ≤ (n : Int) := by omega
    have HO := Lib.hid (HQ.out.trans (if_pos (.inr hr)))
    go_enter Tryd.func47, Tryd.ntmps47
    go_wp2_with fail
    go_ret2
    exact ⟨ret_cp (by rw [HO.out]; rfl), HB0.out⟩
  have hr' : ¬ (room : Int) ≤ (n : Int) := by omega
  have HQ1 := Lib.hid (HQ.out.trans (if_neg (by omega)))
  have KP1 := Lib.hid (fun A0 A1 c0 c1 w hv hp hk => KP.out (by omega) A0 A1 c0 c1 w hv hp hk)
  cases p
  · have HO := Lib.hid (HQ1.out.trans (if_pos rfl))
    go_enter Tryd.func47, Tryd.ntmps47
    go_wp2_with fail
    refine (KP1.out _ _ _ _ _ HVV.out HP.out HK.out).mono ?_
    rintro e w1 ⟨rfl, hb⟩
    have HB1 := Lib.hid (more HB0.out (Nat.le_refl _) hb)
    clear hb
    go_wp2_with fail
    go_ret2
    exact ⟨ret_cp (by rw [HO.out]; rfl), HB1.out⟩
  have HO := Lib.hid (HQ1.out.trans (if_neg (by simp)))
  go_enter Tryd.func47, Tryd.ntmps47
  go_wp2_with fail
  refine (KP1.out _ _ _ _ _ HVV.out HP.out HK.out).mono ?_
  rintro e w1 ⟨rfl, hb⟩
  have HB1 := Lib.hid (more HB0.out (Nat.le_refl _) hb)
  have hc4 := (hb.cell (p := ⟨w.heap.size, 4, none⟩) (by simp)).trans (by rw [World.cell?_alloc_new]; rfl : _ = some (.slice A1 n c1))
  have hz1 : w.heap.size < w1.heap.size := by have := hb.size; simp at this; omega
  clear hb
  go_wp2_with fail
  clear hc4
  go_loopw [8, 30] (fun m i wr => ∃ k q : Nat, k ≤ n ∧ i = .int .i64 k ∧ m = .int .i64 q ∧ q ≤ room ∧ Hid (o = cpL shownB d room q (ks.drop k)) ∧ Hid (Below w.heap.size w wr)) (fun _ i _ => n - (intOf i).toNat)
  case atStart => exact ⟨0, 1, by omega, rfl, rfl, by omega, HO, HB1⟩
  case round =>
    clear hz1 HB1
    obtain ⟨k, q, hk, rfl, rfl, hq, HL, HB⟩ := hrel
    have hzr := HB.out.size
    by_cases hlt : k < n
    · obtain ⟨x, hx⟩ := at_some (show k < ks.length by rw [HN.out]; exact hlt)
      have HDC := Lib.hid (drop_cons hx)
      obtain ⟨b, off, B0, d0, B1, d1, rfl, hblt, _, e0, e1, e2, e3, e4, hp, _, hks⟩ := (HK0.out.below HB.out).at_ hx
      have hba := Below.alloc (Below.refl wr.heap.size wr) (Nat.le_refl _) (.cells #[.int .i64 x.tag, .int .i64 x.key, .string x.text, .slice B0 x.ps.length d0, .slice B1 x.ks.length d1] 26)
      have HBA := Lib.hid (more HB.out (Nat.le_refl _) hba)
      have hs := HI.out x (List.mem_of_getElem? hx) (d + 1) (room - q) B0 B1 d0 d1 _ (hV.stays _ _ HV0.out HBA.out) (hp.below hba) (hks.below hba) (by omega) (by omega)
      rw [show ((room - q : Nat) : Int) = (room : Int) - q by omega, show ((d + 1 : Nat) : Int) = (d : Int) + 1 from rfl] at hs
      obtain ⟨u, hu⟩ : ∃ u, cpT shownB (d + 1) (room - q) x = u := ⟨_, rfl⟩
      have HU := Lib.hid hu
      rw [hu] at hs
      have HS1 := Lib.hid hs
      clear hs hx hp hks hba hu
      cases u with
      | none =>
        have HL2 := Lib.hid (HL.out.trans (by rw [HDC.out]; exact cpL_none HU.out : _ = none))
        clear HU HDC
        obtain ⟨xt, xk, xs, xp, xq⟩ := x
        dsimp only [Tr.tag, Tr.key, Tr.text, Tr.ps, Tr.ks] at e0 e1 e2 e3 e4 HS1 HBA
        go_wp2_with fail
        refine HS1.out.mono ?_
        rintro e w2 ⟨rfl, hb⟩
        have HB2 := Lib.hid (more HBA.out (Nat.le_refl _) hb)
        clear hb
        dsimp only [cpV]
        go_wp2_with fail
        go_ret2
        exact ⟨ret_cp (by rw [HL2.out]; rfl), HB2.out⟩
      | some u =>
        have hle := cpT_le HU.out
        have HL2 := Lib.hid (HL.out.trans (by rw [HDC.out]; exact cpL_some HU.out : _ = cpL shownB d room (q + u) (ks.drop (k + 1))))
        clear HU HDC
        obtain ⟨xt, xk, xs, xp, xq⟩ := x
        dsimp only [Tr.tag, Tr.key, Tr.text, Tr.ps, Tr.ks] at e0 e1 e2 e3 e4 HS1 HBA
        go_wp2_with fail
        refine HS1.out.mono ?_
        rintro e w2 ⟨rfl, hb⟩
        have HB2 := Lib.hid (more HBA.out (Nat.le_refl _) hb)
        clear hb
        dsimp only [cpV]
        go_wp2_with fail
        go_roundw
        case rel => exact ⟨k + 1, q + u, by omega, by go_num, by go_num, by omega, HL2, HB2⟩
        case measure => simp [intOf]; omega
    · have HF := Lib.hid (HL.out.trans (by rw [drop_none (by rw [HN.out]; omega)]; simp only [cpL] : _ = some q))
      go_wp2_with fail
      go_ret2
      exact ⟨ret_cp (by rw [HF.out]; rfl), HB.out⟩
end Go.Proofs.YtpkhpaioddommaaDoor
