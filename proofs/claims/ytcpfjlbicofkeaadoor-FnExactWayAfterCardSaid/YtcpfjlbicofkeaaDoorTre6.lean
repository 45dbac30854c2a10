/- Trees: how many parts one has, by the document's own text. -/
import Derived.Test.YtcpfjlbicofkeaaDoorTre2
import Derived.Test.YtcpfjlbicofkeaaDoorTre5
import Derived.BigQuiet
namespace Go.Proofs.YtcpfjlbicofkeaaDoor
open Go.Joins Go.ChangeShapes Go.WideShapes Go.ChangeAt Go.RowKit Go.Deep
set_option linter.unusedVariables false
set_option linter.unusedSimpArgs false

def TsTC (t : Tr) : Prop := ∀ (d : Nat) (A0 A1 : Option Addr) (c0 c1 : Nat) (w : World), TrL w 0 A1 t.ks → d ≤ 30 →
  Calls Tryd.prog 39 #[.agg #[.int .i64 t.tag, .int .i64 t.key, .string t.text, .slice A0 t.ps.length c0, .slice A1 t.ks.length c1], .int .i64 d] w fun e w' => e = .returned (.int .i64 (tsT d t : Nat)) ∧ Below w.heap.size w w'
theorem tsL_cons (d n : Nat) (x : Tr) (xs : List Tr) : tsL d n (x :: xs) = if n ≤ 200 then tsL d (n + tsT (d + 1) x) xs else n := by simp only [tsL]
set_option maxHeartbeats 1000000 in
theorem streeSize_any (t : Tr) : SmT t → TsTC t := by
  induction t using Tr.by_kids with
  | h t ih =>
  intro hsm d A0 A1 c0 c1 w hk hd
  obtain ⟨s0, s1, s2, s3, s4⟩ := hsm.open_
  have hv := tsT_eq d t
  obtain ⟨v, hvv⟩ : ∃ v, tsT d t = v := ⟨_, rfl⟩
  rw [hvv] at hv ⊢
  have HI := Lib.hid (fun x hx d A0 A1 c0 c1 w hw hd => ih x hx (s4 x hx) d A0 A1 c0 c1 w hw hd)
  have HB0 := Lib.hid (Below.alloc (Below.refl w.heap.size w) (Nat.le_refl _) (.cells #[.int .i64 t.tag, .int .i64 t.key, .string t.text, .slice A0 t.ps.length c0, .slice A1 t.ks.length c1] 33))
  have HK := Lib.hid (hk.below HB0.out)
  unfold maxLen at s3
  clear hk ih s0 s1 s2 s4 hsm hvv
  obtain ⟨tag, key, text, ps, ks⟩ := t
  dsimp only [Tr.tag, Tr.key, Tr.text, Tr.ps, Tr.ks] at *
  generalize ps.length = np at *
  obtain ⟨n, hn⟩ : ∃ n, ks.length = n := ⟨_, rfl⟩
  rw [hn] at s3 HB0 HK ⊢
  have HN := Lib.hid hn
  clear hn
  by_cases h24 : 24 < d
  · rw [if_pos h24] at hv
    have h24' : (24 : Int) < (d : Int) := by omega
    subst hv
    go_enter Tryd.func39, Tryd.ntmps39
    go_wp2_with fail
    go_ret
    exact ⟨rfl, HB0.out⟩
  rw [if_neg h24] at hv
  have HV := Lib.hid hv
  have h24' : ¬ (24 : Int) < (d : Int) := by omega
  clear hv h24
  go_enter Tryd.func39, Tryd.ntmps39
  go_wp2_with fail
  go_loopw [5, 6] (fun m i wr => ∃ k q : Nat, k ≤ n ∧ i = .int .i64 k ∧ m = .int .i64 q ∧ q ≤ 402 ∧ Hid (tsL d q (ks.drop k) = tsL d 1 ks) ∧ wr.cell? ⟨w.heap.size, 4, none⟩ = some (.slice A1 n c1) ∧ w.heap.size < wr.heap.size ∧ Hid (Below (w.heap.size + 1) (w.alloc (.cells #[.int .i64 tag, .int .i64 key, .string text, .slice A0 np c0, .slice A1 n c1] 33)) wr)) (fun _ i _ => n - (intOf i).toNat)
  case atStart => exact ⟨0, 1, by omega, rfl, rfl, by omega, Lib.hid rfl, by rw [World.cell?_alloc_new]; rfl, by simp, Lib.hid (Below.refl _ _)⟩
  case round =>
    obtain ⟨k, q, hk, rfl, rfl, hq, HQ, hc4, hsz, HB⟩ := hrel
    by_cases hlt : k < n
    · obtain ⟨x, hx⟩ := at_some (show k < ks.length by rw [HN.out]; exact hlt)
      have hdc := drop_cons hx
      by_cases hq2 : q ≤ 200
      · obtain ⟨b, off, B0, d0, B1, d1, rfl, hblt, _, e0, e1, e2, e3, e4, hp, _, hks⟩ := (HK.out.kept (by have := HB.out.size; simpa using this) (fun b _ hlt => HB.out.block b (by simpa using hlt))).at_ hx
        have hs := HI.out x (List.mem_of_getElem? hx) (d + 1) B0 B1 d0 d1 wr hks (by omega)
        have HQ2 := Lib.hid (HQ.out.symm.trans (by rw [hdc, tsL_cons, if_pos hq2]) : tsL d 1 ks = tsL d (q + tsT (d + 1) x) (ks.drop (k + 1)))
        have hle := tsT_le (d + 1) x
        obtain ⟨u, hu⟩ : ∃ u, tsT (d + 1) x = u := ⟨_, rfl⟩
        rw [hu] at hs HQ2 hle
        have hs' : Calls Tryd.prog 39 #[.agg #[.int .i64 x.tag, .int .i64 x.key, .string x.text, .slice B0 x.ps.length d0, .slice B1 x.ks.length d1], .int .i64 ((d : Int) + 1)] wr fun e w' => e = .returned (.int .i64 u) ∧ Below wr.heap.size wr w' := hs
        have HS1 := Lib.hid hs'
        have hq2' : (q : Int) ≤ 200 := by omega
        clear hs hs' hx hdc hp hks hu
        obtain ⟨xt, xk, xs, xp, xq⟩ := x
        dsimp only [Tr.tag, Tr.key, Tr.text, Tr.ps, Tr.ks] at e0 e1 e2 e3 e4 HS1
        go_wp2_with fail
        refine HS1.out.mono ?_
        rintro e w2 ⟨rfl, hb⟩
        have HB2 := Lib.hid (HB.out.trans (hb.mono (by omega)))
        have hsz2 := hb.size
        replace hc4 := (hb.cell (p := ⟨w.heap.size, 4, none⟩) hsz).trans hc4
        clear hb
        go_wp2_with fail
        go_roundw
        case rel => exact ⟨k + 1, q + u, by omega, by go_num, by go_num, by omega, Lib.hid HQ2.out.symm, hc4, by omega, HB2⟩
        case measure => simp [intOf]; omega
      · have hq2' : ¬ (q : Int) ≤ 200 := by omega
        have HR := Lib.hid (show tsL d 1 ks = q by rw [← HQ.out]; exact tsL_big (by omega) _)
        have hvv : v = 201 := by have := HV.out; rw [HR.out] at this; omega
        clear hx hdc
        go_wp2_with fail
        all_goals go_ret
        all_goals exact ⟨ret_int (by omega), HB0.out.trans (HB.out.mono (by omega))⟩
    · have HR := Lib.hid (show tsL d 1 ks = q by rw [← HQ.out, drop_none (by rw [HN.out]; omega)]; simp only [tsL])
      have hvv : v = min q 201 := by have := HV.out; rw [HR.out] at this; exact this
      go_wp2_with fail
      all_goals go_ret
      all_goals exact ⟨ret_int (by omega), HB0.out.trans (HB.out.mono (by omega))⟩
end Go.Proofs.YtcpfjlbicofkeaaDoor
