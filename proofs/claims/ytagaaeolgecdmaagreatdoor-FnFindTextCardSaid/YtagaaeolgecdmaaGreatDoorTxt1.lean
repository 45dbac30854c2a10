/- Trees: all their texts, by the document's own text. -/
import Derived.Test.YtagaaeolgecdmaaGreatDoorTre6
import Derived.Test.YtagaaeolgecdmaaGreatDoorTre11
namespace Go.Proofs.YtagaaeolgecdmaaGreatDoor
open Go.Joins Go.ChangeShapes Go.WideShapes Go.ChangeAt Go.RowKit Go.Deep
set_option linter.unusedVariables false
set_option linter.unusedSimpArgs false

mutual
  /-- All texts, one behind the other. -/
  def textT : Tr → ByteArray
    | .mk _ _ text _ ks => text ++ textL ks
  def textL : List Tr → ByteArray
    | [] => ⟨#[]⟩
    | x :: xs => textT x ++ textL xs
end
theorem textL_drop {ks : List Tr} {k : Nat} {x : Tr} (hx : ks[k]? = some x) : textL (ks.drop k) = textT x ++ textL (ks.drop (k + 1)) := by
  obtain ⟨hk, he⟩ := List.getElem?_eq_some_iff.1 hx
  rw [List.drop_eq_getElem_cons hk, he]
  simp only [textL]
theorem textT_eq (t : Tr) : textT t = t.text ++ textL t.ks := by
  obtain ⟨_, _, _, _, _⟩ := t
  simp only [textT, Tr.ks, Tr.text]
def TxTC (t : Tr) : Prop := ∀ (A0 A1 : Option Addr) (c0 c1 : Nat) (w : World), TrL w 0 A1 t.ks → (textT t).size ≤ maxLen →
  Calls Tryz.prog 51 #[.agg #[.int .i64 t.tag, .int .i64 t.key, .string t.text, .slice A0 t.ps.length c0, .slice A1 t.ks.length c1]] w fun e w' => e = .returned (.string (textT t)) ∧ Below w.heap.size w w'
set_option maxHeartbeats 1000000 in
theorem stextOf_any (t : Tr) : SmT t → TxTC t := by
  induction t using Tr.by_kids with
  | h t ih =>
  intro hsm A0 A1 c0 c1 w hk hd
  obtain ⟨s0, s1, s2, s3, s4⟩ := hsm.open_
  have hv := textT_eq t
  have HI := Lib.hid (fun x hx A0 A1 c0 c1 w hw hd => ih x hx (s4 x hx) A0 A1 c0 c1 w hw hd)
  have HB0 := Lib.hid (Below.alloc (Below.refl w.heap.size w) (Nat.le_refl _) (.cells #[.int .i64 t.tag, .int .i64 t.key, .string t.text, .slice A0 t.ps.length c0, .slice A1 t.ks.length c1] 32))
  have HK := Lib.hid (hk.below HB0.out)
  unfold maxLen at s3
  clear hk ih s0 s1 s2 s4 hsm
  generalize textT t = v at *
  obtain ⟨tag, key, text, ps, ks⟩ := t
  dsimp only [Tr.tag, Tr.key, Tr.text, Tr.ps, Tr.ks] at *
  generalize ps.length = np at *
  obtain ⟨n, hn⟩ : ∃ n, ks.length = n := ⟨_, rfl⟩
  rw [hn] at s3 HB0 HK ⊢
  have HN := Lib.hid hn
  have HV := Lib.hid hv
  have HD := Lib.hid hd
  clear hn hv hd
  go_enter Tryz.func51, Tryz.ntmps51
  go_wp2_with fail
  go_loopw [3, 4] (fun m i wr => ∃ (k : Nat) (q : ByteArray), k ≤ n ∧ i = .int .i64 k ∧ m = .string q ∧ Hid (q ++ textL (ks.drop k) = v) ∧ wr.cell? ⟨w.heap.size, 4, none⟩ = some (.slice A1 n c1) ∧ w.heap.size < wr.heap.size ∧ Hid (Below (w.heap.size + 1) (w.alloc (.cells #[.int .i64 tag, .int .i64 key, .string text, .slice A0 np c0, .slice A1 n c1] 32)) wr)) (fun _ i _ => n - (intOf i).toNat)
  case atStart => exact ⟨0, text, by omega, rfl, rfl, Lib.hid (by rw [List.drop_zero]; exact HV.out.symm), by rw [World.cell?_alloc_new]; rfl, by simp, Lib.hid (Below.refl _ _)⟩
  case round =>
    obtain ⟨k, q, hk, rfl, rfl, HQ, hc4, hsz, HB⟩ := hrel
    by_cases hlt : k < n
    · obtain ⟨x, hx⟩ := at_some (show k < ks.length by rw [HN.out]; exact hlt)
      obtain ⟨b, off, B0, d0, B1, d1, rfl, hblt, _, e0, e1, e2, e3, e4, hp, _, hks⟩ := (HK.out.kept (by have := HB.out.size; simpa using this) (fun b _ hlt => HB.out.block b (by simpa using hlt))).at_ hx
      have hQ := HQ.out
      rw [textL_drop hx, ← ByteArray.append_assoc] at hQ
      have hsum : (q ++ textT x).size ≤ maxLen := by
        have e := congrArg ByteArray.size hQ
        rw [ByteArray.size_append] at e
        have := HD.out
        omega
      have hsx : (textT x).size ≤ maxLen := by
        rw [ByteArray.size_append] at hsum
        omega
      have hs := HI.out x (List.mem_of_getElem? hx) B0 B1 d0 d1 wr hks hsx
      obtain ⟨u, hu⟩ : ∃ u, textT x = u := ⟨_, rfl⟩
      rw [hu] at hs hQ hsum
      have hsum2 : q.size + u.size ≤ maxLen := by rw [← ByteArray.size_append]; exact hsum
      have hnb : ¬ 9223372036854775807 < q.size + u.size := by unfold maxLen at hsum2; omega
      clear hsum hsum2
      have HS1 := Lib.hid hs
      have HQ2 := Lib.hid hQ
      have hi1 : (0 : Int) ≤ (k : Int) := by omega
      have hi2 : (k : Int) < (n : Int) := by omega
      clear hs hx hp hks hu hQ HQ hsx
      obtain ⟨xt, xk, xs, xp, xq⟩ := x
      dsimp only [Tr.tag, Tr.key, Tr.text, Tr.ps, Tr.ks] at e0 e1 e2 e3 e4 HS1
      go_wp2_with fail
      refine HS1.out.mono ?_
      rintro e w2 ⟨rfl, hb⟩
      have HB2 := Lib.hid (HB.out.trans (hb.mono (by omega)))
      have hsz2 := hb.size
      replace hc4 := (hb.cell (p := ⟨w.heap.size, 4, none⟩) hsz).trans hc4
      clear hb
      go_wp2_with fail
      go_roundw
      case rel => exact ⟨k + 1, q ++ u, by omega, by go_num, rfl, HQ2, hc4, by omega, HB2⟩
      case measure => simp [intOf]; omega
    · obtain rfl : k = n := by omega
      have hQ := HQ.out
      rw [← HN.out, List.drop_length] at hQ
      have h0 : textL [] = ⟨#[]⟩ := by simp only [textL]
      rw [h0] at hQ
      have hq : q = v := (show q ++ ByteArray.empty = q from ByteArray.append_empty).symm.trans hQ
      subst hq
      clear hQ HQ
      go_wp2_with fail
      go_ret
      exact ⟨rfl, HB0.out.trans (HB.out.mono (by omega))⟩
def textOfV (t : Tr) : ByteArray := if treeOkB t = true then textT t else ⟨#[]⟩
end Go.Proofs.YtagaaeolgecdmaaGreatDoor
