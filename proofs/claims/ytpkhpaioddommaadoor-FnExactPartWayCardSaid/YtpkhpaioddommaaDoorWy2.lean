/- Trees: the way to the part with a number, by the document's wayTo. -/
import Derived.Test.YtpkhpaioddommaaDoorWy1
import Derived.Test.YtpkhpaioddommaaDoorNoM
import Derived.Laws.AppendOwn
namespace Go.Proofs.YtpkhpaioddommaaDoor
open Go.Joins Go.ChangeShapes Go.WideShapes Go.ChangeAt Go.RowKit Go.Deep
set_option linter.unusedVariables false
set_option linter.unusedSimpArgs false

theorem partsL_shift : ∀ (ks : List Tr) (way : List Nat) (i : Nat), (∀ x ∈ ks, ∀ way, partsT way x = (partsT [] x).map (fun y => (way ++ y.1, y.2))) → partsL way i ks = (partsL [] i ks).map (fun y => (way ++ y.1, y.2))
  | [], way, i, _ => by simp only [partsL, List.map_nil]
  | x :: xs, way, i, h => by
    simp only [partsL, List.map_append, List.nil_append]
    rw [partsL_shift xs way (i + 1) (fun y hy => h y (List.mem_cons_of_mem _ hy)), h x (by simp) (way ++ [i]), h x (by simp) [i], List.map_map]
    congr 1
    refine List.map_congr_left fun y _ => ?_
    simp
theorem partsT_shift : ∀ (t : Tr) (way : List Nat), partsT way t = (partsT [] t).map (fun y => (way ++ y.1, y.2)) := Tr.by_kids fun t ih way => by
  rw [partsT_eq, partsT_eq [], List.map_cons, partsL_shift t.ks way 0 ih]
  simp
def wayN (t : Tr) (n : Nat) : Option (List Nat) := ((partsT [] t)[n]?).map (·.1)
theorem wayN_zero (t : Tr) : wayN t 0 = some [] := by unfold wayN; rw [partsT_eq]; rfl
theorem partsL_at : ∀ (ks : List Tr) (j i : Nat) (x : Tr) (m : Nat), ks[i]? = some x → m < sizeT x → (partsL [] j ks)[sizeL (ks.take i) + m]? = ((partsT [] x)[m]?).map (fun y => ((j + i) :: y.1, y.2))
  | [], j, i, x, m, h, _ => by simp at h
  | y :: ys, j, 0, x, m, h, hm => by
    simp at h
    subst h
    simp only [partsL, List.take_zero, sizeL, Nat.zero_add, List.nil_append, Nat.add_zero]
    rw [List.getElem?_append_left (by rw [partsT_length]; exact hm), partsT_shift y [j], List.getElem?_map]
    rfl
  | y :: ys, j, i + 1, x, m, h, hm => by
    rw [List.getElem?_cons_succ] at h
    simp only [partsL, List.take_succ_cons, sizeL, List.nil_append]
    rw [List.getElem?_append_right (by rw [partsT_length]; omega), partsT_length, show sizeT y + sizeL (ys.take i) + m - sizeT y = sizeL (ys.take i) + m by omega, partsL_at ys (j + 1) i x m h hm, show j + 1 + i = j + (i + 1) by omega]
theorem wayN_kid {t x : Tr} {i n : Nat} (h : t.ks[i]? = some x) (h1 : 1 + sizeL (t.ks.take i) ≤ n) (h2 : n < 1 + sizeL (t.ks.take i) + sizeT x) : wayN t n = (wayN x (n - (1 + sizeL (t.ks.take i)))).map (fun w => i :: w) := by
  unfold wayN
  obtain ⟨m, rfl⟩ : ∃ m, n = m + 1 := ⟨n - 1, by omega⟩
  rw [partsT_eq, List.getElem?_cons_succ]
  have := partsL_at t.ks 0 i x (m - sizeL (t.ks.take i)) h (by omega)
  rw [show sizeL (t.ks.take i) + (m - sizeL (t.ks.take i)) = m by omega, Nat.zero_add] at this
  rw [this, show m + 1 - (1 + sizeL (t.ks.take i)) = m - sizeL (t.ks.take i) by omega]
  cases (partsT [] x)[m - sizeL (t.ks.take i)]? <;> rfl
theorem row_new {w : World} {lo : Nat} (h : lo ≤ w.heap.size) (v : Value) (e : TypeId) : (w.alloc (.cells #[v] e)).ownsRow lo e 1 (.slice (some ⟨w.heap.size, 0, none⟩) 1 1) 1 [v] :=
  ⟨rfl, .inr ⟨w.heap.size, 1, #[v], rfl, h, World.alloc_heap_new w _, Nat.le_refl _, by decide, rfl, rfl⟩⟩
theorem row_none {w : World} {lo : Nat} (h : lo ≤ w.heap.size) (e : TypeId) : (w.alloc (.cells #[] e)).ownsRow lo e 1 (.slice (some ⟨w.heap.size, 0, none⟩) 0 0) 0 [] :=
  ⟨rfl, .inr ⟨w.heap.size, 0, #[], rfl, h, World.alloc_heap_new w _, Nat.le_refl _, by decide, rfl, rfl⟩⟩
def WtX (t : Tr) (n : Nat) (w : World) (e : Ending) (w' : World) : Prop :=
  ∃ (way : List Nat) (g c : Nat) (z : Int), e = .returned (.tuple #[.slice (some ⟨g, 0, none⟩) way.length c, .int .i64 z]) ∧ wayN t n = some way ∧ way.length ≤ n ∧ WayR w.heap.size w' (some ⟨g, 0, none⟩) c way ∧ Below w.heap.size w w'
def WayTC (t : Tr) : Prop := ∀ (A0 A1 : Option Addr) (c0 c1 n : Nat) (w : World), TrL w 0 A1 t.ks → n < sizeT t →
  Calls Tryd.prog 67 #[.agg #[.int .i64 t.tag, .int .i64 t.key, .string t.text, .slice A0 t.ps.length c0, .slice A1 t.ks.length c1], .int .i64 0, .int .i64 n] w (WtX t n w)
theorem infoInt3 : (Tryd.prog.info? 3).map (fun i => (i.zero, i.size, i.bytes)) = some (some (.int .i64 0), 1, 8) := by kernel_rfl
set_option maxRecDepth 100000 in
set_option maxHeartbeats 2000000 in
theorem wayTo_any (t : Tr) : SmT t → treeOkB t = true → WayTC t := by
  induction t using Tr.by_kids with
  | h t ih =>
  intro hsm hok A0 A1 c0 c1 n w hk hn
  have hs200 : sizeT t ≤ 200 := size_le200 hok
  have HI := Lib.hid (fun x hx => ih x hx (hsm.open_.2.2.2.2 x hx) (kid_valid hok hx))
  have HSK := Lib.hid (hsm.open_.2.2.2.2)
  have hln : t.ks.length ≤ 200 := by have := sizeL_len t.ks; have := sizeT_eq t; omega
  have hse := sizeT_eq t
  have HOK := Lib.hid hok
  have hb0 := Below.alloc (Below.refl w.heap.size w) (Nat.le_refl _) (.cells #[.int .i64 t.tag, .int .i64 t.key, .string t.text, .slice A0 t.ps.length c0, .slice A1 t.ks.length c1] 26)
  have HB0 := Lib.hid hb0
  have HK := Lib.hid hk
  obtain ⟨i0, hi, hz0, hz1, hz2⟩ := info_parts infoInt3
  clear hb0 hk ih hsm hok
  by_cases hn0 : n = 0
  · subst hn0
    have HW := Lib.hid (wayN_zero t)
    clear hi hz0 hz1 hz2
    go_enter Tryd.func67, Tryd.ntmps67
    go_wp2_with fail
    go_ret2
    refine ⟨[], _, 0, 0, rfl, HW.out, Nat.le_refl _, ?_, HB0.out.alloc HB0.out.size _⟩
    have := row_none (w := w.alloc (.cells #[.int .i64 t.tag, .int .i64 t.key, .string t.text, .slice A0 t.ps.length c0, .slice A1 t.ks.length c1] 26)) (lo := w.heap.size) (by simp) 3
    rw [World.size_alloc] at this
    exact this
  have hnz : ((n : Int) == 0) = false := by rw [beq_eq_false_iff_ne]; omega
  obtain ⟨wn, hwn⟩ : ∃ wn, wayN t n = wn := ⟨_, rfl⟩
  have HWN := Lib.hid hwn
  have hkv := fun x (hx : x ∈ t.ks) => kid_valid HOK.out hx
  have HKV := Lib.hid hkv
  unfold WtX
  rw [hwn]
  clear hwn hkv HOK
  obtain ⟨tag, key, text, ps, ks⟩ := t
  dsimp only [Tr.tag, Tr.key, Tr.text, Tr.ps, Tr.ks] at *
  generalize ps.length = np at *
  obtain ⟨nk, hnk⟩ : ∃ q, ks.length = q := ⟨_, rfl⟩
  have HNK := Lib.hid hnk
  rw [hnk] at hln HB0 ⊢
  have hn1 : 1 ≤ n := by omega
  clear hnk
  go_enter Tryd.func67, Tryd.ntmps67
  go_wp2_with fail
  go_loopw [1, 8] (fun a i wr => ∃ k q : Nat, k ≤ nk ∧ i = .int .i64 k ∧ a = .int .i64 q ∧ q ≤ n ∧ Hid (q = 1 + sizeL (ks.take k)) ∧ wr.cell? ⟨w.heap.size, 4, none⟩ = some (.slice A1 nk c1) ∧ w.heap.size < wr.heap.size ∧ Hid (Below w.heap.size w wr)) (fun _ i _ => nk - (intOf i).toNat)
  case atStart => exact ⟨0, 1, by omega, rfl, rfl, hn1, Lib.hid (by simp only [List.take_zero, sizeL]), by rw [World.cell?_alloc_new]; rfl, by simp, HB0⟩
  case round =>
    obtain ⟨k, q, hk, rfl, rfl, hq, HQ, o4, hgz, HB⟩ := hrel
    by_cases hlt : k < nk
    · obtain ⟨x, hx⟩ := at_some (show k < ks.length by rw [HNK.out]; exact hlt)
      obtain ⟨b, off, E0, g0, E1, g1, rfl, hblt, _, e0, e1, e2, e3, e4, hp, _, hks⟩ := HK.out.at_ hx
      have hmem := List.mem_of_getElem? hx
      have KV := streeSize_any x (HSK.out x hmem) 1 E0 E1 g0 g1 wr (hks.below HB.out) (by omega)
      rw [valid_size (HKV.out x hmem)] at KV
      replace e0 := (HB.out.cell (p := ⟨b, _, none⟩) hblt).trans e0
      replace e1 := (HB.out.cell (p := ⟨b, _, none⟩) hblt).trans e1
      replace e2 := (HB.out.cell (p := ⟨b, _, none⟩) hblt).trans e2
      replace e3 := (HB.out.cell (p := ⟨b, _, none⟩) hblt).trans e3
      replace e4 := (HB.out.cell (p := ⟨b, _, none⟩) hblt).trans e4
      have hsum := sizeL_take hx
      have hle := sizeL_takeLe ks (k + 1)
      have hqs := HQ.out
      have hsz : sizeT x ≤ 200 := by omega
      have hq3 : q + sizeT x = 1 + sizeL (ks.take (k + 1)) := by omega
      have HQ3 := Lib.hid hq3
      have HIX := Lib.hid (HI.out x hmem)
      have HKX := Lib.hid hks
      have hi1 : (0 : Int) ≤ (k : Int) := by omega
      have hi2 : (k : Int) < (nk : Int) := by omega
      have hq4 : (q : Int) ≤ (n : Int) := by omega
      have hqn : n < q + sizeT x → n - q < sizeT x := fun h => by omega
      have HQN := Lib.hid (show n < q + sizeT x → wayN (.mk tag key text ps ks) n = (wayN x (n - q)).map (fun w => k :: w) from fun h => by rw [hqs]; exact wayN_kid (t := .mk tag key text ps ks) hx (show 1 + sizeL (ks.take k) ≤ n from by omega) (show n < 1 + sizeL (ks.take k) + sizeT x from by omega))
      clear hx hp hks hsum hle hq3 hmem hqs
      obtain ⟨sx, hsx⟩ : ∃ s, sizeT x = s := ⟨_, rfl⟩
      rw [hsx] at KV hsz HQ3 hqn HQN
      have HSX := Lib.hid hsx
      have KV' : Calls Tryd.prog 49 #[.agg #[.int .i64 x.tag, .int .i64 x.key, .string x.text, .slice E0 x.ps.length g0, .slice E1 x.ks.length g1], .int .i64 1] wr fun e w' => e = .returned (.int .i64 sx) ∧ Below wr.heap.size wr w' := KV
      have HKV' := Lib.hid KV'
      clear KV KV' hsx
      by_cases hin : n < q + sx
      · obtain ⟨xt, xk, xs, xp, xq⟩ := x
        dsimp only [Tr.tag, Tr.key, Tr.text, Tr.ps, Tr.ks] at e0 e1 e2 e3 e4 HKV'
        have hd1 : (n : Int) < (q : Int) + (sx : Int) := by omega
        have hs1 : (q : Int) + (sx : Int) ≤ 1000 := by omega
        have hs2 : (0 : Int) ≤ (q : Int) + (sx : Int) := by omega
        have hs3 : (n : Int) - (q : Int) = ((n - q : Nat) : Int) := by omega
        have hs4 : (0 : Int) ≤ (n : Int) - (q : Int) := by omega
        have hs5 : (n : Int) - (q : Int) ≤ 1000 := by omega
        have HD := Lib.hid hin
        go_wp2_with fail
        refine HKV'.out.mono ?_
        rintro e w2 ⟨rfl, hb⟩
        replace o4 := (hb.cell (p := ⟨w.heap.size, 4, none⟩) hgz).trans o4
        replace e0 := (hb.cell (p := ⟨b, _, none⟩) (by show b < wr.heap.size; have := HB.out.size; omega)).trans e0
        replace e1 := (hb.cell (p := ⟨b, _, none⟩) (by show b < wr.heap.size; have := HB.out.size; omega)).trans e1
        replace e2 := (hb.cell (p := ⟨b, _, none⟩) (by show b < wr.heap.size; have := HB.out.size; omega)).trans e2
        replace e3 := (hb.cell (p := ⟨b, _, none⟩) (by show b < wr.heap.size; have := HB.out.size; omega)).trans e3
        replace e4 := (hb.cell (p := ⟨b, _, none⟩) (by show b < wr.heap.size; have := HB.out.size; omega)).trans e4
        have HB2 := Lib.hid (HB.out.trans (hb.mono HB.out.size))
        clear hb HKV' HB
        go_wp2_with fail
        have HIX' := Lib.hid (HIX.out E0 E1 g0 g1 (n - q) w2 (HKX.out.below HB2.out) (by rw [HSX.out]; exact hqn hin))
        dsimp only [Tr.tag, Tr.key, Tr.text, Tr.ps, Tr.ks] at HIX'
        refine HIX'.out.mono ?_
        rintro e w3 ⟨way, g, cw, z, rfl, hwy, hwl, hrow, hb⟩
        have HB3 := Lib.hid (HB2.out.trans (hb.mono HB2.out.size))
        have hz3 : w.heap.size ≤ w3.heap.size := HB3.out.size
        have HWY := Lib.hid ((HQN.out hin).trans (congrArg (Option.map (fun w => k :: w)) hwy))
        have hr4 := WayR.later hrow (Below.alloc (Below.refl _ _) (Nat.le_refl _) (.cells #[.int .i64 k] 3))
        have HC4 := Lib.hid (fun j u (hu : (intV way)[j]? = some u) => show (w3.alloc (.cells #[.int .i64 k] 3)).cell? ((⟨g, 0, none⟩ : Addr).add j) = some u by
          rw [Addr.add_lit, Nat.zero_add, World.ownsRow.cellAt hr4 j (by have := (List.getElem?_eq_some_iff.1 hu).1; have := intV_length way; omega)]
          exact hu)
        have HRN := Lib.hid (row_new (lo := w.heap.size) hz3 (.int .i64 k) 3)
        have HO := Lib.hid (fun u (hu : u ∈ intV way) => show u.oneCell' = true by
          obtain ⟨a, _, rfl⟩ := List.mem_map.1 hu
          rfl)
        have HLV := Lib.hid (intV_length way)
        have hwl2 : way.length ≤ 200 := by omega
        have HB4 := Lib.hid (HB3.out.alloc hz3 (.cells #[.int .i64 k] 3))
        have hwl3 : (k :: way).length ≤ n := by rw [List.length_cons]; have := HQ.out; omega
        clear hb HIX' HB2 e0 e1 e2 e3 e4 hwy hrow hr4
        go_wp2_with (at_builtin; refine wpList_append_own _ rfl _ _ 30 rfl w.heap.size 3 i0 (.int .i64 0) 1 8 Tryd.underlying30 hi hz0 hz1 hz2 rfl (by decide) _ 1 [.int .i64 k] rfl HRN.out ⟨g, 0, none⟩ way.length cw (intV way) rfl HLV.out HC4.out HO.out (by unfold maxLen; omega) (by omega) (by simp; omega) ?_)
        intro v' w5 hown hgrow _
        obtain ⟨g5, c5, rfl⟩ : ∃ g5 c5, v' = .slice (some ⟨g5, 0, none⟩) (1 + way.length) c5 := by
          rcases hown.2 with ⟨_, h0⟩ | ⟨g5, cap, cur, hv, _⟩
          · omega
          · exact ⟨g5, cap, hv⟩
        have HB5 := Lib.hid (HB4.out.grown hgrow (by simp; omega) (fun p e => by simp [Value.ownBlock] at e; omega))
        have HOW := Lib.hid hown
        clear hown hgrow
        go_wp2_with fail
        go_ret2
        have e1 : 1 + way.length = (k :: way).length := by rw [List.length_cons]; omega
        refine ⟨k :: way, g5, c5, q, by rw [e1]; rfl, HWN.out.symm.trans HWY.out, hwl3, ?_, HB5.out⟩
        have h5 := HOW.out
        rw [e1] at h5
        exact h5
      · obtain ⟨xt, xk, xs, xp, xq⟩ := x
        dsimp only [Tr.tag, Tr.key, Tr.text, Tr.ps, Tr.ks] at e0 e1 e2 e3 e4 HKV'
        have hd1 : ¬ (n : Int) < (q : Int) + (sx : Int) := by omega
        have hd2 : q + sx ≤ n := by omega
        have hs1 : (q : Int) + (sx : Int) ≤ 1000 := by omega
        have hs2 : (0 : Int) ≤ (q : Int) + (sx : Int) := by omega
        go_wp2_with fail
        refine HKV'.out.mono ?_
        rintro e w2 ⟨rfl, hb⟩
        replace o4 := (hb.cell (p := ⟨w.heap.size, 4, none⟩) hgz).trans o4
        have hgz2 := Nat.lt_of_lt_of_le hgz hb.size
        have HB2 := Lib.hid (HB.out.trans (hb.mono HB.out.size))
        clear hb HKV' HB
        go_wp2_with fail
        go_roundw
        case rel => exact ⟨k + 1, q + sx, by omega, by go_num, by go_num, hd2, HQ3, o4, hgz2, HB2⟩
        case measure => simp [intOf]; omega
    · obtain rfl : k = nk := by omega
      have hqs := HQ.out
      rw [← HNK.out, List.take_length] at hqs
      omega
end Go.Proofs.YtpkhpaioddommaaDoor
