/- Trees: how the laws copy them. -/
import Derived.Test.YtcpfjlbicofkeaaDoorTre2
namespace Go.Proofs.YtcpfjlbicofkeaaDoor
open Go.Joins Go.ChangeShapes Go.WideShapes Go.ChangeAt Go.RowKit Go.Deep
set_option linter.unusedVariables false
set_option linter.unusedSimpArgs false

/-- No row is longer than a law lets be. -/
inductive BdT : Tr → Prop
  | mk {tag key : Int} {text : ByteArray} {ps : List Pr} {ks : List Tr} (h1 : ps.length ≤ 1048576) (h3 : ks.length ≤ 1048576) (h4 : ∀ x ∈ ks, BdT x) : BdT (.mk tag key text ps ks)
theorem BdT.open_ {t : Tr} (h : BdT t) : t.ps.length ≤ 1048576 ∧ t.ks.length ≤ 1048576 ∧ ∀ x ∈ t.ks, BdT x := by
  cases h with
  | mk h1 h3 h4 => exact ⟨h1, h3, h4⟩
theorem BdT.of_sz : ∀ t, szT t ≤ 1048576 → BdT t := Tr.by_kids fun t ih h => by
  have e := szT_eq t
  have h0 := szPrs_pos t.ps
  have h1 := szL_pos t.ks
  have hk : ∀ x ∈ t.ks, BdT x := fun x hx => ih x hx (by have := szL_mem hx; omega)
  obtain ⟨tag, key, text, ps, ks⟩ := t
  simp only [Tr.ps, Tr.ks, Tr.text] at *
  exact .mk (by omega) (by omega) hk
/-- A tree handed back, its rows in new memory. -/
def ToX (t : Tr) (w : World) (e : Ending) (w' : World) : Prop :=
  ∃ g0 g1, e = .returned (.agg #[.int .i64 t.tag, .int .i64 t.key, .string t.text, .slice (some ⟨g0, 0, none⟩) t.ps.length t.ps.length, .slice (some ⟨g1, 0, none⟩) t.ks.length t.ks.length]) ∧
    PrL w' (some ⟨g0, 0, none⟩) t.ps ∧ w.heap.size ≤ g0 ∧ TrL w' w.heap.size (some ⟨g1, 0, none⟩) t.ks ∧ Below w.heap.size w w'
def ToT (t : Tr) : Prop := ∀ (A0 A1 : Option Addr) (c0 c1 : Nat) (w : World), PrL w A0 t.ps → TrL w 0 A1 t.ks →
  Calls Tryd.prog 7 #[.agg #[.int .i64 t.tag, .int .i64 t.key, .string t.text, .slice A0 t.ps.length c0, .slice A1 t.ks.length c1]] w (ToX t w)
theorem infoTr : (Tryd.prog.info? 33).map (fun i => (i.zero, i.size, i.bytes)) = some (some (.agg #[.int .i64 0, .int .i64 0, .string ⟨#[]⟩, .slice none 0 0, .slice none 0 0]), 5, 80) := by kernel_rfl
/-- Trees handed back in a row. -/
def TosX (n : Nat) (xs : List Tr) (w : World) (e : Ending) (w' : World) : Prop :=
  e = .returned (.slice (some ⟨w.heap.size, 0, none⟩) n n) ∧ TrL w' w.heap.size (some ⟨w.heap.size, 0, none⟩) xs ∧ Below w.heap.size w w'

set_option maxHeartbeats 2000000 in
theorem toTrees_of (A : Option Addr) (c n : Nat) (xs : List Tr) (IH : ∀ x ∈ xs, ToT x) (w : World) (hx : TrL w 0 A xs) (hn : xs.length = n) (hl : n ≤ 1048576) :
    Calls Tryd.prog 24 #[.slice A n c] w (TosX n xs w) := by
  have HN := Lib.hid hn
  have HX := Lib.hid hx
  have HI := Lib.hid IH
  clear hx hn IH
  obtain ⟨i0, hi, hz0, hz1, hz2⟩ := info_parts infoTr
  have HZ2 := Lib.hid hz2
  clear hz2
  go_enter Tryd.func24, Tryd.ntmps24
  go_wp2_with (at_make; refine wpList_make_full _ rfl _ _ 31 rfl w.heap.size 33 i0 (.agg #[.int .i64 0, .int .i64 0, .string ⟨#[]⟩, .slice none 0 0, .slice none 0 0]) 5 Tryd.underlying31 hi hz0 hz1 .i64 .i64 _ _ n rfl rfl rfl rfl (by rw [HZ2.out]; omega) (by unfold maxLen; omega) (Nat.le_refl _) ?_; rintro w1 hown hgrow)
  have hB1 : Below w.heap.size w w1 := grown_below hgrow
  have hg1 : w.heap.size < w1.heap.size := (hown.lt _ rfl).2
  have HO := Lib.hid hown
  clear hown hgrow hi hz0 hz1
  go_loopw [4] (fun i wr => ∃ (k : Nat) (L : List Value) (hdr : Nat → List Value), k ≤ n ∧ i = .int .i64 k ∧ wr.ownsRow w.heap.size 33 5 (.slice (some ⟨w.heap.size, 0, none⟩) n n) n L ∧ Hid (∀ i, i < k → ∀ j u, (hdr i)[j]? = some u → j < 5 ∧ L[i * 5 + j]? = some u) ∧ Hid (∀ i x, i < k → xs[i]? = some x → TrC wr (w.heap.size + 1) (hdr i) x) ∧ Below w.heap.size w wr) (fun i _ => n - (intOf i).toNat)
  case atStart => exact ⟨0, _, fun _ => [], by omega, rfl, HO.out, Lib.hid (fun i h => absurd h (by omega)), Lib.hid (fun i x h => absurd h (by omega)), hB1⟩
  case round =>
    obtain ⟨k, L, hdr, hk, rfl, hown, HH, HT, hB⟩ := hrel
    have HO2 := Lib.hid hown
    have hgl : w.heap.size < wr.heap.size := (hown.lt _ rfl).2
    clear hown
    by_cases hlt : k < n
    · obtain ⟨x, hx⟩ := at_some (show k < xs.length by rw [HN.out]; exact hlt)
      obtain ⟨b, off, A0, d0, A1, d1, rfl, hblt, _, e0, e1, e2, e3, e4, hp, _, hks⟩ := HX.out.at_ hx
      have hs := HI.out x (List.mem_of_getElem? hx) A0 A1 d0 d1 wr (hp.below hB) (hks.below hB)
      replace e0 := (hB.cell (p := ⟨b, off + k * 5, none⟩) hblt).trans e0
      replace e1 := (hB.cell (p := ⟨b, off + k * 5 + 1, none⟩) hblt).trans e1
      replace e2 := (hB.cell (p := ⟨b, off + k * 5 + 2, none⟩) hblt).trans e2
      replace e3 := (hB.cell (p := ⟨b, off + k * 5 + 3, none⟩) hblt).trans e3
      replace e4 := (hB.cell (p := ⟨b, off + k * 5 + 4, none⟩) hblt).trans e4
      have HXK := Lib.hid hx
      clear hx hp hks
      obtain ⟨tag, key, text, ps, ks⟩ := x
      have HS := Lib.hid hs
      clear hs
      dsimp only [Tr.tag, Tr.key, Tr.text, Tr.ps, Tr.ks] at e0 e1 e2 e3 e4
      have HS2 := Lib.hid (show Calls Tryd.prog 7 #[.agg #[.int .i64 tag, .int .i64 key, .string text, .slice A0 ps.length d0, .slice A1 ks.length d1]] wr (ToX (.mk tag key text ps ks) wr) from HS.out)
      obtain ⟨np, hnp⟩ : ∃ q, ps.length = q := ⟨_, rfl⟩
      obtain ⟨nk, hnk⟩ : ∃ q, ks.length = q := ⟨_, rfl⟩
      have HNP := Lib.hid hnp
      have HNK := Lib.hid hnk
      rw [hnp] at e3 HS2
      rw [hnk] at e4 HS2
      clear HS hnp hnk
      go_wp2_with fail
      refine HS2.out.mono ?_
      rintro e w2 ⟨g0, g1, rfl, hp, hg0, hkk, hb⟩
      have hO3 := ownsRow_below HO2.out hb
      have hLl : L.length = n * 5 := hO3.1
      obtain ⟨u0, d0'⟩ : ∃ u, w2.cell? ⟨w.heap.size, k * 5, none⟩ = some u := ⟨_, (hO3.cellAt (k * 5) (by omega)).trans (List.getElem?_eq_getElem (show k * 5 < L.length by omega))⟩
      have f0 := hO3.frozenAt (k * 5)
      obtain ⟨u1, d1'⟩ : ∃ u, w2.cell? ⟨w.heap.size, k * 5 + 1, none⟩ = some u := ⟨_, (hO3.cellAt (k * 5 + 1) (by omega)).trans (List.getElem?_eq_getElem (show k * 5 + 1 < L.length by omega))⟩
      have f1 := hO3.frozenAt (k * 5 + 1)
      obtain ⟨u2, d2'⟩ : ∃ u, w2.cell? ⟨w.heap.size, k * 5 + 2, none⟩ = some u := ⟨_, (hO3.cellAt (k * 5 + 2) (by omega)).trans (List.getElem?_eq_getElem (show k * 5 + 2 < L.length by omega))⟩
      have f2 := hO3.frozenAt (k * 5 + 2)
      obtain ⟨u3, d3'⟩ : ∃ u, w2.cell? ⟨w.heap.size, k * 5 + 3, none⟩ = some u := ⟨_, (hO3.cellAt (k * 5 + 3) (by omega)).trans (List.getElem?_eq_getElem (show k * 5 + 3 < L.length by omega))⟩
      have f3 := hO3.frozenAt (k * 5 + 3)
      obtain ⟨u4, d4'⟩ : ∃ u, w2.cell? ⟨w.heap.size, k * 5 + 4, none⟩ = some u := ⟨_, (hO3.cellAt (k * 5 + 4) (by omega)).trans (List.getElem?_eq_getElem (show k * 5 + 4 < L.length by omega))⟩
      have f4 := hO3.frozenAt (k * 5 + 4)
      have HO3 := Lib.hid hO3
      have HLl := Lib.hid hLl
      have HB2 := Lib.hid (more hB (Nat.le_refl _) hb)
      have HT2 := Lib.hid (fun i x hi hx => (HT.out i x hi hx).later hb)
      have HP2 := Lib.hid hp
      have HK2 := Lib.hid hkk
      dsimp only [Tr.tag, Tr.key, Tr.text, Tr.ps, Tr.ks]
      rw [HNP.out, HNK.out]
      clear hO3 hLl hb hp hkk e0 e1 e2 e3 e4 HT
      go_wp2_with fail
      obtain ⟨s1, q1⟩ := HO3.out.stored (k * 5) (.int .i64 tag)
      obtain ⟨s2, q2⟩ := s1.stored (k * 5 + 1) (.int .i64 key)
      obtain ⟨s3, q3⟩ := s2.stored (k * 5 + 2) (.string text)
      obtain ⟨s4, q4⟩ := s3.stored (k * 5 + 3) (.slice (some ⟨g0, 0, none⟩) np np)
      obtain ⟨s5, q5⟩ := s4.stored (k * 5 + 4) (.slice (some ⟨g1, 0, none⟩) nk nk)
      go_roundw
      case rel =>
        refine ⟨k + 1, _, fun i => if i = k then [.int .i64 tag, .int .i64 key, .string text, .slice (some ⟨g0, 0, none⟩) np np, .slice (some ⟨g1, 0, none⟩) nk nk] else hdr i, by omega, by go_num, s5, Lib.hid (fun i hi j u hu => ?_), Lib.hid (fun i x hi hx => ?_), ((((HB2.out.setCell (Nat.le_refl _) _).setCell (Nat.le_refl _) _).setCell (Nat.le_refl _) _).setCell (Nat.le_refl _) _).setCell (Nat.le_refl _) _⟩
        · have hl5 := HLl.out
          by_cases hik : i = k
          · subst hik
            simp only [↓reduceIte] at hu
            have hj : j < 5 := (List.getElem?_eq_some_iff.1 hu).1
            refine ⟨hj, ?_⟩
            match j, hj with
            | 0, _ => simp at hu; subst hu; (repeat (rw [List.getElem?_set_ne (by omega)])); rw [show i * 5 + 0 = i * 5 from rfl, List.getElem?_set_self (by first | omega | (simp; omega))]
            | 1, _ => simp at hu; subst hu; (repeat (rw [List.getElem?_set_ne (by omega)])); rw [List.getElem?_set_self (by first | omega | (simp; omega))]
            | 2, _ => simp at hu; subst hu; (repeat (rw [List.getElem?_set_ne (by omega)])); rw [List.getElem?_set_self (by first | omega | (simp; omega))]
            | 3, _ => simp at hu; subst hu; (repeat (rw [List.getElem?_set_ne (by omega)])); rw [List.getElem?_set_self (by first | omega | (simp; omega))]
            | 4, _ => simp at hu; subst hu; rw [List.getElem?_set_self (by first | omega | (simp; omega))]
          · simp only [if_neg hik] at hu
            obtain ⟨hj, h⟩ := HH.out i (by omega) j u hu
            refine ⟨hj, ?_⟩
            rw [List.getElem?_set_ne (by omega), List.getElem?_set_ne (by omega), List.getElem?_set_ne (by omega), List.getElem?_set_ne (by omega), List.getElem?_set_ne (by omega)]
            exact h
        · have hsz : ∀ (W : World) (p : Addr) (u : Value), (W.setCell p u).heap.size = W.heap.size := fun W p u => by simp [World.setCell]
          by_cases hik : i = k
          · subst hik
            simp only [↓reduceIte]
            have e := HXK.out
            rw [hx] at e
            injection e with e
            subst e
            refine TrC.kept (w := w2) (by simp only [hsz]; exact Nat.le_refl _) (fun b hb _ => by rw [heap_setCell_other _ _ b _ (by simp <;> omega), heap_setCell_other _ _ b _ (by simp <;> omega), heap_setCell_other _ _ b _ (by simp <;> omega), heap_setCell_other _ _ b _ (by simp <;> omega), heap_setCell_other _ _ b _ (by simp <;> omega)]) ?_
            have h := TrC.shut (lo := wr.heap.size) (t := .mk tag key text ps ks) (c0 := ps.length) (c1 := ks.length) HP2.out (fun b o e => by injection e with e; injection e with e; omega) HK2.out
            rw [← HNP.out, ← HNK.out]
            exact h.mono hgl
          · simp only [if_neg hik]
            refine TrC.kept (w := w2) (by simp only [hsz]; exact Nat.le_refl _) (fun b hb _ => by rw [heap_setCell_other _ _ b _ (by simp <;> omega), heap_setCell_other _ _ b _ (by simp <;> omega), heap_setCell_other _ _ b _ (by simp <;> omega), heap_setCell_other _ _ b _ (by simp <;> omega), heap_setCell_other _ _ b _ (by simp <;> omega)]) ?_
            exact HT2.out i x (by omega) hx
      case measure => simp [intOf]; omega
    · obtain rfl : k = n := by omega
      go_wp2_with fail
      go_ret
      refine ⟨rfl, ⟨hdr, fun h0 => ⟨w.heap.size, 0, rfl, Nat.le_refl _, hgl, fun i hi j u hu => ?_⟩, fun i x hx => (HT.out i x (by rw [← HN.out]; exact (List.getElem?_eq_some_iff.1 hx).1) hx).mono (Nat.le_succ _)⟩, hB⟩
      obtain ⟨hj, h⟩ := HH.out i (by rw [← HN.out]; exact hi) j u hu
      have hLl : L.length = k * 5 := HO2.out.1
      have hi2 : i < k := by rw [← HN.out]; exact hi
      rw [show 0 + i * 5 + j = i * 5 + j by omega, HO2.out.cellAt (i * 5 + j) (by omega)]
      exact h

set_option maxHeartbeats 2000000 in
theorem toTree_any (t : Tr) : BdT t → ToT t := by
  induction t using Tr.by_kids with
  | h t ih =>
  intro hbd A0 A1 c0 c1 w hp hk
  obtain ⟨s1, s3, s4⟩ := hbd.open_
  have HIK := Lib.hid (fun w hw => toTrees_of A1 c1 t.ks.length t.ks (fun x hx => ih x hx (s4 x hx)) w hw rfl s3)
  have HIP := Lib.hid (fun w hw => toPrs_any A0 c0 t.ps.length t.ps w hw rfl s1)
  have HP := Lib.hid (fun W (hb : Below w.heap.size w W) => hp.below hb)
  have HK := Lib.hid (fun W (hb : Below w.heap.size w W) => hk.below hb)
  have hT : ToX t w = fun e w' => ∃ g0 g1, e = .returned (.agg #[.int .i64 t.tag, .int .i64 t.key, .string t.text, .slice (some ⟨g0, 0, none⟩) t.ps.length t.ps.length, .slice (some ⟨g1, 0, none⟩) t.ks.length t.ks.length]) ∧
    PrL w' (some ⟨g0, 0, none⟩) t.ps ∧ w.heap.size ≤ g0 ∧ TrL w' w.heap.size (some ⟨g1, 0, none⟩) t.ks ∧ Below w.heap.size w w' := rfl
  obtain ⟨Q, hQ⟩ : ∃ Q, ToX t w = Q := ⟨_, rfl⟩
  rw [hQ] at hT ⊢
  have HQ := Lib.hid hT
  clear hp hk ih s1 s3 s4 hbd hT hQ
  obtain ⟨tag, key, text, ps, ks⟩ := t
  dsimp only [Tr.tag, Tr.key, Tr.text, Tr.ps, Tr.ks] at *
  obtain ⟨np, hnp⟩ : ∃ q, ps.length = q := ⟨_, rfl⟩
  obtain ⟨nk, hnk⟩ : ∃ q, ks.length = q := ⟨_, rfl⟩
  rw [hnp] at HIP HQ ⊢
  rw [hnk] at HIK HQ ⊢
  clear hnp hnk
  go_enter Tryd.func7, Tryd.ntmps7
  go_wp2_with fail
  refine (HIP.out _ (HP.out _ (by go_grown))).mono ?_
  rintro e w1 ⟨rfl, ho, hb⟩
  have HB1 := Lib.hid (front (w := w) (W0 := _) (by go_grown) (by simp <;> omega) hb)
  have HO := Lib.hid (show PrL w1 (some ⟨w.heap.size + 1 + 1 + 1, 0, none⟩) ps by have h := Lie.of_own (c := Pr.cells) Pr.cells_len ho; simpa using h)
  have hlg := (ho.lt _ rfl).2
  simp at hlg
  obtain ⟨hc, hf⟩ := bcell hb
  simp at hc hf
  have hz := hb.size
  simp at hz
  clear ho hb
  have i0 : w1.cell? ⟨w.heap.size + 1 + 1, 0, none⟩ = some (.int .i64 tag) := by rw [hc _ _ (by omega)]; go_simp
  have z0 : w1.cell? ⟨w.heap.size + 1, 0, none⟩ = some (.int .i64 0) := by rw [hc _ _ (by omega)]; go_simp
  have i1 : w1.cell? ⟨w.heap.size + 1 + 1, 1, none⟩ = some (.int .i64 key) := by rw [hc _ _ (by omega)]; go_simp
  have z1 : w1.cell? ⟨w.heap.size + 1, 1, none⟩ = some (.int .i64 0) := by rw [hc _ _ (by omega)]; go_simp
  have i2 : w1.cell? ⟨w.heap.size + 1 + 1, 2, none⟩ = some (.string text) := by rw [hc _ _ (by omega)]; go_simp
  have z2 : w1.cell? ⟨w.heap.size + 1, 2, none⟩ = some (.string ⟨#[]⟩) := by rw [hc _ _ (by omega)]; go_simp
  have i3 : w1.cell? ⟨w.heap.size + 1 + 1, 3, none⟩ = some (.slice none 0 0) := by rw [hc _ _ (by omega)]; go_simp
  have z3 : w1.cell? ⟨w.heap.size + 1, 3, none⟩ = some (.slice none 0 0) := by rw [hc _ _ (by omega)]; go_simp
  have p4 : w1.cell? ⟨w.heap.size, 4, none⟩ = some (.slice A1 nk c1) := by rw [hc _ _ (by omega)]; go_simp
  have i4 : w1.cell? ⟨w.heap.size + 1 + 1, 4, none⟩ = some (.slice none 0 0) := by rw [hc _ _ (by omega)]; go_simp
  have z4 : w1.cell? ⟨w.heap.size + 1, 4, none⟩ = some (.slice none 0 0) := by rw [hc _ _ (by omega)]; go_simp
  have jf : ∀ o, w1.frozen? ⟨w.heap.size + 1 + 1, o, none⟩ = false := fun o => by rw [hf _ _ (by omega)]; go_simp
  have zf : ∀ o, w1.frozen? ⟨w.heap.size + 1, o, none⟩ = false := fun o => by rw [hf _ _ (by omega)]; go_simp
  clear hc hf
  go_wp2_with fail
  have a0 : (w1.setCell ⟨w.heap.size + 1 + 1, 3, none⟩ (.slice (some ⟨w.heap.size + 1 + 1 + 1, 0, none⟩) np np)).cell? ⟨w.heap.size + 1 + 1, 0, none⟩ = some (.int .i64 tag) := by go_simp
  replace z0 : (w1.setCell ⟨w.heap.size + 1 + 1, 3, none⟩ (.slice (some ⟨w.heap.size + 1 + 1 + 1, 0, none⟩) np np)).cell? ⟨w.heap.size + 1, 0, none⟩ = some (.int .i64 0) := by go_simp
  have a1 : (w1.setCell ⟨w.heap.size + 1 + 1, 3, none⟩ (.slice (some ⟨w.heap.size + 1 + 1 + 1, 0, none⟩) np np)).cell? ⟨w.heap.size + 1 + 1, 1, none⟩ = some (.int .i64 key) := by go_simp
  replace z1 : (w1.setCell ⟨w.heap.size + 1 + 1, 3, none⟩ (.slice (some ⟨w.heap.size + 1 + 1 + 1, 0, none⟩) np np)).cell? ⟨w.heap.size + 1, 1, none⟩ = some (.int .i64 0) := by go_simp
  have a2 : (w1.setCell ⟨w.heap.size + 1 + 1, 3, none⟩ (.slice (some ⟨w.heap.size + 1 + 1 + 1, 0, none⟩) np np)).cell? ⟨w.heap.size + 1 + 1, 2, none⟩ = some (.string text) := by go_simp
  replace z2 : (w1.setCell ⟨w.heap.size + 1 + 1, 3, none⟩ (.slice (some ⟨w.heap.size + 1 + 1 + 1, 0, none⟩) np np)).cell? ⟨w.heap.size + 1, 2, none⟩ = some (.string ⟨#[]⟩) := by go_simp
  have a3 : (w1.setCell ⟨w.heap.size + 1 + 1, 3, none⟩ (.slice (some ⟨w.heap.size + 1 + 1 + 1, 0, none⟩) np np)).cell? ⟨w.heap.size + 1 + 1, 3, none⟩ = some (.slice (some ⟨w.heap.size + 1 + 1 + 1, 0, none⟩) np np) := by go_simp
  replace z3 : (w1.setCell ⟨w.heap.size + 1 + 1, 3, none⟩ (.slice (some ⟨w.heap.size + 1 + 1 + 1, 0, none⟩) np np)).cell? ⟨w.heap.size + 1, 3, none⟩ = some (.slice none 0 0) := by go_simp
  have a4 : (w1.setCell ⟨w.heap.size + 1 + 1, 3, none⟩ (.slice (some ⟨w.heap.size + 1 + 1 + 1, 0, none⟩) np np)).cell? ⟨w.heap.size + 1 + 1, 4, none⟩ = some (.slice none 0 0) := by go_simp
  replace z4 : (w1.setCell ⟨w.heap.size + 1 + 1, 3, none⟩ (.slice (some ⟨w.heap.size + 1 + 1 + 1, 0, none⟩) np np)).cell? ⟨w.heap.size + 1, 4, none⟩ = some (.slice none 0 0) := by go_simp
  have af : ∀ o, (w1.setCell ⟨w.heap.size + 1 + 1, 3, none⟩ (.slice (some ⟨w.heap.size + 1 + 1 + 1, 0, none⟩) np np)).frozen? ⟨w.heap.size + 1 + 1, o, none⟩ = false := fun o => by simp only [World.frozen?_setCell]; exact jf o
  replace zf : ∀ o, (w1.setCell ⟨w.heap.size + 1 + 1, 3, none⟩ (.slice (some ⟨w.heap.size + 1 + 1 + 1, 0, none⟩) np np)).frozen? ⟨w.heap.size + 1, o, none⟩ = false := fun o => by simp only [World.frozen?_setCell]; exact zf o
  clear i0 i1 i2 i3 i4 jf p4
  have HB2 := Lib.hid (HB1.out.setCell (p := ⟨w.heap.size + 1 + 1, 3, none⟩) (by simp <;> omega) (.slice (some ⟨w.heap.size + 1 + 1 + 1, 0, none⟩) np np))
  have HO2 := Lib.hid (PrL.kept (lo := w.heap.size + 1 + 1 + 1) (w' := (w1.setCell ⟨w.heap.size + 1 + 1, 3, none⟩ (.slice (some ⟨w.heap.size + 1 + 1 + 1, 0, none⟩) np np))) (by simp [World.setCell]) (fun b hb _ => heap_setCell_other _ _ b _ (by simp <;> omega)) HO.out (fun b o e => by simp at e; omega))
  clear HO
  obtain ⟨ws, hws⟩ : ∃ ws, (w1.setCell ⟨w.heap.size + 1 + 1, 3, none⟩ (.slice (some ⟨w.heap.size + 1 + 1 + 1, 0, none⟩) np np)) = ws := ⟨_, rfl⟩
  have hz2 : w.heap.size + 1 + 1 + 1 < ws.heap.size := by rw [← hws]; simp [World.setCell]; omega
  rw [hws] at a0 a1 a2 a3 a4 z0 z1 z2 z3 z4 af zf HB2 HO2 ⊢
  clear hws hlg hz HB1
  refine (HIK.out _ (HK.out _ HB2.out)).mono ?_
  rintro e w2 ⟨rfl, hkk, hb⟩
  replace a0 := (hb.cell (p := ⟨w.heap.size + 1 + 1, 0, none⟩) (by simp; omega)).trans a0
  replace z0 := (hb.cell (p := ⟨w.heap.size + 1, 0, none⟩) (by simp; omega)).trans z0
  replace a1 := (hb.cell (p := ⟨w.heap.size + 1 + 1, 1, none⟩) (by simp; omega)).trans a1
  replace z1 := (hb.cell (p := ⟨w.heap.size + 1, 1, none⟩) (by simp; omega)).trans z1
  replace a2 := (hb.cell (p := ⟨w.heap.size + 1 + 1, 2, none⟩) (by simp; omega)).trans a2
  replace z2 := (hb.cell (p := ⟨w.heap.size + 1, 2, none⟩) (by simp; omega)).trans z2
  replace a3 := (hb.cell (p := ⟨w.heap.size + 1 + 1, 3, none⟩) (by simp; omega)).trans a3
  replace z3 := (hb.cell (p := ⟨w.heap.size + 1, 3, none⟩) (by simp; omega)).trans z3
  replace a4 := (hb.cell (p := ⟨w.heap.size + 1 + 1, 4, none⟩) (by simp; omega)).trans a4
  replace z4 := (hb.cell (p := ⟨w.heap.size + 1, 4, none⟩) (by simp; omega)).trans z4
  replace af := fun o => (hb.frozen (p := ⟨w.heap.size + 1 + 1, o, none⟩) (by simp; omega)).trans (af o)
  replace zf := fun o => (hb.frozen (p := ⟨w.heap.size + 1, o, none⟩) (by simp; omega)).trans (zf o)
  have HB3 := Lib.hid (more HB2.out (Nat.le_refl _) hb)
  have HO3 := Lib.hid (HO2.out.below hb)
  have HK3 := Lib.hid hkk
  have hz3 := hb.size
  have hz4 : w.heap.size + 1 + 1 + 1 < w2.heap.size := by omega
  clear hkk hb HB2 HO2
  go_wp2_with fail
  refine bodyPost_ret (v := .agg #[.int .i64 tag, .int .i64 key, .string text, .slice (some ⟨w.heap.size + 1 + 1 + 1, 0, none⟩) np np, .slice (some ⟨ws.heap.size, 0, none⟩) nk nk]) (by simp [results, Tryd.results7, go_sem, a0, a1, a2, a3, a4, z0, z1, z2, z3, z4, af, zf]) rfl ?_
  rw [HQ.out]
  refine ⟨w.heap.size + 1 + 1 + 1, ws.heap.size, rfl, ?_, by omega, ?_, ?_⟩
  · refine PrL.kept (w := w2) (lo := w.heap.size + 1 + 1 + 1) (by simp [World.setCell]) (fun b hb _ => ?_) HO3.out (fun b o e => by simp at e; omega)
    rw [heap_setCell_other _ _ b _ (by simp <;> omega), heap_setCell_other _ _ b _ (by simp <;> omega), heap_setCell_other _ _ b _ (by simp <;> omega), heap_setCell_other _ _ b _ (by simp <;> omega), heap_setCell_other _ _ b _ (by simp <;> omega), heap_setCell_other _ _ b _ (by simp <;> omega)]
  · refine TrL.mono (lo := ws.heap.size) (by omega) (TrL.kept (w := w2) (by simp [World.setCell]) (fun b hb _ => ?_) HK3.out)
    rw [heap_setCell_other _ _ b _ (by simp <;> omega), heap_setCell_other _ _ b _ (by simp <;> omega), heap_setCell_other _ _ b _ (by simp <;> omega), heap_setCell_other _ _ b _ (by simp <;> omega), heap_setCell_other _ _ b _ (by simp <;> omega), heap_setCell_other _ _ b _ (by simp <;> omega)]
  · exact ((((((HB3.out.setCell (by first | omega | (simp <;> omega)) _).setCell (by first | omega | (simp <;> omega)) _).setCell (by first | omega | (simp <;> omega)) _).setCell (by first | omega | (simp <;> omega)) _).setCell (by first | omega | (simp <;> omega)) _).setCell (by first | omega | (simp <;> omega)) _)
end Go.Proofs.YtcpfjlbicofkeaaDoor
