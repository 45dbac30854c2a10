/- An effect that takes a place away, at the program. -/
import Derived.Test.YtegdpdafaimmoaaEff11
import Derived.Maps.Own
import Derived.Maps.OwnSet
namespace Go.Proofs.Ytegdpdafaimmoaa
open Go.Joins Go.ChangeShapes Go.WideShapes Go.ChangeAt Go.RowKit Go.Deep Go.Maps Go.Sort
set_option linter.unusedVariables false
set_option linter.unusedSimpArgs false

theorem Turn.grown {b : Nat} {w w' : World} (h : Turn b (b + 1) w w') : w.grownBy w' (some b) :=
  ⟨h.os, h.tape, h.output, h.size, fun k hk hr => h.block k hk (by rcases Nat.lt_or_gt_of_ne (fun e : k = b => hr (by rw [e])) with h | h <;> omega)⟩
theorem map_cell {w : World} {P : Program} {t : TypeId} {bm n : Nat} {D : DataW Value} (h : w.ownsMap P t RV bm n D) (o : Nat) : w.cell? ⟨bm, o, none⟩ = none := by
  obtain ⟨es, clock, hb, _⟩ := h
  simp [World.cell?, hb]
theorem cell_ne {w : World} {P : Program} {t : TypeId} {bm n l o : Nat} {v : Value} {D : DataW Value} (h : w.ownsMap P t RV bm n D) (hc : w.cell? ⟨l, o, none⟩ = some v) : l ≠ bm := by
  rintro rfl
  rw [map_cell h] at hc
  cases hc
theorem outV_mem {y p : List Sl} {ps : List (List Sl)} : p ∈ outV y ps ↔ p ∈ ps ∧ p ≠ y := by
  unfold outV
  rw [List.mem_filter]
  simp
set_option maxRecDepth 100000 in
set_option maxHeartbeats 2000000 in
theorem take_gone (w0 w : World) (l bm n c u K : Nat) (ad : Addr) (D : DataW Value) (V : Value) (L : List Value) (ps : List (List Sl)) (x : Ef) (h : LivS w0 w l bm n D V L ps) (hx : SlL w0 (some ad) x.pl) (hu : x.pl.length = u) (hp : placeB x.pl = true) (hk : LvOk K ps) (hK : K ≤ 400) (hm : x.pl ∈ ps) :
    Calls Try.prog 36 #[.pointer (some ⟨l, 0, none⟩), .agg #[.int .i64 0, .slice (some ad) u c]] w fun e w' => e = .returned (.bool true) ∧ ∃ D' V' L', LivS w0 w' l bm n D' V' L' (outV x.pl ps) := by
  have hlen := placeB_len hp
  have hkl := keyB_len x.pl
  have hlit := key_lit (keyB x.pl) (by omega)
  have hkey := h.key x.pl hp
  obtain ⟨t, ht⟩ : ∃ t, decide (x.pl ∈ ps) = t := ⟨_, rfl⟩
  rw [ht] at hkey
  rw [decide_eq_true hm] at ht
  subst ht
  have hN : 0 < ps.length := by cases ps with | nil => simp at hm | cons a b => simp
  obtain ⟨N, hN⟩ : ∃ N, ps.length = N + 1 := ⟨ps.length - 1, by omega⟩
  obtain ⟨b, cc, rfl⟩ : ∃ b cc, V = .slice (some ⟨b, 0, none⟩) (N + 1 : Nat) cc := by
    rcases h.row.2 with ⟨_, h0⟩ | ⟨g, cap, cur, h0, _⟩
    · omega
    · exact ⟨g, cap, by rw [h0, hN]⟩
  have hrow0 : OwnP w w0.heap.size b cc (N + 1) L := by have := h.row; rw [hN] at this; exact this
  have hbl := World.ownsRow.lt hrow0 b rfl
  have HP := Lib.hid hp
  have HK := Lib.hid hk
  have HX0 := Lib.hid hx
  have HU0 := Lib.hid hu
  have HMM := Lib.hid hm
  have HNN := Lib.hid hN
  have HLN := Lib.hid hlen
  have k1 := fun w (hb : Below w0.heap.size w0 w) => keyOf_any (some ad) c u x.pl w (hx.below hb) hu (by omega) (Fits.of_place hp)
  have K1 := Lib.hid k1
  have HL := Lib.hid h
  have HLIT := Lib.hid hlit
  have HKEY := Lib.hid hkey
  have hl := World.block_lt_of_cell? w _ h.c0
  have hb0 := Below.alloc (Below.refl w.heap.size w) (Nat.le_refl _) (.cells #[.int .i64 0, .slice (some ad) u c] 55)
  have HA := Lib.hid (h.below hb0)
  have HB0 := Lib.hid hb0
  have a0 : (w.alloc (.cells #[.int .i64 0, .slice (some ad) u c] 55)).cell? ⟨w.heap.size, 0, none⟩ = some (.int .i64 0) := by rw [World.cell?_alloc_new]; rfl
  have a1 : (w.alloc (.cells #[.int .i64 0, .slice (some ad) u c] 55)).cell? ⟨w.heap.size, 1, none⟩ = some (.slice (some ad) u c) := by rw [World.cell?_alloc_new]; rfl
  obtain ⟨wa, hwa⟩ : ∃ v, w.alloc (.cells #[.int .i64 0, .slice (some ad) u c] 55) = v := ⟨_, rfl⟩
  have hza : w.heap.size < wa.heap.size := by rw [← hwa]; simp
  rw [hwa] at HA HB0 a0 a1
  clear h hx hu hp k1 hlit hkey hlen hkl hb0
  go_enter Try.func36, Try.ntmps36
  go_wp2_with fail
  (try rw [hwa])
  clear hwa
  refine (K1.out wa HA.out.hb).mono ?_
  rintro e w1 ⟨rfl, hb⟩
  replace a0 := (hb.cell (p := ⟨w.heap.size, 0, none⟩) hza).trans a0
  replace a1 := (hb.cell (p := ⟨w.heap.size, 1, none⟩) hza).trans a1
  have H1 := Lib.hid (HA.out.below hb)
  have HB1 := Lib.hid (more HB0.out (Nat.le_refl _) hb)
  have c0 := H1.out.c0
  have c1 := H1.out.c1
  have hz0 := Try.zeroValue4 w1
  obtain ⟨v0, pp, hrun, hv⟩ := H1.out.mp.lookup lawS Try.underlying58 hz0 (R := RV) rfl HLIT.out
  rw [HKEY.out] at hv
  have hv0 : v0 = .bool true := by
    have h : (some (DataW.held v0, ([] : List MemPlace)) : Option (DataW Value × List MemPlace)) = some (.held (.bool true), pp) := hv
    injection h with h
    injection h with h h'
    injection h
  subst hv0
  clear hv hz0 hb
  have hlb := cell_ne H1.out.mp c0
  have hmb := H1.out.mp.lt
  have hR1 : OwnP w1 w0.heap.size b cc (N + 1) L := by have h5 := H1.out.row; rw [HNN.out] at h5; exact h5
  have hbb : b ≠ bm := by
    have h5 := World.ownsRow.cellAt hR1 0 (by have h6 : L.length = (N + 1) * 1 := hR1.1; omega)
    rw [List.getElem?_eq_getElem (by have h6 : L.length = (N + 1) * 1 := hR1.1; omega)] at h5
    exact cell_ne H1.out.mp h5
  have HR1 := Lib.hid hR1
  have hsb : w.heap.size ≠ bm := cell_ne H1.out.mp a0
  have hnl : b ≠ l := H1.out.nl b rfl
  have hs1 := World.block_lt_of_cell? w1 _ a0
  have hl1 := World.block_lt_of_cell? w1 _ c0
  clear hR1
  go_wp2_with (at_delete; (refine wpList_delete_own _ rfl _ _ 58 9 rfl 4 lawS Try.underlying58 RV bm n D rfl H1.out.mp _ (.string (keyB x.pl)) rfl HLIT.out ?_; intro w2 ho2 hmt; have hg := hmt.grown; replace a0 := (World.cell?_of_block (a := ⟨w.heap.size, 0, none⟩) (hg.block w.heap.size hs1 (by simpa using hsb))).trans a0; replace a1 := (World.cell?_of_block (a := ⟨w.heap.size, 1, none⟩) (hg.block w.heap.size hs1 (by simpa using hsb))).trans a1; replace c0 := (World.cell?_of_block (a := ⟨l, 0, none⟩) (hg.block l hl1 (by simpa using hlb))).trans c0; replace c1 := (World.cell?_of_block (a := ⟨l, 1, none⟩) (hg.block l hl1 (by simpa using hlb))).trans c1; have HF2 := Lib.hid (fun o => (World.frozen?_of_block (a := ⟨l, o, none⟩) (hg.block l hl1 (by simpa using hlb))).trans (H1.out.fz o)); have HR2 := Lib.hid (World.ownsRow.kept HR1.out hg (.inr (by simpa [Value.ownBlock] using hbb))); have HM2 := Lib.hid ho2; have HB2 := Lib.hid (H1.out.hb.grown hg H1.out.hb.size (fun kk hkk => by injection hkk with hkk; have := H1.out.b0; omega)); have hs2 := hg.size; clear ho2 hmt hg))
  have hlw2 : l < w2.heap.size := by omega
  have hLOK := hk
  have K2 := Lib.hid (delete_any w0 w2 b cc N w.heap.size u c (some ad) L ps x.pl HB2.out HR2.out H1.out.lv hk.1 HMM.out (fun p hp => by have := placeB_len (hk.2.2 p hp); unfold maxLen; omega) HX0.out HU0.out (by have := HLN.out; have := HU0.out; unfold maxLen; omega) (by have := hk.2.1; have := HNN.out; omega) a1 (by omega))
  refine K2.out.mono ?_
  rintro e w3 ⟨L', rfl, ho3, hl3, ht3⟩
  replace c0 := (ht3.cell (k := l) (o := 0) hlw2 (by omega)).trans c0
  replace c1 := (ht3.cell (k := l) (o := 1) hlw2 (by omega)).trans c1
  have f3 : ∀ o, w3.frozen? ⟨l, o, none⟩ = false := fun o => (World.frozen?_of_block (a := ⟨l, o, none⟩) (ht3.block l hlw2 (by omega))).trans (HF2.out o)
  have ff0 := f3 0
  have HF3 := Lib.hid f3
  have HM3 := Lib.hid (HM2.out.kept ht3.grown (by simpa using fun e => hbb e.symm))
  have HB3 := Lib.hid (HB2.out.trans (ht3.below (B := w0.heap.size) (by omega) HB2.out.size))
  have HO3 := Lib.hid ho3
  have HL3 := Lib.hid hl3
  have HC0 := Lib.hid c0
  have HC1 := Lib.hid c1
  clear f3 ho3 hl3 ht3 K2
  go_wp2_with fail
  go_ret
  have hln : (outV x.pl ps).length = N := by have h1 := HL3.out.1; have h2 : L'.length = N * 1 := HO3.out.1; omega
  refine ⟨rfl, D.del (.string (keyB x.pl)), .slice (some ⟨b, 0, none⟩) N cc, L', ?_, ?_, ?_, ?_, HL3.out, HM3.out.setCell (by show bm ≠ l; omega) _, ?_, H1.out.l0, H1.out.b0, ?_, HB3.out.setCell (p := ⟨l, 0, none⟩) H1.out.l0 _⟩
  · go_simp
  · rw [World.cell?_setCell_other _ _ _ _ (by intro e; injection e with e1 e2; omega)]
    exact HC1.out
  · intro o
    have := HF3.out o
    go_simp
  · rw [hln]
    exact World.ownsRow.kept HO3.out (grown_set w3 (p := ⟨l, 0, none⟩) rfl _) (.inr (by simpa [Value.ownBlock] using hnl))
  · intro p hpp
    by_cases he : p = x.pl
    · subst he
      rw [atKey_del_same, decide_eq_false (fun hc => (outV_mem.1 hc).2 rfl)]
    · rw [atKey_del_other (fun e => he (keyB_inj _ _ (Fits.of_place hpp) (Fits.of_place HP.out) (by injection e))), H1.out.key p hpp]
      congr 2
      exact decide_eq_decide.2 ⟨fun hc => outV_mem.2 ⟨hc, he⟩, fun hc => (outV_mem.1 hc).1⟩
  · intro b' hb'
    simp [Value.ownBlock] at hb'
    omega
end Go.Proofs.Ytegdpdafaimmoaa
