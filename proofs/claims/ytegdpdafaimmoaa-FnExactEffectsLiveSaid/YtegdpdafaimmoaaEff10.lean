/- The program takes one place out of a row of its own. -/
import Derived.Test.YtegdpdafaimmoaaEff9
namespace Go.Proofs.Ytegdpdafaimmoaa
open Go.Joins Go.ChangeShapes Go.WideShapes Go.ChangeAt Go.RowKit Go.Deep
set_option linter.unusedVariables false
set_option linter.unusedSimpArgs false

theorem zeroPl (w : World) : (zeroValue 37).run Try.prog w = .ok (.slice none 0 0) w := by kernel_rfl
/-- Places, each where it lay ahead of the call, of which L are the headers. -/
def LvP (w0 : World) (L : List Value) (ps : List (List Sl)) : Prop := L.length = ps.length ∧ ∀ (i : Nat) (p : List Sl), ps[i]? = some p → ∃ A c, L[i]? = some (.slice A p.length c) ∧ SlL w0 A p
theorem LvP.lies {w0 w : World} {base b c n : Nat} {L : List Value} {ps : List (List Sl)} (h : LvP w0 L ps) (hB : Below w0.heap.size w0 w) (ho : OwnP w base b c n L) : PsL w (some ⟨b, 0, none⟩) ps := fun h0 => by
  refine ⟨b, 0, rfl, (World.ownsRow.lt ho b rfl).2, fun i p hp => ?_⟩
  obtain ⟨A, c1, e, h1⟩ := h.2 i p hp
  have hn : L.length = n * 1 := ho.1
  have := (List.getElem?_eq_some_iff.1 e).1
  exact ⟨A, c1, by rw [Nat.zero_add, World.ownsRow.cellAt ho i (by omega)]; exact e, h1.below hB⟩
theorem LvP.append {w : World} {L M : List Value} {ps qs : List (List Sl)} (h : LvP w L ps) (k : LvP w M qs) : LvP w (L ++ M) (ps ++ qs) := by
  refine ⟨by rw [List.length_append, List.length_append, h.1, k.1], fun i zs hz => ?_⟩
  by_cases hi : i < ps.length
  · rw [List.getElem?_append_left hi] at hz
    obtain ⟨A, c, h1, h2⟩ := h.2 i zs hz
    exact ⟨A, c, by rw [List.getElem?_append_left (by rw [h.1]; exact hi)]; exact h1, h2⟩
  · rw [List.getElem?_append_right (by omega)] at hz
    obtain ⟨A, c, h1, h2⟩ := k.2 _ zs hz
    exact ⟨A, c, by rw [List.getElem?_append_right (by rw [h.1]; omega), h.1]; exact h1, h2⟩
theorem LvP.take {w : World} {L : List Value} {ps : List (List Sl)} (h : LvP w L ps) (k : Nat) : LvP w (L.take k) (ps.take k) :=
  ⟨by rw [List.length_take, List.length_take, h.1], fun i p hp => by
    rw [List.getElem?_take] at hp
    split at hp
    · rename_i hi
      obtain ⟨b, c, e, ho⟩ := h.2 i p hp
      exact ⟨b, c, by rw [List.getElem?_take, if_pos hi]; exact e, ho⟩
    · cases hp⟩
theorem LvP.drop {w : World} {L : List Value} {ps : List (List Sl)} (h : LvP w L ps) (k : Nat) : LvP w (L.drop k) (ps.drop k) :=
  ⟨by rw [List.length_drop, List.length_drop, h.1], fun i p hp => by
    rw [List.getElem?_drop] at hp
    obtain ⟨b, c, e, ho⟩ := h.2 _ p hp
    exact ⟨b, c, by rw [List.getElem?_drop]; exact e, ho⟩⟩
theorem OwnP.front {w : World} {base b c n m : Nat} {L : List Value} (h : OwnP w base b c n L) (hm : m ≤ n) : OwnP w base b c m (L.take m) := by
  have hl : L.length = n * 1 := h.1
  rcases h.2 with ⟨h', _⟩ | ⟨g, cap, cur, h', hb, hg, hn, hc, hs, ht⟩
  · simp at h'
  · simp only [Value.slice.injEq, Option.some.injEq, Addr.mk.injEq, and_true, true_and] at h'
    obtain ⟨rfl, rfl⟩ := h'
    refine ⟨by rw [List.length_take]; omega, .inr ⟨b, c, cur, rfl, hb, hg, Nat.le_trans hm hn, hc, hs, ?_⟩⟩
    rw [← ht, List.take_take, Nat.min_eq_left (by omega), Nat.mul_one]
set_option maxRecDepth 100000 in
set_option maxHeartbeats 2000000 in
theorem delete_any (w0 w : World) (b c N bs m c' : Nat) (A' : Option Addr) (L : List Value) (ps : List (List Sl)) (y : List Sl) (hB : Below w0.heap.size w0 w) (ho : OwnP w w0.heap.size b c (N + 1) L) (hL : LvP w0 L ps) (hd : ps.Nodup) (hm : y ∈ ps) (hsm : ∀ p ∈ ps, p.length ≤ maxLen) (hy : SlL w0 A' y) (hyl : y.length = m) (hml : m ≤ maxLen) (hn : N ≤ 10000) (hbs : w.cell? ⟨bs, 1, none⟩ = some (.slice A' m c')) (hne : bs ≠ b) :
    Calls Try.prog 57 #[.slice (some ⟨b, 0, none⟩) (N + 1 : Nat) c, .func (.func 58) #[] #[.pointer (some ⟨bs, 0, none⟩)]] w fun e w' => ∃ L', e = .returned (.slice (some ⟨b, 0, none⟩) N c) ∧ OwnP w' w0.heap.size b c N L' ∧ LvP w0 L' (outV y ps) ∧ Turn b (b + 1) w w' := by
  obtain ⟨j, hj1, hjl, hj2⟩ := posP_in (k := 0) hm hd
  rw [Nat.zero_add] at hj1
  have hl1 : L.length = (N + 1) * 1 := ho.1
  have hps : ps.length = N + 1 := by have := hL.1; omega
  have hjN : j ≤ N := by omega
  have k1 := goneAt_any (some ⟨b, 0, none⟩) A' c c' (N + 1) m bs ps y w (hL.lies hB ho) (hy.below hB) hps hyl (by omega) hsm hml hbs
  rw [hj1] at k1
  have hsl := World.block_lt_of_cell? w _ hbs
  have K1 := Lib.hid k1
  have HB := Lib.hid hB
  have HO := Lib.hid ho
  have HL := Lib.hid hL
  have HSM := Lib.hid hsm
  have HJ2 := Lib.hid hj2
  have HPS := Lib.hid hps
  have HL1 := Lib.hid (show L.length = N + 1 by omega)
  have hbw := (World.ownsRow.lt ho b rfl)
  have K0 := Lib.hid (fun A0 c0 (x : List Sl) wr (hbw : Below w0.heap.size w0 wr) (h1 : SlL w0 A0 x) h3 hb => gone_any A0 A' c0 c' x.length m bs x y wr (h1.below hbw) (hy.below hbw) rfl hyl h3 hml hb)
  have HBS := Lib.hid hbs
  have hcap := row_cap ho
  clear k1 hB ho hL hd hm hsm hy hyl hml hj2 hj1 hjl hps hl1 hbs
  go_enter Try.func57, Try.ntmps57
  go_wp2_with fail
  refine K1.out.mono ?_
  rintro e w1 ⟨rfl, hb⟩
  have HB1 := Lib.hid hb
  have hjn : ((j : Int) == -1) = false := by first | (simp; done) | (simp; omega)
  have hjn2 : decide ((j : Int) = -1) = false := by first | (simp; done) | (simp; omega)
  clear hb
  go_wp2_with fail
  go_loopw [5, 6] (fun i jx wr => ∃ (s : Nat) (M : List Value), j ≤ s ∧ s ≤ N ∧ i = .int .i64 s ∧ jx = .int .i64 (s + 1 : Nat) ∧ Hid (OwnP wr w0.heap.size b c (N + 1) M) ∧ Hid (∀ q, q < j → M[q]? = L[q]?) ∧ Hid (∀ q, j ≤ q → q < s → M[q]? = L[q + 1]?) ∧ Hid (∀ q, s < q → M[q]? = L[q]?) ∧ Hid (Turn b (b + 1) w wr)) (fun _ jx _ => N + 1 - (intOf jx).toNat)
  case atStart => exact ⟨j, L, Nat.le_refl _, hjN, rfl, by go_num, Lib.hid (ownsRow_below HO.out HB1.out), Lib.hid (fun _ _ => rfl), Lib.hid (fun q h1 h2 => absurd h2 (by omega)), Lib.hid (fun _ _ => rfl), Lib.hid (Turn.of_below HB1.out)⟩
  case round =>
    obtain ⟨s, M, hjs, hsN, rfl, rfl, HOM, HM1, HM2, HM3, HT⟩ := hrel
    have e1 := (HT.out.cell (k := bs) (o := 1) hsl (by omega)).trans HBS.out
    have hBw := HB.out.trans (HT.out.below (B := w0.heap.size) (by omega) HB.out.size)
    by_cases hlt : s < N
    · obtain ⟨x, hx⟩ := at_some (show s + 1 < ps.length by rw [HPS.out]; omega)
      obtain ⟨A0, c0, l0, hat⟩ := HL.out.2 _ x hx
      have hxl := HSM.out x (List.mem_of_getElem? hx)
      have hxy : ¬ x = y := by
        have h1 : x ∈ ps.take j ++ ps.drop (j + 1) := List.mem_append_right _ (List.mem_of_getElem? (i := s - j) (by rw [List.getElem?_drop, show j + 1 + (s - j) = s + 1 by omega]; exact hx))
        rw [HJ2.out] at h1
        unfold outV at h1
        simpa using (List.mem_filter.1 h1).2
      have e0 : wr.cell? ⟨b, s + 1, none⟩ = some (.slice A0 x.length c0) := (World.ownsRow.cellAt HOM.out (s + 1) (by have := HOM.out.1; omega)).trans ((HM3.out _ (by omega)).trans l0)
      have k2 := K0.out A0 c0 x wr hBw hat hxl e1
      rw [decide_eq_false hxy] at k2
      obtain ⟨u, hu⟩ : ∃ u, x.length = u := ⟨_, rfl⟩
      rw [hu] at k2 e0 l0
      have K2 := Lib.hid k2
      have hi1 : (0 : Int) ≤ ((s + 1 : Nat) : Int) := by omega
      have hi2 : ((s + 1 : Nat) : Int) < ((N + 1 : Nat) : Int) := by omega
      have hi3 : (0 : Int) ≤ (s : Int) := by omega
      have hi4 : (s : Int) < ((N + 1 : Nat) : Int) := by omega
      have HL0 := Lib.hid l0
      clear k2 hx hat hxl hxy hu hBw e1 l0
      go_wp2_with fail
      refine K2.out.mono ?_
      rintro e w2 ⟨rfl, hb⟩
      have hO2 := ownsRow_below HOM.out hb
      obtain ⟨uu0, dd0⟩ : ∃ u, w2.cell? ⟨b, s, none⟩ = some u := ⟨_, (World.ownsRow.cellAt hO2 s (by have := hO2.1; omega)).trans (List.getElem?_eq_getElem (show s < M.length by have := hO2.1; omega))⟩
      have ff0 := World.ownsRow.frozenAt hO2 s
      have HO2 := Lib.hid hO2
      have HT2 := Lib.hid (HT.out.trans (Turn.of_below hb))
      have HML := Lib.hid (show M.length = N + 1 by have := hO2.1; omega)
      clear hO2 hb e0
      go_wp2_with fail
      obtain ⟨s2, zz2⟩ := World.ownsRow.stored HO2.out s (.slice A0 u c0)
      go_roundw
      case rel => exact ⟨s + 1, _, by omega, by omega, by go_num, by go_num, Lib.hid s2, Lib.hid (fun q hq => by rw [List.getElem?_set_ne (by omega)]; exact HM1.out q hq), Lib.hid (fun q h1 h2 => by
        by_cases hq : q = s
        · subst hq
          rw [List.getElem?_set_self (by have := HML.out; omega)]
          exact HL0.out.symm
        · rw [List.getElem?_set_ne (by omega)]
          exact HM2.out q h1 (by omega)), Lib.hid (fun q hq => by rw [List.getElem?_set_ne (by omega)]; exact HM3.out q (by omega)), Lib.hid (HT2.out.trans (turn_set w2 ⟨b, s, none⟩ _))⟩
      case measure => simp [intOf]; omega
    · obtain rfl : s = N := by omega
      have hcl : ∀ ty, (Builtin.clear_ #[24] ty #[.slice (some ⟨b, s, none⟩) 1 (c - s)]).run Try.prog wr = .ok (.tuple #[]) (wr.setCells b s (List.replicate 1 (.slice none 0 0))) :=
        fun ty => Lib.run_clear_slice wr _ _ ty _ Try.underlying24 zeroPl rfl rfl b s 1 (c - s) (by omega) (fun q hq => by
          rw [World.ownsRow.cellAt HOM.out (s + q) (by have := HOM.out.1; omega), List.getElem?_eq_getElem (by have := HOM.out.1; omega)]; rfl) (fun q hq => World.ownsRow.frozenAt HOM.out (s + q))
      have hcs : ¬ c = s := by omega
      clear e1 hBw
      go_wp2_with (simp only [hcl])
      have hset : wr.setCells b s [.slice none 0 0] = wr.setCell ⟨b, s, none⟩ (.slice none 0 0) := by first | rfl | simp [World.setCells]
      rw [hset]
      obtain ⟨s2, zz2⟩ := World.ownsRow.stored HOM.out s (.slice none 0 0)
      have hMl : M.length = s + 1 := by have h : M.length = (s + 1) * 1 := HOM.out.1; omega
      have hLe : (M.set s (.slice none 0 0)).take s = L.take j ++ L.drop (j + 1) := by
        apply List.ext_getElem?
        intro q
        rw [List.getElem?_take]
        by_cases hq : q < s
        · rw [if_pos hq, List.getElem?_set_ne (by omega)]
          by_cases hqj : q < j
          · rw [List.getElem?_append_left (by rw [List.length_take, HL1.out]; omega), List.getElem?_take, if_pos hqj]
            exact HM1.out q hqj
          · rw [List.getElem?_append_right (by rw [List.length_take, HL1.out]; omega), List.length_take, HL1.out, List.getElem?_drop, show j + 1 + (q - min j (s + 1)) = q + 1 by omega]
            exact HM2.out q (by omega) hq
        · rw [if_neg hq, List.getElem?_eq_none (by rw [List.length_append, List.length_take, List.length_drop, HL1.out]; omega)]
      go_ret
      refine ⟨_, rfl, OwnP.front s2 (by omega), ?_, HT.out.trans (turn_set wr ⟨b, s, none⟩ _)⟩
      rw [hLe, ← HJ2.out]
      exact (HL.out.take j).append (HL.out.drop (j + 1))
end Go.Proofs.Ytegdpdafaimmoaa
