/- A store's cells by the keys of their places: a map. -/
import Derived.Test.YtfdejmdhcjfboaaKey4
import Derived.Deep.RegionHeld3
import Derived.Maps.Own
import Derived.Maps.OwnSet
namespace Go.Proofs.Ytfdejmdhcjfboaa
open Go.Joins Go.ChangeShapes Go.WideShapes Go.ChangeAt Go.RowKit Go.Deep Go.Maps Go.Sort Go.Shelf
set_option linter.unusedVariables false
set_option linter.unusedSimpArgs false

set_option maxRecDepth 100000 in
/-- A map's write, as a step of a region that draws its order. -/
theorem step_mapUpdate {H : Type} {w : World} {ops : Array Oper} {o : Oper} {a : Act} {K : Act → World → Prop} {Q : Exit → Act → World → Prop} {E : Prop} (hgd : o.guard = none) (m x v : Operand) (t k e : TypeId) (ho : o.op = Op.mapUpdate t m x v)
    (L : Keyed Try.prog k) (ht : Try.prog.underlying t = some (.map k e)) (R : Value → Option (DataW H × List MemPlace)) (b n : Nat) (D : DataW H) (hm : a.eval m = .map (some b)) (hown : w.ownsMap Try.prog k R b n D) (hn : n < maxLen)
    (key val : Value) (kl : Lit) (hx : a.eval x = key) (hv : a.eval v = val) (hkey : keyOf Try.prog k key = some kl) (d : DataW H) (ps : List MemPlace) (hval : R val = some (d, ps))
    (h : ∀ w', w'.ownsMap Try.prog k R b (n + 1) (D.put kl d) → w.grownBy w' (some b) → K (a.put o.dst undef) w') :
    if Region.wanted o (yielded ops a.tmps) = true then Oper.wp Try.prog o a w K Q else E := by
  have hw : Region.wanted o (yielded ops a.tmps) = true := by simp [Region.wanted, hgd]
  rw [if_pos hw]
  obtain ⟨w', hrun, r1, r2⟩ := hown.update L ht hn hkey hval
  unfold Oper.wp
  simp [execOp, ho, hm, hx, hv, hrun, Result.andThen]
  exact h w' r1 r2
/-- A value read as itself. -/
def RV (v : Value) : Option (DataW Value × List MemPlace) := some (.held v, [])
/-- A cell under its key, and what it leads to. -/
def CellV (w : World) (D : DataW Value) (x : Ce) : Prop :=
  ∃ b0 o0 c0 b1 o1 c1, (∀ z, D.atKey (.string (keyB x.pl)) z = .held (.agg #[.slice (some ⟨b0, o0, none⟩) x.pl.length c0, .slice (some ⟨b1, o1, none⟩) x.st.length c1])) ∧ SlL w (some ⟨b0, o0, none⟩) x.pl ∧ VaL w (some ⟨b1, o1, none⟩) x.st
theorem CellV.below {w w' : World} {D : DataW Value} {x : Ce} (h : CellV w D x) (hb : Below w.heap.size w w') : CellV w' D x := by
  obtain ⟨b0, o0, c0, b1, o1, c1, h0, h1, h2⟩ := h
  exact ⟨b0, o0, c0, b1, o1, c1, h0, h1.below hb, h2.below hb⟩
theorem CellV.put {w : World} {D : DataW Value} {x : Ce} {t : List UInt8} {d : DataW Value} (h : CellV w D x) (hne : keyB x.pl ≠ t) : CellV w (D.put (.string t) d) x := by
  obtain ⟨b0, o0, c0, b1, o1, c1, h0, h1, h2⟩ := h
  refine ⟨b0, o0, c0, b1, o1, c1, fun z => ?_, h1, h2⟩
  rw [atKey_put_other (by intro e; injection e with e; exact hne e), h0]
/-- A map of cells by their keys. -/
def MapX (xs : List Ce) (w : World) (e : Ending) (w' : World) : Prop :=
  ∃ b n D, e = .returned (.map (some b)) ∧ w.heap.size ≤ b ∧ n = xs.length ∧ w'.ownsMap Try.prog 9 RV b n D ∧ (∀ t, has D (.string t) = xs.any fun x => decide (keyB x.pl = t)) ∧ (∀ x ∈ xs, CellV w D x) ∧ Below w.heap.size w w'
theorem key_ne {xs : List Ce} (h : runS none xs = true) {i k : Nat} {y x : Ce} (hi : xs[i]? = some y) (hk : xs[k]? = some x) (hlt : i < k) : keyB y.pl ≠ keyB x.pl := by
  intro e
  obtain ⟨h1, h2, _⟩ := at_of xs none h i y hi
  obtain ⟨h3, h4, _⟩ := at_of xs none h k x hk
  rw [keyB_inj _ _ (Fits.of_place h2) (Fits.of_place h4) e, h3] at h1
  omega
theorem key_lit (t : List UInt8) (h : t.length ≤ 1000000) : keyOf Try.prog 9 (.string ⟨t.toArray⟩) = some (.string t) := by
  have hs : (⟨t.toArray⟩ : ByteArray).size ≤ maxLen := by show t.toArray.size ≤ _; unfold maxLen; simp; omega
  simp [keyOf, mapKey, Try.underlying9, hs]

set_option maxRecDepth 100000 in
set_option maxHeartbeats 2000000 in
theorem cellsByKey_any (A : Option Addr) (c n : Nat) (xs : List Ce) (w : World) (hx : CeN w A xs) (hn : xs.length = n) (hl : n ≤ 1000) (hr : runS none xs = true) :
    Calls Try.prog 82 #[.slice A n c] w (MapX xs w) := by
  have HN := Lib.hid hn
  have HX := Lib.hid hx
  have HR := Lib.hid hr
  have HO := Lib.hid (World.ownsMap_made w Try.prog 9 RV)
  have HB0 := Lib.hid (Below.alloc (Below.refl w.heap.size w) (Nat.le_refl _) (.map #[] 0))
  clear hx hn hr
  have hmm := @run_makeMap Try.prog
  go_enter Try.func82, Try.ntmps82
  go_wp2_with fail
  clear hmm
  go_loopw [9] (fun i wr => ∃ (k : Nat) (D : DataW Value), k ≤ n ∧ i = .int .i64 k ∧ Hid (wr.ownsMap Try.prog 9 RV w.heap.size k D) ∧ Hid (Below w.heap.size w wr) ∧ Hid (∀ t, has D (.string t) = (xs.take k).any fun x => decide (keyB x.pl = t)) ∧ Hid (∀ i x, i < k → xs[i]? = some x → CellV w D x)) (fun i _ => n - (intOf i).toNat)
  case atStart => exact ⟨0, .map [], by omega, rfl, HO, HB0, Lib.hid (fun t => rfl), Lib.hid (fun i x hi => by omega)⟩
  case round =>
    obtain ⟨k, D, hk, rfl, HO, HB, HD, HC⟩ := hrel
    by_cases hlt : k < n
    · obtain ⟨x, hx⟩ := at_some (show k < xs.length by rw [HN.out]; exact hlt)
      obtain ⟨b, off, rfl, hblt, hcell⟩ := HX.out (by have := HN.out; omega)
      obtain ⟨b0, o0, c0, b1, o1, c1, hat⟩ := hcell k x hx
      have e0 := (HB.out.cell (p := ⟨b, off + k * 2, none⟩) hblt).trans hat.e0
      have e1 := (HB.out.cell (p := ⟨b, off + k * 2 + 1, none⟩) hblt).trans hat.e1
      have HXK := Lib.hid hx
      have hz := HB.out.size
      have hbl := HO.out.lt
      have hpk := (at_of xs none HR.out k x hx).2.1
      have hfit := Fits.of_place hpk
      have hp20 := place_len hpk
      have hi1 : (0 : Int) ≤ (k : Int) := by omega
      have hi2 : (k : Int) < (n : Int) := by omega
      have hba := Below.alloc (Below.refl wr.heap.size wr) (Nat.le_refl _) (.cells #[.slice (some ⟨b0, o0, none⟩) x.pl.length c0, .slice (some ⟨b1, o1, none⟩) x.st.length c1] 60)
      have KY := Lib.hid (keyOf_any (some ⟨b0, o0, none⟩) c0 _ x.pl _ (hat.pl.below (show Below w.heap.size w (wr.alloc (.cells #[.slice (some ⟨b0, o0, none⟩) x.pl.length c0, .slice (some ⟨b1, o1, none⟩) x.st.length c1] 60)).drew from (HB.out.alloc hz _).drew)) rfl (by omega) hfit)
      have HAT := Lib.hid hat
      have HOd := Lib.hid (show (wr.alloc (.cells #[.slice (some ⟨b0, o0, none⟩) x.pl.length c0, .slice (some ⟨b1, o1, none⟩) x.st.length c1] 60)).drew.ownsMap Try.prog 9 RV w.heap.size k D from (HO.out.alloc _).drew)
      have HBd := Lib.hid (show Below w.heap.size w (wr.alloc (.cells #[.slice (some ⟨b0, o0, none⟩) x.pl.length c0, .slice (some ⟨b1, o1, none⟩) x.st.length c1] 60)).drew from (HB.out.alloc hz _).drew)
      clear hcell hx hat hba hfit hpk
      have hbo := hblt
      go_wp2_with fail
      refine wp_region_held_drew (S := fun w' => w'.cell? ⟨wr.heap.size, 0, none⟩ = some (.slice (some ⟨b0, o0, none⟩) x.pl.length c0) ∧ w'.cell? ⟨wr.heap.size, 1, none⟩ = some (.slice (some ⟨b1, o1, none⟩) x.st.length c1)) (by kernel_rfl) ?_ (fun hHeld => ?_)
      · exact ⟨by go_simp, by go_simp⟩
      obtain ⟨wd, hwd⟩ : ∃ wd, (wr.alloc (.cells #[.slice (some ⟨b0, o0, none⟩) x.pl.length c0, .slice (some ⟨b1, o1, none⟩) x.st.length c1] 60)).drew = wd := ⟨_, rfl⟩
      have hzd : wd.heap.size = wr.heap.size + 1 := by subst hwd; simp
      rw [hwd] at HOd HBd hHeld KY
      rw [hwd]
      clear hwd
      refine wpAnyH_take (i := 0) (oi := _) (v := ?_) rfl (by kernel_rfl) (by kernel_rfl) (by kernel_rfl) (fun _ _ _ h => h) (Or.inl ⟨by kernel_rfl, ?_⟩) (by assumption) ?_
      rotate_left
      · (intro w hSw; (try dsimp only at hSw); go_simp)
        try with_reducible rfl
      (try simp only [Act.put, List.getElem_toArray, List.getElem_cons_zero, List.getElem_cons_succ, List.setIfInBounds_toArray, List.set_cons_zero, List.set_cons_succ])
      refine wpAnyH_take (i := 1) (oi := _) (v := ?_) rfl (by kernel_rfl) (by kernel_rfl) (by kernel_rfl) (fun _ _ _ h => h) (Or.inl ⟨by kernel_rfl, ?_⟩) (by assumption) ?_
      rotate_left
      · (intro w hSw; (try dsimp only at hSw); go_simp)
        try with_reducible rfl
      (try simp only [Act.put, List.getElem_toArray, List.getElem_cons_zero, List.getElem_cons_succ, List.setIfInBounds_toArray, List.set_cons_zero, List.set_cons_succ])
      refine wpAnyH_take (i := 2) (oi := _) (v := ?_) rfl (by kernel_rfl) (by kernel_rfl) (by kernel_rfl) (fun _ _ _ h => h) (Or.inl ⟨by kernel_rfl, ?_⟩) (by assumption) ?_
      rotate_left
      · (intro w hSw; (try dsimp only at hSw); go_simp)
        try with_reducible rfl
      (try simp only [Act.put, List.getElem_toArray, List.getElem_cons_zero, List.getElem_cons_succ, List.setIfInBounds_toArray, List.set_cons_zero, List.set_cons_succ])
      refine wpAnyH_take (i := 4) (oi := _) (v := ?_) rfl (by kernel_rfl) (by kernel_rfl) (by kernel_rfl) (fun _ _ _ h => h) (Or.inl ⟨by kernel_rfl, ?_⟩) (by assumption) ?_
      rotate_left
      · (intro w hSw; (try dsimp only at hSw); go_simp)
        try with_reducible rfl
      (try simp only [Act.put, List.getElem_toArray, List.getElem_cons_zero, List.getElem_cons_succ, List.setIfInBounds_toArray, List.set_cons_zero, List.set_cons_succ])
      refine wpAnyH_ready (rs := [3]) (by kernel_rfl) (by simp) ?_
      refine AllReadyH.cons (o := _) rfl (fun K hK => ?_) AllReadyH.nil
      go_simp
      refine KY.out.mono ?_
      rintro e w4 ⟨rfl, hb⟩
      refine hK.out _ _ ?_ (fun hHeld2 => ?_)
      · exact ⟨(hb.cell (p := ⟨wr.heap.size, 0, none⟩) (by show wr.heap.size < _; omega)).trans hHeld.1, (hb.cell (p := ⟨wr.heap.size, 1, none⟩) (by show wr.heap.size < _; omega)).trans hHeld.2⟩
      have HO4 := Lib.hid (HOd.out.kept (Below.keeps hb) (by simp))
      have HB4 := Lib.hid (HBd.out.trans (hb.mono HBd.out.size))
      have hz4 := hb.size
      clear hK K hb hHeld KY
      (try simp only [Act.put, List.getElem_toArray, List.getElem_cons_zero, List.getElem_cons_succ, List.setIfInBounds_toArray, List.set_cons_zero, List.set_cons_succ])
      refine wpAnyH_ready (rs := [5]) (by kernel_rfl) (by simp) ?_
      refine AllReadyH.cons (o := _) rfl (fun K hK => ?_) AllReadyH.nil
      refine step_mapUpdate (by rfl) (.tmp 13) (.tmp 16) (.tmp 17) 98 9 60 (by rfl) lawS Try.underlying98 RV w.heap.size k D (by rfl) HO4.out (by unfold maxLen; omega) _ _ (.string (keyB x.pl)) (by rfl) (by rfl) (key_lit _ (by rw [keyB_len]; omega)) (.held (.agg #[.slice (some ⟨b0, o0, none⟩) x.pl.length c0, .slice (some ⟨b1, o1, none⟩) x.st.length c1])) [] (by rfl) ?_
      intro w5 ho hgr
      refine hK.out _ _ ?_ (fun hHeld5 => ?_)
      · exact ⟨(World.cell?_of_block (a := ⟨wr.heap.size, 0, none⟩) (hgr.block _ (by show wr.heap.size < _; omega) (by simp; omega))).trans hHeld2.1, (World.cell?_of_block (a := ⟨wr.heap.size, 1, none⟩) (hgr.block _ (by show wr.heap.size < _; omega) (by simp; omega))).trans hHeld2.2⟩
      have HO5 := Lib.hid ho
      have HB5 := Lib.hid (HB4.out.grown hgr HB4.out.size (fun k hk => by injection hk with hk; omega))
      clear hK K ho hgr hHeld2 hHeld5
      (try simp only [Act.put, List.getElem_toArray, List.getElem_cons_zero, List.getElem_cons_succ, List.setIfInBounds_toArray, List.set_cons_zero, List.set_cons_succ])
      refine wpAnyH_done (by kernel_rfl) ?_ _
      go_wp2_with fail
      go_roundw
      case rel =>
        refine ⟨k + 1, _, by omega, by go_num, HO5, HB5, Lib.hid (fun t => ?_), Lib.hid (fun i y hi hy => ?_)⟩
        · have ht : (xs.take (k + 1)).any (fun x => decide (keyB x.pl = t)) = ((xs.take k).any (fun x => decide (keyB x.pl = t)) || decide (keyB x.pl = t)) := by
            rw [List.take_succ_eq_append_getElem (by rw [HN.out]; exact hlt), List.any_append, (List.getElem?_eq_some_iff.1 HXK.out).2]
            simp
          rw [ht, ← HD.out t]
          by_cases he : keyB x.pl = t
          · subst he
            rw [has_put_same HO4.out.isMap (lawS.key (key_lit (keyB x.pl) (by rw [keyB_len]; omega)))]
            simp
          · rw [has_put_other (by intro e; injection e with e; exact he e.symm)]
            simp [he]
        · rcases (by omega : i < k ∨ i = k) with hik | rfl
          · exact (HC.out i y hik hy).put (key_ne HR.out hy HXK.out hik)
          · have hyx : y = x := Option.some.inj (hy.symm.trans HXK.out)
            subst hyx
            exact ⟨b0, o0, c0, b1, o1, c1, fun z => atKey_put_same HO4.out.isMap (lawS.key (key_lit (keyB y.pl) (by rw [keyB_len]; omega))) _ z, HAT.out.pl, HAT.out.st⟩
      case measure => simp [intOf]; omega
    · obtain rfl : k = n := by omega
      go_wp2_with fail
      go_ret
      exact ⟨w.heap.size, k, D, rfl, Nat.le_refl _, HN.out.symm, HO.out, fun t => by rw [HD.out t, List.take_of_length_le (by rw [HN.out]; exact Nat.le_refl _)], fun x hx => by
        obtain ⟨i, hi⟩ := List.getElem?_of_mem hx
        exact HC.out i x (by rw [← HN.out]; exact (List.getElem?_eq_some_iff.1 hi).1) hi, HB.out⟩
end Go.Proofs.Ytfdejmdhcjfboaa
