/- An effect that puts a place there, at the program. -/
import Derived.Test.YtegdpdafaimmoaaEff12
import Derived.Maps.Own
import Derived.Maps.OwnSet
namespace Go.Proofs.Ytegdpdafaimmoaa
open Go.Joins Go.ChangeShapes Go.WideShapes Go.ChangeAt Go.RowKit Go.Deep Go.Maps Go.Sort
set_option linter.unusedVariables false
set_option linter.unusedSimpArgs false

/-- An append onto nothing, as a step of a region that draws its order. -/
theorem step_append_one {w : World} {ops : Array Oper} {o : Oper} {a : Act} {K : Act → World → Prop} {Q : Exit → Act → World → Prop} {E : Prop} (hgd : o.guard = none) (s x : Operand) 
    (ho : o.op = .call { callee := .builtin .append, args := #[s, x], argTypes := #[24, 24] })
    (base n : Nat) (v : Value) (L : List Value) (hs : a.eval s = v) (hown : w.ownsRow base 37 1 v n L)
    (ad : Addr) (c2 m : Nat) (news : List Value) (hx : a.eval x = .slice (some ad) m c2) (hl : news.length = m * 1) (hcells : ∀ j u, news[j]? = some u → w.cell? (ad.add j) = some u) (h1 : ∀ u ∈ news, u.oneCell' = true)
    (hm : n + m ≤ 100000) (hm0 : 0 < m) (hbase : base ≤ w.heap.size)
    (h : ∀ b' c' w', OwnP w' base b' c' (n + m) (L ++ news) → w.grownBy w' v.ownBlock → (some b' = v.ownBlock ∨ b' = w.heap.size) → K (a.put o.dst (.slice (some ⟨b', 0, none⟩) (n + m) c')) w') :
    if Region.wanted o (yielded ops a.tmps) = true then Oper.wp Try.prog o a w K Q else E := by
  have hw : Region.wanted o (yielded ops a.tmps) = true := by simp [Region.wanted, hgd]
  rw [if_pos hw]
  obtain ⟨i0, hi0, hz0, hz1, hz2⟩ := info_parts infoPl
  obtain ⟨v', w', hr, hown', hg, _, hat⟩ := run_append_own_at (P := Try.prog) w base 24 o.type 37 i0 _ 1 24 Try.underlying24 hi0 hz0 hz1 hz2 rfl (by omega) _ n L hown ad m c2 news hl hcells h1 (by simp only [maxLen]; omega) (by omega) hbase
  unfold Oper.wp execOp
  simp only [ho, resolve, invoke, builtin, Sem.run_bind, Sem.run_pure, Result.andThen_ok, List.map_toArray, List.map_cons, List.map_nil, hs, hx, hr]
  have hform : ∃ b' c', v' = .slice (some ⟨b', 0, none⟩) (n + m) c' := by
    rcases hown'.2 with ⟨rfl, h0⟩ | ⟨g', cap', cur, rfl, _⟩
    · omega
    · exact ⟨g', cap', rfl⟩
  obtain ⟨b', c', rfl⟩ := hform
  exact h b' c' w' hown' hg (by simpa [Value.ownBlock] using hat)

set_option maxRecDepth 100000 in
set_option maxHeartbeats 2000000 in
theorem take_new (w0 w : World) (l bm n c u K : Nat) (ad : Addr) (D : DataW Value) (V : Value) (L : List Value) (ps : List (List Sl)) (x : Ef) (h : LivS w0 w l bm n D V L ps) (hx : SlL w0 (some ad) x.pl) (hu : x.pl.length = u) (hp : placeB x.pl = true) (hk : LvOk K ps) (hK : K ≤ 400) (hn : n ≤ 1000) (hm : x.pl ∉ ps) :
    Calls Try.prog 36 #[.pointer (some ⟨l, 0, none⟩), .agg #[.int .i64 1, .slice (some ad) u c]] w fun e w' => e = .returned (.bool true) ∧ ∃ D' V' L', LivS w0 w' l bm (n + 1) D' V' L' (ps ++ [x.pl]) := by
  have hlen := placeB_len hp
  have hkl := keyB_len x.pl
  have hlit := key_lit (keyB x.pl) (by omega)
  have hkey := h.key x.pl hp
  rw [decide_eq_false hm] at hkey
  obtain ⟨m, hmm⟩ : ∃ m, ps.length = m := ⟨_, rfl⟩
  obtain ⟨A, cA, rfl⟩ : ∃ A cA, V = .slice A m cA := by
    rcases h.row.2 with ⟨h1, h0⟩ | ⟨g, cap, cur, h0, _⟩
    · exact ⟨none, 0, by rw [h1, ← hmm, h0]⟩
    · exact ⟨_, cap, by rw [h0, hmm]⟩
  have hrow0 := h.row
  rw [hmm] at hrow0
  have hm400 : m ≤ 400 := by have := hk.2.1; omega
  have HNB := Lib.hid (fun kk (hkk : (Value.slice A m cA).ownBlock = some kk) => (World.ownsRow.lt hrow0 kk hkk).1)
  have HNS := Lib.hid (show (Value.slice A m cA).ownBlock ≠ some w.heap.size from fun e => by have := (World.ownsRow.lt hrow0 _ e).2; omega)
  have HNM := Lib.hid (show (Value.slice A m cA).ownBlock ≠ some bm from fun e => by
    obtain ⟨es, clock, hb, _⟩ := h.mp
    rcases h.row.2 with ⟨h1, h0⟩ | ⟨g, cap, cur, h0, _, hg, _⟩
    · rw [h1] at e; simp [Value.ownBlock] at e
    · rw [h0] at e
      simp [Value.ownBlock] at e
      subst e
      rw [hb] at hg
      cases hg)
  have HNL := Lib.hid h.nl
  have HP := Lib.hid hp
  have HX0 := Lib.hid hx
  have HU0 := Lib.hid hu
  have HMM := Lib.hid hmm
  have k1 := fun w (hb : Below w0.heap.size w0 w) => keyOf_any (some ad) c u x.pl w (hx.below hb) hu (by omega) (Fits.of_place hp)
  have K1 := Lib.hid k1
  have HL := Lib.hid h
  have HLIT := Lib.hid hlit
  have HKEY := Lib.hid hkey
  have hl := World.block_lt_of_cell? w _ h.c0
  have hb0 := Below.alloc (Below.refl w.heap.size w) (Nat.le_refl _) (.cells #[.int .i64 1, .slice (some ad) u c] 55)
  have HA := Lib.hid (h.below hb0)
  have HB0 := Lib.hid hb0
  have a0 : (w.alloc (.cells #[.int .i64 1, .slice (some ad) u c] 55)).cell? ⟨w.heap.size, 0, none⟩ = some (.int .i64 1) := by rw [World.cell?_alloc_new]; rfl
  have a1 : (w.alloc (.cells #[.int .i64 1, .slice (some ad) u c] 55)).cell? ⟨w.heap.size, 1, none⟩ = some (.slice (some ad) u c) := by rw [World.cell?_alloc_new]; rfl
  obtain ⟨wa, hwa⟩ : ∃ v, w.alloc (.cells #[.int .i64 1, .slice (some ad) u c] 55) = v := ⟨_, rfl⟩
  have hza : w.heap.size < wa.heap.size := by rw [← hwa]; simp
  rw [hwa] at HA HB0 a0 a1
  clear h hx hu hp k1 hlit hkey hlen hkl hb0
  go_enter Try.func36, Try.ntmps36
  go_wp2_with fail
  (try rw [hwa])
  clear hwa
  refine (K1.out wa HA.out.hb).mono ?_
  rintro e w1 ⟨rfl, hb⟩
  replace a0 := (hb.cell (p := ⟨w.heap.size, 0, none⟩) hza).trans a0
  replace a1 := (hb.cell (p := ⟨w.heap.size, 1, none⟩) hza).trans a1
  have H1 := Lib.hid (HA.out.below hb)
  have HB1 := Lib.hid (more HB0.out (Nat.le_refl _) hb)
  have c0 := H1.out.c0
  have c1 := H1.out.c1
  have hz0 := Try.zeroValue4 w1
  obtain ⟨v0, pp, hrun, hv⟩ := H1.out.mp.lookup lawS Try.underlying58 hz0 (R := RV) rfl HLIT.out
  rw [HKEY.out] at hv
  have hv0 : v0 = .bool false := by
    have h : (some (DataW.held v0, ([] : List MemPlace)) : Option (DataW Value × List MemPlace)) = some (.held (.bool false), pp) := hv
    injection h with h
    injection h with h h'
    injection h
  subst hv0
  clear hv hz0 hb
  have HL1 := H1
  have hlb := cell_ne H1.out.mp c0
  have hmb := H1.out.mp.lt
  have hR1 : w1.ownsRow w0.heap.size 37 1 (.slice A m cA) m L := by have h5 := H1.out.row; rw [HMM.out] at h5; exact h5
  have HR1 := Lib.hid hR1
  have hsb : w.heap.size ≠ bm := cell_ne H1.out.mp a0
  have hs1 := World.block_lt_of_cell? w1 _ a0
  have hl1 := World.block_lt_of_cell? w1 _ c0
  clear hR1 hrow0 hm hk hmm
  go_wp2_with (at_mapUpdate; (refine wpList_mapUpdate_own _ rfl _ _ _ 58 rfl 9 4 lawS Try.underlying58 RV bm n D rfl H1.out.mp (by unfold maxLen; omega) _ _ (.string (keyB x.pl)) rfl rfl HLIT.out (.held (.bool true)) [] rfl ?_; intro w2 ho2 hg; replace a0 := (World.cell?_of_block (a := ⟨w.heap.size, 0, none⟩) (hg.block w.heap.size hs1 (by simpa using hsb))).trans a0; replace a1 := (World.cell?_of_block (a := ⟨w.heap.size, 1, none⟩) (hg.block w.heap.size hs1 (by simpa using hsb))).trans a1; replace c0 := (World.cell?_of_block (a := ⟨l, 0, none⟩) (hg.block l hl1 (by simpa using hlb))).trans c0; replace c1 := (World.cell?_of_block (a := ⟨l, 1, none⟩) (hg.block l hl1 (by simpa using hlb))).trans c1; have HF2 := Lib.hid (fun o => (World.frozen?_of_block (a := ⟨l, o, none⟩) (hg.block l hl1 (by simpa using hlb))).trans (H1.out.fz o)); have HR2 := Lib.hid (World.ownsRow.kept HR1.out hg (.inr HNM.out)); have HM2 := Lib.hid ho2; have HB2 := Lib.hid (H1.out.hb.grown hg H1.out.hb.size (fun kk hkk => by injection hkk with hkk; have := H1.out.b0; omega)); have hs2 := Nat.lt_of_lt_of_le hs1 hg.size; have hl2 := Nat.lt_of_lt_of_le hl1 hg.size; clear ho2 hg))
  obtain ⟨wd, hwd⟩ : ∃ wd, w2.drew = wd := ⟨_, rfl⟩
  have hbd : Below w2.heap.size w2 wd := by rw [← hwd]; exact Below.drew (Below.refl _ _)
  have hsd : w.heap.size < wd.heap.size := Nat.lt_of_lt_of_le hs2 hbd.size
  have hld : l < wd.heap.size := Nat.lt_of_lt_of_le hl2 hbd.size
  have hd0 := (hbd.cell (p := ⟨l, 0, none⟩) hl2).trans c0
  have HC1D := Lib.hid ((hbd.cell (p := ⟨l, 1, none⟩) hl2).trans c1)
  have ha1 := (hbd.cell (p := ⟨w.heap.size, 1, none⟩) hs2).trans a1
  have HFD := Lib.hid (fun o => (hbd.frozen (p := ⟨l, o, none⟩) hl2).trans (HF2.out o))
  have HRD := Lib.hid (ownsRow_below HR2.out hbd)
  have HMD := Lib.hid (HM2.out.kept (grown_of_below hbd none) (by simp))
  have HBD := Lib.hid (more HB2.out (Nat.le_refl _) hbd)
  clear hbd c0 c1 a0 a1
  refine wp_region_held_drew (S := fun w' => w'.cell? ⟨w.heap.size, 1, none⟩ = some (.slice (some ad) u c) ∧ ∃ v, w'.cell? ⟨l, 0, none⟩ = some v) (by kernel_rfl) ?_ (fun hHeld => ?_)
  · rw [hwd]; exact ⟨ha1, _, hd0⟩
  rw [hwd] at hHeld ⊢
  clear hwd ha1
  refine wpAnyH_take (i := 0) (oi := _) (v := ?_) rfl (by kernel_rfl) (by kernel_rfl) (by kernel_rfl) (fun _ _ _ h => h) (Or.inl ⟨by kernel_rfl, ?_⟩) (by assumption) ?_
  rotate_left
  · (intro w hSw; (try dsimp only at hSw); go_simp)
    try with_reducible rfl
  (try simp only [Act.put, List.getElem_toArray, List.getElem_cons_zero, List.getElem_cons_succ, List.setIfInBounds_toArray, List.set_cons_zero, List.set_cons_succ])
  refine wpAnyH_take (i := 1) (oi := _) (v := ?_) rfl (by kernel_rfl) (by kernel_rfl) (by kernel_rfl) (fun _ _ _ h => h) (Or.inl ⟨by kernel_rfl, ?_⟩) (by assumption) ?_
  rotate_left
  · (intro w hSw; (try dsimp only at hSw); go_simp)
    try with_reducible rfl
  (try simp only [Act.put, List.getElem_toArray, List.getElem_cons_zero, List.getElem_cons_succ, List.setIfInBounds_toArray, List.set_cons_zero, List.set_cons_succ])
  refine wpAnyH_take (i := 2) (oi := _) (v := ?_) rfl (by kernel_rfl) (by kernel_rfl) (by kernel_rfl) (fun _ _ _ h => h) (Or.inl ⟨by kernel_rfl, ?_⟩) (by assumption) ?_
  rotate_left
  · (intro w hSw; (try dsimp only at hSw); go_simp)
    try with_reducible rfl
  (try simp only [Act.put, List.getElem_toArray, List.getElem_cons_zero, List.getElem_cons_succ, List.setIfInBounds_toArray, List.set_cons_zero, List.set_cons_succ])
  refine wpAnyH_take (i := 3) (oi := _) (v := ?_) rfl (by kernel_rfl) (by kernel_rfl) (by kernel_rfl) (fun _ _ _ h => h) (Or.inl ⟨by kernel_rfl, ?_⟩) (by assumption) ?_
  rotate_left
  · (intro w hSw; (try dsimp only at hSw); go_simp)
    try with_reducible rfl
  (try simp only [Act.put, List.getElem_toArray, List.getElem_cons_zero, List.getElem_cons_succ, List.setIfInBounds_toArray, List.set_cons_zero, List.set_cons_succ])
  refine wpAnyH_take (i := 5) (oi := _) (v := ?_) rfl (by kernel_rfl) (by kernel_rfl) (by kernel_rfl) (fun _ _ _ h => h) (Or.inl ⟨by kernel_rfl, ?_⟩) (by assumption) ?_
  rotate_left
  · (intro w hSw; (try dsimp only at hSw); go_simp)
    try with_reducible rfl
  (try simp only [Act.put, List.getElem_toArray, List.getElem_cons_zero, List.getElem_cons_succ, List.setIfInBounds_toArray, List.set_cons_zero, List.set_cons_succ])
  refine wpAnyH_take (i := 6) (oi := _) (v := ?_) rfl (by kernel_rfl) (by kernel_rfl) (by kernel_rfl) (fun _ _ _ h => h) (Or.inl ⟨by kernel_rfl, ?_⟩) (by assumption) ?_
  rotate_left
  · (intro w hSw; (try dsimp only at hSw); go_simp)
    try with_reducible rfl
  (try simp only [Act.put, List.getElem_toArray, List.getElem_cons_zero, List.getElem_cons_succ, List.setIfInBounds_toArray, List.set_cons_zero, List.set_cons_succ])
  refine wpAnyH_ready (rs := [4, 7]) (by kernel_rfl) (by simp) ?_
  refine AllReadyH.cons (o := _) rfl (fun K hK => ?_) ?_
  · skip
    go_simp
    refine hK.out _ _ hHeld (fun hHeld2 => ?_)
    clear hK K hHeld
    have hHeld := hHeld2
    clear hHeld2
    (try simp only [Act.put, List.getElem_toArray, List.getElem_cons_zero, List.getElem_cons_succ, List.setIfInBounds_toArray, List.set_cons_zero, List.set_cons_succ])
    refine wpAnyH_ready (rs := [7]) (by kernel_rfl) (by simp) ?_
    refine AllReadyH.cons (o := _) rfl (fun K hK => ?_) AllReadyH.nil
    go_simp
    have hba := Below.alloc (Below.refl wd.heap.size wd) (Nat.le_refl _) (.cells #[.slice (some ad) u c] 37)
    have hcl : (wd.alloc (.cells #[.slice (some ad) u c] 37)).cell? ⟨wd.heap.size, 0, none⟩ = some (.slice (some ad) u c) := by rw [World.cell?_alloc_new]; rfl
    obtain ⟨v1, hv1⟩ : ∃ v, wd.alloc (.cells #[.slice (some ad) u c] 37) = v := ⟨_, rfl⟩
    rw [hv1] at hba hcl ⊢
    refine hK.out _ _ ⟨(hba.cell (p := ⟨w.heap.size, 1, none⟩) hsd).trans hHeld.1, _, (hba.cell (p := ⟨l, 0, none⟩) hld).trans hd0⟩ (fun hHeld2 => ?_)
    have hd1 := (hba.cell (p := ⟨l, 0, none⟩) hld).trans hd0
    have hf1 := fun o => (hba.frozen (p := ⟨l, o, none⟩) hld).trans (HFD.out o)
    have HBA := Lib.hid hba
    have HCL := Lib.hid hcl
    clear hK K hHeld hba hcl hv1
    have hHeld := hHeld2
    clear hHeld2
    (try simp only [Act.put, List.getElem_toArray, List.getElem_cons_zero, List.getElem_cons_succ, List.setIfInBounds_toArray, List.set_cons_zero, List.set_cons_succ])
    refine wpAnyH_ready (rs := [8]) (by kernel_rfl) (by simp) ?_
    refine AllReadyH.cons (o := _) rfl (fun K hK => ?_) AllReadyH.nil
    have hs1' := HBA.out.size
    refine step_append_one (by rfl) (.tmp 33) (.tmp 36) (by rfl) w0.heap.size m (.slice A m cA) L (by rfl) (ownsRow_below HRD.out HBA.out) ⟨wd.heap.size, 0, none⟩ 1 1 [.slice (some ad) u c] (by rfl) rfl (fun i v hv => ?_) (fun v hv => by simp at hv; subst hv; rfl) (by omega) (by omega) (by have := HBD.out.size; omega) ?_
    · match i, hv with
      | 0, hv => simp at hv; subst hv; simpa [Addr.add] using HCL.out
      | i + 1, hv => simp at hv
    intro b5 c5 v2 ho5 hg5 hat5
    have hnb : (Value.slice A m cA).ownBlock ≠ some l := fun e => HNL.out l e rfl
    have hnb2 : (Value.slice A m cA).ownBlock ≠ some w.heap.size := HNS.out
    have hl1' : l < v1.heap.size := by omega
    have hs2' := hg5.size
    have hd2 := (World.cell?_of_block (a := ⟨l, 0, none⟩) (hg5.block l hl1' (fun e => hnb e.symm))).trans hd1
    have hc2 := (World.cell?_of_block (a := ⟨l, 1, none⟩) (hg5.block l hl1' (fun e => hnb e.symm))).trans ((HBA.out.cell (p := ⟨l, 1, none⟩) hld).trans HC1D.out)
    have hf2 : ∀ o, v2.frozen? ⟨l, o, none⟩ = false := fun o => (World.frozen?_of_block (a := ⟨l, o, none⟩) (hg5.block l hl1' (fun e => hnb e.symm))).trans (hf1 o)
    refine hK.out _ _ ⟨(World.cell?_of_block (a := ⟨w.heap.size, 1, none⟩) (hg5.block w.heap.size (by omega) (fun e => hnb2 e.symm))).trans hHeld.1, _, hd2⟩ (fun hHeld2 => ?_)
    have HM5 := Lib.hid ((HMD.out.kept (grown_of_below HBA.out none) (by simp)).kept hg5 (fun e => HNM.out e.symm))
    have HB5 := Lib.hid ((more HBD.out (Nat.le_refl _) HBA.out).grown hg5 (by have := HBD.out.size; omega) (fun kk hkk => HNB.out kk hkk))
    have HO5 := Lib.hid ho5
    have hb5l : b5 ≠ l := by
      rcases hat5 with e | e
      · intro e2; exact hnb (by rw [← e, e2])
      · omega
    have HD2 := Lib.hid hd2
    have HC2 := Lib.hid hc2
    have HF2' := Lib.hid hf2
    have ff0 := hf2 0
    clear hK K hHeld ho5 hg5 hat5 hf2 hf1 hc2 hd1
    have hHeld := hHeld2
    clear hHeld2
    (try simp only [Act.put, List.getElem_toArray, List.getElem_cons_zero, List.getElem_cons_succ, List.setIfInBounds_toArray, List.set_cons_zero, List.set_cons_succ])
    refine wpAnyH_take (i := 9) (oi := _) (v := ?_) rfl (by kernel_rfl) (by kernel_rfl) (by kernel_rfl) (fun _ _ _ h => h) (Or.inl ⟨by kernel_rfl, ?_⟩) (by assumption) ?_
    rotate_left
    · (intro w hSw; (try dsimp only at hSw); go_simp)
      try with_reducible rfl
    (try simp only [Act.put, List.getElem_toArray, List.getElem_cons_zero, List.getElem_cons_succ, List.setIfInBounds_toArray, List.set_cons_zero, List.set_cons_succ])
    refine wpAnyH_take (i := 10) (oi := _) (v := ?_) rfl (by kernel_rfl) (by kernel_rfl) (by kernel_rfl) (fun _ _ _ h => h) (Or.inl ⟨by kernel_rfl, ?_⟩) (by assumption) ?_
    rotate_left
    · (intro w hSw; (try dsimp only at hSw); go_simp)
      try with_reducible rfl
    (try simp only [Act.put, List.getElem_toArray, List.getElem_cons_zero, List.getElem_cons_succ, List.setIfInBounds_toArray, List.set_cons_zero, List.set_cons_succ])
    refine wpAnyH_ready (rs := [11]) (by kernel_rfl) (by simp) ?_
    refine AllReadyH.cons (o := _) rfl (fun K hK => ?_) AllReadyH.nil
    go_simp
    refine hK.out _ _ ⟨?_, (.slice (some ⟨b5, 0, none⟩) (m + 1) c5), ?_⟩ (fun hHeld2 => ?_)
    · rw [World.cell?_setCell_other _ _ _ _ (by intro e; injection e with e1 e2; omega)]
      exact hHeld.1
    · exact World.cell?_setCell_same _ _ _ HD2.out
    clear hK K hHeld hHeld2
    (try simp only [Act.put, List.getElem_toArray, List.getElem_cons_zero, List.getElem_cons_succ, List.setIfInBounds_toArray, List.set_cons_zero, List.set_cons_succ])
    refine wpAnyH_done (by kernel_rfl) ?_ _
    go_wp2_with fail
    go_ret
    refine ⟨rfl, D.put (.string (keyB x.pl)) (.held (.bool true)), .slice (some ⟨b5, 0, none⟩) (m + 1 : Nat) c5, L ++ [.slice (some ad) u c], World.cell?_setCell_same _ _ _ HD2.out, ?_, ?_, ?_, ?_, HM5.out.setCell (by show bm ≠ l; omega) _, ?_, HL1.out.l0, HL1.out.b0, ?_, HB5.out.setCell (p := ⟨l, 0, none⟩) HL1.out.l0 _⟩
    · rw [World.cell?_setCell_other _ _ _ _ (by intro e; injection e with e1 e2; omega)]
      exact HC2.out
    · intro o
      have := HF2'.out o
      go_simp
    · rw [List.length_append, HMM.out]
      exact World.ownsRow.kept HO5.out (grown_set v2 (p := ⟨l, 0, none⟩) rfl _) (.inr (by simpa [Value.ownBlock] using hb5l))
    · exact HL1.out.lv.append ⟨rfl, fun i q hq => by
        match i, hq with
        | 0, hq => simp at hq; subst hq; exact ⟨some ad, c, by rw [HU0.out]; rfl, HX0.out⟩
        | i + 1, hq => simp at hq⟩
    · intro p hpp
      by_cases he : p = x.pl
      · subst he
        rw [atKey_put_same HL1.out.mp.isMap (lawS.key HLIT.out), decide_eq_true (List.mem_append_right _ (List.mem_singleton.2 rfl))]
      · rw [atKey_put_other (fun e => he (keyB_inj _ _ (Fits.of_place hpp) (Fits.of_place HP.out) (by injection e))), HL1.out.key p hpp]
        congr 2
        exact decide_eq_decide.2 ⟨fun hc => List.mem_append_left _ hc, fun hc => by
          rcases List.mem_append.1 hc with hc | hc
          · exact hc
          · exact absurd (List.mem_singleton.1 hc) he⟩
    · intro b' hb'
      simp [Value.ownBlock] at hb'
      omega
  refine AllReadyH.cons (o := _) rfl (fun K hK => ?_) AllReadyH.nil
  go_simp
  have hba := Below.alloc (Below.refl wd.heap.size wd) (Nat.le_refl _) (.cells #[.slice (some ad) u c] 37)
  have hcl : (wd.alloc (.cells #[.slice (some ad) u c] 37)).cell? ⟨wd.heap.size, 0, none⟩ = some (.slice (some ad) u c) := by rw [World.cell?_alloc_new]; rfl
  obtain ⟨v1, hv1⟩ : ∃ v, wd.alloc (.cells #[.slice (some ad) u c] 37) = v := ⟨_, rfl⟩
  rw [hv1] at hba hcl ⊢
  refine hK.out _ _ ⟨(hba.cell (p := ⟨w.heap.size, 1, none⟩) hsd).trans hHeld.1, _, (hba.cell (p := ⟨l, 0, none⟩) hld).trans hd0⟩ (fun hHeld2 => ?_)
  have hd1 := (hba.cell (p := ⟨l, 0, none⟩) hld).trans hd0
  have hf1 := fun o => (hba.frozen (p := ⟨l, o, none⟩) hld).trans (HFD.out o)
  have HBA := Lib.hid hba
  have HCL := Lib.hid hcl
  clear hK K hHeld hba hcl hv1
  have hHeld := hHeld2
  clear hHeld2
  (try simp only [Act.put, List.getElem_toArray, List.getElem_cons_zero, List.getElem_cons_succ, List.setIfInBounds_toArray, List.set_cons_zero, List.set_cons_succ])
  refine wpAnyH_ready (rs := [4]) (by kernel_rfl) (by simp) ?_
  refine AllReadyH.cons (o := _) rfl (fun K hK => ?_) AllReadyH.nil
  go_simp
  refine hK.out _ _ hHeld (fun hHeld2 => ?_)
  clear hK K hHeld
  have hHeld := hHeld2
  clear hHeld2
  (try simp only [Act.put, List.getElem_toArray, List.getElem_cons_zero, List.getElem_cons_succ, List.setIfInBounds_toArray, List.set_cons_zero, List.set_cons_succ])
  refine wpAnyH_ready (rs := [8]) (by kernel_rfl) (by simp) ?_
  refine AllReadyH.cons (o := _) rfl (fun K hK => ?_) AllReadyH.nil
  have hs1' := HBA.out.size
  refine step_append_one (by rfl) (.tmp 33) (.tmp 36) (by rfl) w0.heap.size m (.slice A m cA) L (by rfl) (ownsRow_below HRD.out HBA.out) ⟨wd.heap.size, 0, none⟩ 1 1 [.slice (some ad) u c] (by rfl) rfl (fun i v hv => ?_) (fun v hv => by simp at hv; subst hv; rfl) (by omega) (by omega) (by have := HBD.out.size; omega) ?_
  · match i, hv with
    | 0, hv => simp at hv; subst hv; simpa [Addr.add] using HCL.out
    | i + 1, hv => simp at hv
  intro b5 c5 v2 ho5 hg5 hat5
  have hnb : (Value.slice A m cA).ownBlock ≠ some l := fun e => HNL.out l e rfl
  have hnb2 : (Value.slice A m cA).ownBlock ≠ some w.heap.size := HNS.out
  have hl1' : l < v1.heap.size := by omega
  have hs2' := hg5.size
  have hd2 := (World.cell?_of_block (a := ⟨l, 0, none⟩) (hg5.block l hl1' (fun e => hnb e.symm))).trans hd1
  have hc2 := (World.cell?_of_block (a := ⟨l, 1, none⟩) (hg5.block l hl1' (fun e => hnb e.symm))).trans ((HBA.out.cell (p := ⟨l, 1, none⟩) hld).trans HC1D.out)
  have hf2 : ∀ o, v2.frozen? ⟨l, o, none⟩ = false := fun o => (World.frozen?_of_block (a := ⟨l, o, none⟩) (hg5.block l hl1' (fun e => hnb e.symm))).trans (hf1 o)
  refine hK.out _ _ ⟨(World.cell?_of_block (a := ⟨w.heap.size, 1, none⟩) (hg5.block w.heap.size (by omega) (fun e => hnb2 e.symm))).trans hHeld.1, _, hd2⟩ (fun hHeld2 => ?_)
  have HM5 := Lib.hid ((HMD.out.kept (grown_of_below HBA.out none) (by simp)).kept hg5 (fun e => HNM.out e.symm))
  have HB5 := Lib.hid ((more HBD.out (Nat.le_refl _) HBA.out).grown hg5 (by have := HBD.out.size; omega) (fun kk hkk => HNB.out kk hkk))
  have HO5 := Lib.hid ho5
  have hb5l : b5 ≠ l := by
    rcases hat5 with e | e
    · intro e2; exact hnb (by rw [← e, e2])
    · omega
  have HD2 := Lib.hid hd2
  have HC2 := Lib.hid hc2
  have HF2' := Lib.hid hf2
  have ff0 := hf2 0
  clear hK K hHeld ho5 hg5 hat5 hf2 hf1 hc2 hd1
  have hHeld := hHeld2
  clear hHeld2
  (try simp only [Act.put, List.getElem_toArray, List.getElem_cons_zero, List.getElem_cons_succ, List.setIfInBounds_toArray, List.set_cons_zero, List.set_cons_succ])
  refine wpAnyH_take (i := 9) (oi := _) (v := ?_) rfl (by kernel_rfl) (by kernel_rfl) (by kernel_rfl) (fun _ _ _ h => h) (Or.inl ⟨by kernel_rfl, ?_⟩) (by assumption) ?_
  rotate_left
  · (intro w hSw; (try dsimp only at hSw); go_simp)
    try with_reducible rfl
  (try simp only [Act.put, List.getElem_toArray, List.getElem_cons_zero, List.getElem_cons_succ, List.setIfInBounds_toArray, List.set_cons_zero, List.set_cons_succ])
  refine wpAnyH_take (i := 10) (oi := _) (v := ?_) rfl (by kernel_rfl) (by kernel_rfl) (by kernel_rfl) (fun _ _ _ h => h) (Or.inl ⟨by kernel_rfl, ?_⟩) (by assumption) ?_
  rotate_left
  · (intro w hSw; (try dsimp only at hSw); go_simp)
    try with_reducible rfl
  (try simp only [Act.put, List.getElem_toArray, List.getElem_cons_zero, List.getElem_cons_succ, List.setIfInBounds_toArray, List.set_cons_zero, List.set_cons_succ])
  refine wpAnyH_ready (rs := [11]) (by kernel_rfl) (by simp) ?_
  refine AllReadyH.cons (o := _) rfl (fun K hK => ?_) AllReadyH.nil
  go_simp
  refine hK.out _ _ ⟨?_, (.slice (some ⟨b5, 0, none⟩) (m + 1) c5), ?_⟩ (fun hHeld2 => ?_)
  · rw [World.cell?_setCell_other _ _ _ _ (by intro e; injection e with e1 e2; omega)]
    exact hHeld.1
  · exact World.cell?_setCell_same _ _ _ HD2.out
  clear hK K hHeld hHeld2
  (try simp only [Act.put, List.getElem_toArray, List.getElem_cons_zero, List.getElem_cons_succ, List.setIfInBounds_toArray, List.set_cons_zero, List.set_cons_succ])
  refine wpAnyH_done (by kernel_rfl) ?_ _
  go_wp2_with fail
  go_ret
  refine ⟨rfl, D.put (.string (keyB x.pl)) (.held (.bool true)), .slice (some ⟨b5, 0, none⟩) (m + 1 : Nat) c5, L ++ [.slice (some ad) u c], World.cell?_setCell_same _ _ _ HD2.out, ?_, ?_, ?_, ?_, HM5.out.setCell (by show bm ≠ l; omega) _, ?_, HL1.out.l0, HL1.out.b0, ?_, HB5.out.setCell (p := ⟨l, 0, none⟩) HL1.out.l0 _⟩
  · rw [World.cell?_setCell_other _ _ _ _ (by intro e; injection e with e1 e2; omega)]
    exact HC2.out
  · intro o
    have := HF2'.out o
    go_simp
  · rw [List.length_append, HMM.out]
    exact World.ownsRow.kept HO5.out (grown_set v2 (p := ⟨l, 0, none⟩) rfl _) (.inr (by simpa [Value.ownBlock] using hb5l))
  · exact HL1.out.lv.append ⟨rfl, fun i q hq => by
      match i, hq with
      | 0, hq => simp at hq; subst hq; exact ⟨some ad, c, by rw [HU0.out]; rfl, HX0.out⟩
      | i + 1, hq => simp at hq⟩
  · intro p hpp
    by_cases he : p = x.pl
    · subst he
      rw [atKey_put_same HL1.out.mp.isMap (lawS.key HLIT.out), decide_eq_true (List.mem_append_right _ (List.mem_singleton.2 rfl))]
    · rw [atKey_put_other (fun e => he (keyB_inj _ _ (Fits.of_place hpp) (Fits.of_place HP.out) (by injection e))), HL1.out.key p hpp]
      congr 2
      exact decide_eq_decide.2 ⟨fun hc => List.mem_append_left _ hc, fun hc => by
        rcases List.mem_append.1 hc with hc | hc
        · exact hc
        · exact absurd (List.mem_singleton.1 hc) he⟩
  · intro b' hb'
    simp [Value.ownBlock] at hb'
    omega
end Go.Proofs.Ytegdpdafaimmoaa
