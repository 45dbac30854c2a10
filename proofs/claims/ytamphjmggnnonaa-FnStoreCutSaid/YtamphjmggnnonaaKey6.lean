/- A map of cells as a store. -/
import Derived.Test.YtamphjmggnnonaaKey5
namespace Go.Proofs.Ytamphjmggnnonaa
open Go.Joins Go.ChangeShapes Go.WideShapes Go.ChangeAt Go.RowKit Go.Deep Go.Maps Go.Sort Go.Shelf
set_option linter.unusedVariables false
set_option linter.unusedSimpArgs false

/-- An append onto a row of the call's own, or onto nothing, as a step of a region that draws its order. -/
theorem step_append_own {w : World} {ops : Array Oper} {o : Oper} {a : Act} {K : Act → World → Prop} {Q : Exit → Act → World → Prop} {E : Prop} (hgd : o.guard = none) (s x : Operand) (t e : TypeId) (i : TypeInfo) (z : Value) (size bytes : Nat)
    (ho : o.op = .call { callee := .builtin .append, args := #[s, x], argTypes := #[t, t] }) (ht : Try.prog.underlying t = some (.slice e)) (hi : Try.prog.info? e = some i) (hz : i.zero = some z) (hsize : i.size = size) (hby : i.bytes = bytes) (hzs : z.cells.size = size) (hsz : 0 < size)
    (base : Nat) (v : Value) (n : Nat) (L : List Value) (hs : a.eval s = v) (hown : w.ownsRow base e size v n L)
    (ad : Addr) (c2 m : Nat) (news : List Value) (hx : a.eval x = .slice (some ad) m c2) (hl : news.length = m * size) (hcells : ∀ j u, news[j]? = some u → w.cell? (ad.add j) = some u) (h1 : ∀ u ∈ news, u.oneCell' = true)
    (hm : n + m ≤ 4000000) (hb : bytes ≤ 1000) (hbase : base ≤ w.heap.size)
    (h : ∀ v' w', w'.ownsRow base e size v' (n + m) (L ++ news) → w.grownBy w' v.ownBlock → K (a.put o.dst v') w') :
    if Region.wanted o (yielded ops a.tmps) = true then Oper.wp Try.prog o a w K Q else E := by
  have hw : Region.wanted o (yielded ops a.tmps) = true := by simp [Region.wanted, hgd]
  rw [if_pos hw]
  have hbm : (n + m) * bytes ≤ 4000000 * 1000 := Nat.mul_le_mul hm hb
  obtain ⟨v', w', hr, hown', hg, _, hat⟩ := run_append_own_at (P := Try.prog) w base t o.type e i z size bytes ht hi hz hsize hby hzs hsz v n L hown ad m c2 news hl hcells h1 (by simp only [maxLen]; omega) (by omega) hbase
  unfold Oper.wp execOp
  simp only [ho, resolve, invoke, builtin, Sem.run_bind, Sem.run_pure, Result.andThen_ok, List.map_toArray, List.map_cons, List.map_nil, hs, hx, hr]
  exact h v' w' hown' hg
def CloneSX (vs : List Sl) (w : World) (e : Ending) (w' : World) : Prop :=
  Below w.heap.size w w' ∧ ∃ b c, e = .returned (.slice (some ⟨b, 0, none⟩) vs.length c) ∧ OwnS w' w.heap.size b c vs
set_option maxHeartbeats 1000000 in
theorem cloneS_any (b o c n : Nat) (vs : List Sl) (w : World) (hx : SlL w (some ⟨b, o, none⟩) vs) (hn : vs.length = n) (hl : n ≤ 1000) :
    Calls Try.prog 107 #[.slice (some ⟨b, o, none⟩) n c] w (CloneSX vs w) := by
  have HN := Lib.hid hn
  have HE := Lib.hid (OwnS.none_ w (base := w.heap.size) (Nat.le_refl _))
  have hB := Below.alloc (Below.refl w.heap.size w) (Nat.le_refl _) (.cells #[] 66)
  have HA := Lib.hid (hx.below hB)
  have HB := Lib.hid hB
  have HL := Lib.hid (show (0 : Nat) + vs.length ≤ 1000 by omega)
  have kn := fun (w : World) => Lib.run_eql_slice_nil (P := Try.prog) w 25 66 (some ⟨b, o, none⟩) n c 0 0 Try.underlying25
  clear hx hn hB
  go_enter Try.func107, Try.ntmps107
  go_wp2_with (at_builtin; refine wp_append_slots rfl (.tmp 5) (.tmp 6) rfl w.heap.size w.heap.size 0 [] rfl HE.out ⟨b, o, none⟩ c vs n rfl HN.out (SlL.news HA.out) HL.out (by simp) ?_; intro b3 c3 zs w5 HQ ho hgr HAT; have HO := Lib.hid ho; have HB5 := Lib.hid (HB.out.grown hgr (by simp) (fun k hk => by injection hk with hk; omega)); clear ho hgr)
  go_ret
  have hz : zs = vs := HQ.out
  subst hz
  exact ⟨HB5.out, b3, c3, rfl, HO.out⟩
/-- A map's keys, sorted, are the store's places' keys in their order. -/
theorem keys_perm {w : World} {b n : Nat} {D : DataW Value} {ys : List Ce} {ss : List (List UInt8)} (hown : w.ownsMap Try.prog 9 RV b n D) (hD : ∀ t, has D (.string t) = ys.any fun x => decide (keyB x.pl = t)) (hp : (ys.map fun x => keyB x.pl).Pairwise (· < ·)) (h : ss.Perm (strKeys D)) :
    ss.mergeSort (fun x y => decide (x ≤ y)) = (ys.map fun x => keyB x.pl) ∧ ss.length = ys.length := by
  have hnd : (ys.map fun x => keyB x.pl).Nodup := hp.imp (fun {a b} hab e => by subst e; exact List.lt_irrefl _ hab)
  have hq : (ys.map fun x => keyB x.pl).Perm (strKeys D) := Collected.perm (left := fun _ => false) ⟨hnd, fun x => by
    rw [hD x, List.any_eq_true, List.mem_map]
    constructor
    · rintro ⟨y, hy, e⟩; exact ⟨⟨y, hy, decide_eq_true e⟩, rfl⟩
    · rintro ⟨⟨y, hy, e⟩, _⟩; exact ⟨y, hy, of_decide_eq_true e⟩⟩ hown lawS Try.underlying9 (fun _ => rfl)
  have hpp := h.trans hq.symm
  refine ⟨?_, by rw [hpp.length_eq, List.length_map]⟩
  refine (mergeSort_of_perm hpp).trans (List.mergeSort_of_pairwise (hp.imp (fun {a b} hab => decide_eq_true (List.le_of_lt hab))))

theorem CeW.grownV {w w' : World} {lo n m g0 c0 g1 c1 base k : Nat} {x : Ce} {v : Value} {L : List Value} (h : CeW w lo x n m g0 c0 g1 c1) (hg : w.grownBy w' v.ownBlock) (ho : w.ownsRow base 60 2 v k L) : CeW w' lo x n m g0 c0 g1 c1 := by
  rcases ho.2 with ⟨rfl, _⟩ | ⟨g, cap, cur, rfl, _⟩
  · exact ⟨h.pl.kept hg (.inr (by simp [Value.ownBlock])), h.st.kept hg (.inr (by simp [Value.ownBlock]))⟩
  · exact h.grown hg ho
theorem StoW.grownV {w w' : World} {lo base k : Nat} {L M : List Value} {v : Value} {xs : List Ce} (h : StoW w lo L xs) (hg : w.grownBy w' v.ownBlock) (ho : w.ownsRow base 60 2 v k M) : StoW w' lo L xs := fun i x hx => by
  obtain ⟨g0, c0, g1, c1, h0, h1, hc⟩ := h i x hx
  exact ⟨g0, c0, g1, c1, h0, h1, hc.grownV hg ho⟩

set_option maxRecDepth 100000 in
set_option maxHeartbeats 2000000 in
theorem store_any (b n m : Nat) (D : DataW Value) (ys : List Ce) (w : World) (hown : w.ownsMap Try.prog 9 RV b n D) (hD : ∀ t, has D (.string t) = ys.any fun x => decide (keyB x.pl = t)) (hC : ∀ x ∈ ys, CellV w D x)
    (hp : (ys.map fun x => keyB x.pl).Pairwise (· < ·)) (hn : n ≤ 1000) (hl : ys.length = m) (hm : m ≤ 1000) (hs : SmallC ys) :
    Calls Try.prog 84 #[.map (some b)] w fun e w' => Below w.heap.size w w' ∧ ∃ v L, e = .returned v ∧ w'.ownsRow w.heap.size 60 2 v m L ∧ StoW w' w.heap.size L ys := by
  have HO := Lib.hid hown
  have HD := Lib.hid hD
  have HC := Lib.hid hC
  have HP := Lib.hid hp
  have HL := Lib.hid hl
  have HS := Lib.hid hs
  have hsz := hown.size_le
  clear hown hD hC hp hl hs
  go_enter Try.func84, Try.ntmps84
  go_wp2_with fail
  refine (keysS_any b w).mono ?_
  rintro e w1 ⟨rfl, rfl⟩
  go_wp2_with fail
  refine (sortedS_any b n D RV w HO.out (by unfold maxLen; omega) (by omega)).mono ?_
  rintro e w2 ⟨vk, ss, rfl, hS, hrow, hnil, hb⟩
  obtain ⟨hso, hle⟩ := keys_perm HO.out HD.out HP.out hS
  rw [hso, hle, HL.out] at hrow
  have hform : ∃ A cK, vk = .slice A m cK ∧ m ≤ cK ∧ ∀ j t, (ys.map fun x => keyB x.pl)[j]? = some t → ∃ g, A = some ⟨g, 0, none⟩ ∧ g < w2.heap.size ∧ w2.cell? ⟨g, j, none⟩ = some (encStr t) := by
    rcases hrow.2 with ⟨rfl, h0⟩ | ⟨g, cap, cur, rfl, _, hg, hnc, _⟩
    · refine ⟨none, 0, by rw [h0], by omega, fun j t hj => ?_⟩
      have := (List.getElem?_eq_some_iff.1 hj).1
      rw [List.length_map, HL.out] at this
      omega
    · refine ⟨_, cap, rfl, hnc, fun j t hj => ⟨g, rfl, (Array.getElem?_eq_some_iff.1 hg).1, ?_⟩⟩
      have hj' := (List.getElem?_eq_some_iff.1 hj).1
      rw [List.length_map, HL.out] at hj'
      rw [World.ownsRow.cellAt hrow j (by omega), List.getElem?_map, hj]
      rfl
  obtain ⟨A, cK, rfl, hcK, hA⟩ := hform
  have HA := Lib.hid hA
  have HB2 := Lib.hid hb
  have HO2 := Lib.hid (HO.out.kept (Below.keeps hb) (by simp))
  have hz2 := hb.size
  clear hS hrow hnil hb hso hle hA
  go_wp2_with fail
  go_loopw [3, 11] (fun v i wr => ∃ (k : Nat) (L : List Value), k ≤ m ∧ i = .int .i64 k ∧ Hid (wr.ownsRow w2.heap.size 60 2 v k L) ∧ Hid (StoW wr w2.heap.size L (ys.take k)) ∧ Hid (Below w2.heap.size w2 wr)) (fun _ i _ => m - (intOf i).toNat)
  case atStart => exact ⟨0, [], by omega, rfl, Lib.hid (World.ownsRow_nil _ _ _ _), Lib.hid (fun i x hx => by simp at hx), Lib.hid (Below.refl _ _)⟩
  case round =>
    obtain ⟨k, L, hk, rfl, HW, HT, HB⟩ := hrel
    by_cases hlt : k < m
    · obtain ⟨x, hx⟩ := at_some (show k < ys.length by rw [HL.out]; exact hlt)
      obtain ⟨g, rfl, hg, hck⟩ := HA.out k (keyB x.pl) (by rw [List.getElem?_map, hx]; rfl)
      have ek := (HB.out.cell (p := ⟨g, k, none⟩) hg).trans hck
      have hxm := List.mem_of_getElem? hx
      obtain ⟨b0, o0, c0, b1, o1, c1, hat, hpl, hst⟩ := HC.out x hxm
      have hsx := HS.out x hxm
      have HXK := Lib.hid hx
      have hzr := HB.out.size
      have HOr := Lib.hid (HO2.out.kept (Below.keeps HB.out) (by simp))
      have HBw := Lib.hid (HB2.out.trans (HB.out.mono hz2))
      have HPL := Lib.hid hpl
      have HST := Lib.hid hst
      have hz0 := Try.zeroValue60 wr
      obtain ⟨v0, ps, hrun, hv⟩ := HOr.out.lookup lawS Try.underlying98 hz0 (R := RV) rfl (key_lit (keyB x.pl) (by rw [keyB_len]; omega))
      rw [hat] at hv
      have hv0 : v0 = .agg #[.slice (some ⟨b0, o0, none⟩) x.pl.length c0, .slice (some ⟨b1, o1, none⟩) x.st.length c1] := by
        have h : (some (DataW.held v0, ([] : List MemPlace)) : Option (DataW Value × List MemPlace)) = some (.held (.agg #[.slice (some ⟨b0, o0, none⟩) x.pl.length c0, .slice (some ⟨b1, o1, none⟩) x.st.length c1]), ps) := hv
        injection h with h
        injection h with h h'
        injection h
      subst hv0
      have hi1 : (0 : Int) ≤ (k : Int) := by omega
      have hi2 : (k : Int) < (m : Int) := by omega
      clear hx hxm hck hpl hst hat hv hz0
      obtain ⟨i0, hi0, hz0, hs0, hy0⟩ := info_parts infoCe
      have I0 := Lib.hid (And.intro hi0 (And.intro hz0 (And.intro hs0 hy0)))
      clear hi0 hz0 hs0 hy0
      go_wp2_with fail
      refine wp_region_held_drew (S := fun w' => w'.cell? ⟨wr.heap.size, 0, none⟩ = some (.slice (some ⟨b0, o0, none⟩) x.pl.length c0) ∧ w'.cell? ⟨wr.heap.size, 1, none⟩ = some (.slice (some ⟨b1, o1, none⟩) x.st.length c1)) (by kernel_rfl) ?_ (fun hHeld => ?_)
      · exact ⟨by go_simp, by go_simp⟩
      have hba : Below wr.heap.size wr (wr.alloc (.cells #[.slice (some ⟨b0, o0, none⟩) x.pl.length c0, .slice (some ⟨b1, o1, none⟩) x.st.length c1] 60)).drew := ((Below.refl wr.heap.size wr).alloc (Nat.le_refl _) _).drew
      obtain ⟨wd, hwd⟩ : ∃ wd, (wr.alloc (.cells #[.slice (some ⟨b0, o0, none⟩) x.pl.length c0, .slice (some ⟨b1, o1, none⟩) x.st.length c1] 60)).drew = wd := ⟨_, rfl⟩
      have hzd : wd.heap.size = wr.heap.size + 1 := by subst hwd; simp
      rw [hwd] at hHeld hba
      rw [hwd]
      have HBd := Lib.hid (HB.out.trans (hba.mono hzr))
      have HWd := Lib.hid (ownsRow_below HW.out hba)
      have HTd := Lib.hid (HT.out.below hba)
      have HXd := Lib.hid (HBw.out.trans (hba.mono HBw.out.size))
      clear hwd hba
      refine wpAnyH_take (i := 0) (oi := _) (v := ?_) rfl (by kernel_rfl) (by kernel_rfl) (by kernel_rfl) (fun _ _ _ h => h) (Or.inl ⟨by kernel_rfl, ?_⟩) (by assumption) ?_
      rotate_left
      · (intro w hSw; (try dsimp only at hSw); go_simp)
        try with_reducible rfl
      (try simp only [Act.put, List.getElem_toArray, List.getElem_cons_zero, List.getElem_cons_succ, List.setIfInBounds_toArray, List.set_cons_zero, List.set_cons_succ])
      refine wpAnyH_take (i := 1) (oi := _) (v := ?_) rfl (by kernel_rfl) (by kernel_rfl) (by kernel_rfl) (fun _ _ _ h => h) (Or.inl ⟨by kernel_rfl, ?_⟩) (by assumption) ?_
      rotate_left
      · (intro w hSw; (try dsimp only at hSw); go_simp)
        try with_reducible rfl
      (try simp only [Act.put, List.getElem_toArray, List.getElem_cons_zero, List.getElem_cons_succ, List.setIfInBounds_toArray, List.set_cons_zero, List.set_cons_succ])
      refine wpAnyH_take (i := 2) (oi := _) (v := ?_) rfl (by kernel_rfl) (by kernel_rfl) (by kernel_rfl) (fun _ _ _ h => h) (Or.inl ⟨by kernel_rfl, ?_⟩) (by assumption) ?_
      rotate_left
      · (intro w hSw; (try dsimp only at hSw); go_simp)
        try with_reducible rfl
      (try simp only [Act.put, List.getElem_toArray, List.getElem_cons_zero, List.getElem_cons_succ, List.setIfInBounds_toArray, List.set_cons_zero, List.set_cons_succ])
      refine wpAnyH_take (i := 4) (oi := _) (v := ?_) rfl (by kernel_rfl) (by kernel_rfl) (by kernel_rfl) (fun _ _ _ h => h) (Or.inl ⟨by kernel_rfl, ?_⟩) (by assumption) ?_
      rotate_left
      · (intro w hSw; (try dsimp only at hSw); go_simp)
        try with_reducible rfl
      (try simp only [Act.put, List.getElem_toArray, List.getElem_cons_zero, List.getElem_cons_succ, List.setIfInBounds_toArray, List.set_cons_zero, List.set_cons_succ])
      refine wpAnyH_take (i := 5) (oi := _) (v := ?_) rfl (by kernel_rfl) (by kernel_rfl) (by kernel_rfl) (fun _ _ _ h => h) (Or.inl ⟨by kernel_rfl, ?_⟩) (by assumption) ?_
      rotate_left
      · (intro w hSw; (try dsimp only at hSw); go_simp)
        try with_reducible rfl
      (try simp only [Act.put, List.getElem_toArray, List.getElem_cons_zero, List.getElem_cons_succ, List.setIfInBounds_toArray, List.set_cons_zero, List.set_cons_succ])
      refine wpAnyH_ready (rs := [3]) (by kernel_rfl) (by simp) ?_
      refine AllReadyH.cons (o := _) rfl (fun K hK => ?_) AllReadyH.nil
      go_simp
      refine (cloneS_any b0 o0 c0 _ x.pl wd (HPL.out.below HXd.out) rfl hsx.1).mono ?_
      rintro e w4 ⟨hb, g0, d0, rfl, ho⟩
      refine hK.out _ _ ?_ (fun hHeld2 => ?_)
      · exact ⟨(hb.cell (p := ⟨wr.heap.size, 0, none⟩) (by show wr.heap.size < _; omega)).trans hHeld.1, (hb.cell (p := ⟨wr.heap.size, 1, none⟩) (by show wr.heap.size < _; omega)).trans hHeld.2⟩
      have HB4 := Lib.hid (HBd.out.trans (hb.mono HBd.out.size))
      have HW4 := Lib.hid (ownsRow_below HWd.out hb)
      have HT4 := Lib.hid (HTd.out.below hb)
      have HX4 := Lib.hid (HXd.out.trans (hb.mono HXd.out.size))
      have HQ0 := Lib.hid ho
      have hz4 := hb.size
      clear hK K hb ho hHeld
      (try simp only [Act.put, List.getElem_toArray, List.getElem_cons_zero, List.getElem_cons_succ, List.setIfInBounds_toArray, List.set_cons_zero, List.set_cons_succ])
      refine wpAnyH_ready (rs := [6]) (by kernel_rfl) (by simp) ?_
      refine AllReadyH.cons (o := _) rfl (fun K hK => ?_) AllReadyH.nil
      go_simp
      refine (clone_any b1 o1 c1 _ x.st w4 (HST.out.below HX4.out) rfl (by omega)).mono ?_
      rintro e w5 ⟨hb, g1, d1, rfl, ho⟩
      refine hK.out _ _ ?_ (fun hHeld3 => ?_)
      · exact ⟨(hb.cell (p := ⟨wr.heap.size, 0, none⟩) (by show wr.heap.size < _; omega)).trans hHeld2.1, (hb.cell (p := ⟨wr.heap.size, 1, none⟩) (by show wr.heap.size < _; omega)).trans hHeld2.2⟩
      have HB5 := Lib.hid (HB4.out.trans (hb.mono HB4.out.size))
      have HW5 := Lib.hid (ownsRow_below HW4.out hb)
      have HT5 := Lib.hid (HT4.out.below hb)
      have HCE := Lib.hid (show CeW w5 w2.heap.size x x.pl.length x.st.length g0 d0 g1 d1 from ⟨World.ownsRow.mono (ownsRow_below HQ0.out hb) (by omega), World.ownsRow.mono ho (by omega)⟩)
      have hz5 := hb.size
      clear hK K hb ho hHeld2 HQ0
      (try simp only [Act.put, List.getElem_toArray, List.getElem_cons_zero, List.getElem_cons_succ, List.setIfInBounds_toArray, List.set_cons_zero, List.set_cons_succ])
      refine wpAnyH_take (i := 7) (oi := _) (v := ?_) rfl (by kernel_rfl) (by kernel_rfl) (by kernel_rfl) (fun _ _ _ h => h) (Or.inl ⟨by kernel_rfl, ?_⟩) (by assumption) ?_
      rotate_left
      · (intro w hSw; (try dsimp only at hSw); go_simp)
        try with_reducible rfl
      (try simp only [Act.put, List.getElem_toArray, List.getElem_cons_zero, List.getElem_cons_succ, List.setIfInBounds_toArray, List.set_cons_zero, List.set_cons_succ])
      refine wpAnyH_ready (rs := [8]) (by kernel_rfl) (by simp) ?_
      refine AllReadyH.cons (o := _) rfl (fun K hK => ?_) AllReadyH.nil
      go_simp
      have hb6 := Below.alloc (Below.refl w5.heap.size w5) (Nat.le_refl _) (.cells #[.slice (some ⟨g0, 0, none⟩) x.pl.length d0, .slice (some ⟨g1, 0, none⟩) x.st.length d1] 60)
      refine hK.out _ _ ?_ (fun hHeld4 => ?_)
      · exact ⟨(hb6.cell (p := ⟨wr.heap.size, 0, none⟩) (by show wr.heap.size < _; omega)).trans hHeld3.1, (hb6.cell (p := ⟨wr.heap.size, 1, none⟩) (by show wr.heap.size < _; omega)).trans hHeld3.2⟩
      have HNW := Lib.hid (World.news_of_block (cs := #[.slice (some ⟨g0, 0, none⟩) x.pl.length d0, .slice (some ⟨g1, 0, none⟩) x.st.length d1]) (t := 60) (fr := (0, 0)) (heap_alloc_new w5 _))
      have HB6 := Lib.hid (HB5.out.trans (hb6.mono HB5.out.size))
      have HW6 := Lib.hid (ownsRow_below HW5.out hb6)
      have HT6 := Lib.hid (HT5.out.below hb6)
      have HC6 := Lib.hid (HCE.out.below hb6)
      have hz6 := hb6.size
      obtain ⟨w6, hw6⟩ : ∃ v, w5.alloc (.cells #[.slice (some ⟨g0, 0, none⟩) x.pl.length d0, .slice (some ⟨g1, 0, none⟩) x.st.length d1] 60) = v := ⟨_, rfl⟩
      rw [hw6] at HNW HB6 HW6 HT6 HC6 hz6 hHeld4
      rw [hw6]
      clear hK K hb6 hHeld3 hw6
      (try simp only [Act.put, List.getElem_toArray, List.getElem_cons_zero, List.getElem_cons_succ, List.setIfInBounds_toArray, List.set_cons_zero, List.set_cons_succ])
      refine wpAnyH_ready (rs := [9]) (by kernel_rfl) (by simp) ?_
      refine AllReadyH.cons (o := _) rfl (fun K hK => ?_) AllReadyH.nil
      refine step_append_own (by rfl) (.tmp 18) (.tmp 26) 39 60 i0 _ 2 48 (by rfl) Try.underlying39 I0.out.1 I0.out.2.1 I0.out.2.2.1 I0.out.2.2.2 (by rfl) (by omega) w2.heap.size _ k L (by rfl) HW6.out ⟨w5.heap.size, 0, none⟩ 1 1 [.slice (some ⟨g0, 0, none⟩) x.pl.length d0, .slice (some ⟨g1, 0, none⟩) x.st.length d1] (by rfl) (by rfl) HNW.out (two_one _ _ rfl rfl) (by omega) (by omega) (by omega) ?_
      intro v7 w7 hown hgr
      refine hK.out _ _ ?_ (fun hHeld5 => ?_)
      · exact ⟨(World.cell?_of_block (a := ⟨wr.heap.size, 0, none⟩) (hgr.block _ (by show wr.heap.size < _; omega) (by intro e; have := (World.ownsRow.lt HW.out _ e.symm).2; exact absurd this (by show ¬ wr.heap.size < _; omega)))).trans hHeld4.1, (World.cell?_of_block (a := ⟨wr.heap.size, 1, none⟩) (hgr.block _ (by show wr.heap.size < _; omega) (by intro e; have := (World.ownsRow.lt HW.out _ e.symm).2; exact absurd this (by show ¬ wr.heap.size < _; omega)))).trans hHeld4.2⟩
      have hLL : L.length = (ys.take k).length * 2 := by rw [HW.out.1, List.length_take, HL.out]; omega
      have HW7 := Lib.hid hown
      have HT7 := Lib.hid (StoW.append (HT6.out.grownV hgr HW6.out) (StoW.one (HC6.out.grownV hgr HW6.out)) hLL)
      have HB7 := Lib.hid (HB6.out.grown hgr HB6.out.size (fun j hj => (World.ownsRow.lt HW6.out j hj).1))
      clear hK K hown hgr hHeld4
      (try simp only [Act.put, List.getElem_toArray, List.getElem_cons_zero, List.getElem_cons_succ, List.setIfInBounds_toArray, List.set_cons_zero, List.set_cons_succ])
      refine wpAnyH_take (i := 10) (oi := _) (v := ?_) rfl (by kernel_rfl) (by kernel_rfl) (by kernel_rfl) (fun _ _ _ h => h) (Or.inl ⟨by kernel_rfl, ?_⟩) (by assumption) ?_
      rotate_left
      · (intro w hSw; (try dsimp only at hSw); go_simp)
        try with_reducible rfl
      (try simp only [Act.put, List.getElem_toArray, List.getElem_cons_zero, List.getElem_cons_succ, List.setIfInBounds_toArray, List.set_cons_zero, List.set_cons_succ])
      refine wpAnyH_done (by kernel_rfl) ?_ _
      go_wp2_with fail
      go_roundw
      case rel => exact ⟨k + 1, _, by omega, by go_num, HW7, Lib.hid (by rw [List.take_succ_eq_append_getElem (by rw [HL.out]; exact hlt), (List.getElem?_eq_some_iff.1 HXK.out).2]; exact HT7.out), HB7⟩
      case measure => simp [intOf]; omega
    · obtain rfl : k = m := by omega
      have HTT := Lib.hid (show ys.take k = ys by rw [List.take_of_length_le (by rw [HL.out]; exact Nat.le_refl _)])
      go_wp2_with fail
      go_ret
      exact ⟨HB2.out.trans (HB.out.mono hz2), _, L, rfl, World.ownsRow.mono HW.out hz2, by have := HT.out.mono hz2; rw [HTT.out] at this; exact this⟩
end Go.Proofs.Ytamphjmggnnonaa
