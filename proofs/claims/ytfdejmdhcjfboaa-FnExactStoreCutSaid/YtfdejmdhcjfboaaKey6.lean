/- A map of cells as a store. -/
import Derived.Test.YtfdejmdhcjfboaaKey5
import Derived.Deep.RegionWith
namespace Go.Proofs.Ytfdejmdhcjfboaa
open Go.Joins Go.ChangeShapes Go.WideShapes Go.ChangeAt Go.RowKit Go.Deep Go.Maps Go.Sort Go.Shelf
set_option linter.unusedVariables false
set_option linter.unusedSimpArgs false

/-- An append onto a row of the call's own, or onto nothing, as a step of a region that draws its order. -/
theorem step_append_own {w : World} {ops : Array Oper} {o : Oper} {a : Act} {K : Act → World → Prop} {Q : Exit → Act → World → Prop} {E : Prop} (hgd : o.guard = none) (s x : Operand) (t e : TypeId) (i : TypeInfo) (z : Value) (size bytes : Nat)
    (ho : o.op = .call { callee := .builtin .append, args := #[s, x], argTypes := #[t, t] }) (ht : Try.prog.underlying t = some (.slice e)) (hi : Try.prog.info? e = some i) (hz : i.zero = some z) (hsize : i.size = size) (hby : i.bytes = bytes) (hzs : z.cells.size = size) (hsz : 0 < size)
    (base : Nat) (v : Value) (n : Nat) (L : List Value) (hs : a.eval s = v) (hown : w.ownsRow base e size v n L)
    (ad : Addr) (c2 m : Nat) (news : List Value) (hx : a.eval x = .slice (some ad) m c2) (hl : news.length = m * size) (hcells : ∀ j u, news[j]? = some u → w.cell? (ad.add j) = some u) (h1 : ∀ u ∈ news, u.oneCell' = true)
    (hm : n + m ≤ 4000000) (hb : bytes ≤ 1000) (hbase : base ≤ w.heap.size)
    (h : ∀ v' w', w'.ownsRow base e size v' (n + m) (L ++ news) → w.grownBy w' v.ownBlock → K (a.put o.dst v') w') :
    if Region.wanted o (yielded ops a.tmps) = true then Oper.wp Try.prog o a w K Q else E := by
  have hw : Region.wanted o (yielded ops a.tmps) = true := by simp [Region.wanted, hgd]
  rw [if_pos hw]
  have hbm : (n + m) * bytes ≤ 4000000 * 1000 := Nat.mul_le_mul hm hb
  obtain ⟨v', w', hr, hown', hg, _, hat⟩ := run_append_own_at (P := Try.prog) w base t o.type e i z size bytes ht hi hz hsize hby hzs hsz v n L hown ad m c2 news hl hcells h1 (by simp only [maxLen]; omega) (by omega) hbase
  unfold Oper.wp execOp
  simp only [ho, resolve, invoke, builtin, Sem.run_bind, Sem.run_pure, Result.andThen_ok, List.map_toArray, List.map_cons, List.map_nil, hs, hx, hr]
  exact h v' w' hown' hg
def CloneSX (vs : List Sl) (w : World) (e : Ending) (w' : World) : Prop :=
  Below w.heap.size w w' ∧ ∃ b c, e = .returned (.slice (some ⟨b, 0, none⟩) vs.length c) ∧ OwnS w' w.heap.size b c vs
set_option maxHeartbeats 1000000 in
theorem cloneS_any (b o c n : Nat) (vs : List Sl) (w : World) (hx : SlL w (some ⟨b, o, none⟩) vs) (hn : vs.length = n) (hl : n ≤ 1000) :
    Calls Try.prog 118 #[.slice (some ⟨b, o, none⟩) n c] w (CloneSX vs w) := by
  have HN := Lib.hid hn
  have HE := Lib.hid (OwnS.none_ w (base := w.heap.size) (Nat.le_refl _))
  have hB := Below.alloc (Below.refl w.heap.size w) (Nat.le_refl _) (.cells #[] 66)
  have HA := Lib.hid (hx.below hB)
  have HB := Lib.hid hB
  have HL := Lib.hid (show (0 : Nat) + vs.length ≤ 1000 by omega)
  have kn := fun (w : World) => Lib.run_eql_slice_nil (P := Try.prog) w 25 66 (some ⟨b, o, none⟩) n c 0 0 Try.underlying25
  clear hx hn hB
  go_enter Try.func118, Try.ntmps118
  go_wp2_with (at_builtin; refine wp_append_slots rfl (.tmp 5) (.tmp 6) rfl w.heap.size w.heap.size 0 [] rfl HE.out ⟨b, o, none⟩ c vs n rfl HN.out (SlL.news HA.out) HL.out (by simp) ?_; intro b3 c3 zs w5 HQ ho hgr HAT; have HO := Lib.hid ho; have HB5 := Lib.hid (HB.out.grown hgr (by simp) (fun k hk => by injection hk with hk; omega)); clear ho hgr)
  go_ret
  have hz : zs = vs := HQ.out
  subst hz
  exact ⟨HB5.out, b3, c3, rfl, HO.out⟩
/-- A map's keys, sorted, are the store's places' keys in their order. -/
theorem keys_perm {w : World} {b n : Nat} {D : DataW Value} {ys : List Ce} {ss : List (List UInt8)} (hown : w.ownsMap Try.prog 9 RV b n D) (hD : ∀ t, has D (.string t) = ys.any fun x => decide (keyB x.pl = t)) (hp : (ys.map fun x => keyB x.pl).Pairwise (· < ·)) (h : ss.Perm (strKeys D)) :
    ss.mergeSort (fun x y => decide (x ≤ y)) = (ys.map fun x => keyB x.pl) ∧ ss.length = ys.length := by
  have hnd : (ys.map fun x => keyB x.pl).Nodup := hp.imp (fun {a b} hab e => by subst e; exact List.lt_irrefl _ hab)
  have hq : (ys.map fun x => keyB x.pl).Perm (strKeys D) := Collected.perm (left := fun _ => false) ⟨hnd, fun x => by
    rw [hD x, List.any_eq_true, List.mem_map]
    constructor
    · rintro ⟨y, hy, e⟩; exact ⟨⟨y, hy, decide_eq_true e⟩, rfl⟩
    · rintro ⟨⟨y, hy, e⟩, _⟩; exact ⟨y, hy, of_decide_eq_true e⟩⟩ hown lawS Try.underlying9 (fun _ => rfl)
  have hpp := h.trans hq.symm
  refine ⟨?_, by rw [hpp.length_eq, List.length_map]⟩
  refine (mergeSort_of_perm hpp).trans (List.mergeSort_of_pairwise (hp.imp (fun {a b} hab => decide_eq_true (List.le_of_lt hab))))

theorem CeW.grownV {w w' : World} {lo n m g0 c0 g1 c1 base k : Nat} {x : Ce} {v : Value} {L : List Value} (h : CeW w lo x n m g0 c0 g1 c1) (hg : w.grownBy w' v.ownBlock) (ho : w.ownsRow base 60 2 v k L) : CeW w' lo x n m g0 c0 g1 c1 := by
  rcases ho.2 with ⟨rfl, _⟩ | ⟨g, cap, cur, rfl, _⟩
  · exact ⟨h.pl.kept hg (.inr (by simp [Value.ownBlock])), h.st.kept hg (.inr (by simp [Value.ownBlock]))⟩
  · exact h.grown hg ho
theorem StoW.grownV {w w' : World} {lo base k : Nat} {L M : List Value} {v : Value} {xs : List Ce} (h : StoW w lo L xs) (hg : w.grownBy w' v.ownBlock) (ho : w.ownsRow base 60 2 v k M) : StoW w' lo L xs := fun i x hx => by
  obtain ⟨g0, c0, g1, c1, h0, h1, hc⟩ := h i x hx
  exact ⟨g0, c0, g1, c1, h0, h1, hc.grownV hg ho⟩

/-- A copied cell, its rows in new memory, one behind the other. -/
def ICopyX (x : Ce) (n k : Nat) (w : World) (e : Ending) (w' : World) : Prop :=
  Below w.heap.size w w' ∧ ∃ g0 d0 g1 d1, e = .returned (.agg #[.slice (some ⟨g0, 0, none⟩) n d0, .slice (some ⟨g1, 0, none⟩) k d1]) ∧ CeW w' w.heap.size x n k g0 d0 g1 d1 ∧ g0 < g1
set_option maxHeartbeats 2000000 in
theorem icopy_any (b0 o0 c0 b1 o1 c1 n k : Nat) (x : Ce) (w : World) (hp : SlL w (some ⟨b0, o0, none⟩) x.pl) (hs : VaL w (some ⟨b1, o1, none⟩) x.st) (hn : x.pl.length = n) (hk : x.st.length = k) (hl : n ≤ 1000) (hl' : k ≤ 1000) :
    Calls Try.prog 107 #[.agg #[.slice (some ⟨b0, o0, none⟩) n c0, .slice (some ⟨b1, o1, none⟩) k c1]] w (ICopyX x n k w) := by
  have HP := Lib.hid (fun W (hb : Below w.heap.size w W) => hp.below hb)
  have HS := Lib.hid (fun W (hb : Below w.heap.size w W) => hs.below hb)
  subst hn hk
  have hB0 := (Below.alloc (Below.refl w.heap.size w) (Nat.le_refl _) (.cells #[.slice (some ⟨b0, o0, none⟩) x.pl.length c0, .slice (some ⟨b1, o1, none⟩) x.st.length c1] 60)).alloc (by simp) (.cells #[.slice none 0 0, .slice none 0 0] 60)
  have p0 : ((w.alloc (.cells #[.slice (some ⟨b0, o0, none⟩) x.pl.length c0, .slice (some ⟨b1, o1, none⟩) x.st.length c1] 60)).alloc (.cells #[.slice none 0 0, .slice none 0 0] 60)).cell? ⟨w.heap.size, 0, none⟩ = some (.slice (some ⟨b0, o0, none⟩) x.pl.length c0) := by go_simp
  have p1 : ((w.alloc (.cells #[.slice (some ⟨b0, o0, none⟩) x.pl.length c0, .slice (some ⟨b1, o1, none⟩) x.st.length c1] 60)).alloc (.cells #[.slice none 0 0, .slice none 0 0] 60)).cell? ⟨w.heap.size, 1, none⟩ = some (.slice (some ⟨b1, o1, none⟩) x.st.length c1) := by go_simp
  have r0 : ((w.alloc (.cells #[.slice (some ⟨b0, o0, none⟩) x.pl.length c0, .slice (some ⟨b1, o1, none⟩) x.st.length c1] 60)).alloc (.cells #[.slice none 0 0, .slice none 0 0] 60)).cell? ⟨w.heap.size + 1, 0, none⟩ = some (.slice none 0 0) := by go_simp
  have r1 : ((w.alloc (.cells #[.slice (some ⟨b0, o0, none⟩) x.pl.length c0, .slice (some ⟨b1, o1, none⟩) x.st.length c1] 60)).alloc (.cells #[.slice none 0 0, .slice none 0 0] 60)).cell? ⟨w.heap.size + 1, 1, none⟩ = some (.slice none 0 0) := by go_simp
  have rf : ∀ o, ((w.alloc (.cells #[.slice (some ⟨b0, o0, none⟩) x.pl.length c0, .slice (some ⟨b1, o1, none⟩) x.st.length c1] 60)).alloc (.cells #[.slice none 0 0, .slice none 0 0] 60)).frozen? ⟨w.heap.size + 1, o, none⟩ = false := fun o => by go_simp
  have hzd : w.heap.size + 1 < ((w.alloc (.cells #[.slice (some ⟨b0, o0, none⟩) x.pl.length c0, .slice (some ⟨b1, o1, none⟩) x.st.length c1] 60)).alloc (.cells #[.slice none 0 0, .slice none 0 0] 60)).heap.size := by simp
  obtain ⟨wd, hwd⟩ : ∃ wd, ((w.alloc (.cells #[.slice (some ⟨b0, o0, none⟩) x.pl.length c0, .slice (some ⟨b1, o1, none⟩) x.st.length c1] 60)).alloc (.cells #[.slice none 0 0, .slice none 0 0] 60)) = wd := ⟨_, rfl⟩
  rw [hwd] at p0 p1 r0 r1 rf hzd
  rw [hwd] at hB0
  have HB0 := Lib.hid hB0
  clear hp hs hB0
  go_enter Try.func107, Try.ntmps107
  go_wp2_with fail
  clear hwd
  refine wp_region_held_drew (S := fun w' => w'.cell? ⟨w.heap.size, 0, none⟩ = some (.slice (some ⟨b0, o0, none⟩) x.pl.length c0) ∧ w'.cell? ⟨w.heap.size, 1, none⟩ = some (.slice (some ⟨b1, o1, none⟩) x.st.length c1)) (by kernel_rfl) ?_ (fun hHeld => ?_)
  · exact ⟨p0, p1⟩
  obtain ⟨we, hwe⟩ : ∃ we, wd.drew = we := ⟨_, rfl⟩
  have hBe := HB0.out.drew
  rw [hwe] at hHeld hBe ⊢
  have hre : Below wd.heap.size wd we := by rw [← hwe]; exact (Below.refl _ _).drew
  have hze : wd.heap.size = we.heap.size := by rw [← hwe]; rfl
  have HBe := Lib.hid hBe
  have HRe := Lib.hid hre
  clear hwe hBe hre
  refine wpAnyH_take (i := 0) (oi := _) (v := ?_) rfl (by kernel_rfl) (by kernel_rfl) (by kernel_rfl) (fun _ _ _ h => h) (Or.inl ⟨by kernel_rfl, ?_⟩) (by assumption) ?_
  rotate_left
  · (intro w hSw; (try dsimp only at hSw); go_simp)
    try with_reducible rfl
  (try simp only [Act.put, List.getElem_toArray, List.getElem_cons_zero, List.getElem_cons_succ, List.setIfInBounds_toArray, List.set_cons_zero, List.set_cons_succ])
  refine wpAnyH_take (i := 1) (oi := _) (v := ?_) rfl (by kernel_rfl) (by kernel_rfl) (by kernel_rfl) (fun _ _ _ h => h) (Or.inl ⟨by kernel_rfl, ?_⟩) (by assumption) ?_
  rotate_left
  · (intro w hSw; (try dsimp only at hSw); go_simp)
    try with_reducible rfl
  (try simp only [Act.put, List.getElem_toArray, List.getElem_cons_zero, List.getElem_cons_succ, List.setIfInBounds_toArray, List.set_cons_zero, List.set_cons_succ])
  refine wpAnyH_take (i := 3) (oi := _) (v := ?_) rfl (by kernel_rfl) (by kernel_rfl) (by kernel_rfl) (fun _ _ _ h => h) (Or.inl ⟨by kernel_rfl, ?_⟩) (by assumption) ?_
  rotate_left
  · (intro w hSw; (try dsimp only at hSw); go_simp)
    try with_reducible rfl
  (try simp only [Act.put, List.getElem_toArray, List.getElem_cons_zero, List.getElem_cons_succ, List.setIfInBounds_toArray, List.set_cons_zero, List.set_cons_succ])
  refine wpAnyH_take (i := 4) (oi := _) (v := ?_) rfl (by kernel_rfl) (by kernel_rfl) (by kernel_rfl) (fun _ _ _ h => h) (Or.inl ⟨by kernel_rfl, ?_⟩) (by assumption) ?_
  rotate_left
  · (intro w hSw; (try dsimp only at hSw); go_simp)
    try with_reducible rfl
  (try simp only [Act.put, List.getElem_toArray, List.getElem_cons_zero, List.getElem_cons_succ, List.setIfInBounds_toArray, List.set_cons_zero, List.set_cons_succ])
  refine wpAnyH_ready (rs := [2]) (by kernel_rfl) (by simp) ?_
  refine AllReadyH.cons (o := _) rfl (fun K hK => ?_) AllReadyH.nil
  go_simp
  refine (cloneS_any b0 o0 c0 _ x.pl we (HP.out _ HBe.out) rfl hl).mono ?_
  rintro e w4 ⟨hb, g0, d0, rfl, ho⟩
  refine hK.out _ _ ?_ (fun hHeld2 => ?_)
  · exact ⟨(hb.cell (p := ⟨w.heap.size, 0, none⟩) (by show w.heap.size < _; omega)).trans hHeld.1, (hb.cell (p := ⟨w.heap.size, 1, none⟩) (by show w.heap.size < _; omega)).trans hHeld.2⟩
  have HB4 := Lib.hid (HBe.out.trans (hb.mono HBe.out.size))
  have HR4 := Lib.hid (HRe.out.trans (hb.mono HRe.out.size))
  have HQ0 := Lib.hid ho
  have hz4 := hb.size
  clear hK K hb ho hHeld
  (try simp only [Act.put, List.getElem_toArray, List.getElem_cons_zero, List.getElem_cons_succ, List.setIfInBounds_toArray, List.set_cons_zero, List.set_cons_succ])
  refine wpAnyH_ready (rs := [5]) (by kernel_rfl) (by simp) ?_
  refine AllReadyH.cons (o := _) rfl (fun K hK => ?_) AllReadyH.nil
  go_simp
  refine (clone_any b1 o1 c1 _ x.st w4 (HS.out _ HB4.out) rfl (by omega)).mono ?_
  rintro e w5 ⟨hb, g1, d1, rfl, ho⟩
  refine hK.out _ _ ?_ (fun hHeld3 => ?_)
  · exact ⟨(hb.cell (p := ⟨w.heap.size, 0, none⟩) (by show w.heap.size < _; omega)).trans hHeld2.1, (hb.cell (p := ⟨w.heap.size, 1, none⟩) (by show w.heap.size < _; omega)).trans hHeld2.2⟩
  have HB5 := Lib.hid (HB4.out.trans (hb.mono HB4.out.size))
  have HR5 := Lib.hid (HR4.out.trans (hb.mono HR4.out.size))
  have hg0 := World.ownsRow.lt HQ0.out g0 rfl
  have hg1 := World.ownsRow.lt ho g1 rfl
  have HCE := Lib.hid (show CeW w5 w.heap.size x x.pl.length x.st.length g0 d0 g1 d1 from ⟨World.ownsRow.mono (ownsRow_below HQ0.out hb) (by omega), World.ownsRow.mono ho (by omega)⟩)
  have hlt : g0 < g1 := by omega
  have hz5 := hb.size
  clear hK K hb ho hHeld2 HQ0
  (try simp only [Act.put, List.getElem_toArray, List.getElem_cons_zero, List.getElem_cons_succ, List.setIfInBounds_toArray, List.set_cons_zero, List.set_cons_succ])
  refine wpAnyH_take (i := 6) (oi := _) (v := ?_) rfl (by kernel_rfl) (by kernel_rfl) (by kernel_rfl) (fun _ _ _ h => h) (Or.inl ⟨by kernel_rfl, ?_⟩) (by assumption) ?_
  rotate_left
  · (intro w hSw; (try dsimp only at hSw); go_simp)
    try with_reducible rfl
  (try simp only [Act.put, List.getElem_toArray, List.getElem_cons_zero, List.getElem_cons_succ, List.setIfInBounds_toArray, List.set_cons_zero, List.set_cons_succ])
  have q0 := (HR5.out.cell (p := ⟨w.heap.size + 1, 0, none⟩) (by show w.heap.size + 1 < _; omega)).trans r0
  have q1 := (HR5.out.cell (p := ⟨w.heap.size + 1, 1, none⟩) (by show w.heap.size + 1 < _; omega)).trans r1
  have qf := fun o => (HR5.out.frozen (p := ⟨w.heap.size + 1, o, none⟩) (by show w.heap.size + 1 < _; omega)).trans (rf o)
  have m0 := hHeld3.1
  have m1 := hHeld3.2
  clear p0 p1 r0 r1 rf
  refine wpAnyH_ready (rs := [7]) (by kernel_rfl) (by simp) ?_
  refine AllReadyH.cons (o := _) rfl (fun K hK => ?_) AllReadyH.nil
  go_simp
  refine hK.out _ _ ?_ (fun hHeld4 => ?_)
  · exact ⟨by go_simp, by go_simp⟩
  clear hK K hHeld4
  (try simp only [Act.put, List.getElem_toArray, List.getElem_cons_zero, List.getElem_cons_succ, List.setIfInBounds_toArray, List.set_cons_zero, List.set_cons_succ])
  refine wpAnyH_done (by kernel_rfl) ?_ _
  go_wp2_with fail
  refine bodyPost_ret (v := .agg #[.slice (some ⟨g0, 0, none⟩) x.pl.length d0, .slice (some ⟨g1, 0, none⟩) x.st.length d1]) (by simp [results, Try.results107, go_sem, q0, q1, qf]) rfl ⟨?_, g0, d0, g1, d1, rfl, ?_, hlt⟩
  · exact (HB5.out.setCell (by show w.heap.size ≤ w.heap.size + 1; omega) _).setCell (by show w.heap.size ≤ w.heap.size + 1; omega) _
  · have hne0 : g0 ≠ w.heap.size + 1 := by omega
    have hne1 : g1 ≠ w.heap.size + 1 := by omega
    have hset : ∀ (W : World) (j : Nat) (u : Value), CeW W w.heap.size x x.pl.length x.st.length g0 d0 g1 d1 → CeW (W.setCell ⟨w.heap.size + 1, j, none⟩ u) w.heap.size x x.pl.length x.st.length g0 d0 g1 d1 := fun W j u h =>
      have hg : W.grownBy (W.setCell ⟨w.heap.size + 1, j, none⟩ u) (some (w.heap.size + 1)) := ⟨rfl, rfl, rfl, by simp [World.setCell], fun q _ hq => heap_setCell_other W _ q u (fun e => hq (by rw [e]))⟩
      ⟨h.pl.kept hg (.inr (by simpa [Value.ownBlock] using hne0)), h.st.kept hg (.inr (by simpa [Value.ownBlock] using hne1))⟩
    have h := hset _ 1 (.slice (some ⟨g1, 0, none⟩) x.st.length d1) (hset _ 0 (.slice (some ⟨g0, 0, none⟩) x.pl.length d0) HCE.out)
    exact h
/-- The rows of so many cells are the call's own, each behind the one ahead of it. -/
def StoA (w : World) (lo : Nat) (L : List Value) (xs : List Ce) : Prop := ∃ G K : Nat → Nat, (∀ i j, i < j → j < 2 * xs.length → G i < G j) ∧
  ∀ i x, xs[i]? = some x → L[i * 2]? = some (.slice (some ⟨G (2 * i), 0, none⟩) x.pl.length (K (2 * i))) ∧ L[i * 2 + 1]? = some (.slice (some ⟨G (2 * i + 1), 0, none⟩) x.st.length (K (2 * i + 1))) ∧
    CeW w lo x x.pl.length x.st.length (G (2 * i)) (K (2 * i)) (G (2 * i + 1)) (K (2 * i + 1))
theorem StoA.toW {w : World} {lo : Nat} {L : List Value} {xs : List Ce} (h : StoA w lo L xs) : StoW w lo L xs := fun i x hx => by
  obtain ⟨G, K, _, h⟩ := h
  obtain ⟨h0, h1, h2⟩ := h i x hx
  exact ⟨_, _, _, _, h0, h1, h2⟩
theorem StoA.map {w w' : World} {lo lo' : Nat} {L : List Value} {xs : List Ce} (h : StoA w lo L xs) (hm : ∀ x g0 c0 g1 c1, CeW w lo x x.pl.length x.st.length g0 c0 g1 c1 → CeW w' lo' x x.pl.length x.st.length g0 c0 g1 c1) : StoA w' lo' L xs := by
  obtain ⟨G, K, ha, h⟩ := h
  exact ⟨G, K, ha, fun i x hx => ⟨(h i x hx).1, (h i x hx).2.1, hm x _ _ _ _ (h i x hx).2.2⟩⟩
theorem StoA.below {w w' : World} {lo : Nat} {L : List Value} {xs : List Ce} (h : StoA w lo L xs) (hb : Below w.heap.size w w') : StoA w' lo L xs := h.map fun _ _ _ _ _ h => h.below hb
theorem StoA.mono {w : World} {lo lo' : Nat} {L : List Value} {xs : List Ce} (h : StoA w lo L xs) (hl : lo' ≤ lo) : StoA w lo' L xs := h.map fun _ _ _ _ _ h => h.mono hl
theorem StoA.grownV {w w' : World} {lo base k : Nat} {L M : List Value} {v : Value} {xs : List Ce} (h : StoA w lo L xs) (hg : w.grownBy w' v.ownBlock) (ho : w.ownsRow base 60 2 v k M) : StoA w' lo L xs := h.map fun _ _ _ _ _ h => h.grownV hg ho
theorem StoA.nil {w : World} {lo : Nat} : StoA w lo [] [] := ⟨fun _ => 0, fun _ => 0, fun i j _ h => by simp at h, fun i x h => by simp at h⟩
theorem StoA.lt {w : World} {lo : Nat} {L : List Value} {xs : List Ce} (h : StoA w lo L xs) : ∃ G K : Nat → Nat, (∀ i j, i < j → j < 2 * xs.length → G i < G j) ∧ (∀ j, j < 2 * xs.length → lo ≤ G j ∧ G j < w.heap.size) ∧
    ∀ i x, xs[i]? = some x → L[i * 2]? = some (.slice (some ⟨G (2 * i), 0, none⟩) x.pl.length (K (2 * i))) ∧ L[i * 2 + 1]? = some (.slice (some ⟨G (2 * i + 1), 0, none⟩) x.st.length (K (2 * i + 1))) ∧
      CeW w lo x x.pl.length x.st.length (G (2 * i)) (K (2 * i)) (G (2 * i + 1)) (K (2 * i + 1)) := by
  obtain ⟨G, K, ha, h⟩ := h
  refine ⟨G, K, ha, fun j hj => ?_, h⟩
  obtain ⟨x, hx⟩ := at_some (show j / 2 < xs.length by omega)
  obtain ⟨_, _, hc⟩ := h (j / 2) x hx
  have h0 := World.ownsRow.lt hc.pl _ rfl
  have h1 := World.ownsRow.lt hc.st _ rfl
  rcases (by omega : j = 2 * (j / 2) ∨ j = 2 * (j / 2) + 1) with e | e
  · rw [e]; exact h0
  · rw [e]; exact h1
/-- One cell more, its rows behind all others (which lay below block B). -/
theorem StoA.snoc {w : World} {lo g0 c0 g1 c1 B : Nat} {L : List Value} {xs : List Ce} {y : Ce} (h : ∃ G K : Nat → Nat, (∀ i j, i < j → j < 2 * xs.length → G i < G j) ∧ (∀ j, j < 2 * xs.length → G j < B) ∧
    ∀ i x, xs[i]? = some x → L[i * 2]? = some (.slice (some ⟨G (2 * i), 0, none⟩) x.pl.length (K (2 * i))) ∧ L[i * 2 + 1]? = some (.slice (some ⟨G (2 * i + 1), 0, none⟩) x.st.length (K (2 * i + 1))) ∧ CeW w lo x x.pl.length x.st.length (G (2 * i)) (K (2 * i)) (G (2 * i + 1)) (K (2 * i + 1)))
    (hl : L.length = xs.length * 2) (hc : CeW w lo y y.pl.length y.st.length g0 c0 g1 c1) (hg : B ≤ g0) (hgg : g0 < g1) :
    StoA w lo (L ++ [.slice (some ⟨g0, 0, none⟩) y.pl.length c0, .slice (some ⟨g1, 0, none⟩) y.st.length c1]) (xs ++ [y]) := by
  obtain ⟨G, K, ha, hb, h⟩ := h
  refine ⟨fun j => if j = 2 * xs.length then g0 else if j = 2 * xs.length + 1 then g1 else G j, fun j => if j = 2 * xs.length then c0 else if j = 2 * xs.length + 1 then c1 else K j, fun i j hij hj => ?_, fun i x hx => ?_⟩
  · rw [List.length_append, List.length_singleton] at hj
    dsimp only
    rcases (by omega : j < 2 * xs.length ∨ j = 2 * xs.length ∨ j = 2 * xs.length + 1) with hj | rfl | rfl
    · rw [if_neg (by omega), if_neg (by omega), if_neg (by omega), if_neg (by omega)]
      exact ha i j hij hj
    · rw [if_neg (by omega), if_neg (by omega), if_pos rfl]
      have := hb i hij
      omega
    · rw [if_neg (show ¬ 2 * xs.length + 1 = 2 * xs.length by omega), if_pos rfl]
      split
      · omega
      · rw [if_neg (by omega)]
        have := hb i (by omega)
        omega
  · dsimp only
    rcases Nat.lt_or_ge i xs.length with hi | hi
    · rw [List.getElem?_append_left hi] at hx
      obtain ⟨h0, h1, h2⟩ := h i x hx
      rw [if_neg (by omega), if_neg (by omega), if_neg (by omega), if_neg (by omega), if_neg (by omega), if_neg (by omega), if_neg (by omega), if_neg (by omega)]
      exact ⟨by rw [List.getElem?_append_left (by omega)]; exact h0, by rw [List.getElem?_append_left (by omega)]; exact h1, h2⟩
    · have hi2 : i = xs.length := by
        have := (List.getElem?_eq_some_iff.1 hx).1
        rw [List.length_append, List.length_singleton] at this
        omega
      subst hi2
      rw [List.getElem?_append_right (Nat.le_refl _), Nat.sub_self] at hx
      simp at hx
      subst hx
      rw [if_pos rfl, if_pos rfl, if_neg (by omega), if_pos rfl, if_neg (by omega), if_pos rfl]
      exact ⟨by rw [List.getElem?_append_right (by omega), show xs.length * 2 - L.length = 0 by omega]; rfl, by rw [List.getElem?_append_right (by omega), show xs.length * 2 + 1 - L.length = 1 by omega]; rfl, hc⟩

set_option maxRecDepth 100000 in
set_option maxHeartbeats 2000000 in
theorem store_any (b n m : Nat) (D : DataW Value) (ys : List Ce) (w : World) (hown : w.ownsMap Try.prog 9 RV b n D) (hD : ∀ t, has D (.string t) = ys.any fun x => decide (keyB x.pl = t)) (hC : ∀ x ∈ ys, CellV w D x)
    (hp : (ys.map fun x => keyB x.pl).Pairwise (· < ·)) (hn : n ≤ 1000) (hl : ys.length = m) (hm : m ≤ 1000) (hs : SmallC ys) :
    Calls Try.prog 84 #[.map (some b)] w fun e w' => Below w.heap.size w w' ∧ ∃ v L, e = .returned v ∧ w'.ownsRow w.heap.size 60 2 v m L ∧ StoA w' w.heap.size L ys := by
  have HO := Lib.hid hown
  have HD := Lib.hid hD
  have HC := Lib.hid hC
  have HP := Lib.hid hp
  have HL := Lib.hid hl
  have HS := Lib.hid hs
  have hsz := hown.size_le
  clear hown hD hC hp hl hs
  go_enter Try.func84, Try.ntmps84
  go_wp2_with fail
  refine (keysS_any b w).mono ?_
  rintro e w1 ⟨rfl, rfl⟩
  go_wp2_with fail
  refine (sortedS_any b n D RV w HO.out (by unfold maxLen; omega) (by omega)).mono ?_
  rintro e w2 ⟨vk, ss, rfl, hS, hrow, hnil, hb⟩
  obtain ⟨hso, hle⟩ := keys_perm HO.out HD.out HP.out hS
  rw [hso, hle, HL.out] at hrow
  have hform : ∃ A cK, vk = .slice A m cK ∧ m ≤ cK ∧ ∀ j t, (ys.map fun x => keyB x.pl)[j]? = some t → ∃ g, A = some ⟨g, 0, none⟩ ∧ g < w2.heap.size ∧ w2.cell? ⟨g, j, none⟩ = some (encStr t) := by
    rcases hrow.2 with ⟨rfl, h0⟩ | ⟨g, cap, cur, rfl, _, hg, hnc, _⟩
    · refine ⟨none, 0, by rw [h0], by omega, fun j t hj => ?_⟩
      have := (List.getElem?_eq_some_iff.1 hj).1
      rw [List.length_map, HL.out] at this
      omega
    · refine ⟨_, cap, rfl, hnc, fun j t hj => ⟨g, rfl, (Array.getElem?_eq_some_iff.1 hg).1, ?_⟩⟩
      have hj' := (List.getElem?_eq_some_iff.1 hj).1
      rw [List.length_map, HL.out] at hj'
      rw [World.ownsRow.cellAt hrow j (by omega), List.getElem?_map, hj]
      rfl
  obtain ⟨A, cK, rfl, hcK, hA⟩ := hform
  have HA := Lib.hid hA
  have HB2 := Lib.hid hb
  have HO2 := Lib.hid (HO.out.kept (Below.keeps hb) (by simp))
  have hz2 := hb.size
  clear hS hrow hnil hb hso hle hA
  go_wp2_with fail
  go_loopw [3, 10] (fun v i wr => ∃ (k : Nat) (L : List Value), k ≤ m ∧ i = .int .i64 k ∧ Hid (wr.ownsRow w2.heap.size 60 2 v k L) ∧ Hid (StoA wr w2.heap.size L (ys.take k)) ∧ Hid (Below w2.heap.size w2 wr)) (fun _ i _ => m - (intOf i).toNat)
  case atStart => exact ⟨0, [], by omega, rfl, Lib.hid (World.ownsRow_nil _ _ _ _), Lib.hid StoA.nil, Lib.hid (Below.refl _ _)⟩
  case round =>
    obtain ⟨k, L, hk, rfl, HW, HT, HB⟩ := hrel
    by_cases hlt : k < m
    · obtain ⟨x, hx⟩ := at_some (show k < ys.length by rw [HL.out]; exact hlt)
      obtain ⟨g, rfl, hg, hck⟩ := HA.out k (keyB x.pl) (by rw [List.getElem?_map, hx]; rfl)
      have ek := (HB.out.cell (p := ⟨g, k, none⟩) hg).trans hck
      have hxm := List.mem_of_getElem? hx
      obtain ⟨b0, o0, c0, b1, o1, c1, hat, hpl, hst⟩ := HC.out x hxm
      have hsx := HS.out x hxm
      have HXK := Lib.hid hx
      have hzr := HB.out.size
      have HOr := Lib.hid (HO2.out.kept (Below.keeps HB.out) (by simp))
      have HBw := Lib.hid (HB2.out.trans (HB.out.mono hz2))
      have HPL := Lib.hid hpl
      have HST := Lib.hid hst
      have hz0 := Try.zeroValue60 wr
      obtain ⟨v0, ps, hrun, hv⟩ := HOr.out.lookup lawS Try.underlying98 hz0 (R := RV) rfl (key_lit (keyB x.pl) (by rw [keyB_len]; omega))
      rw [hat] at hv
      have hv0 : v0 = .agg #[.slice (some ⟨b0, o0, none⟩) x.pl.length c0, .slice (some ⟨b1, o1, none⟩) x.st.length c1] := by
        have h : (some (DataW.held v0, ([] : List MemPlace)) : Option (DataW Value × List MemPlace)) = some (.held (.agg #[.slice (some ⟨b0, o0, none⟩) x.pl.length c0, .slice (some ⟨b1, o1, none⟩) x.st.length c1]), ps) := hv
        injection h with h
        injection h with h h'
        injection h
      subst hv0
      have hi1 : (0 : Int) ≤ (k : Int) := by omega
      have hi2 : (k : Int) < (m : Int) := by omega
      clear hx hxm hck hpl hst hat hv hz0
      obtain ⟨i0, hi0, hz0, hs0, hy0⟩ := info_parts infoCe
      have I0 := Lib.hid (And.intro hi0 (And.intro hz0 (And.intro hs0 hy0)))
      have KC := Lib.hid (icopy_any b0 o0 c0 b1 o1 c1 _ _ x wr (HPL.out.below HBw.out) (HST.out.below HBw.out) rfl rfl hsx.1 hsx.2)
      clear hi0 hz0 hs0 hy0
      go_wp2_with fail
      refine KC.out.mono ?_
      rintro e w5 ⟨hb, g0, d0, g1, d1, rfl, hce, hgg⟩
      obtain ⟨G, K, ha, hlt, hG⟩ := HT.out.lt
      have hg0 := World.ownsRow.lt hce.pl _ rfl
      have HB5 := Lib.hid (HB.out.trans (hb.mono hzr))
      have HW5 := Lib.hid (ownsRow_below HW.out hb)
      have hLL : L.length = (ys.take k).length * 2 := by rw [HW.out.1, List.length_take, HL.out]; omega
      have HT5 := Lib.hid (StoA.snoc (B := wr.heap.size) ⟨G, K, ha, fun j hj => (hlt j hj).2, fun i x hx => ⟨(hG i x hx).1, (hG i x hx).2.1, (hG i x hx).2.2.below hb⟩⟩ hLL (hce.mono hzr) hg0.1 hgg)
      clear hb hce ha hlt hG hLL
      have hb6 := Below.alloc (Below.refl w5.heap.size w5) (Nat.le_refl _) (.cells #[.slice (some ⟨g0, 0, none⟩) x.pl.length d0, .slice (some ⟨g1, 0, none⟩) x.st.length d1] 60)
      have HNW := Lib.hid (World.news_of_block (cs := #[.slice (some ⟨g0, 0, none⟩) x.pl.length d0, .slice (some ⟨g1, 0, none⟩) x.st.length d1]) (t := 60) (fr := (0, 0)) (heap_alloc_new w5 _))
      have HB6 := Lib.hid (HB5.out.trans (hb6.mono HB5.out.size))
      have HW6 := Lib.hid (ownsRow_below HW5.out hb6)
      have HT6 := Lib.hid (HT5.out.below hb6)
      clear hb6
      go_wp2_with (at_builtin; refine wpList_append_own_at _ rfl (.tmp 14) (.tmp 19) _ rfl w2.heap.size 60 i0 _ 2 48 Try.underlying39 I0.out.1 I0.out.2.1 I0.out.2.2.1 I0.out.2.2.2 rfl (by omega) _ k L rfl HW6.out ⟨w5.heap.size, 0, none⟩ 1 1 [.slice (some ⟨g0, 0, none⟩) x.pl.length d0, .slice (some ⟨g1, 0, none⟩) x.st.length d1] rfl rfl HNW.out (two_one _ _ rfl rfl) (by simp only [maxLen]; omega) (by omega) HB6.out.size ?_; intro v7 w7 hown hgr _ _; have HW7 := Lib.hid hown; have HT7 := Lib.hid (HT6.out.grownV hgr HW6.out); have HB7 := Lib.hid (HB6.out.grown hgr HB6.out.size (fun j hj => (World.ownsRow.lt HW6.out j hj).1)); clear hown hgr)
      go_roundw
      case rel => exact ⟨k + 1, _, by omega, by go_num, HW7, Lib.hid (by rw [List.take_succ_eq_append_getElem (by rw [HL.out]; exact hlt), (List.getElem?_eq_some_iff.1 HXK.out).2]; exact HT7.out), HB7⟩
      case measure => simp [intOf]; omega
    · obtain rfl : k = m := by omega
      have HTT := Lib.hid (show ys.take k = ys by rw [List.take_of_length_le (by rw [HL.out]; exact Nat.le_refl _)])
      go_wp2_with fail
      go_ret
      exact ⟨HB2.out.trans (HB.out.mono hz2), _, L, rfl, World.ownsRow.mono HW.out hz2, by have := HT.out.mono hz2; rw [HTT.out] at this; exact this⟩
end Go.Proofs.Ytfdejmdhcjfboaa
