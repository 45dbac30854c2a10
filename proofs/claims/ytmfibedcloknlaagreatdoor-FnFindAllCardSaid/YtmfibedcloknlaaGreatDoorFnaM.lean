/- Prt5, Fna1, Fna2, Fna3, Fnb1 in one text. -/
import Derived.Test.YtmfibedcloknlaaGreatDoorPrtM
import Derived.Deep.RegionHeld3
import Derived.Test.YtmfibedcloknlaaGreatDoorLkM2
import Derived.Test.YtmfibedcloknlaaGreatDoorLkM4
import Derived.Laws.EntriesVeiled
import Derived.Maps.OwnIn
import Derived.Maps.AppendAt
import Derived.Test.YtmfibedcloknlaaGreatDoorTrnM
namespace Go.Proofs.YtmfibedcloknlaaGreatDoor
open Go.Joins Go.ChangeShapes Go.WideShapes Go.ChangeAt Go.RowKit Go.Deep
open List renaming getElem_toArray → qa, getElem_cons_zero → qb, getElem_cons_succ → qc, setIfInBounds_toArray → qd, set_cons_zero → qe, set_cons_succ → qf
set_option linter.unusedVariables false
set_option linter.unusedSimpArgs false

/-- Where a row lies: 0 for none. -/
def blkA (A : Option Addr) : Nat := match A with
 | none => 0
 | some a => a.block + 1
def Inc (W : World) (L : List Pt) : Prop := L.Pairwise (fun a b => blkA a.Aw < blkA b.Aw) ∧ ∀ y ∈ L, blkA y.Aw ≤ W.heap.size
theorem Inc.later {W W' : World} {L : List Pt} (h : Inc W L) (hz : W.heap.size ≤ W'.heap.size) : Inc W' L := ⟨h.1, fun y hy => Nat.le_trans (h.2 y hy) hz⟩
theorem Inc.snoc {W : World} {L : List Pt} {x : Pt} (h : Inc W L) (hx : ∀ y ∈ L, blkA y.Aw < blkA x.Aw) (hl : blkA x.Aw ≤ W.heap.size) : Inc W (L ++ [x]) :=
 ⟨List.pairwise_append.2 ⟨h.1, List.pairwise_singleton _ _, fun a ha b hb => by obtain rfl := List.mem_singleton.1 hb; exact hx a ha⟩, fun y hy => by
  rcases List.mem_append.1 hy with hy | hy
  ·exact h.2 y hy
  ·obtain rfl := List.mem_singleton.1 hy
   exact hl⟩
/-- What the iterator owes for the parts xs. -/
def GivesQ (lo : Nat) (w0 : World) (J Jx : List Pt → World → Prop) (pre : List Pt) (xs : List (List Nat × Tr)) (W : World) (e : Ending) (W' : World) : Prop :=
 KpP w0.heap.size lo W W' ∧ ((e = .returned (.bool true) ∧ ∃ ys, ys.map Pt.key = xs ∧ J (pre ++ ys) W' ∧ Inc W' (pre ++ ys)) ∨ (e = .returned (.bool false) ∧ ∃ ys, ys.map Pt.key <+: xs ∧ Jx (pre ++ ys) W'))
def YqT (l lo N : Nat) (w0 : World) (L : List (List Nat × Tr)) (J Jx : List Pt → World → Prop) (t : Tr) : Prop :=
 ∀ (way : List Nat) (Aw A0 A1 : Option Addr) (cw c0 c1 : Nat) (pre : List Pt) (W : World), (∀ y ∈ partsT way t, y ∈ L) → lo ≤ W.heap.size → Below w0.heap.size w0 W → WayR lo W Aw cw way → PrL w0 A0 t.ps → TrL w0 0 A1 t.ks → way.length + sizeT t ≤ 1000 → J pre W → pre.length + sizeT t ≤ N → Inc W pre → (∀ y ∈ pre, blkA y.Aw < blkA Aw) → blkA Aw ≤ W.heap.size →
  Calls Tryz.prog 84 #[.slice Aw way.length cw, .agg #[.int .i64 t.tag, .int .i64 t.key, .string t.text, .slice A0 t.ps.length c0, .slice A1 t.ks.length c1], .func (.yield l) #[] #[]] W (GivesQ lo w0 J Jx pre (partsT way t) W)
attribute [local go_sem] Oper.semAt_some
set_option maxRecDepth 100000 in
set_option maxHeartbeats 2000000 in
theorem yieldPartsQ_any (l lo N : Nat) (w0 : World) (L : List (List Nat × Tr)) (J Jx : List Pt → World → Prop) (hJ : Stays J) (hY : YieldsP l lo N w0 L J Jx) (t : Tr) : SmT t → YqT l lo N w0 L J Jx t := by
 induction t using Tr.by_kids with
 | h t ih =>
 intro hsm way Aw A0 A1 cw c0 c1 pre W hL hlo hlow hway hp hk hsz hj hpre hinc hfr hbl
 obtain ⟨s0, s1, s2, s3, s4⟩ := hsm.open_
 have hb0 := Below.alloc (Below.refl W.heap.size W) (Nat.le_refl _) (.cells #[.int .i64 t.tag, .int .i64 t.key, .string t.text, .slice A0 t.ps.length c0, .slice A1 t.ks.length c1] 26)
 have hpos := sizeT_pos t
 have hx : PtX w0 lo L ⟨t, A0, c0, A1, c1, way, Aw, cw⟩ (W.alloc (.cells #[.int .i64 t.tag, .int .i64 t.key, .string t.text, .slice A0 t.ps.length c0, .slice A1 t.ks.length c1] 26)) :=
  ⟨hway.later hb0, hp, hk, hsm, hL _ (by rw [partsT_eq]; exact List.mem_cons_self), hlow.trans (hb0.mono hlow.size)⟩
 obtain ⟨fn, tmps, assign, body, hy, hR⟩ := hY 0 pre _ _ (hJ _ _ _ hj hb0) hx (by omega)
 dsimp only [Pt.encs, Pt.tree] at hy
 have HINC := Lib.hid hinc
 have HFR := Lib.hid hfr
 have HBL := Lib.hid hbl
 clear hinc hfr hbl
 have HI := Lib.hid (fun x hx => ih x hx (s4 x hx))
 have HR := Lib.hid hR
 have HB0 := Lib.hid hb0
 have HLOW := Lib.hid hlow
 have HWAY := Lib.hid hway
 have HK := Lib.hid hk
 have HSM := Lib.hid hsm
 have hse := sizeT_eq t
 obtain ⟨xs, hxs⟩ : ∃ xs, partsT way t = xs := ⟨_, rfl⟩
 have HPE := Lib.hid ((partsT_eq way t).symm.trans hxs)
 rw [hxs] at hL ⊢
 have HL := Lib.hid hL
 have hxl : xs.length = sizeT t := by rw [← hxs, partsT_length]
 unfold maxLen at s3
 clear hL hb0 hlow hway hk hx hR ih s0 s1 s2 s4 hsm hp hxs hj
 obtain ⟨tag, key, text, ps, ks⟩ := t
 dsimp only [Tr.tag, Tr.key, Tr.text, Tr.ps, Tr.ks] at *
 refine callsIn_wide (n := 1) |>.1 ?_
 refine callsIn_of_wp Tryz.func84 rfl trivial ?_ rfl; simp only [Tryz.ntmps84, List.size_toArray, List.length_cons, List.length_nil, Nat.reduceAdd, Nat.reduceSub, Array.replicate_succ, Array.replicate_zero, List.push_toArray, List.append_toArray, List.nil_append, List.cons_append]
 gi_wp2
 refine HR.out.mono ?_
 clear HR
 rintro e W1 ⟨hk1, ⟨rfl, hj1⟩ | ⟨rfl, hx1⟩⟩
 case inr =>
  have HX1 := Lib.hid hx1
  have HK1 := Lib.hid hk1
  clear hx1 hy hk1
  gi_wp2
  go_ret
  exact ⟨KpP.trans _ _ _ (KpP.later HB0.out HLOW.out.size) HK1.out, .inr ⟨rfl, [_], ⟨_, HPE.out⟩, HX1.out⟩⟩
 case inl =>
  obtain ⟨n, hn⟩ : ∃ n, ks.length = n := ⟨_, rfl⟩
  have HN := Lib.hid hn
  have HJ1 := Lib.hid hj1
  have HK1 := Lib.hid hk1
  have HINC1 := Lib.hid ((HINC.out.later (Nat.le_of_lt (Nat.lt_of_lt_of_le (by simp) hk1.low.size))).snoc (x := ⟨.mk tag key text ps ks, A0, c0, A1, c1, way, Aw, cw⟩) HFR.out (Nat.le_trans HBL.out (Nat.le_of_lt (Nat.lt_of_lt_of_le (by simp) hk1.low.size))))
  have hc4 : W1.cell? ⟨W.heap.size, 4, none⟩ = some (.slice A1 ks.length c1) := hk1.cell hlo (.inr rfl) (World.alloc_heap_new W _) (by rw [World.cell?_alloc_new]; rfl)
  rw [hn] at hc4 s3
  clear hy hj1 hk1 hn
  gi_wp2
  refine wpIn_wide.2 ?_
  go_loopw [17] (fun i wr => ∃ (k : Nat) (ys : List Pt), k ≤ n ∧ i = .int .i64 k ∧ Hid (ys.map Pt.key ++ partsL way k (ks.drop k) = xs) ∧ Hid (J (pre ++ ys) wr) ∧ Hid (Inc wr (pre ++ ys)) ∧ Hid (KpP w0.heap.size lo W wr) ∧ W.heap.size < wr.heap.size ∧ 1 ≤ ys.length) (fun i _ => n - (intOf i).toNat)
  case atStart => exact ⟨0, [⟨.mk tag key text ps ks, A0, c0, A1, c1, way, Aw, cw⟩], by omega, rfl, Lib.hid (by rw [← HPE.out]; rfl), HJ1, HINC1, Lib.hid (KpP.trans _ _ _ (KpP.later HB0.out HLOW.out.size) HK1.out), Nat.lt_of_lt_of_le (by simp) HK1.out.low.size, by simp⟩
  case round =>
   obtain ⟨k, ys, hk, rfl, HQ, HJ, HINC2, HKP, hgz, hy1⟩ := hrel
   by_cases hlt : k < n
   ·obtain ⟨x, hx⟩ := at_some (show k < ks.length by rw [HN.out]; exact hlt)
    obtain ⟨b, off, B0, d0, B1, d1, rfl, hblt, _, e0, e1, e2, e3, e4, hp, _, hks⟩ := HK.out.at_ hx
    have hLw := HLOW.out.trans HKP.out.low
    replace e0 := (hLw.cell (p := ⟨b, _, none⟩) hblt).trans e0
    replace e1 := (hLw.cell (p := ⟨b, _, none⟩) hblt).trans e1
    replace e2 := (hLw.cell (p := ⟨b, _, none⟩) hblt).trans e2
    replace e3 := (hLw.cell (p := ⟨b, _, none⟩) hblt).trans e3
    replace e4 := (hLw.cell (p := ⟨b, _, none⟩) hblt).trans e4
    have hQ := HQ.out
    rw [partsL_drop hx] at hQ
    have hyl : ys.length + sizeT x + sizeL (ks.drop (k + 1)) = sizeT (.mk tag key text ps ks) := by
     have e := congrArg List.length hQ
     rw [List.length_append, List.length_append, List.length_map, partsT_length, partsL_length _ way (k + 1) (fun y _ => partsT_length y), hxl] at e
     omega
    have hway1 : way.length + 1 ≤ 1000 := by have := sizeT_pos (.mk tag key text ps ks); omega
    have hi1 : (0 : Int) ≤ (k : Int) := by omega
    have hi2 : (k : Int) < (n : Int) := by omega
    have hgz2 := hLw.size
    have hbw : b < wr.heap.size := by omega
    have HC := Lib.hid (HI.out x (List.mem_of_getElem? hx))
    have HW := Lib.hid (HWAY.out.kept HKP.out)
    have HKS := Lib.hid hks
    have HPS := Lib.hid hp
    have HLW := Lib.hid hLw
    have HQ2 := Lib.hid hQ
    have HX := Lib.hid hx
    clear hx hp hks hLw hQ HQ
    obtain ⟨xt, xk, xs', xp, xq⟩ := x
    dsimp only [Tr.tag, Tr.key, Tr.text, Tr.ps, Tr.ks] at e0 e1 e2 e3 e4 HC
    go_wp2_with fail
    obtain ⟨wb, hwb⟩ : ∃ wb, wr.alloc (.cells #[.int .i64 xt, .int .i64 xk, .string xs', .slice B0 xp.length d0, .slice B1 xq.length d1] 26) = wb := ⟨_, rfl⟩
    have hbx : wb.heap[wr.heap.size]? = some (.cells #[.int .i64 xt, .int .i64 xk, .string xs', .slice B0 xp.length d0, .slice B1 xq.length d1] 26 (0, 0)) := by rw [← hwb]; exact World.alloc_heap_new wr _
    have hbb : Below wr.heap.size wr wb := by rw [← hwb]; exact Below.alloc (Below.refl _ _) (Nat.le_refl _) _
    have hwz : wb.heap.size = wr.heap.size + 1 := by rw [← hwb]; simp
    rw [hwb]
    have HBB := Lib.hid hbb
    clear hwb hbb e0 e1 e2 e3 e4
    refine wp_region_held_drew (S := fun w' => w'.heap[wr.heap.size]? = some (.cells #[.int .i64 xt, .int .i64 xk, .string xs', .slice B0 xp.length d0, .slice B1 xq.length d1] 26 (0, 0)) ∧ w'.cell? ⟨wr.heap.size, 0, none⟩ = some (.int .i64 xt) ∧ w'.cell? ⟨wr.heap.size, 1, none⟩ = some (.int .i64 xk) ∧ w'.cell? ⟨wr.heap.size, 2, none⟩ = some (.string xs') ∧ w'.cell? ⟨wr.heap.size, 3, none⟩ = some (.slice B0 xp.length d0) ∧ w'.cell? ⟨wr.heap.size, 4, none⟩ = some (.slice B1 xq.length d1)) (by kernel_rfl) ?_ (fun hHeld => ?_)
    ·exact ⟨hbx, five_cells hbx⟩
    refine wpAnyH_take (i := 0) (oi := _) (v := ?_) rfl (by kernel_rfl) (by kernel_rfl) (by kernel_rfl) (fun _ _ _ h => h) (Or.inl ⟨by kernel_rfl, ?_⟩) (by assumption) ?_
    rotate_left
    ·(intro w hSw; (try dsimp only at hSw); go_simp)
     try with_reducible rfl
    (try simp only [Act.put, qa, qb, qc, qd, qe, qf])
    refine wpAnyH_take (i := 1) (oi := _) (v := ?_) rfl (by kernel_rfl) (by kernel_rfl) (by kernel_rfl) (fun _ _ _ h => h) (Or.inl ⟨by kernel_rfl, ?_⟩) (by assumption) ?_
    rotate_left
    ·(intro w hSw; (try dsimp only at hSw); go_simp)
     try with_reducible rfl
    (try simp only [Act.put, qa, qb, qc, qd, qe, qf])
    refine wpAnyH_take (i := 3) (oi := _) (v := ?_) rfl (by kernel_rfl) (by kernel_rfl) (by kernel_rfl) (fun _ _ _ h => h) (Or.inl ⟨by kernel_rfl, ?_⟩) (by assumption) ?_
    rotate_left
    ·(intro w hSw; (try dsimp only at hSw); go_simp)
     try with_reducible rfl
    (try simp only [Act.put, qa, qb, qc, qd, qe, qf])
    refine wpAnyH_take (i := 4) (oi := _) (v := ?_) rfl (by kernel_rfl) (by kernel_rfl) (by kernel_rfl) (fun _ _ _ h => h) (Or.inl ⟨by kernel_rfl, ?_⟩) (by assumption) ?_
    rotate_left
    ·(intro w hSw; (try dsimp only at hSw); go_simp)
     try with_reducible rfl
    (try simp only [Act.put, qa, qb, qc, qd, qe, qf])
    refine wpAnyH_ready (rs := [2]) (by kernel_rfl) (by simp) ?_
    refine AllReadyH.cons (o := _) rfl (fun K hK => ?_) AllReadyH.nil
    go_simp
    have hWd : Below wr.heap.size wr wb.drew := HBB.out.drew
    refine (with_any lo Aw cw way k wb.drew (HW.out.later hWd) (by omega)).mono ?_
    rintro e w2 ⟨g, c', rfl, hway2, hb2⟩
    have h2x := (hb2.block wr.heap.size (by show wr.heap.size < wb.heap.size; omega)).trans hbx
    refine hK.out _ _ ⟨h2x, five_cells h2x⟩ (fun hHeld2 => ?_)
    clear hK K
    (try simp only [Act.put, qa, qb, qc, qd, qe, qf])
    have hb12 : Below wr.heap.size wr w2 := hWd.trans (hb2.mono (by show wr.heap.size ≤ wb.heap.size; omega))
    have HB12 := Lib.hid hb12
    have hwl := World.ownsRow.lt hway2 g rfl
    have hwz5 : wb.drew.heap.size = wr.heap.size + 1 := hwz
    rw [hwz5] at hwl
    have hsub : ∀ y ∈ partsT (way ++ [k]) (.mk xt xk xs' xp xq), y ∈ L := fun y hy => HL.out y (by rw [← HQ2.out]; exact List.mem_append_right _ (List.mem_append_left _ hy))
    have hc5 := (HC.out (way ++ [k]) (some ⟨g, 0, none⟩) B0 B1 c' d0 d1 (pre ++ ys) w2 hsub (by have := hb12.size; omega) (HLW.out.trans (hb12.mono (by omega)))
     (row_mono hway2 (by show lo ≤ wb.heap.size; omega)) HPS.out HKS.out (by rw [List.length_append]; simp only [List.length_cons, List.length_nil]; omega) (hJ _ _ _ HJ.out hb12) (by rw [List.length_append]; omega) (HINC2.out.later hb12.size) (fun y hy => by have := HINC2.out.2 y hy; show _ < g + 1; omega) (show g + 1 ≤ _ by omega))
    have hll : (way ++ [k]).length = way.length + 1 := by rw [List.length_append]; rfl
    rw [hll] at hc5
    dsimp only [Tr.tag, Tr.key, Tr.text, Tr.ps, Tr.ks] at hc5
    have HC5 := Lib.hid hc5
    clear hwl hwz5 hsub hway2 hb2 hb12 hWd hc5 hll
    refine wpAnyH_ready (rs := [5]) (by kernel_rfl) (by simp) ?_
    refine AllReadyH.cons (o := _) rfl (fun K hK => ?_) AllReadyH.nil
    go_simp
    refine HC5.out.mono ?_
    rintro e w3 ⟨hk3, hend⟩
    have h3x := (hk3.row wr.heap.size _ _ (by omega) (.inr rfl) h2x).trans h2x
    have HK3 := Lib.hid (KpP.trans _ _ _ HKP.out (KpP.trans _ _ _ (KpP.later HB12.out (by omega)) hk3))
    have hgz3 : W.heap.size < w3.heap.size := by have := hk3.low.size; have := HB12.out.size; omega
    rcases hend with ⟨rfl, zs, hz, hj3, hi3⟩ | ⟨rfl, zs, hz, hx3⟩
    ·refine hK.out _ _ ⟨h3x, five_cells h3x⟩ (fun hHeld3 => ?_)
     clear hK K
     (try simp only [Act.put, qa, qb, qc, qd, qe, qf])
     have HZ := Lib.hid hz
     have HJ3 := Lib.hid hj3
     have HI3 := Lib.hid hi3
     clear hz hj3 hk3 hi3
     refine wpAnyH_take (i := 6) (oi := _) (v := ?_) rfl (by kernel_rfl) (by kernel_rfl) (by kernel_rfl) (fun _ _ _ h => h) (Or.inl ⟨by kernel_rfl, ?_⟩) (by exact ⟨h3x, five_cells h3x⟩) ?_
     rotate_left
     ·(intro w hSw; (try dsimp only at hSw); go_simp)
      try with_reducible rfl
     (try simp only [Act.put, qa, qb, qc, qd, qe, qf])
     refine wpAnyH_done (by kernel_rfl) ?_ _
     clear h3x h2x hbx hHeld hHeld2 hHeld3
     go_wp2_with fail
     go_roundw
     case rel => exact ⟨k + 1, ys ++ zs, by omega, by go_num, Lib.hid (by rw [← HQ2.out, List.map_append, HZ.out, List.append_assoc]), Lib.hid (by rw [← List.append_assoc]; exact HJ3.out), Lib.hid (by rw [← List.append_assoc]; exact HI3.out), HK3, hgz3, by rw [List.length_append]; omega⟩
     case measure => simp [intOf]; omega
    ·refine hK.out _ _ ⟨h3x, five_cells h3x⟩ (fun hHeld3 => ?_)
     clear hK K
     (try simp only [Act.put, qa, qb, qc, qd, qe, qf])
     have HZ := Lib.hid hz
     have HX3 := Lib.hid hx3
     clear hz hx3 hk3
     refine wpAnyH_take (i := 6) (oi := _) (v := ?_) rfl (by kernel_rfl) (by kernel_rfl) (by kernel_rfl) (fun _ _ _ h => h) (Or.inl ⟨by kernel_rfl, ?_⟩) (by exact ⟨h3x, five_cells h3x⟩) ?_
     rotate_left
     ·(intro w hSw; (try dsimp only at hSw); go_simp)
      try with_reducible rfl
     (try simp only [Act.put, qa, qb, qc, qd, qe, qf])
     refine wpAnyH_done (by kernel_rfl) ?_ _
     clear h3x h2x hbx hHeld hHeld2 hHeld3
     go_wp2_with fail
     go_ret
     refine ⟨HK3.out, .inr ⟨rfl, ys ++ zs, ?_, by rw [← List.append_assoc]; exact HX3.out⟩⟩
     obtain ⟨q, hq⟩ := HZ.out
     exact ⟨q ++ partsL way (k + 1) (ks.drop (k + 1)), by rw [← HQ2.out, ← hq, List.map_append]; simp only [List.append_assoc]⟩
   ·obtain rfl : k = n := by omega
    have hQ := HQ.out
    rw [← HN.out, List.drop_length, partsL_nil, List.append_nil] at hQ
    have HQ2 := Lib.hid hQ
    clear hQ
    go_wp2_with fail
    gi_wp2
    go_ret
    exact ⟨KpP.trans _ _ _ (KpP.refl _ _ _) HKP.out, .inl ⟨rfl, ys, HQ2.out, HJ.out, HINC2.out⟩⟩
set_option maxRecDepth 100000 in
set_option maxHeartbeats 1000000 in
theorem parts_seqQ (n : Nat) (w0 w : World) (t : Tr) (A0 A1 : Option Addr) (c0 c1 bt : Nat) (hsm : SmT t) (hsz : sizeT t ≤ 1000) (hlow : Below w0.heap.size w0 w) (hp : PrL w0 A0 t.ps) (hk : TrL w0 0 A1 t.ks)
  (hbt : w.heap[bt]? = some (TREEC t A0 c0 A1 c1)) :
  SeqX Fence.wide n Tryz.prog 83 #[.pointer (some ⟨bt, 0, none⟩)] Pt.encs (PtX w0 (w.heap.size + 2) (partsT [] t)) (KpP w0.heap.size (w.heap.size + 2)) (fun xs => xs.map Pt.key = partsT [] t ∧ xs.Pairwise (fun a b => blkA a.Aw < blkA b.Aw)) (fun pre => pre.map Pt.key <+: partsT [] t) (sizeT t) w := by
 intro l J Jx W hW hWz hJ hJx hY h0
 have hbw : bt < w.heap.size := (Array.getElem?_eq_some_iff.1 hbt).1
 have hbx := five_cells (show W.heap[bt]? = some (.cells #[.int .i64 t.tag, .int .i64 t.key, .string t.text, .slice A0 t.ps.length c0, .slice A1 t.ks.length c1] 26 (0, 0)) from (hW.block bt hbw).trans hbt)
 obtain ⟨b0, b1, b2, b3, b4⟩ := hbx
 have K := yieldPartsQ_any l (w.heap.size + 2) (sizeT t) w0 (partsT [] t) J Jx hJ (fun m pre x W1 hj hx hl => YieldAt.wide (hY pre x W1 hj hx hl)) t hsm [] none A0 A1 0 c0 c1 [] W (fun y hy => hy) (by omega) (hlow.trans (hW.mono hlow.size)) (WayR.nil _ _) hp hk (by simpa using hsz) h0 (by simp) ⟨List.Pairwise.nil, fun y hy => by cases hy⟩ (fun y hy => by cases hy) (Nat.zero_le _)
 have hll : ([] : List Nat).length = 0 := rfl
 rw [hll] at K
 have HK := Lib.hid K
 clear K hY hJ hJx hW hp hk hbt h0
 obtain ⟨tag, key, text, ps, ks⟩ := t
 dsimp only [Tr.tag, Tr.key, Tr.text, Tr.ps, Tr.ks] at *
 generalize ps.length = np at *
 generalize ks.length = nk at *
 refine callsIn_wide.2 ?_
 go_enter Tryz.func83, Tryz.ntmps83
 go_wp2_with fail
 refine HK.out.mono ?_
 rintro e w1 ⟨_, ⟨rfl, ys, hy, hj, hi⟩ | ⟨rfl, ys, hy, hx⟩⟩
 ·have HY := Lib.hid (show _ ∧ _ from ⟨hy, hi.1⟩)
  have HJ := Lib.hid hj
  clear hy hj hi HK
  go_wp2_with fail
  go_end0
  exact ⟨⟨_, rfl⟩, .inl ⟨ys, HY.out, HJ.out⟩⟩
 ·have HY := Lib.hid hy
  have HX := Lib.hid hx
  clear hy hx HK
  go_wp2_with fail
  go_end0
  exact ⟨⟨_, rfl⟩, .inr ⟨ys, HY.out, HX.out⟩⟩
end Go.Proofs.YtmfibedcloknlaaGreatDoor

namespace Go.Proofs.YtmfibedcloknlaaGreatDoor
open Go.Joins Go.ChangeShapes Go.WideShapes Go.ChangeAt Go.RowKit Go.Deep
set_option linter.unusedVariables false
set_option linter.unusedSimpArgs false

def wV (x : Pt) : Value := .slice x.Aw x.way.length x.cw
/-- Those whose row begins with one. -/
def selP {α : Type} : List (List Int) → List α → List α
 | z :: zs, y :: ys => if z[0]?.getD 0 = 1 then y :: selP zs ys else selP zs ys
 | [], _ => []
 | _ :: _, [] => []
theorem selP_nil {α : Type} (zs : List (List Int)) : selP zs ([] : List α) = [] := by cases zs <;> rfl
theorem selP_snoc {α : Type} : ∀ (zs : List (List Int)) (ys : List α) (x : α) (z : List Int), zs[ys.length]? = some z → selP zs (ys ++ [x]) = selP zs ys ++ (if z[0]?.getD 0 = 1 then [x] else [])
 | [], ys, x, z, h => by simp at h
 | z0 :: zs, [], x, z, h => by
  simp only [List.length_nil, List.getElem?_cons_zero, Option.some.injEq] at h
  subst h
  simp only [List.nil_append, selP, selP_nil]
 | z0 :: zs, y :: ys, x, z, h => by
  have ih := selP_snoc zs ys x z (by simpa using h)
  simp only [List.cons_append, selP]
  rw [ih]
  split <;> rfl
theorem selP_map {α β : Type} (f : α → β) : ∀ (zs : List (List Int)) (ys : List α), (selP zs ys).map f = selP zs (ys.map f)
 | [], ys => by cases ys <;> rfl
 | z :: zs, [] => rfl
 | z :: zs, y :: ys => by
  have ih := selP_map f zs ys
  simp only [selP, List.map_cons]
  rw [← ih]
  split <;> rfl
theorem selP_sub {α : Type} : ∀ (zs : List (List Int)) (ys : List α), (selP zs ys).Sublist ys
 | [], ys => by cases ys <;> exact List.nil_sublist _
 | z :: zs, [] => List.Sublist.slnil
 | z :: zs, y :: ys => by
  have ih := selP_sub zs ys
  simp only [selP]
  split
  ·exact ih.cons_cons y
  ·exact ih.cons y
/-- The rule as FindAll asks it. -/
def Ru.on (x : Ru) : Ru := ⟨x.t, x.a, x.nm, x.v, 0, 1⟩
theorem on_ok {x : Ru} (h : ruleB x = true) : ruleB x.on = true := by
 rw [ruleB_ask, Bool.and_eq_true, Bool.and_eq_true, Bool.and_eq_true] at h ⊢
 exact ⟨h.1, h.2.1, h.2.2.1, rfl⟩
def findA (x : Ru) (t : Tr) : List (List Nat) := (selP (lksT [x.on] [] 0 t) (partsT [] t)).map Prod.fst
def faV (x : Ru) (t : Tr) : List (List Nat) := if treeOkB t && ruleB x then findA x t else []
theorem sel_ways {x : Ru} {pre : List Pt} {t : Tr} (h : pre.map Pt.key = partsT [] t) : (selP (lksT [x.on] [] 0 t) pre).map Pt.way = findA x t := by
 unfold findA
 rw [← h, ← selP_map, List.map_map]
 rfl
/-- What FindAll answers: ways in rows of their own, in blocks that rise. -/
def FaX (xss : List (List Nat)) (w : World) (e : Ending) (w' : World) : Prop := ∃ (ps : List Pt) (A : Option Addr) (c : Nat), e = .returned (.slice A xss.length c) ∧ ps.map Pt.way = xss ∧ w'.ownsRow w.heap.size 36 1 (.slice A xss.length c) xss.length (ps.map wV) ∧ (∀ y ∈ ps, WayR w.heap.size w' y.Aw y.cw y.way) ∧ ps.Pairwise (fun a b => blkA a.Aw < blkA b.Aw) ∧ Below w.heap.size w w'
theorem fax_nil {w w' : World} (hb : Below w.heap.size w w') : FaX [] w (.returned (.slice none 0 0)) w' := ⟨[], none, 0, rfl, rfl, World.ownsRow_nil _ _ _ _, by simp, List.Pairwise.nil, hb⟩
theorem boxed_put {W : World} {B : Nat} {t : TypeId} {v : Value} {l : Nat} {o : Obj} (o' : Obj) (h : Boxed W B t v) (hl : W.heap[l]? = some o) (ho : o.isCells = false) : Boxed (W.putObj l o') B t v :=
 (World.putObj_heap_other (by rintro rfl; rw [show W.heap[B]? = _ from h] at hl; injection hl with hl; rw [← hl] at ho; cases ho)).trans h
theorem boxed_later {W W' : World} {B : Nat} {t : TypeId} {v : Value} (h : Boxed W B t v) (hb : Below W.heap.size W W') : Boxed W' B t v := (hb.block B h.lt).trans h
theorem keeps_below {B : Nat} {W W' : World} (h : Below W.heap.size W W') : KeepsFrom B W W' := ⟨h.size, fun k o _ hk _ => (h.block k (Array.getElem?_eq_some_iff.1 hk).1).trans hk⟩
theorem keeps_trans {B : Nat} {W W' W'' : World} (h : KeepsFrom B W W') (k : KeepsFrom B W' W'') : KeepsFrom B W W'' := ⟨Nat.le_trans h.1 k.1, fun i o hB hi ho => k.2 i o hB (h.2 i o hB hi ho) ho⟩
/-- What is found so far; w5: the world ahead of the loop. -/
structure FaI (zss : List (List Int)) (gA cA : Nat) (w w5 : World) (lk lb k : Nat) (v : Value) (pre : List Pt) (W : World) : Prop where
 lkb : ∃ u, Boxed W lk 30 u ∧ (k < zss.length → u = .slice (some ⟨gA, k, none⟩) (zss.length - k) (cA - k))
 bx : Boxed W lb 30 v
 own : W.ownsRow w5.heap.size 36 1 v (selP zss pre).length ((selP zss pre).map wV)
 way : ∀ y ∈ selP zss pre, WayR w5.heap.size W y.Aw y.cw y.way
 fix : ∀ g, g < w5.heap.size → g ≠ lk → g ≠ lb → W.heap[g]? = w5.heap[g]?
 low : Below w.heap.size w W
 big : w5.heap.size ≤ W.heap.size
theorem FaI.put {zss : List (List Int)} {gA cA lk lb k l : Nat} {w w5 W : World} {v : Value} {pre : List Pt} {o : Obj} (h : FaI zss gA cA w w5 lk lb k v pre W) (o' : Obj) (hz : w.heap.size ≤ w5.heap.size) (hB : w5.heap.size ≤ l) (hl : W.heap[l]? = some o) (ho : o.isCells = false) : FaI zss gA cA w w5 lk lb k v pre (W.putObj l o') := by
 obtain ⟨u, hu, hk⟩ := h.lkb
 exact ⟨⟨u, boxed_put o' hu hl ho, hk⟩, boxed_put o' h.bx hl ho, own_at h.own (fun g cur _ hg => World.putObj_heap_other (by rintro rfl; rw [hg] at hl; injection hl with hl; rw [← hl] at ho; cases ho)), fun y hy => (h.way y hy).put o' hl ho,
  fun g h1 h2 h3 => (World.putObj_heap_other (by omega)).trans (h.fix g h1 h2 h3), h.low.grown (grownBy_putObj' W l o') h.low.size (fun k e => by cases e; omega), by rw [World.putObj_size]; exact h.big⟩
theorem FaI.later {zss : List (List Int)} {gA cA lk lb k : Nat} {w w5 W W' : World} {v : Value} {pre : List Pt} (h : FaI zss gA cA w w5 lk lb k v pre W) (hb : Below W.heap.size W W') : FaI zss gA cA w w5 lk lb k v pre W' := by
 obtain ⟨u, hu, hk⟩ := h.lkb
 exact ⟨⟨u, boxed_later hu hb, hk⟩, boxed_later h.bx hb, ownsRow_below h.own hb, fun y hy => (h.way y hy).later hb, fun g h1 h2 h3 => (hb.block g (by have := h.big; omega)).trans (h.fix g h1 h2 h3), h.low.trans (hb.mono h.low.size), Nat.le_trans h.big hb.size⟩
theorem FaI.skip {zss : List (List Int)} {gA cA lk lb k : Nat} {w w5 W : World} {v : Value} {pre : List Pt} {x : Pt} {z : List Int} (h : FaI zss gA cA w w5 lk lb k v pre W) (hz : zss[pre.length]? = some z) (hn : z[0]?.getD 0 ≠ 1) : FaI zss gA cA w w5 lk lb k v (pre ++ [x]) W := by
 have e := selP_snoc zss pre x z hz
 rw [if_neg hn, List.append_nil] at e
 exact ⟨h.lkb, h.bx, by rw [e]; exact h.own, by rw [e]; exact h.way, h.fix, h.low, h.big⟩
theorem fa_found {zss : List (List Int)} {gA cA lk lb k lo B : Nat} {w w5 W u8 : World} {v v' : Value} {pre : List Pt} {x : Pt} {z : List Int} (h : FaI zss gA cA w w5 lk lb k v pre W) (hgr : Gr W u8 v v') (hown8 : u8.ownsRow w5.heap.size 36 1 v' (selP zss pre ++ [x]).length ((selP zss pre ++ [x]).map wV))
  (hz : zss[pre.length]? = some z) (hin : z[0]?.getD 0 = 1) (hway : WayR w5.heap.size W x.Aw x.cw x.way) (hlk : lk < w5.heap.size) (hlb : lb < w5.heap.size) (hne0 : lk ≠ lb) (hlkw : w.heap.size ≤ lk) (hlbw : w.heap.size ≤ lb) (hlo : lb < lo) :
  KeepsFrom B W (u8.setCell ⟨lb, 0, none⟩ v') ∧ KpP w.heap.size lo W (u8.setCell ⟨lb, 0, none⟩ v') ∧ FaI zss gA cA w w5 lk lb k v' (pre ++ [x]) (u8.setCell ⟨lb, 0, none⟩ v') := by
 have hne : ∀ g, v.ownBlock = some g → w5.heap.size ≤ g := fun g e => (World.ownsRow.lt h.own g e).1
 have hrow : ∀ (g : Nat) (cur : Array Value) (e : TypeId), W.heap[g]? = some (Obj.cells cur e (0, 0)) → e ≠ 36 → v.ownBlock ≠ some g := fun g cur e hg he e2 => by
  obtain ⟨cur2, hc⟩ := own_cells h.own e2
  rw [hg] at hc
  injection hc with hc
  injection hc with _ hc _
  exact he hc
 have hlb2 : ∀ (g : Nat) (cur : Array Value) (e : TypeId), W.heap[g]? = some (Obj.cells cur e (0, 0)) → e ≠ 30 → g ≠ lb := fun g cur e hg he e2 => by
  rw [e2, show W.heap[lb]? = _ from h.bx] at hg
  injection hg with hg
  injection hg with _ hg _
  exact he hg.symm
 have h2 : ∀ g, g < W.heap.size → g ≠ lb → v.ownBlock ≠ some g → (u8.setCell ⟨lb, 0, none⟩ v').heap[g]? = W.heap[g]? := fun g a c d =>
  (heap_setCell_other _ _ g _ c).trans (hgr.1.block g a (fun e => d e.symm))
 have h3 : ∀ (g : Nat) (cur : Array Value) (e : TypeId), W.heap[g]? = some (Obj.cells cur e (0, 0)) → e ≠ 36 → e ≠ 30 → (u8.setCell ⟨lb, 0, none⟩ v').heap[g]? = W.heap[g]? := fun g cur e hg e1 e2 =>
  h2 g (Array.getElem?_eq_some_iff.1 hg).1 (hlb2 g cur e hg e2) (hrow g cur e hg e1)
 have hsz : W.heap.size ≤ (u8.setCell ⟨lb, 0, none⟩ v').heap.size := by have := hgr.1.size; simp only [World.size_setCell]; omega
 have hwz := h.low.size
 have hbg := h.big
 have hbelow : Below w.heap.size W (u8.setCell ⟨lb, 0, none⟩ v') :=
  ⟨hgr.1.os, hgr.1.tape, hgr.1.output, hsz, fun g hg => h2 g (by omega) (by omega) (fun e => by have := hne g e; omega)⟩
 have hb8 : Boxed u8 lb 30 v := (hgr.1.block lb h.bx.lt (fun e => hrow lb _ 30 h.bx (by decide) e.symm)).trans h.bx
 have e := selP_snoc zss pre x z hz
 rw [if_pos hin] at e
 obtain ⟨u, hu, hk⟩ := h.lkb
 refine ⟨⟨hsz, fun k o _ hk ho => ?_⟩, ⟨hbelow, fun g cur e hg he hc => ?_⟩, ⟨⟨u, ?_, hk⟩, hb8.set v', ?_, ?_, fun g g1 g2 g3 => ?_, h.low.trans hbelow, Nat.le_trans hbg hsz⟩⟩
 ·refine (h2 k (Array.getElem?_eq_some_iff.1 hk).1 (fun e => ?_) (fun e => ?_)).trans hk
  ·subst e; rw [show W.heap[k]? = _ from h.bx] at hk; injection hk with hk; rw [← hk] at ho; cases ho
  ·obtain ⟨cur, hc⟩ := own_cells h.own e; rw [hc] at hk; injection hk with hk; rw [← hk] at ho; cases ho
 ·exact h3 g cur e hc (by rcases he with rfl | rfl <;> decide) (by rcases he with rfl | rfl <;> decide)
 ·exact (h2 lk (by omega) hne0 (fun e => by have := hne lk e; omega)).trans hu
 ·rw [e]
  refine own_at hown8 (fun g cur e hg => heap_setCell_other _ _ g _ (fun e2 => ?_))
  rw [show g = lb from e2, show u8.heap[lb]? = _ from hb8] at hg
  injection hg with hg
  injection hg with _ hg _
  cases hg
 ·rw [e]
  intro y hy
  have hw : WayR w5.heap.size W y.Aw y.cw y.way := by
   rcases List.mem_append.1 hy with hy | hy
   ·exact h.way y hy
   ·simp at hy; subst hy; exact hway
  exact hw.moved fun g cur _ hg => h3 g cur 3 hg (by decide) (by decide)
 ·exact (h2 g (by omega) g3 (fun e => by have := hne g e; omega)).trans (h.fix g g1 g2 g3)
theorem fa_step {zss : List (List Int)} {gA cA lk lb k lo B : Nat} {w w5 W : World} {v u' : Value} {pre : List Pt} (h : FaI zss gA cA w w5 lk lb k v pre W) (hk' : k + 1 < zss.length → u' = .slice (some ⟨gA, k + 1, none⟩) (zss.length - (k + 1)) (cA - (k + 1)))
  (hlk : lk < w5.heap.size) (hlb : lb < w5.heap.size) (hne0 : lk ≠ lb) (hlkw : w.heap.size ≤ lk) (hlo : lk < lo) :
  KeepsFrom B W (W.setCell ⟨lk, 0, none⟩ u') ∧ KpP w.heap.size lo W (W.setCell ⟨lk, 0, none⟩ u') ∧ FaI zss gA cA w w5 lk lb (k + 1) v pre (W.setCell ⟨lk, 0, none⟩ u') := by
 obtain ⟨u, hu, hk⟩ := h.lkb
 have hwz := h.low.size
 have hbg := h.big
 have ho : ∀ g, g ≠ lk → (W.setCell ⟨lk, 0, none⟩ u').heap[g]? = W.heap[g]? := fun g hg => heap_setCell_other _ _ g _ hg
 have hT : ∀ (g : Nat) (cur : Array Value) (e : TypeId), W.heap[g]? = some (Obj.cells cur e (0, 0)) → e ≠ 30 → g ≠ lk := fun g cur e hg he e2 => by
  rw [e2, show W.heap[lk]? = _ from hu] at hg
  injection hg with hg
  injection hg with _ hg _
  exact he hg.symm
 have hsz : W.heap.size ≤ (W.setCell ⟨lk, 0, none⟩ u').heap.size := by simp only [World.size_setCell]; omega
 have hbelow : Below w.heap.size W (W.setCell ⟨lk, 0, none⟩ u') := (Below.refl _ W).setCell (by exact hlkw) _
 refine ⟨⟨hsz, fun k o _ hk2 ho2 => (ho k (fun e => ?_)).trans hk2⟩, ⟨hbelow, fun g cur e hg he hc => ho g (by omega)⟩, ⟨⟨u', hu.set u', hk'⟩, (ho lb (Ne.symm hne0)).trans h.bx, ?_, fun y hy => ?_, fun g g1 g2 g3 => (ho g g2).trans (h.fix g g1 g2 g3), h.low.trans hbelow, Nat.le_trans hbg hsz⟩⟩
 ·subst e; rw [show W.heap[k]? = _ from hu] at hk2; injection hk2 with hk2; rw [← hk2] at ho2; cases ho2
 ·exact own_at h.own (fun g cur e hg => ho g (hT g cur _ hg (by decide)))
 ·exact (h.way y hy).moved fun g cur _ hg => ho g (hT g cur 3 hg (by decide))
theorem own_waysA {w : World} {base n : Nat} {v : Value} {L : List Value} (h : w.ownsRow base 36 1 v n L) : ∃ A c, v = .slice A n c := own_form h
end Go.Proofs.YtmfibedcloknlaaGreatDoor

namespace Go.Proofs.YtmfibedcloknlaaGreatDoor
open Go.Joins Go.ChangeShapes Go.WideShapes Go.ChangeAt Go.RowKit Go.Deep
open List renaming getElem_toArray → qa, getElem_cons_zero → qb, getElem_cons_succ → qc, setIfInBounds_toArray → qd, set_cons_zero → qe, set_cons_succ → qf
set_option linter.unusedVariables false
set_option linter.unusedSimpArgs false

theorem laterF {P : Prop} {F G : Nat → Option Addr → Nat → Option Addr → Nat → Nat → World → Prop} (h : Hid (∀ a b c d e f w, F a b c d e f w → G a b c d e f w) → P) (ht : ∀ a b c d e f w, F a b c d e f w → G a b c d e f w) : P := h (Lib.hid ht)
/-- A part of the code that never leaves but by its end. -/
theorem wp_calm {P : Program} {c : Go.Code} {K : Act → World → Prop} {Q : Exit → Act → World → Prop} {a : Act} {w : World} (h : c.wp P (Exit.then K (fun _ _ _ => False)) a w) : c.wp P (Exit.then K Q) a w :=
 Go.Code.wp_mono (fun e a w hq => by cases e <;> first | exact hq | exact False.elim hq) h
theorem eight_cells {w : World} {b : Nat} {v0 v1 v2 v3 v4 v5 v6 v7 : Value} {t : TypeId} (h : w.heap[b]? = some (.cells #[v0, v1, v2, v3, v4, v5, v6, v7] t (0, 0))) : w.cell? ⟨b, 0, none⟩ = some v0 ∧ w.cell? ⟨b, 1, none⟩ = some v1 ∧ w.cell? ⟨b, 2, none⟩ = some v2 ∧ w.cell? ⟨b, 3, none⟩ = some v3 ∧ w.cell? ⟨b, 4, none⟩ = some v4 ∧ w.cell? ⟨b, 5, none⟩ = some v5 ∧ w.cell? ⟨b, 6, none⟩ = some v6 ∧ w.cell? ⟨b, 7, none⟩ = some v7 := by
 simp [World.cell?, h]
theorem ru_one_new (y : Ru) (u : World) : RuL (u.alloc (.cells #[.int .i64 y.t, .int .i64 y.a, .int .i64 y.nm, .int .i64 y.v.k, .int .i64 y.v.n, .string y.v.s, .int .i64 y.l, .int .i64 y.g] 42)) (some ⟨u.heap.size, 0, none⟩) [y] := fun _ => ⟨u.heap.size, 0, rfl, by simp, fun i x hx j v hv => by
 match i with
 | 0 =>
  simp only [List.getElem?_cons_zero, Option.some.injEq] at hx
  subst hx
  rw [World.cell?_alloc_new]
  simpa [Ru.cells] using hv
 | i + 1 => simp at hx⟩
theorem LkW.base_mono {xss : List (List Int)} {base base' : Nat} {A : Option Addr} {c : Nat} {w : World} (h : LkW xss base A c w) (hb : base' ≤ base) : LkW xss base' A c w := by
 obtain ⟨rs, h1, h2, h3, h4⟩ := h
 exact ⟨rs, h1, row_mono h2 hb, fun r hr => (h3 r hr).mono hb, h4⟩
theorem box_store {xss : List (List Int)} {A : Option Addr} {c n lk : Nat} {u w4 : World} {v : Value} (h : LkW xss w4.heap.size A c u) (hx : Boxed u lk 30 v) (hl : w4.heap.size ≤ lk) (hb : Below w4.heap.size w4 u) :
  Below w4.heap.size w4 (u.setCell ⟨lk, 0, none⟩ (.slice A n c)) ∧ LkW xss w4.heap.size A c (u.setCell ⟨lk, 0, none⟩ (.slice A n c)) ∧ Boxed (u.setCell ⟨lk, 0, none⟩ (.slice A n c)) lk 30 (.slice A n c) ∧ w4.heap.size ≤ lk := by
 have hT : ∀ (g : Nat) (cur : Array Value) (e : TypeId), u.heap[g]? = some (Obj.cells cur e (0, 0)) → e ≠ 30 → g ≠ lk := fun g cur e hg he e2 => by
  rw [e2, show u.heap[lk]? = _ from hx] at hg
  injection hg with hg
  injection hg with _ hg _
  exact he hg.symm
 obtain ⟨rs, h1, h2, h3, h4⟩ := h
 exact ⟨hb.setCell hl _, ⟨rs, h1, own_at h2 (fun g cur _ hg => heap_setCell_other _ _ g _ (hT g cur _ hg (by decide))), fun r hr => own_at (h3 r hr) (fun g cur _ hg => heap_setCell_other _ _ g _ (hT g cur _ hg (by decide))), h4⟩, hx.set _, hl⟩
theorem lk_addr {xss : List (List Int)} {base c : Nat} {A : Option Addr} {w : World} (h : LkW xss base A c w) (h0 : 0 < xss.length) : ∃ g, A = some ⟨g, 0, none⟩ ∧ xss.length ≤ c := by
 obtain ⟨L, hL⟩ := h.own
 rcases hL.2 with ⟨e, hn⟩ | ⟨g, cap, cur, e, hbg, hh, h1, _⟩
 ·omega
 ·injection e with e1 e2 e3
  subst e3
  exact ⟨g, e1, h1⟩
theorem lk_rows {xss : List (List Int)} {base c gA lk lb : Nat} {w : World} {u v : Value} (h : LkW xss base (some ⟨gA, 0, none⟩) c w) (hk : Boxed w lk 30 u) (hb : Boxed w lb 30 v) : ∀ k z, xss[k]? = some z → ∃ b d, gA < w.heap.size ∧ b < w.heap.size ∧ gA ≠ lk ∧ gA ≠ lb ∧ b ≠ lk ∧ b ≠ lb ∧ w.cell? ⟨gA, k, none⟩ = some (.slice (some ⟨b, 0, none⟩) z.length d) ∧ ∀ v, z[0]? = some v → w.cell? ⟨b, 0, none⟩ = some (.int .i64 v) := fun k z hz => by
 obtain ⟨rs, h1, h2, h3, h4⟩ := h
 subst h1
 rw [List.getElem?_map] at hz
 cases hr : rs[k]? with
 | none => rw [hr] at hz; cases hz
 | some r =>
  rw [hr] at hz
  simp only [Option.map_some, Option.some.injEq] at hz
  subst hz
  have hR := h3 r (List.mem_of_getElem? hr)
  have hkl := (List.getElem?_eq_some_iff.1 hr).1
  have hT : ∀ (p g : Nat) (cur : Array Value) (e : TypeId) (u : Value), Boxed w p 30 u → w.heap[g]? = some (Obj.cells cur e (0, 0)) → e ≠ 30 → g ≠ p := fun p g cur e u hp hg he e2 => by
   rw [e2, show w.heap[p]? = _ from hp] at hg
   injection hg with hg
   injection hg with _ hg _
   exact he hg.symm
  obtain ⟨cur, hg⟩ := own_cells h2 rfl
  obtain ⟨cur2, hg2⟩ := own_cells hR rfl
  refine ⟨r.b, r.c, (World.ownsRow.lt h2 _ rfl).2, hR.lt.2, hT _ _ _ _ _ hk hg (by decide), hT _ _ _ _ _ hb hg (by decide), hT _ _ _ _ _ hk hg2 (by decide), hT _ _ _ _ _ hb hg2 (by decide), ?_, fun v hv => ?_⟩
  ·rw [World.ownsRow.cellAt h2 k (by rw [List.length_map]; omega), List.getElem?_map, hr]
   rfl
  ·have hl := (List.getElem?_eq_some_iff.1 hv).1
   exact (World.ownsRow.cellAt hR 0 (by omega)).trans (zV_at hv)
attribute [local go_sem] Oper.semAt_some
set_option maxRecDepth 100000 in
set_option maxHeartbeats 8000000 in
theorem iFindAll_any (V : World → Prop) (hV : ShOk V) (t : Tr) (x : Ru) (hsm : SmT t) (hkw : KwT t) : ∀ (A0 A1 : Option Addr) (c0 c1 : Nat) (w : World), V w → PrL w A0 t.ps → TrL w 0 A1 t.ks →
  Calls Tryz.prog 16 #[.agg #[.int .i64 t.tag, .int .i64 t.key, .string t.text, .slice A0 t.ps.length c0, .slice A1 t.ks.length c1], .agg #[.int .i64 x.t, .int .i64 x.a, .int .i64 x.nm, .int .i64 x.v.k, .int .i64 x.v.n, .string x.v.s, .int .i64 x.l, .int .i64 x.g]] w (FaX (faV x t) w) := by
 intro A0 A1 c0 c1 w hv hp hk
 have k1 := fun w hv hp hk => iTreeOk_any V hV t hsm hkw A0 A1 c0 c1 w hv hp hk
 have hb1 : Below w.heap.size w ((w.alloc (.cells #[.int .i64 t.tag, .int .i64 t.key, .string t.text, .slice A0 t.ps.length c0, .slice A1 t.ks.length c1] 26)).alloc (.cells #[.int .i64 x.t, .int .i64 x.a, .int .i64 x.nm, .int .i64 x.v.k, .int .i64 x.v.n, .string x.v.s, .int .i64 x.l, .int .i64 x.g] 42)) := (Below.alloc (Below.refl _ w) (Nat.le_refl _) _).alloc (by simp) _
 have a0 : ((w.alloc (.cells #[.int .i64 t.tag, .int .i64 t.key, .string t.text, .slice A0 t.ps.length c0, .slice A1 t.ks.length c1] 26)).alloc (.cells #[.int .i64 x.t, .int .i64 x.a, .int .i64 x.nm, .int .i64 x.v.k, .int .i64 x.v.n, .string x.v.s, .int .i64 x.l, .int .i64 x.g] 42)).cell? ⟨w.heap.size, 0, none⟩ = some (.int .i64 t.tag) := by rw [Below.cell (Below.alloc (Below.refl (w.alloc (.cells #[.int .i64 t.tag, .int .i64 t.key, .string t.text, .slice A0 t.ps.length c0, .slice A1 t.ks.length c1] 26)).heap.size _) (Nat.le_refl _) _) (p := ⟨w.heap.size, 0, none⟩) (by simp), World.cell?_alloc_new]; rfl
 have a1 : ((w.alloc (.cells #[.int .i64 t.tag, .int .i64 t.key, .string t.text, .slice A0 t.ps.length c0, .slice A1 t.ks.length c1] 26)).alloc (.cells #[.int .i64 x.t, .int .i64 x.a, .int .i64 x.nm, .int .i64 x.v.k, .int .i64 x.v.n, .string x.v.s, .int .i64 x.l, .int .i64 x.g] 42)).cell? ⟨w.heap.size, 1, none⟩ = some (.int .i64 t.key) := by rw [Below.cell (Below.alloc (Below.refl (w.alloc (.cells #[.int .i64 t.tag, .int .i64 t.key, .string t.text, .slice A0 t.ps.length c0, .slice A1 t.ks.length c1] 26)).heap.size _) (Nat.le_refl _) _) (p := ⟨w.heap.size, 1, none⟩) (by simp), World.cell?_alloc_new]; rfl
 have a2 : ((w.alloc (.cells #[.int .i64 t.tag, .int .i64 t.key, .string t.text, .slice A0 t.ps.length c0, .slice A1 t.ks.length c1] 26)).alloc (.cells #[.int .i64 x.t, .int .i64 x.a, .int .i64 x.nm, .int .i64 x.v.k, .int .i64 x.v.n, .string x.v.s, .int .i64 x.l, .int .i64 x.g] 42)).cell? ⟨w.heap.size, 2, none⟩ = some (.string t.text) := by rw [Below.cell (Below.alloc (Below.refl (w.alloc (.cells #[.int .i64 t.tag, .int .i64 t.key, .string t.text, .slice A0 t.ps.length c0, .slice A1 t.ks.length c1] 26)).heap.size _) (Nat.le_refl _) _) (p := ⟨w.heap.size, 2, none⟩) (by simp), World.cell?_alloc_new]; rfl
 have a3 : ((w.alloc (.cells #[.int .i64 t.tag, .int .i64 t.key, .string t.text, .slice A0 t.ps.length c0, .slice A1 t.ks.length c1] 26)).alloc (.cells #[.int .i64 x.t, .int .i64 x.a, .int .i64 x.nm, .int .i64 x.v.k, .int .i64 x.v.n, .string x.v.s, .int .i64 x.l, .int .i64 x.g] 42)).cell? ⟨w.heap.size, 3, none⟩ = some (.slice A0 t.ps.length c0) := by rw [Below.cell (Below.alloc (Below.refl (w.alloc (.cells #[.int .i64 t.tag, .int .i64 t.key, .string t.text, .slice A0 t.ps.length c0, .slice A1 t.ks.length c1] 26)).heap.size _) (Nat.le_refl _) _) (p := ⟨w.heap.size, 3, none⟩) (by simp), World.cell?_alloc_new]; rfl
 have a4 : ((w.alloc (.cells #[.int .i64 t.tag, .int .i64 t.key, .string t.text, .slice A0 t.ps.length c0, .slice A1 t.ks.length c1] 26)).alloc (.cells #[.int .i64 x.t, .int .i64 x.a, .int .i64 x.nm, .int .i64 x.v.k, .int .i64 x.v.n, .string x.v.s, .int .i64 x.l, .int .i64 x.g] 42)).cell? ⟨w.heap.size, 4, none⟩ = some (.slice A1 t.ks.length c1) := by rw [Below.cell (Below.alloc (Below.refl (w.alloc (.cells #[.int .i64 t.tag, .int .i64 t.key, .string t.text, .slice A0 t.ps.length c0, .slice A1 t.ks.length c1] 26)).heap.size _) (Nat.le_refl _) _) (p := ⟨w.heap.size, 4, none⟩) (by simp), World.cell?_alloc_new]; rfl
 have r0 : ((w.alloc (.cells #[.int .i64 t.tag, .int .i64 t.key, .string t.text, .slice A0 t.ps.length c0, .slice A1 t.ks.length c1] 26)).alloc (.cells #[.int .i64 x.t, .int .i64 x.a, .int .i64 x.nm, .int .i64 x.v.k, .int .i64 x.v.n, .string x.v.s, .int .i64 x.l, .int .i64 x.g] 42)).cell? ⟨w.heap.size + 1, 0, none⟩ = some (.int .i64 x.t) := by have h : ((w.alloc (.cells #[.int .i64 t.tag, .int .i64 t.key, .string t.text, .slice A0 t.ps.length c0, .slice A1 t.ks.length c1] 26)).alloc (.cells #[.int .i64 x.t, .int .i64 x.a, .int .i64 x.nm, .int .i64 x.v.k, .int .i64 x.v.n, .string x.v.s, .int .i64 x.l, .int .i64 x.g] 42)).cell? ⟨(w.alloc (.cells #[.int .i64 t.tag, .int .i64 t.key, .string t.text, .slice A0 t.ps.length c0, .slice A1 t.ks.length c1] 26)).heap.size, 0, none⟩ = some (.int .i64 x.t) := (by rw [World.cell?_alloc_new]; rfl); rw [World.size_alloc] at h; exact h
 have r1 : ((w.alloc (.cells #[.int .i64 t.tag, .int .i64 t.key, .string t.text, .slice A0 t.ps.length c0, .slice A1 t.ks.length c1] 26)).alloc (.cells #[.int .i64 x.t, .int .i64 x.a, .int .i64 x.nm, .int .i64 x.v.k, .int .i64 x.v.n, .string x.v.s, .int .i64 x.l, .int .i64 x.g] 42)).cell? ⟨w.heap.size + 1, 1, none⟩ = some (.int .i64 x.a) := by have h : ((w.alloc (.cells #[.int .i64 t.tag, .int .i64 t.key, .string t.text, .slice A0 t.ps.length c0, .slice A1 t.ks.length c1] 26)).alloc (.cells #[.int .i64 x.t, .int .i64 x.a, .int .i64 x.nm, .int .i64 x.v.k, .int .i64 x.v.n, .string x.v.s, .int .i64 x.l, .int .i64 x.g] 42)).cell? ⟨(w.alloc (.cells #[.int .i64 t.tag, .int .i64 t.key, .string t.text, .slice A0 t.ps.length c0, .slice A1 t.ks.length c1] 26)).heap.size, 1, none⟩ = some (.int .i64 x.a) := (by rw [World.cell?_alloc_new]; rfl); rw [World.size_alloc] at h; exact h
 have r2 : ((w.alloc (.cells #[.int .i64 t.tag, .int .i64 t.key, .string t.text, .slice A0 t.ps.length c0, .slice A1 t.ks.length c1] 26)).alloc (.cells #[.int .i64 x.t, .int .i64 x.a, .int .i64 x.nm, .int .i64 x.v.k, .int .i64 x.v.n, .string x.v.s, .int .i64 x.l, .int .i64 x.g] 42)).cell? ⟨w.heap.size + 1, 2, none⟩ = some (.int .i64 x.nm) := by have h : ((w.alloc (.cells #[.int .i64 t.tag, .int .i64 t.key, .string t.text, .slice A0 t.ps.length c0, .slice A1 t.ks.length c1] 26)).alloc (.cells #[.int .i64 x.t, .int .i64 x.a, .int .i64 x.nm, .int .i64 x.v.k, .int .i64 x.v.n, .string x.v.s, .int .i64 x.l, .int .i64 x.g] 42)).cell? ⟨(w.alloc (.cells #[.int .i64 t.tag, .int .i64 t.key, .string t.text, .slice A0 t.ps.length c0, .slice A1 t.ks.length c1] 26)).heap.size, 2, none⟩ = some (.int .i64 x.nm) := (by rw [World.cell?_alloc_new]; rfl); rw [World.size_alloc] at h; exact h
 have r3 : ((w.alloc (.cells #[.int .i64 t.tag, .int .i64 t.key, .string t.text, .slice A0 t.ps.length c0, .slice A1 t.ks.length c1] 26)).alloc (.cells #[.int .i64 x.t, .int .i64 x.a, .int .i64 x.nm, .int .i64 x.v.k, .int .i64 x.v.n, .string x.v.s, .int .i64 x.l, .int .i64 x.g] 42)).cell? ⟨w.heap.size + 1, 3, none⟩ = some (.int .i64 x.v.k) := by have h : ((w.alloc (.cells #[.int .i64 t.tag, .int .i64 t.key, .string t.text, .slice A0 t.ps.length c0, .slice A1 t.ks.length c1] 26)).alloc (.cells #[.int .i64 x.t, .int .i64 x.a, .int .i64 x.nm, .int .i64 x.v.k, .int .i64 x.v.n, .string x.v.s, .int .i64 x.l, .int .i64 x.g] 42)).cell? ⟨(w.alloc (.cells #[.int .i64 t.tag, .int .i64 t.key, .string t.text, .slice A0 t.ps.length c0, .slice A1 t.ks.length c1] 26)).heap.size, 3, none⟩ = some (.int .i64 x.v.k) := (by rw [World.cell?_alloc_new]; rfl); rw [World.size_alloc] at h; exact h
 have r4 : ((w.alloc (.cells #[.int .i64 t.tag, .int .i64 t.key, .string t.text, .slice A0 t.ps.length c0, .slice A1 t.ks.length c1] 26)).alloc (.cells #[.int .i64 x.t, .int .i64 x.a, .int .i64 x.nm, .int .i64 x.v.k, .int .i64 x.v.n, .string x.v.s, .int .i64 x.l, .int .i64 x.g] 42)).cell? ⟨w.heap.size + 1, 4, none⟩ = some (.int .i64 x.v.n) := by have h : ((w.alloc (.cells #[.int .i64 t.tag, .int .i64 t.key, .string t.text, .slice A0 t.ps.length c0, .slice A1 t.ks.length c1] 26)).alloc (.cells #[.int .i64 x.t, .int .i64 x.a, .int .i64 x.nm, .int .i64 x.v.k, .int .i64 x.v.n, .string x.v.s, .int .i64 x.l, .int .i64 x.g] 42)).cell? ⟨(w.alloc (.cells #[.int .i64 t.tag, .int .i64 t.key, .string t.text, .slice A0 t.ps.length c0, .slice A1 t.ks.length c1] 26)).heap.size, 4, none⟩ = some (.int .i64 x.v.n) := (by rw [World.cell?_alloc_new]; rfl); rw [World.size_alloc] at h; exact h
 have r5 : ((w.alloc (.cells #[.int .i64 t.tag, .int .i64 t.key, .string t.text, .slice A0 t.ps.length c0, .slice A1 t.ks.length c1] 26)).alloc (.cells #[.int .i64 x.t, .int .i64 x.a, .int .i64 x.nm, .int .i64 x.v.k, .int .i64 x.v.n, .string x.v.s, .int .i64 x.l, .int .i64 x.g] 42)).cell? ⟨w.heap.size + 1, 5, none⟩ = some (.string x.v.s) := by have h : ((w.alloc (.cells #[.int .i64 t.tag, .int .i64 t.key, .string t.text, .slice A0 t.ps.length c0, .slice A1 t.ks.length c1] 26)).alloc (.cells #[.int .i64 x.t, .int .i64 x.a, .int .i64 x.nm, .int .i64 x.v.k, .int .i64 x.v.n, .string x.v.s, .int .i64 x.l, .int .i64 x.g] 42)).cell? ⟨(w.alloc (.cells #[.int .i64 t.tag, .int .i64 t.key, .string t.text, .slice A0 t.ps.length c0, .slice A1 t.ks.length c1] 26)).heap.size, 5, none⟩ = some (.string x.v.s) := (by rw [World.cell?_alloc_new]; rfl); rw [World.size_alloc] at h; exact h
 have r6 : ((w.alloc (.cells #[.int .i64 t.tag, .int .i64 t.key, .string t.text, .slice A0 t.ps.length c0, .slice A1 t.ks.length c1] 26)).alloc (.cells #[.int .i64 x.t, .int .i64 x.a, .int .i64 x.nm, .int .i64 x.v.k, .int .i64 x.v.n, .string x.v.s, .int .i64 x.l, .int .i64 x.g] 42)).cell? ⟨w.heap.size + 1, 6, none⟩ = some (.int .i64 x.l) := by have h : ((w.alloc (.cells #[.int .i64 t.tag, .int .i64 t.key, .string t.text, .slice A0 t.ps.length c0, .slice A1 t.ks.length c1] 26)).alloc (.cells #[.int .i64 x.t, .int .i64 x.a, .int .i64 x.nm, .int .i64 x.v.k, .int .i64 x.v.n, .string x.v.s, .int .i64 x.l, .int .i64 x.g] 42)).cell? ⟨(w.alloc (.cells #[.int .i64 t.tag, .int .i64 t.key, .string t.text, .slice A0 t.ps.length c0, .slice A1 t.ks.length c1] 26)).heap.size, 6, none⟩ = some (.int .i64 x.l) := (by rw [World.cell?_alloc_new]; rfl); rw [World.size_alloc] at h; exact h
 have r7 : ((w.alloc (.cells #[.int .i64 t.tag, .int .i64 t.key, .string t.text, .slice A0 t.ps.length c0, .slice A1 t.ks.length c1] 26)).alloc (.cells #[.int .i64 x.t, .int .i64 x.a, .int .i64 x.nm, .int .i64 x.v.k, .int .i64 x.v.n, .string x.v.s, .int .i64 x.l, .int .i64 x.g] 42)).cell? ⟨w.heap.size + 1, 7, none⟩ = some (.int .i64 x.g) := by have h : ((w.alloc (.cells #[.int .i64 t.tag, .int .i64 t.key, .string t.text, .slice A0 t.ps.length c0, .slice A1 t.ks.length c1] 26)).alloc (.cells #[.int .i64 x.t, .int .i64 x.a, .int .i64 x.nm, .int .i64 x.v.k, .int .i64 x.v.n, .string x.v.s, .int .i64 x.l, .int .i64 x.g] 42)).cell? ⟨(w.alloc (.cells #[.int .i64 t.tag, .int .i64 t.key, .string t.text, .slice A0 t.ps.length c0, .slice A1 t.ks.length c1] 26)).heap.size, 7, none⟩ = some (.int .i64 x.g) := (by rw [World.cell?_alloc_new]; rfl); rw [World.size_alloc] at h; exact h
 have hz1 : w.heap.size + 1 < ((w.alloc (.cells #[.int .i64 t.tag, .int .i64 t.key, .string t.text, .slice A0 t.ps.length c0, .slice A1 t.ks.length c1] 26)).alloc (.cells #[.int .i64 x.t, .int .i64 x.a, .int .i64 x.nm, .int .i64 x.v.k, .int .i64 x.v.n, .string x.v.s, .int .i64 x.l, .int .i64 x.g] 42)).heap.size := by simp
 obtain ⟨X, hX⟩ : ∃ X, FaX (faV x t) w = X := ⟨_, rfl⟩
 have HX := Lib.hid hX
 rw [hX]
 obtain ⟨w1, hw1⟩ : ∃ q, (w.alloc (.cells #[.int .i64 t.tag, .int .i64 t.key, .string t.text, .slice A0 t.ps.length c0, .slice A1 t.ks.length c1] 26)).alloc (.cells #[.int .i64 x.t, .int .i64 x.a, .int .i64 x.nm, .int .i64 x.v.k, .int .i64 x.v.n, .string x.v.s, .int .i64 x.l, .int .i64 x.g] 42) = q := ⟨_, rfl⟩
 rw [hw1] at hb1 a0 a1 a2 a3 a4 r0 r1 r2 r3 r4 r5 r6 r7 hz1
 have K1 := Lib.hid (k1 w1 (hV.stays _ _ hv hb1) (hp.below hb1) (hk.below hb1))
 have K2 := Lib.hid (fun w => irule_any x w)
 have HB1 := Lib.hid hb1
 have HP := Lib.hid hp
 have HK := Lib.hid hk
 have HRO := Lib.hid (show w1.heap[w.heap.size + 1]? = some (.cells #[.int .i64 x.t, .int .i64 x.a, .int .i64 x.nm, .int .i64 x.v.k, .int .i64 x.v.n, .string x.v.s, .int .i64 x.l, .int .i64 x.g] 42 (0, 0)) by rw [← hw1]; have h := World.alloc_heap_new (w.alloc (.cells #[.int .i64 t.tag, .int .i64 t.key, .string t.text, .slice A0 t.ps.length c0, .slice A1 t.ks.length c1] 26)) (.cells #[.int .i64 x.t, .int .i64 x.a, .int .i64 x.nm, .int .i64 x.v.k, .int .i64 x.v.n, .string x.v.s, .int .i64 x.l, .int .i64 x.g] 42); rw [World.size_alloc] at h; exact h)
 have HTO := Lib.hid (show w1.heap[w.heap.size]? = some (TREEC t A0 c0 A1 c1) by rw [← hw1]; exact (Below.heap_alloc _ _ _ (by simp)).trans (World.alloc_heap_new w _))
 have HSM := Lib.hid hsm
 have HW1 := Lib.hid hw1
 obtain ⟨ok, hok⟩ : ∃ v, treeOkB t = v := ⟨_, rfl⟩
 obtain ⟨ok2, hok2⟩ : ∃ v, ruleB x = v := ⟨_, rfl⟩
 rw [hok] at K1
 rw [hok2] at K2
 have HOK := Lib.hid hok
 have HOK2 := Lib.hid hok2
 clear hw1 k1 hb1 hp hk hv hsm hX hok hok2
 refine callsIn_wide (n := 3) |>.1 ?_
 refine callsIn_of_wp_marks Tryz.func16 rfl trivial ?_ rfl; simp only [Tryz.ntmps16, List.size_toArray, List.length_cons, List.length_nil, Nat.reduceAdd, Nat.reduceSub, Array.replicate_succ, Array.replicate_zero, List.push_toArray, List.append_toArray, List.nil_append, List.cons_append]
 refine wpIn_wide.2 ?_
 go_wp2_with fail
 rw [HW1.out]
 refine K1.out.mono ?_
 rintro e w2 ⟨rfl, hb⟩
 replace a0 := (hb.cell (p := ⟨w.heap.size, 0, none⟩) (show w.heap.size < w1.heap.size by omega)).trans a0
 replace a1 := (hb.cell (p := ⟨w.heap.size, 1, none⟩) (show w.heap.size < w1.heap.size by omega)).trans a1
 replace a2 := (hb.cell (p := ⟨w.heap.size, 2, none⟩) (show w.heap.size < w1.heap.size by omega)).trans a2
 replace a3 := (hb.cell (p := ⟨w.heap.size, 3, none⟩) (show w.heap.size < w1.heap.size by omega)).trans a3
 replace a4 := (hb.cell (p := ⟨w.heap.size, 4, none⟩) (show w.heap.size < w1.heap.size by omega)).trans a4
 replace r0 := (hb.cell (p := ⟨w.heap.size + 1, 0, none⟩) (show w.heap.size + 1 < w1.heap.size by omega)).trans r0
 replace r1 := (hb.cell (p := ⟨w.heap.size + 1, 1, none⟩) (show w.heap.size + 1 < w1.heap.size by omega)).trans r1
 replace r2 := (hb.cell (p := ⟨w.heap.size + 1, 2, none⟩) (show w.heap.size + 1 < w1.heap.size by omega)).trans r2
 replace r3 := (hb.cell (p := ⟨w.heap.size + 1, 3, none⟩) (show w.heap.size + 1 < w1.heap.size by omega)).trans r3
 replace r4 := (hb.cell (p := ⟨w.heap.size + 1, 4, none⟩) (show w.heap.size + 1 < w1.heap.size by omega)).trans r4
 replace r5 := (hb.cell (p := ⟨w.heap.size + 1, 5, none⟩) (show w.heap.size + 1 < w1.heap.size by omega)).trans r5
 replace r6 := (hb.cell (p := ⟨w.heap.size + 1, 6, none⟩) (show w.heap.size + 1 < w1.heap.size by omega)).trans r6
 replace r7 := (hb.cell (p := ⟨w.heap.size + 1, 7, none⟩) (show w.heap.size + 1 < w1.heap.size by omega)).trans r7

 replace HRO := Lib.hid ((hb.block _ hz1).trans HRO.out)
 replace HTO := Lib.hid ((hb.block _ (Nat.lt_of_succ_lt hz1)).trans HTO.out)
 have HB2 := Lib.hid (more HB1.out (Nat.le_refl _) hb)
 have hz2 := Nat.lt_of_lt_of_le hz1 hb.size
 clear hb K1 hz1 HW1 HB1
 cases ok
 ·have HVV := Lib.hid (show faV x t = [] by unfold faV; rw [HOK.out]; rfl)
  go_wp2_with fail
  refine ⟨_, results_tmp rfl _ _ _, ?_⟩
  rw [← HX.out, HVV.out]
  exact fax_nil HB2.out
 go_wp2_with fail
 refine (K2.out _).mono ?_
 rintro e w3 ⟨rfl, hb⟩
 replace a0 := (hb.cell (p := ⟨w.heap.size, 0, none⟩) (show w.heap.size < w2.heap.size by omega)).trans a0
 replace a1 := (hb.cell (p := ⟨w.heap.size, 1, none⟩) (show w.heap.size < w2.heap.size by omega)).trans a1
 replace a2 := (hb.cell (p := ⟨w.heap.size, 2, none⟩) (show w.heap.size < w2.heap.size by omega)).trans a2
 replace a3 := (hb.cell (p := ⟨w.heap.size, 3, none⟩) (show w.heap.size < w2.heap.size by omega)).trans a3
 replace a4 := (hb.cell (p := ⟨w.heap.size, 4, none⟩) (show w.heap.size < w2.heap.size by omega)).trans a4
 replace r0 := (hb.cell (p := ⟨w.heap.size + 1, 0, none⟩) (show w.heap.size + 1 < w2.heap.size by omega)).trans r0
 replace r1 := (hb.cell (p := ⟨w.heap.size + 1, 1, none⟩) (show w.heap.size + 1 < w2.heap.size by omega)).trans r1
 replace r2 := (hb.cell (p := ⟨w.heap.size + 1, 2, none⟩) (show w.heap.size + 1 < w2.heap.size by omega)).trans r2
 replace r3 := (hb.cell (p := ⟨w.heap.size + 1, 3, none⟩) (show w.heap.size + 1 < w2.heap.size by omega)).trans r3
 replace r4 := (hb.cell (p := ⟨w.heap.size + 1, 4, none⟩) (show w.heap.size + 1 < w2.heap.size by omega)).trans r4
 replace r5 := (hb.cell (p := ⟨w.heap.size + 1, 5, none⟩) (show w.heap.size + 1 < w2.heap.size by omega)).trans r5
 replace r6 := (hb.cell (p := ⟨w.heap.size + 1, 6, none⟩) (show w.heap.size + 1 < w2.heap.size by omega)).trans r6
 replace r7 := (hb.cell (p := ⟨w.heap.size + 1, 7, none⟩) (show w.heap.size + 1 < w2.heap.size by omega)).trans r7

 replace HRO := Lib.hid ((hb.block _ hz2).trans HRO.out)
 replace HTO := Lib.hid ((hb.block _ (Nat.lt_of_succ_lt hz2)).trans HTO.out)
 have HB3 := Lib.hid (more HB2.out (Nat.le_refl _) hb)
 have hz3 := Nat.lt_of_lt_of_le hz2 hb.size
 clear hb K2 hz2 HB2
 cases ok2
 ·have HVV := Lib.hid (show faV x t = [] by unfold faV; rw [HOK.out, HOK2.out]; rfl)
  go_wp2_with fail
  refine ⟨_, results_tmp rfl _ _ _, ?_⟩
  rw [← HX.out, HVV.out]
  exact fax_nil HB3.out
 have hrf : ∀ o, w3.frozen? ⟨w.heap.size + 1, o, none⟩ = false := fun o => by simp [World.frozen?, HRO.out]
 go_wp2_with fail
 clear hrf
 have hro3 := (HRO.out.trans rfl : w3.heap[w.heap.size + 1]? = _)
 have hto3 := HTO.out
 have hb4 : Below w.heap.size w ((w3.setCell ⟨w.heap.size + 1, 6, none⟩ (.int .i64 0)).setCell ⟨w.heap.size + 1, 7, none⟩ (.int .i64 1)) := (HB3.out.setCell (by simp) _).setCell (by simp) _
 have hr4 : ((w3.setCell ⟨w.heap.size + 1, 6, none⟩ (.int .i64 0)).setCell ⟨w.heap.size + 1, 7, none⟩ (.int .i64 1)).heap[w.heap.size + 1]? = some (.cells #[.int .i64 x.t, .int .i64 x.a, .int .i64 x.nm, .int .i64 x.v.k, .int .i64 x.v.n, .string x.v.s, .int .i64 0, .int .i64 1] 42 (0, 0)) := (heap_set (heap_set hro3)).trans rfl
 have ht4 : ((w3.setCell ⟨w.heap.size + 1, 6, none⟩ (.int .i64 0)).setCell ⟨w.heap.size + 1, 7, none⟩ (.int .i64 1)).heap[w.heap.size]? = some (TREEC t A0 c0 A1 c1) := (heap_setCell_other _ _ _ _ (by simp)).trans ((heap_setCell_other _ _ _ _ (by simp)).trans hto3)
 have hz4 : w.heap.size + 1 < ((w3.setCell ⟨w.heap.size + 1, 6, none⟩ (.int .i64 0)).setCell ⟨w.heap.size + 1, 7, none⟩ (.int .i64 1)).heap.size := by simpa using hz3
 obtain ⟨w4, hw4⟩ : ∃ q, (w3.setCell ⟨w.heap.size + 1, 6, none⟩ (.int .i64 0)).setCell ⟨w.heap.size + 1, 7, none⟩ (.int .i64 1) = q := ⟨_, rfl⟩
 rw [hw4] at hb4 hr4 ht4 hz4 ⊢
 have HB4 := Lib.hid hb4
 have hvv : faV x t = findA x t := by unfold faV; rw [HOK.out, HOK2.out]; rfl
 have HVV := Lib.hid hvv
 have HON := Lib.hid (on_ok HOK2.out)
 have HVP := Lib.hid (vp_of_ok HOK.out)
 have HSZ := Lib.hid (size_small9 HOK.out)
 have hsame : lksI [x.on] [] 0 t = lksT [x.on] [] 0 t := lks_same [x.on] (fun y hy => by obtain rfl := List.mem_singleton.1 hy; exact (by decide : (0 : Int).toNat < 5)) t HVP.out [] 0
 obtain ⟨zss, hzss⟩ : ∃ q, lksT [x.on] [] 0 t = q := ⟨_, rfl⟩
 have HZS := Lib.hid hzss
 have HE := Lib.hid (hsame.trans hzss)
 have HZL := Lib.hid (show zss.length = sizeT t by rw [← hzss]; exact lksT_len [x.on] t [] 0)
 have SF := Lib.hid (show ∀ u, Below w4.heap.size w4 u → (fun w' : World => w'.cell? ⟨w.heap.size, 0, none⟩ = some (.int .i64 t.tag) ∧ w'.cell? ⟨w.heap.size, 1, none⟩ = some (.int .i64 t.key) ∧ w'.cell? ⟨w.heap.size, 2, none⟩ = some (.string t.text) ∧ w'.cell? ⟨w.heap.size, 3, none⟩ = some (.slice A0 t.ps.length c0) ∧ w'.cell? ⟨w.heap.size, 4, none⟩ = some (.slice A1 t.ks.length c1) ∧ w'.cell? ⟨w.heap.size + 1, 0, none⟩ = some (.int .i64 x.t) ∧ w'.cell? ⟨w.heap.size + 1, 1, none⟩ = some (.int .i64 x.a) ∧ w'.cell? ⟨w.heap.size + 1, 2, none⟩ = some (.int .i64 x.nm) ∧ w'.cell? ⟨w.heap.size + 1, 3, none⟩ = some (.int .i64 x.v.k) ∧ w'.cell? ⟨w.heap.size + 1, 4, none⟩ = some (.int .i64 x.v.n) ∧ w'.cell? ⟨w.heap.size + 1, 5, none⟩ = some (.string x.v.s) ∧ w'.cell? ⟨w.heap.size + 1, 6, none⟩ = some (.int .i64 0) ∧ w'.cell? ⟨w.heap.size + 1, 7, none⟩ = some (.int .i64 1)) u from fun u hb => by
  obtain ⟨p0, p1, p2, p3, p4⟩ := five_cells (show u.heap[w.heap.size]? = some (.cells #[.int .i64 t.tag, .int .i64 t.key, .string t.text, .slice A0 t.ps.length c0, .slice A1 t.ks.length c1] 26 (0, 0)) from (hb.block _ (by omega)).trans ht4)
  obtain ⟨q0, q1, q2, q3, q4, q5, q6, q7⟩ := eight_cells ((hb.block _ hz4).trans hr4)
  exact ⟨p0, p1, p2, p3, p4, q0, q1, q2, q3, q4, q5, q6, q7⟩)
 clear hw4 hb4 hr4 ht4 hro3 hto3 hvv hsame hzss HB3 a0 a1 a2 a3 a4 r0 r1 r2 r3 r4 r5 r6 r7 HRO HTO hz3
 refine wp_calm ?_
 apply laterF (F := fun b19 GA gc A5 c5 lk u => Below w4.heap.size w4 u ∧ LkW zss w4.heap.size A5 c5 u ∧ Boxed u lk 30 (.slice A5 zss.length c5) ∧ w4.heap.size ≤ lk)
 ·intro hTail
  have HU := Lib.hid (Below.drew (Below.refl w4.heap.size w4))
  refine wp_region_held_drew (S := (fun w' : World => w'.cell? ⟨w.heap.size, 0, none⟩ = some (.int .i64 t.tag) ∧ w'.cell? ⟨w.heap.size, 1, none⟩ = some (.int .i64 t.key) ∧ w'.cell? ⟨w.heap.size, 2, none⟩ = some (.string t.text) ∧ w'.cell? ⟨w.heap.size, 3, none⟩ = some (.slice A0 t.ps.length c0) ∧ w'.cell? ⟨w.heap.size, 4, none⟩ = some (.slice A1 t.ks.length c1) ∧ w'.cell? ⟨w.heap.size + 1, 0, none⟩ = some (.int .i64 x.t) ∧ w'.cell? ⟨w.heap.size + 1, 1, none⟩ = some (.int .i64 x.a) ∧ w'.cell? ⟨w.heap.size + 1, 2, none⟩ = some (.int .i64 x.nm) ∧ w'.cell? ⟨w.heap.size + 1, 3, none⟩ = some (.int .i64 x.v.k) ∧ w'.cell? ⟨w.heap.size + 1, 4, none⟩ = some (.int .i64 x.v.n) ∧ w'.cell? ⟨w.heap.size + 1, 5, none⟩ = some (.string x.v.s) ∧ w'.cell? ⟨w.heap.size + 1, 6, none⟩ = some (.int .i64 0) ∧ w'.cell? ⟨w.heap.size + 1, 7, none⟩ = some (.int .i64 1))) (by kernel_rfl) (SF.out _ HU.out) (fun hHeld => ?_)
  obtain ⟨u0, hu0⟩ : ∃ q, w4.drew = q := ⟨_, rfl⟩
  rw [hu0] at HU hHeld ⊢
  clear hu0
  refine wpAnyH_take (i := 0) (oi := _) (v := ?_) rfl (by kernel_rfl) (by kernel_rfl) (by kernel_rfl) (fun _ _ _ h => h) (Or.inl ⟨by kernel_rfl, ?_⟩) (by assumption) ?_
  rotate_left
  ·(intro w hSw; (try dsimp only at hSw); go_simp)
   try with_reducible rfl
  (try simp only [Act.put, qa, qb, qc, qd, qe, qf])
  refine wpAnyH_take (i := 3) (oi := _) (v := ?_) rfl (by kernel_rfl) (by kernel_rfl) (by kernel_rfl) (fun _ _ _ h => h) (Or.inl ⟨by kernel_rfl, ?_⟩) (by assumption) ?_
  rotate_left
  ·(intro w hSw; (try dsimp only at hSw); go_simp)
   try with_reducible rfl
  (try simp only [Act.put, qa, qb, qc, qd, qe, qf])
  refine wpAnyH_take (i := 4) (oi := _) (v := ?_) rfl (by kernel_rfl) (by kernel_rfl) (by kernel_rfl) (fun _ _ _ h => h) (Or.inl ⟨by kernel_rfl, ?_⟩) (by assumption) ?_
  rotate_left
  ·(intro w hSw; (try dsimp only at hSw); go_simp)
   try with_reducible rfl
  (try simp only [Act.put, qa, qb, qc, qd, qe, qf])
  refine wpAnyH_ready (rs := [1, 6]) (by kernel_rfl) (by simp) ?_
  refine AllReadyH.cons (o := _) rfl (fun K hK => ?_) ?_
  ·skip
   go_simp
   have hb := Below.alloc (Below.refl u0.heap.size u0) (Nat.le_refl _) (.cells #[.int .i64 x.t, .int .i64 x.a, .int .i64 x.nm, .int .i64 x.v.k, .int .i64 x.v.n, .string x.v.s, .int .i64 0, .int .i64 1] 42)
   (try replace HRL := Lib.hid (HRL.out.below hb))
   (try replace HGV := Lib.hid (HGV.out.below hb))
   (try replace HLK := Lib.hid (HLK.out.below hb))
   (try replace HBX := Lib.hid (boxed_later HBX.out hb))
   replace HU := Lib.hid (more HU.out (Nat.le_refl _) hb)
   have HRL := Lib.hid (show RuL (u0.alloc (.cells #[.int .i64 x.t, .int .i64 x.a, .int .i64 x.nm, .int .i64 x.v.k, .int .i64 x.v.n, .string x.v.s, .int .i64 0, .int .i64 1] 42)) (some ⟨u0.heap.size, 0, none⟩) [x.on] from ru_one_new x.on u0)
   refine hK.out _ _ (SF.out _ HU.out) (fun hHeld2 => ?_)
   clear hHeld2 hK K hHeld
   have hHeld := SF.out _ HU.out
   (try simp only [Act.put, qa, qb, qc, qd, qe, qf])
   obtain ⟨b19, hb19⟩ : ∃ q, u0.heap.size = q := ⟨_, rfl⟩
   obtain ⟨u1, hN⟩ : ∃ q, u0.alloc (.cells #[.int .i64 x.t, .int .i64 x.a, .int .i64 x.nm, .int .i64 x.v.k, .int .i64 x.v.n, .string x.v.s, .int .i64 0, .int .i64 1] 42) = q := ⟨_, rfl⟩
   rw [hN] at HRL HU hHeld ⊢
   (try rw [hN] at HBX)
   rw [hb19] at HRL ⊢
   clear hN hb hb19
   refine wpAnyH_ready (rs := [2, 6]) (by kernel_rfl) (by simp) ?_
   refine AllReadyH.cons (o := _) rfl (fun K hK => ?_) ?_
   ·skip
    go_simp
    refine (newLooker_any (some ⟨b19, 0, none⟩) 1 1 [x.on] u1 HRL.out rfl (by omega) (fun y hy => by obtain rfl := List.mem_singleton.1 hy; exact HON.out)).mono ?_
    rintro e u2 ⟨GA, gc, rfl, hg, hb⟩
    (try replace HRL := Lib.hid (HRL.out.below hb))
    (try replace HGV := Lib.hid (HGV.out.below hb))
    (try replace HLK := Lib.hid (HLK.out.below hb))
    (try replace HBX := Lib.hid (boxed_later HBX.out hb))
    replace HU := Lib.hid (more HU.out (Nat.le_refl _) hb)
    have HGV := Lib.hid (show GvL u2 GA [x.on] from hg)
    clear HRL
    refine hK.out _ _ (SF.out _ HU.out) (fun hHeld2 => ?_)
    clear hHeld2 hK K hHeld
    have hHeld := SF.out _ HU.out
    (try simp only [Act.put, qa, qb, qc, qd, qe, qf])
    clear hg hb
    refine wpAnyH_ready (rs := [5, 6]) (by kernel_rfl) (by simp) ?_
    refine AllReadyH.cons (o := _) rfl (fun K hK => ?_) ?_
    ·skip
     go_simp
     have hlk5 := looks_any shownB [x.on] 1 rfl (by omega) (fun y hy => by obtain rfl := List.mem_singleton.1 hy; exact HON.out) t HVP.out HSM.out (by have := HSZ.out; omega) [] 0 GA A0 A1 gc c0 c1 u2 HGV.out (HP.out.below (HB4.out.trans (HU.out.mono HB4.out.size))) (HK.out.below (HB4.out.trans (HU.out.mono HB4.out.size)))
     rw [show wiV [] 0 = .agg #[.bool false, .bool false, .bool false, .bool false, .bool false, .int .i64 0] from rfl, HE.out] at hlk5
     refine hlk5.mono ?_
     rintro e u3 ⟨A5, c5, rfl, hg, hb⟩
     have hlw := hg.base_mono HU.out.size
     (try replace HRL := Lib.hid (HRL.out.below hb))
     (try replace HGV := Lib.hid (HGV.out.below hb))
     (try replace HLK := Lib.hid (HLK.out.below hb))
     (try replace HBX := Lib.hid (boxed_later HBX.out hb))
     replace HU := Lib.hid (more HU.out (Nat.le_refl _) hb)
     have HLK := Lib.hid hlw
     clear HGV
     refine hK.out _ _ (SF.out _ HU.out) (fun hHeld2 => ?_)
     clear hHeld2 hK K hHeld
     have hHeld := SF.out _ HU.out
     (try simp only [Act.put, qa, qb, qc, qd, qe, qf])
     clear hg hb hlk5 hlw
     refine wpAnyH_ready (rs := [6]) (by kernel_rfl) (by simp) ?_
     refine AllReadyH.cons (o := _) rfl (fun K hK => ?_) AllReadyH.nil
     go_simp
     have hb := Below.alloc (Below.refl u3.heap.size u3) (Nat.le_refl _) (.cells #[.slice none 0 0] 30)
     have HLB := Lib.hid HU.out.size
     (try replace HRL := Lib.hid (HRL.out.below hb))
     (try replace HGV := Lib.hid (HGV.out.below hb))
     (try replace HLK := Lib.hid (HLK.out.below hb))
     (try replace HBX := Lib.hid (boxed_later HBX.out hb))
     replace HU := Lib.hid (more HU.out (Nat.le_refl _) hb)
     have HBX := Lib.hid (Boxed.new u3 30 (.slice none 0 0))
     refine hK.out _ _ (SF.out _ HU.out) (fun hHeld2 => ?_)
     clear hHeld2 hK K hHeld
     have hHeld := SF.out _ HU.out
     (try simp only [Act.put, qa, qb, qc, qd, qe, qf])
     obtain ⟨lk, hlk⟩ : ∃ q, u3.heap.size = q := ⟨_, rfl⟩
     obtain ⟨u4, hN⟩ : ∃ q, u3.alloc (.cells #[.slice none 0 0] 30) = q := ⟨_, rfl⟩
     rw [hN] at HBX HU hHeld ⊢
     (try rw [hN] at HRL)
     (try rw [hN] at HGV)
     (try rw [hN] at HLK)
     rw [hlk] at HBX HLB ⊢
     clear hN hb hlk
     refine wpAnyH_ready (rs := [7]) (by kernel_rfl) (by simp) ?_
     refine AllReadyH.cons (o := _) rfl (fun K hK => ?_) AllReadyH.nil
     have hbc := HBX.out.cell
     have hbf := HBX.out.frozen
     go_simp
     have h7 := box_store (n := zss.length) HLK.out HBX.out HLB.out HU.out
     clear hbc hbf
     replace HU := Lib.hid h7.1
     refine hK.out _ _ (SF.out _ HU.out) (fun hHeld2 => ?_)
     clear hHeld2 hK K hHeld
     have hHeld := SF.out _ HU.out
     (try simp only [Act.put, qa, qb, qc, qd, qe, qf])
     exact hTail.out b19 GA gc A5 c5 lk _ h7
    refine AllReadyH.cons (o := _) rfl (fun K hK => ?_) AllReadyH.nil
    go_simp
    have hb := Below.alloc (Below.refl u2.heap.size u2) (Nat.le_refl _) (.cells #[.slice none 0 0] 30)
    have HLB := Lib.hid HU.out.size
    (try replace HRL := Lib.hid (HRL.out.below hb))
    (try replace HGV := Lib.hid (HGV.out.below hb))
    (try replace HLK := Lib.hid (HLK.out.below hb))
    (try replace HBX := Lib.hid (boxed_later HBX.out hb))
    replace HU := Lib.hid (more HU.out (Nat.le_refl _) hb)
    have HBX := Lib.hid (Boxed.new u2 30 (.slice none 0 0))
    refine hK.out _ _ (SF.out _ HU.out) (fun hHeld2 => ?_)
    clear hHeld2 hK K hHeld
    have hHeld := SF.out _ HU.out
    (try simp only [Act.put, qa, qb, qc, qd, qe, qf])
    obtain ⟨lk, hlk⟩ : ∃ q, u2.heap.size = q := ⟨_, rfl⟩
    obtain ⟨u5, hN⟩ : ∃ q, u2.alloc (.cells #[.slice none 0 0] 30) = q := ⟨_, rfl⟩
    rw [hN] at HBX HU hHeld ⊢
    (try rw [hN] at HRL)
    (try rw [hN] at HGV)
    (try rw [hN] at HLK)
    rw [hlk] at HBX HLB ⊢
    clear hN hb hlk
    refine wpAnyH_ready (rs := [5]) (by kernel_rfl) (by simp) ?_
    refine AllReadyH.cons (o := _) rfl (fun K hK => ?_) AllReadyH.nil
    go_simp
    have hlk5 := looks_any shownB [x.on] 1 rfl (by omega) (fun y hy => by obtain rfl := List.mem_singleton.1 hy; exact HON.out) t HVP.out HSM.out (by have := HSZ.out; omega) [] 0 GA A0 A1 gc c0 c1 u5 HGV.out (HP.out.below (HB4.out.trans (HU.out.mono HB4.out.size))) (HK.out.below (HB4.out.trans (HU.out.mono HB4.out.size)))
    rw [show wiV [] 0 = .agg #[.bool false, .bool false, .bool false, .bool false, .bool false, .int .i64 0] from rfl, HE.out] at hlk5
    refine hlk5.mono ?_
    rintro e u6 ⟨A5, c5, rfl, hg, hb⟩
    have hlw := hg.base_mono HU.out.size
    (try replace HRL := Lib.hid (HRL.out.below hb))
    (try replace HGV := Lib.hid (HGV.out.below hb))
    (try replace HLK := Lib.hid (HLK.out.below hb))
    (try replace HBX := Lib.hid (boxed_later HBX.out hb))
    replace HU := Lib.hid (more HU.out (Nat.le_refl _) hb)
    have HLK := Lib.hid hlw
    clear HGV
    refine hK.out _ _ (SF.out _ HU.out) (fun hHeld2 => ?_)
    clear hHeld2 hK K hHeld
    have hHeld := SF.out _ HU.out
    (try simp only [Act.put, qa, qb, qc, qd, qe, qf])
    clear hg hb hlk5 hlw
    refine wpAnyH_ready (rs := [7]) (by kernel_rfl) (by simp) ?_
    refine AllReadyH.cons (o := _) rfl (fun K hK => ?_) AllReadyH.nil
    have hbc := HBX.out.cell
    have hbf := HBX.out.frozen
    go_simp
    have h7 := box_store (n := zss.length) HLK.out HBX.out HLB.out HU.out
    clear hbc hbf
    replace HU := Lib.hid h7.1
    refine hK.out _ _ (SF.out _ HU.out) (fun hHeld2 => ?_)
    clear hHeld2 hK K hHeld
    have hHeld := SF.out _ HU.out
    (try simp only [Act.put, qa, qb, qc, qd, qe, qf])
    exact hTail.out b19 GA gc A5 c5 lk _ h7
   refine AllReadyH.cons (o := _) rfl (fun K hK => ?_) AllReadyH.nil
   go_simp
   have hb := Below.alloc (Below.refl u1.heap.size u1) (Nat.le_refl _) (.cells #[.slice none 0 0] 30)
   have HLB := Lib.hid HU.out.size
   (try replace HRL := Lib.hid (HRL.out.below hb))
   (try replace HGV := Lib.hid (HGV.out.below hb))
   (try replace HLK := Lib.hid (HLK.out.below hb))
   (try replace HBX := Lib.hid (boxed_later HBX.out hb))
   replace HU := Lib.hid (more HU.out (Nat.le_refl _) hb)
   have HBX := Lib.hid (Boxed.new u1 30 (.slice none 0 0))
   refine hK.out _ _ (SF.out _ HU.out) (fun hHeld2 => ?_)
   clear hHeld2 hK K hHeld
   have hHeld := SF.out _ HU.out
   (try simp only [Act.put, qa, qb, qc, qd, qe, qf])
   obtain ⟨lk, hlk⟩ : ∃ q, u1.heap.size = q := ⟨_, rfl⟩
   obtain ⟨u7, hN⟩ : ∃ q, u1.alloc (.cells #[.slice none 0 0] 30) = q := ⟨_, rfl⟩
   rw [hN] at HBX HU hHeld ⊢
   (try rw [hN] at HRL)
   (try rw [hN] at HGV)
   (try rw [hN] at HLK)
   rw [hlk] at HBX HLB ⊢
   clear hN hb hlk
   refine wpAnyH_ready (rs := [2]) (by kernel_rfl) (by simp) ?_
   refine AllReadyH.cons (o := _) rfl (fun K hK => ?_) AllReadyH.nil
   go_simp
   refine (newLooker_any (some ⟨b19, 0, none⟩) 1 1 [x.on] u7 HRL.out rfl (by omega) (fun y hy => by obtain rfl := List.mem_singleton.1 hy; exact HON.out)).mono ?_
   rintro e u8 ⟨GA, gc, rfl, hg, hb⟩
   (try replace HRL := Lib.hid (HRL.out.below hb))
   (try replace HGV := Lib.hid (HGV.out.below hb))
   (try replace HLK := Lib.hid (HLK.out.below hb))
   (try replace HBX := Lib.hid (boxed_later HBX.out hb))
   replace HU := Lib.hid (more HU.out (Nat.le_refl _) hb)
   have HGV := Lib.hid (show GvL u8 GA [x.on] from hg)
   clear HRL
   refine hK.out _ _ (SF.out _ HU.out) (fun hHeld2 => ?_)
   clear hHeld2 hK K hHeld
   have hHeld := SF.out _ HU.out
   (try simp only [Act.put, qa, qb, qc, qd, qe, qf])
   clear hg hb
   refine wpAnyH_ready (rs := [5]) (by kernel_rfl) (by simp) ?_
   refine AllReadyH.cons (o := _) rfl (fun K hK => ?_) AllReadyH.nil
   go_simp
   have hlk5 := looks_any shownB [x.on] 1 rfl (by omega) (fun y hy => by obtain rfl := List.mem_singleton.1 hy; exact HON.out) t HVP.out HSM.out (by have := HSZ.out; omega) [] 0 GA A0 A1 gc c0 c1 u8 HGV.out (HP.out.below (HB4.out.trans (HU.out.mono HB4.out.size))) (HK.out.below (HB4.out.trans (HU.out.mono HB4.out.size)))
   rw [show wiV [] 0 = .agg #[.bool false, .bool false, .bool false, .bool false, .bool false, .int .i64 0] from rfl, HE.out] at hlk5
   refine hlk5.mono ?_
   rintro e u9 ⟨A5, c5, rfl, hg, hb⟩
   have hlw := hg.base_mono HU.out.size
   (try replace HRL := Lib.hid (HRL.out.below hb))
   (try replace HGV := Lib.hid (HGV.out.below hb))
   (try replace HLK := Lib.hid (HLK.out.below hb))
   (try replace HBX := Lib.hid (boxed_later HBX.out hb))
   replace HU := Lib.hid (more HU.out (Nat.le_refl _) hb)
   have HLK := Lib.hid hlw
   clear HGV
   refine hK.out _ _ (SF.out _ HU.out) (fun hHeld2 => ?_)
   clear hHeld2 hK K hHeld
   have hHeld := SF.out _ HU.out
   (try simp only [Act.put, qa, qb, qc, qd, qe, qf])
   clear hg hb hlk5 hlw
   refine wpAnyH_ready (rs := [7]) (by kernel_rfl) (by simp) ?_
   refine AllReadyH.cons (o := _) rfl (fun K hK => ?_) AllReadyH.nil
   have hbc := HBX.out.cell
   have hbf := HBX.out.frozen
   go_simp
   have h7 := box_store (n := zss.length) HLK.out HBX.out HLB.out HU.out
   clear hbc hbf
   replace HU := Lib.hid h7.1
   refine hK.out _ _ (SF.out _ HU.out) (fun hHeld2 => ?_)
   clear hHeld2 hK K hHeld
   have hHeld := SF.out _ HU.out
   (try simp only [Act.put, qa, qb, qc, qd, qe, qf])
   exact hTail.out b19 GA gc A5 c5 lk _ h7
  refine AllReadyH.cons (o := _) rfl (fun K hK => ?_) AllReadyH.nil
  go_simp
  have hb := Below.alloc (Below.refl u0.heap.size u0) (Nat.le_refl _) (.cells #[.slice none 0 0] 30)
  have HLB := Lib.hid HU.out.size
  (try replace HRL := Lib.hid (HRL.out.below hb))
  (try replace HGV := Lib.hid (HGV.out.below hb))
  (try replace HLK := Lib.hid (HLK.out.below hb))
  (try replace HBX := Lib.hid (boxed_later HBX.out hb))
  replace HU := Lib.hid (more HU.out (Nat.le_refl _) hb)
  have HBX := Lib.hid (Boxed.new u0 30 (.slice none 0 0))
  refine hK.out _ _ (SF.out _ HU.out) (fun hHeld2 => ?_)
  clear hHeld2 hK K hHeld
  have hHeld := SF.out _ HU.out
  (try simp only [Act.put, qa, qb, qc, qd, qe, qf])
  obtain ⟨lk, hlk⟩ : ∃ q, u0.heap.size = q := ⟨_, rfl⟩
  obtain ⟨u10, hN⟩ : ∃ q, u0.alloc (.cells #[.slice none 0 0] 30) = q := ⟨_, rfl⟩
  rw [hN] at HBX HU hHeld ⊢
  (try rw [hN] at HRL)
  (try rw [hN] at HGV)
  (try rw [hN] at HLK)
  rw [hlk] at HBX HLB ⊢
  clear hN hb hlk
  refine wpAnyH_ready (rs := [1]) (by kernel_rfl) (by simp) ?_
  refine AllReadyH.cons (o := _) rfl (fun K hK => ?_) AllReadyH.nil
  go_simp
  have hb := Below.alloc (Below.refl u10.heap.size u10) (Nat.le_refl _) (.cells #[.int .i64 x.t, .int .i64 x.a, .int .i64 x.nm, .int .i64 x.v.k, .int .i64 x.v.n, .string x.v.s, .int .i64 0, .int .i64 1] 42)
  (try replace HRL := Lib.hid (HRL.out.below hb))
  (try replace HGV := Lib.hid (HGV.out.below hb))
  (try replace HLK := Lib.hid (HLK.out.below hb))
  (try replace HBX := Lib.hid (boxed_later HBX.out hb))
  replace HU := Lib.hid (more HU.out (Nat.le_refl _) hb)
  have HRL := Lib.hid (show RuL (u10.alloc (.cells #[.int .i64 x.t, .int .i64 x.a, .int .i64 x.nm, .int .i64 x.v.k, .int .i64 x.v.n, .string x.v.s, .int .i64 0, .int .i64 1] 42)) (some ⟨u10.heap.size, 0, none⟩) [x.on] from ru_one_new x.on u10)
  refine hK.out _ _ (SF.out _ HU.out) (fun hHeld2 => ?_)
  clear hHeld2 hK K hHeld
  have hHeld := SF.out _ HU.out
  (try simp only [Act.put, qa, qb, qc, qd, qe, qf])
  obtain ⟨b19, hb19⟩ : ∃ q, u10.heap.size = q := ⟨_, rfl⟩
  obtain ⟨u11, hN⟩ : ∃ q, u10.alloc (.cells #[.int .i64 x.t, .int .i64 x.a, .int .i64 x.nm, .int .i64 x.v.k, .int .i64 x.v.n, .string x.v.s, .int .i64 0, .int .i64 1] 42) = q := ⟨_, rfl⟩
  rw [hN] at HRL HU hHeld ⊢
  (try rw [hN] at HBX)
  rw [hb19] at HRL ⊢
  clear hN hb hb19
  refine wpAnyH_ready (rs := [2]) (by kernel_rfl) (by simp) ?_
  refine AllReadyH.cons (o := _) rfl (fun K hK => ?_) AllReadyH.nil
  go_simp
  refine (newLooker_any (some ⟨b19, 0, none⟩) 1 1 [x.on] u11 HRL.out rfl (by omega) (fun y hy => by obtain rfl := List.mem_singleton.1 hy; exact HON.out)).mono ?_
  rintro e u12 ⟨GA, gc, rfl, hg, hb⟩
  (try replace HRL := Lib.hid (HRL.out.below hb))
  (try replace HGV := Lib.hid (HGV.out.below hb))
  (try replace HLK := Lib.hid (HLK.out.below hb))
  (try replace HBX := Lib.hid (boxed_later HBX.out hb))
  replace HU := Lib.hid (more HU.out (Nat.le_refl _) hb)
  have HGV := Lib.hid (show GvL u12 GA [x.on] from hg)
  clear HRL
  refine hK.out _ _ (SF.out _ HU.out) (fun hHeld2 => ?_)
  clear hHeld2 hK K hHeld
  have hHeld := SF.out _ HU.out
  (try simp only [Act.put, qa, qb, qc, qd, qe, qf])
  clear hg hb
  refine wpAnyH_ready (rs := [5]) (by kernel_rfl) (by simp) ?_
  refine AllReadyH.cons (o := _) rfl (fun K hK => ?_) AllReadyH.nil
  go_simp
  have hlk5 := looks_any shownB [x.on] 1 rfl (by omega) (fun y hy => by obtain rfl := List.mem_singleton.1 hy; exact HON.out) t HVP.out HSM.out (by have := HSZ.out; omega) [] 0 GA A0 A1 gc c0 c1 u12 HGV.out (HP.out.below (HB4.out.trans (HU.out.mono HB4.out.size))) (HK.out.below (HB4.out.trans (HU.out.mono HB4.out.size)))
  rw [show wiV [] 0 = .agg #[.bool false, .bool false, .bool false, .bool false, .bool false, .int .i64 0] from rfl, HE.out] at hlk5
  refine hlk5.mono ?_
  rintro e u13 ⟨A5, c5, rfl, hg, hb⟩
  have hlw := hg.base_mono HU.out.size
  (try replace HRL := Lib.hid (HRL.out.below hb))
  (try replace HGV := Lib.hid (HGV.out.below hb))
  (try replace HLK := Lib.hid (HLK.out.below hb))
  (try replace HBX := Lib.hid (boxed_later HBX.out hb))
  replace HU := Lib.hid (more HU.out (Nat.le_refl _) hb)
  have HLK := Lib.hid hlw
  clear HGV
  refine hK.out _ _ (SF.out _ HU.out) (fun hHeld2 => ?_)
  clear hHeld2 hK K hHeld
  have hHeld := SF.out _ HU.out
  (try simp only [Act.put, qa, qb, qc, qd, qe, qf])
  clear hg hb hlk5 hlw
  refine wpAnyH_ready (rs := [7]) (by kernel_rfl) (by simp) ?_
  refine AllReadyH.cons (o := _) rfl (fun K hK => ?_) AllReadyH.nil
  have hbc := HBX.out.cell
  have hbf := HBX.out.frozen
  go_simp
  have h7 := box_store (n := zss.length) HLK.out HBX.out HLB.out HU.out
  clear hbc hbf
  replace HU := Lib.hid h7.1
  refine hK.out _ _ (SF.out _ HU.out) (fun hHeld2 => ?_)
  clear hHeld2 hK K hHeld
  have hHeld := SF.out _ HU.out
  (try simp only [Act.put, qa, qb, qc, qd, qe, qf])
  exact hTail.out b19 GA gc A5 c5 lk _ h7

 rename_i KK hKK
 rintro b19 GA gc A5 c5 lk w5 ⟨hb5, hlw5, hbx5, hlk5⟩
 obtain ⟨a0, a1, a2, a3, a4, -⟩ := SF.out _ hb5
 have hlkl := hbx5.lt
 have HB5 := Lib.hid (HB4.out.trans (hb5.mono HB4.out.size))
 have hz45 := hb5.size
 have hzw5 : w.heap.size < w5.heap.size := by omega
 have HBX5 := Lib.hid hbx5
 have HLW5 := Lib.hid hlw5
 clear hb5 hlw5 hbx5 SF
 refine wpAnyH_done (by kernel_rfl) ?_ _
 refine hKK _ _ (wpIn_wide (n := 3) |>.1 ?_)
 clear hKK
 gi_wp2
 obtain ⟨w6, hw6⟩ : ∃ q, w5.alloc (.cells #[.slice none 0 0] 30) = q := ⟨_, rfl⟩
 rw [hw6]
 refine ⟨trivial, (callsIn_wide.2 (eachPart_any _ _ _ _ _ _ _ _ _ _)).mono ?_⟩
 rintro e w7 ⟨rfl, hw7⟩
 have hzz : w6.heap.size = w5.heap.size + 1 := by rw [← hw6]; simp
 have hb6 : Below w5.heap.size w5 w6 := by rw [← hw6]; exact Below.alloc (Below.refl _ w5) (Nat.le_refl _) _
 have hb7 : Below w6.heap.size w6 w7 := by rw [hw7]; exact Below.alloc (Below.refl _ _) (Nat.le_refl _) _
 have hz7 : w7.heap.size = w5.heap.size + 2 := by rw [hw7]; simp [hzz]
 have hbt : w7.heap[w5.heap.size + 1]? = some (TREEC t A0 c0 A1 c1) := by
  rw [hw7, ← hzz]
  exact World.alloc_heap_new w6 _
 have hlb6 : Boxed w6 w5.heap.size 30 (.slice none 0 0) := by rw [← hw6]; exact Boxed.new w5 _ _
 have hb57 := hb6.trans (hb7.mono hb6.size)
 have HLB7 := Lib.hid (boxed_later hlb6 hb7)
 have HLK7 := Lib.hid (boxed_later HBX5.out hb57)
 have HLW7 := Lib.hid (HLW5.out.below hb57)
 have HBT := Lib.hid hbt
 have HB7 := Lib.hid (HB5.out.trans (hb57.mono HB5.out.size))
 rw [hzz]
 clear hw6 hw7 hb6 hb7 hbt hlb6 hb57 a0 a1 a2 a3 a4 HB5 HBX5 HLW5 hzz
 obtain ⟨lb, hlb⟩ : ∃ q, w5.heap.size = q := ⟨_, rfl⟩
 rw [hlb] at HLB7 HBT hz7 hlkl hz45 hzw5 ⊢
 clear hlb
 obtain ⟨gA, hgA, hcap⟩ := lk_addr HLW7.out (by rw [HZL.out]; exact sizeT_pos t)
 subst hgA
 have HCAP := Lib.hid hcap
 have HROW := Lib.hid (lk_rows HLW7.out HLK7.out HLB7.out)
 have HFV := Lib.hid (show ∀ y ∈ zss, y.length = 5 by rw [← HZS.out]; exact lksT_five [x.on] t [] 0)
 clear hcap
 gi_wp2
 refine wpIn_rangeX (α := Pt) rfl (by decide) (gf := 83) (lb := #[.pointer (some ⟨lb + 1, 0, none⟩)]) rfl trivial (enters_of Tryz.func83 (by kernel_rfl) rfl)
  (parts_seqQ 2 w w7 t A0 A1 c0 c1 (lb + 1) HSM.out (by have := HSZ.out; omega) HB7.out HP.out HK.out HBT.out) (PtX.spares (by omega)) PtX.stays (fun W W' h hb => KpP.later hb (by omega)) KpP.trans (fun W l o o' hl h ho _ => KpP.put (w := w7) (by omega) W l o o' hl h ho) (fun x => rfl)
  (fun pre W => ∃ v, FaI zss gA c5 w w7 lk lb pre.length v pre W) (fun _ _ _ => False)
  (fun pre W l o o' ⟨v, h⟩ hl ho hc => ⟨v, h.put o' (by omega) hl ho hc⟩) (fun pre W W' ⟨v, h⟩ hb => ⟨v, h.later hb⟩) (fun _ _ _ _ _ _ h _ _ _ => h) (fun _ _ _ _ h _ => h)
  ⟨.slice none 0 0, ⟨_, HLK7.out, fun _ => rfl⟩, HLB7.out, (by rw [selP_nil]; exact World.ownsRow_nil _ _ _ _), (fun y hy => by rw [selP_nil] at hy; cases hy), fun g _ _ _ => rfl, HB7.out, Nat.le_refl _⟩
  (fun x1 a' W => a' = { tmps := #[.agg #[.int .i64 t.tag, .int .i64 t.key, .string t.text, .slice A0 t.ps.length c0, .slice A1 t.ks.length c1], .agg #[.int .i64 x.t, .int .i64 x.a, .int .i64 x.nm, .int .i64 x.v.k, .int .i64 x.v.n, .string x.v.s, .int .i64 x.l, .int .i64 x.g], .pointer (some ⟨w.heap.size, 0, none⟩), .pointer (some ⟨w.heap.size + 1, 0, none⟩), .slice none 0 0, .pointer (some ⟨lk, 0, none⟩), .pointer (some ⟨lb, 0, none⟩), .slice x1.Aw x1.way.length x1.cw, .agg #[.int .i64 t.tag, .int .i64 t.key, .string t.text, .slice A0 t.ps.length c0, .slice A1 t.ks.length c1], .bool true, .bool false, .bool false, .agg #[.int .i64 x.t, .int .i64 x.a, .int .i64 x.nm, .int .i64 x.v.k, .int .i64 x.v.n, .string x.v.s, .int .i64 x.l, .int .i64 x.g], .bool true, .bool false, .bool false, .pointer (some ⟨w.heap.size + 1, 6, none⟩), .pointer (some ⟨w.heap.size + 1, 7, none⟩), .agg #[.int .i64 x.t, .int .i64 x.a, .int .i64 x.nm, .int .i64 x.v.k, .int .i64 x.v.n, .string x.v.s, .int .i64 0, .int .i64 1], .slice (some ⟨b19, 0, none⟩) 1 1, .slice GA 1 gc, .agg #[.int .i64 t.tag, .int .i64 t.key, .string t.text, .slice A0 t.ps.length c0, .slice A1 t.ks.length c1], .agg #[.bool false, .bool false, .bool false, .bool false, .bool false, .int .i64 0], .slice (some ⟨gA, 0, none⟩) zss.length c5, .agg #[.int .i64 t.tag, .int .i64 t.key, .string t.text, .slice A0 t.ps.length c0, .slice A1 t.ks.length c1], .func (.func 83) #[] #[.pointer (some ⟨lb + 1, 0, none⟩)], .slice x1.Aw x1.way.length x1.cw, x1.tree, undef, undef, undef, undef, undef, undef, undef, undef, undef, undef, undef, undef, undef], defers := [] }) ?_ ?_ ?_ ?_ ?_
 ·rintro x1 a' _ W l o o' e hl ho hc
  exact e
 ·intro l x1 W K hK
  dsimp only [Pt.encs, Pt.tree]
  gi_wp2
  exact hK _ _ (Below.refl _ _) rfl
 ·rintro l pre x1 a' W ⟨v, hI⟩ hx rfl hlen
  have hkn : pre.length < zss.length := by rw [HZL.out]; exact hlen
  obtain ⟨z, hz⟩ := at_some hkn
  obtain ⟨b, c, hg1, hb1, hn1, hn2, hn3, hn4, hc1, hc2⟩ := HROW.out _ _ hz
  have hzl := HFV.out z (List.mem_of_getElem? hz)
  obtain ⟨z0, hz0⟩ := at_some (show 0 < z.length by omega)
  rw [hzl] at hc1
  have hcr := (World.cell?_of_block (a := ⟨gA, pre.length, none⟩) (hI.fix gA hg1 hn1 hn2)).trans hc1
  have hcz := (World.cell?_of_block (a := ⟨b, 0, none⟩) (hI.fix b hb1 hn3 hn4)).trans (hc2 _ hz0)
  obtain ⟨u, hu, huk⟩ := hI.lkb
  have huk := huk hkn
  subst huk
  obtain ⟨n1, hn⟩ : ∃ q, zss.length - pre.length = q := ⟨_, rfl⟩
  have HZP := Lib.hid hz
  have HZ0 := Lib.hid (show z[0]?.getD 0 = z0 by rw [hz0]; rfl)
  have HI := Lib.hid hI
  have HXX := Lib.hid hx
  have HLN := Lib.hid (show (pre ++ [x1]).length = pre.length + 1 by rw [List.length_append]; rfl)
  have HPL := Lib.hid (show pre.length ≤ 1000 by have := HSZ.out; omega)
  have hsl : (selP zss pre).length ≤ 1000 := Nat.le_trans (selP_sub zss pre).length_le HPL.out
  have HSL := Lib.hid hsl
  obtain ⟨k, hk⟩ : ∃ q, pre.length = q := ⟨_, rfl⟩
  rw [hk] at HI hu hn hcr HLN hkn
  rw [hn] at hu
  have HKE := Lib.hid hk
  have HN1 := Lib.hid hn
  have h0n : (0 : Int) < (n1 : Int) := by omega
  have h1n : (1 : Int) ≤ (n1 : Int) := by omega
  have hcl := hu.cell
  have hlf := hu.frozen
  have HKN := Lib.hid hkn
  clear hc1 hc2 hz hz0 hx hI hzl hk hn hu hsl hkn hlen hg1 hb1 hn1 hn2 hn3 hn4
  by_cases hz1 : z0 = 1
  ·subst hz1
   have hbc := HI.out.bx.cell
   have hbf := HI.out.bx.frozen
   have hcw : (W.alloc (.cells #[wV x1] 36)).cell? ⟨W.heap.size, 0, none⟩ = some (wV x1) := by rw [World.cell?_alloc_new]; rfl
   have hb4 := Below.alloc (Below.refl W.heap.size W) (Nat.le_refl _) (.cells #[wV x1] 36)
   have hown4 := ownsRow_below HI.out.own hb4
   have hbig := HI.out.big
   have HCW := Lib.hid hcw
   have HB44 := Lib.hid hb4
   have HO4 := Lib.hid hown4
   clear hcw hb4 hown4
   obtain ⟨i0, hi0, hz0, hz1, hz2⟩ := info_parts infoRw
   gi_wp2_with (gi_at_builtin; refine wpListIn_append_own_at _ rfl (.tmp 34) (.tmp 36) 30 rfl w7.heap.size 36 i0 _ 1 24 Tryz.underlying30 hi0 hz0 hz1 hz2 rfl (by omega) v (selP zss pre).length ((selP zss pre).map wV) rfl HO4.out ⟨W.heap.size, 0, none⟩ 1 1 [wV x1] rfl rfl (fun j u hu => by
    match j with
    | 0 => simp at hu; subst hu; exact HCW.out
    | j + 1 => simp at hu) (fun u hu => by simp at hu; subst hu; rfl) (by have := HSL.out; simp only [maxLen]; omega) (by have := HSL.out; omega) (by simp; omega) ?_)
   intro v' u8 hown8 hg8 _ hat8
   have hgr : Gr W u8 v v' := Gr.trans (Gr.of_below HB44.out v) ⟨hg8, hat8.imp id fun e => ⟨_, e, by simp⟩⟩
   have hown9 : u8.ownsRow w7.heap.size 36 1 v' (selP zss pre ++ [x1]).length ((selP zss pre ++ [x1]).map wV) := by
    rw [List.length_append, List.map_append, hz7]
    exact hown8
   obtain ⟨A9, c9, hv9⟩ := own_waysA hown8
   subst hv9
   have hend := fa_found (B := lb + 2) (lo := lb + 2 + 2) HI.out hgr hown9 HZP.out HZ0.out (row_mono HXX.out.way (by omega)) (by omega) (by omega) (by omega) (by omega) (by omega) (by omega)
   obtain ⟨u9, hu9, hk9⟩ := hend.2.2.lkb
   have hk9 := hk9 HKN.out
   subst hk9
   rw [HN1.out] at hu9
   have hb8k : Boxed u8 lk 30 (.slice (some ⟨gA, k, none⟩) n1 (c5 - k)) := (heap_setCell_other u8 ⟨lb, 0, none⟩ lk _ (by show lk ≠ lb; omega)).symm.trans hu9
   have hb8 : Boxed u8 lb 30 v := (hgr.1.block lb HI.out.bx.lt (fun e => by have := (World.ownsRow.lt HI.out.own lb e.symm).1; omega)).trans HI.out.bx
   have h8c := hb8.cell
   have h8f := hb8.frozen
   have h8k := hb8k.cell
   have h8kf := hb8k.frozen
   have HEND := Lib.hid hend
   clear hend hgr hown9 hown8 hg8 hat8 hu9 hb8k hb8 hcl hlf hbc hbf hcr hcz
   by_cases hcc : c5 - k = 1
   ·have hst := fa_step (B := lb + 2) (lo := lb + 2 + 2) (u' := (.slice (some ⟨gA, k, none⟩) (n1 - 1) 0)) HEND.out.2.2 (fun hk1 => by
     have hcp := HCAP.out
     have hnn := HN1.out
     exact absurd hcc (by omega)) (by omega) (by omega) (by omega) (by omega) (by omega)
    have HST := Lib.hid hst
    clear hst
    gi_wp2
    exact ⟨keeps_trans HEND.out.1 HST.out.1, KpP.trans _ _ _ HEND.out.2.1 HST.out.2.1, _, by rw [HLN.out]; exact HST.out.2.2⟩
   ·have hst := fa_step (B := lb + 2) (lo := lb + 2 + 2) (u' := (.slice (some ⟨gA, k + 1, none⟩) (n1 - 1) (c5 - k - 1))) HEND.out.2.2 (fun hk1 => by
     have hcp := HCAP.out
     have hnn := HN1.out
     rw [show n1 - 1 = zss.length - (k + 1) by omega, show c5 - k - 1 = c5 - (k + 1) by omega]) (by omega) (by omega) (by omega) (by omega) (by omega)
    have HST := Lib.hid hst
    clear hst
    gi_wp2
    exact ⟨keeps_trans HEND.out.1 HST.out.1, KpP.trans _ _ _ HEND.out.2.1 HST.out.2.1, _, by rw [HLN.out]; exact HST.out.2.2⟩
  ·have hzd : (z0 == 1) = false := by simpa using hz1
   have hzd2 : decide (z0 = 1) = false := by simpa using hz1
   by_cases hcc : c5 - k = 1
   ·have hst := fa_step (B := lb + 2) (lo := lb + 2 + 2) (u' := (.slice (some ⟨gA, k, none⟩) (n1 - 1) 0)) (HI.out.skip (x := x1) HZP.out (by rw [HZ0.out]; exact hz1)) (fun hk1 => by
     have hcp := HCAP.out
     have hnn := HN1.out
     exact absurd hcc (by omega)) (by omega) (by omega) (by omega) (by omega) (by omega)
    have HST := Lib.hid hst
    clear hst
    gi_wp2
    exact ⟨HST.out.1, HST.out.2.1, v, by rw [HLN.out]; exact HST.out.2.2⟩
   ·have hst := fa_step (B := lb + 2) (lo := lb + 2 + 2) (u' := (.slice (some ⟨gA, k + 1, none⟩) (n1 - 1) (c5 - k - 1))) (HI.out.skip (x := x1) HZP.out (by rw [HZ0.out]; exact hz1)) (fun hk1 => by
     have hcp := HCAP.out
     have hnn := HN1.out
     rw [show n1 - 1 = zss.length - (k + 1) by omega, show c5 - k - 1 = c5 - (k + 1) by omega]) (by omega) (by omega) (by omega) (by omega) (by omega)
    have HST := Lib.hid hst
    clear hst
    gi_wp2
    exact ⟨HST.out.1, HST.out.2.1, v, by rw [HLN.out]; exact HST.out.2.2⟩
 ·rintro D xs W hD ⟨hS, hP⟩ ⟨v, hI⟩ hK
  have hw := sel_ways (x := x) hS
  rw [HZS.out] at hw
  obtain ⟨A9, c9, hv9⟩ := own_waysA hI.own
  subst hv9
  have hl9 : (selP zss xs).length = (findA x t).length := by rw [← hw, List.length_map]
  have hc := hI.bx.cell
  have hfd : FaX (findA x t) w (.returned (.slice A9 (findA x t).length c9)) (W.putObj D (.deferred none)) :=
   ⟨selP zss xs, A9, c9, rfl, hw, by
    rw [← hl9]
    exact row_mono (own_at hI.own (fun g2 cur _ hg => World.putObj_heap_other (by rintro rfl; rw [hg] at hK; cases hK))) (by omega),
    fun y hy => row_mono ((hI.way y hy).put _ hK rfl) (by omega), hP.sublist (selP_sub zss xs), hI.low.grown (grownBy_putObj' W D (.deferred none)) hI.low.size (fun k e => by cases e; omega)⟩
  rw [← HVV.out, HX.out] at hfd
  rw [hl9, ← HVV.out] at hc
  have HKD := Lib.hid hK
  have HFD := Lib.hid hfd
  clear hI hK hw hS hl9 hfd hP
  gi_wp2
  refine ⟨by simp, .inl ⟨_, _, rfl, run_takeDeferred HKD.out, ?_⟩⟩
  refine ⟨_, results_tmp rfl _ _ _, ?_⟩
  exact HFD.out
 ·rintro D c pre W _ _ h _
  exact h.elim
end Go.Proofs.YtmfibedcloknlaaGreatDoor

namespace Go.Proofs.YtmfibedcloknlaaGreatDoor
open Go.Joins Go.ChangeShapes Go.WideShapes Go.ChangeAt Go.RowKit Go.Deep
set_option linter.unusedVariables false
set_option linter.unusedSimpArgs false

def pA (lo : Nat) (A : Option Addr) : Nat := match A with
 | none => lo
 | some a => a.block
def qA (lo : Nat) (A : Option Addr) : Nat := match A with
 | none => lo
 | some a => a.block + 1
theorem intV_natI (ns : List Nat) : intV ns = zV (natI ns) := by unfold intV zV natI; rw [List.map_map]; rfl
theorem way_cases {lo c : Nat} {w : World} {A : Option Addr} {ns : List Nat} (h : WayR lo w A c ns) : (A = none ∧ ns.length = 0) ∨ ∃ k, A = some ⟨k, 0, none⟩ ∧ lo ≤ k ∧ k < w.heap.size ∧ ∃ cur, w.heap[k]? = some (.cells cur 3 (0, 0)) := by
 rcases h.2 with ⟨e, hn⟩ | ⟨g, cap, cur, e, hb, hh, _⟩
 ·injection e with e
  exact .inl ⟨e, by omega⟩
 ·injection e with e
  exact .inr ⟨g, e, hb, (Array.getElem?_eq_some_iff.1 hh).1, cur, hh⟩
theorem FaX.rows {xss : List (List Nat)} {w w' : World} {e : Ending} (h : FaX xss w e w') : ∃ A c, e = .returned (.slice A xss.length c) ∧ RwO w' w.heap.size w'.heap.size A c (xss.map natI) ∧ Below w.heap.size w w' := by
 obtain ⟨ps, A, c, he, hw, ho, hway, hpw, hb⟩ := h
 subst hw
 refine ⟨A, c, he, fun h0 => ?_, hb⟩
 simp only [List.length_map] at h0 ho ⊢
 rcases ho.2 with ⟨_, hn⟩ | ⟨g, cap, cur, e2, hbg, hh, _⟩
 ·omega
 injection e2 with e2
 subst e2
 have hgs := (Array.getElem?_eq_some_iff.1 hh).1
 have hsz := hb.size
 have at_ : ∀ i, i < ps.length → ∃ y, ps[i]? = some y ∧ y ∈ ps := fun i hi => ⟨ps[i], List.getElem?_eq_getElem hi, List.getElem_mem hi⟩
 let F : Nat → Option Addr := fun i => ((ps[i]?).map Pt.Aw).getD none
 have hF : ∀ i y, ps[i]? = some y → F i = y.Aw := fun i y hy => by show ((ps[i]?).map Pt.Aw).getD none = _; rw [hy]; rfl
 have hne : ∀ k cur2, w'.heap[k]? = some (.cells cur2 3 (0, 0)) → k ≠ g := fun k cur2 hk e => by
  rw [e, hh] at hk
  injection hk with hk
  injection hk with _ hk _
  cases hk
 refine ⟨g, ps.map wV, fun i => pA w.heap.size (F i), fun i => qA w.heap.size (F i), rfl, hbg, hgs, row_mono ho (Nat.zero_le _), ⟨fun i zs hz => ?_, fun i hi => ?_, fun i j hi hj hij => ?_⟩⟩
 ·rw [List.getElem?_map, List.getElem?_map] at hz
  cases hy : ps[i]? with
  | none => rw [hy] at hz; cases hz
  | some y =>
   rw [hy] at hz
   simp only [Option.map_some, Option.some.injEq] at hz
   subst hz
   refine ⟨y.Aw, y.cw, by rw [List.getElem?_map, hy, natI_len]; rfl, fun hp => ?_⟩
   rw [natI_len] at hp ⊢
   have h5 := hway y (List.mem_of_getElem? hy)
   rcases way_cases h5 with ⟨_, hn⟩ | ⟨k, ek, h1, h2, cur2, h3⟩
   ·omega
   ·refine ⟨k, ek, ?_, ?_, ?_⟩
    ·show pA _ (F i) ≤ k
     rw [hF i y hy, ek]
     exact Nat.le_refl _
    ·show k < qA _ (F i)
     rw [hF i y hy, ek]
     exact Nat.lt_succ_self _
    ·rw [ek] at h5
     rw [← intV_natI]
     exact row_mono h5 (Nat.zero_le _)
 ·simp only [List.length_map] at hi
  obtain ⟨y, hy, hm⟩ := at_ i hi
  rcases way_cases (hway y hm) with ⟨ek, _⟩ | ⟨k, ek, h1, h2, cur2, h3⟩
  ·simp only [hF i y hy, ek, pA, qA]
   omega
  ·have := hne k cur2 h3
   simp only [hF i y hy, ek, pA, qA]
   omega
 ·simp only [List.length_map] at hi hj
  obtain ⟨y, hy, hm⟩ := at_ i hi
  obtain ⟨z, hz, hm2⟩ := at_ j hj
  have hap : blkA y.Aw < blkA z.Aw ∨ blkA z.Aw < blkA y.Aw := by
   have hi' := List.getElem?_eq_some_iff.1 hy
   have hj' := List.getElem?_eq_some_iff.1 hz
   rcases (by omega : i < j ∨ j < i) with hlt | hlt
   ·have := List.pairwise_iff_getElem.1 hpw i j hi'.1 hj'.1 hlt
    rw [hi'.2, hj'.2] at this
    exact .inl this
   ·have := List.pairwise_iff_getElem.1 hpw j i hj'.1 hi'.1 hlt
    rw [hi'.2, hj'.2] at this
    exact .inr this
  rcases way_cases (hway y hm) with ⟨ek, _⟩ | ⟨k, ek, h1, h2, cur2, h3⟩
  ·rcases way_cases (hway z hm2) with ⟨el, _⟩ | ⟨l, el, g1, g2, cur3, g3⟩
   ·simp only [hF i y hy, hF j z hz, ek, el, pA, qA]
    omega
   ·simp only [hF i y hy, hF j z hz, ek, el, pA, qA]
    omega
  ·rcases way_cases (hway z hm2) with ⟨el, _⟩ | ⟨l, el, g1, g2, cur3, g3⟩
   ·simp only [hF i y hy, hF j z hz, ek, el, pA, qA]
    omega
   ·rw [ek, el] at hap
    simp only [blkA] at hap
    simp only [hF i y hy, hF j z hz, ek, el, pA, qA]
    omega
end Go.Proofs.YtmfibedcloknlaaGreatDoor

namespace Go.Proofs.YtmfibedcloknlaaGreatDoor
open Go.Joins Go.ChangeShapes Go.WideShapes Go.ChangeAt Go.RowKit Go.Deep
set_option linter.unusedVariables false
set_option linter.unusedSimpArgs false

mutual
 /-- The ways of the elements that the rule meets. -/
 def fndT (x : Ru) (ab : List Int) (way : List Nat) : Tr → List (List Nat)
  | .mk tag key text ps ks => if tag < 0 then [] else (if meetS x tag ps ab = true then [way] else []) ++ fndL x (ab ++ [tag]) way 0 ks
 def fndL (x : Ru) (ab : List Int) (way : List Nat) (i : Nat) : List Tr → List (List Nat)
  | [] => []
  | k :: ks => fndT x ab (way ++ [i]) k ++ fndL x ab way (i + 1) ks
end
theorem fndT_eq (x : Ru) (ab : List Int) (way : List Nat) (t : Tr) : fndT x ab way t = if t.tag < 0 then [] else (if meetS x t.tag t.ps ab = true then [way] else []) ++ fndL x (ab ++ [t.tag]) way 0 t.ks := by
 obtain ⟨_, _, _, _, _⟩ := t
 rw [fndT]
 rfl
theorem fndL_nil (x : Ru) (ab : List Int) (way : List Nat) (i : Nat) : fndL x ab way i [] = [] := by simp only [fndL]
theorem fndL_cons (x : Ru) (ab : List Int) (way : List Nat) (i : Nat) (k : Tr) (ks : List Tr) : fndL x ab way i (k :: ks) = fndT x ab (way ++ [i]) k ++ fndL x ab way (i + 1) ks := by simp only [fndL]
theorem fndL_drop {x : Ru} {ab : List Int} {way : List Nat} {ks : List Tr} {k : Nat} {y : Tr} (hy : ks[k]? = some y) : fndL x ab way k (ks.drop k) = fndT x ab (way ++ [k]) y ++ fndL x ab way (k + 1) (ks.drop (k + 1)) := by
 obtain ⟨hk, he⟩ := List.getElem?_eq_some_iff.1 hy
 rw [List.drop_eq_getElem_cons hk, he, fndL_cons]
theorem selP_app {α : Type} : ∀ (z1 : List (List Int)) (y1 : List α) (z2 : List (List Int)) (y2 : List α), z1.length = y1.length → selP (z1 ++ z2) (y1 ++ y2) = selP z1 y1 ++ selP z2 y2
 | [], [], z2, y2, _ => rfl
 | [], y :: ys, _, _, h => by simp at h
 | z :: zs, [], _, _, h => by simp at h
 | z :: zs, y :: ys, z2, y2, h => by
  have ih := selP_app zs ys z2 y2 (by simpa using h)
  simp only [List.cons_append, selP]
  rw [ih]
  split <;> rfl
theorem own_first (x : Ru) (tag : Int) (ps : List Pr) (ab : List Int) (mark : Int) (h0 : 0 ≤ tag) : ((ownS [x.on] tag ps ab mark)[0]?.getD 0 = 1) ↔ meetS x tag ps ab = true := by
 have hm : meetS x.on tag ps ab = meetS x tag ps ab := rfl
 have hw : 0 ≤ weighV x.on + 1 := by have := weigh_pos x.on; omega
 unfold ownS rowS
 rw [if_neg (by omega)]
 simp only [List.foldl_cons, List.foldl_nil, stepS, hm]
 cases hmm : meetS x tag ps ab with
 | false => simp
 | true =>
  have hl : x.on.l.toNat = 0 := rfl
  have hg : x.on.g = 1 := rfl
  rw [hl, hg]
  simp [hw]
theorem find_same {sh : ByteArray → Bool} (x : Ru) : ∀ t : Tr, vpT sh t = true → ∀ (ab : List Int) (mark : Int) (way : List Nat), (selP (lksT [x.on] ab mark t) (partsT way t)).map Prod.fst = fndT x ab way t := Tr.by_kids fun t ih hv ab mark way => by
 have hL : ∀ (ks : List Tr), (∀ y ∈ ks, y ∈ t.ks) → ∀ (ab : List Int) (mark : Int) (i : Nat), (selP (lksL [x.on] ab mark ks) (partsL way i ks)).map Prod.fst = fndL x ab way i ks := by
  intro ks
  induction ks with
  | nil => intro _ ab mark i; rw [lksL_nil, fndL_nil]; rfl
  | cons y ys ihy =>
   intro hm ab mark i
   have h1 := ih y (hm y (by simp)) (vp_kid hv (hm y (by simp))) ab mark (way ++ [i])
   have h2 := ihy (fun z hz => hm z (List.mem_cons_of_mem _ hz)) ab mark (i + 1)
   rw [lksL_cons, show partsL way i (y :: ys) = partsT (way ++ [i]) y ++ partsL way (i + 1) ys by simp only [partsL], selP_app _ _ _ _ ((lksT_len [x.on] y ab mark).trans (partsT_length y _).symm), List.map_append, h1, h2, fndL_cons]
 rw [lksT_eq, partsT_eq, fndT_eq]
 rcases vp_ways hv with ⟨h1, h2⟩ | ⟨h1, _, _⟩
 ·rw [h2, if_pos (by omega), lksL_nil, partsL_nil]
  unfold ownS
  rw [if_pos (by omega)]
  rfl
 ·rw [if_neg (by omega)]
  have hf := own_first x t.tag t.ps ab mark h1
  have hk := hL t.ks (fun y hy => hy) (ab ++ [t.tag]) ((ownS [x.on] t.tag t.ps ab mark)[4]?.getD 0) 0
  simp only [selP]
  by_cases hm : meetS x t.tag t.ps ab = true
  ·rw [if_pos (hf.2 hm), if_pos hm, List.map_cons, hk]
   rfl
  ·rw [if_neg (fun e => hm (hf.1 e)), if_neg hm, hk]
   rfl
theorem findA_same {sh : ByteArray → Bool} (x : Ru) (t : Tr) (hv : vpT sh t = true) : findA x t = fndT x [] [] t := find_same x t hv [] 0 []
end Go.Proofs.YtmfibedcloknlaaGreatDoor
