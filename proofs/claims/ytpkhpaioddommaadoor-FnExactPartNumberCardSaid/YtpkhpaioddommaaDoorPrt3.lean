/- Trees: the program's iterator over the parts hands them over in order. -/
import Derived.Test.YtpkhpaioddommaaDoorPrt2
import Derived.Deep.RegionHeld3
namespace Go.Proofs.YtpkhpaioddommaaDoor
open Go.Joins Go.ChangeShapes Go.WideShapes Go.ChangeAt Go.RowKit Go.Deep
set_option linter.unusedVariables false
set_option linter.unusedSimpArgs false

theorem YieldAt.wide {m m' : Nat} {P : Program} {l : Nat} {args : Array Value} {W : World} {R : Ending → World → Prop} (h : YieldAt Fence.wide m P l args W R) : YieldAt Fence.wide m' P l args W R := by
  obtain ⟨fn, tmps, assign, body, hy, hR⟩ := h
  exact ⟨fn, tmps, assign, body, hy, hR.1, fun c cs _ => hR.2 c cs (room_wide _)⟩
/-- What a round owes. -/
def RoundP (lo : Nat) (w0 : World) (J Jx : List Pt → World → Prop) (pre : List Pt) (x : Pt) (W : World) (e : Ending) (W' : World) : Prop :=
  KpP w0.heap.size lo W W' ∧ ((e = .returned (.bool true) ∧ J (pre ++ [x]) W') ∨ (e = .returned (.bool false) ∧ Jx (pre ++ [x]) W'))
def YieldsP (l lo N : Nat) (w0 : World) (L : List (List Nat × Tr)) (J Jx : List Pt → World → Prop) : Prop :=
  ∀ m pre x W, J pre W → PtX w0 lo L x W → pre.length < N → YieldAt Fence.wide m Tryd.prog l x.encs W (RoundP lo w0 J Jx pre x W)
/-- What the iterator owes for the parts xs. -/
def GivesP (lo : Nat) (w0 : World) (J Jx : List Pt → World → Prop) (pre : List Pt) (xs : List (List Nat × Tr)) (W : World) (e : Ending) (W' : World) : Prop :=
  KpP w0.heap.size lo W W' ∧ ((e = .returned (.bool true) ∧ ∃ ys, ys.map Pt.key = xs ∧ J (pre ++ ys) W') ∨ (e = .returned (.bool false) ∧ ∃ ys, ys.map Pt.key <+: xs ∧ Jx (pre ++ ys) W'))
def YpT (l lo N : Nat) (w0 : World) (L : List (List Nat × Tr)) (J Jx : List Pt → World → Prop) (t : Tr) : Prop :=
  ∀ (way : List Nat) (Aw A0 A1 : Option Addr) (cw c0 c1 : Nat) (pre : List Pt) (W : World), (∀ y ∈ partsT way t, y ∈ L) → lo ≤ W.heap.size → Below w0.heap.size w0 W → WayR lo W Aw cw way → PrL w0 A0 t.ps → TrL w0 0 A1 t.ks → way.length + sizeT t ≤ 1000 → J pre W → pre.length + sizeT t ≤ N →
    Calls Tryd.prog 92 #[.slice Aw way.length cw, .agg #[.int .i64 t.tag, .int .i64 t.key, .string t.text, .slice A0 t.ps.length c0, .slice A1 t.ks.length c1], .func (.yield l) #[] #[]] W (GivesP lo w0 J Jx pre (partsT way t) W)
theorem five_cells {w : World} {b : Nat} {v0 v1 v2 v3 v4 : Value} {t : TypeId} (h : w.heap[b]? = some (.cells #[v0, v1, v2, v3, v4] t (0, 0))) : w.cell? ⟨b, 0, none⟩ = some v0 ∧ w.cell? ⟨b, 1, none⟩ = some v1 ∧ w.cell? ⟨b, 2, none⟩ = some v2 ∧ w.cell? ⟨b, 3, none⟩ = some v3 ∧ w.cell? ⟨b, 4, none⟩ = some v4 := by
  simp [World.cell?, h]
attribute [local go_sem] Oper.semAt_some
set_option maxRecDepth 100000 in
set_option maxHeartbeats 2000000 in
theorem yieldParts_any (l lo N : Nat) (w0 : World) (L : List (List Nat × Tr)) (J Jx : List Pt → World → Prop) (hJ : Stays J) (hY : YieldsP l lo N w0 L J Jx) (t : Tr) : SmT t → YpT l lo N w0 L J Jx t := by
  induction t using Tr.by_kids with
  | h t ih =>
  intro hsm way Aw A0 A1 cw c0 c1 pre W hL hlo hlow hway hp hk hsz hj hpre
  obtain ⟨s0, s1, s2, s3, s4⟩ := hsm.open_
  have hb0 := Below.alloc (Below.refl W.heap.size W) (Nat.le_refl _) (.cells #[.int .i64 t.tag, .int .i64 t.key, .string t.text, .slice A0 t.ps.length c0, .slice A1 t.ks.length c1] 26)
  have hpos := sizeT_pos t
  have hx : PtX w0 lo L ⟨t, A0, c0, A1, c1, way, Aw, cw⟩ (W.alloc (.cells #[.int .i64 t.tag, .int .i64 t.key, .string t.text, .slice A0 t.ps.length c0, .slice A1 t.ks.length c1] 26)) :=
    ⟨hway.later hb0, hp, hk, hsm, hL _ (by rw [partsT_eq]; exact List.mem_cons_self), hlow.trans (hb0.mono hlow.size)⟩
  obtain ⟨fn, tmps, assign, body, hy, hR⟩ := hY 0 pre _ _ (hJ _ _ _ hj hb0) hx (by omega)
  dsimp only [Pt.encs, Pt.tree] at hy
  have HI := Lib.hid (fun x hx => ih x hx (s4 x hx))
  have HR := Lib.hid hR
  have HB0 := Lib.hid hb0
  have HLOW := Lib.hid hlow
  have HWAY := Lib.hid hway
  have HK := Lib.hid hk
  have HSM := Lib.hid hsm
  have hse := sizeT_eq t
  obtain ⟨xs, hxs⟩ : ∃ xs, partsT way t = xs := ⟨_, rfl⟩
  have HPE := Lib.hid ((partsT_eq way t).symm.trans hxs)
  rw [hxs] at hL ⊢
  have HL := Lib.hid hL
  have hxl : xs.length = sizeT t := by rw [← hxs, partsT_length]
  unfold maxLen at s3
  clear hL hb0 hlow hway hk hx hR ih s0 s1 s2 s4 hsm hp hxs hj
  obtain ⟨tag, key, text, ps, ks⟩ := t
  dsimp only [Tr.tag, Tr.key, Tr.text, Tr.ps, Tr.ks] at *
  refine callsIn_wide (n := 1) |>.1 ?_
  refine callsIn_of_wp Tryd.func92 rfl trivial ?_ rfl; simp only [Tryd.ntmps92, List.size_toArray, List.length_cons, List.length_nil, Nat.reduceAdd, Nat.reduceSub, Array.replicate_succ, Array.replicate_zero, List.push_toArray, List.append_toArray, List.nil_append, List.cons_append]
  gi_wp2
  refine HR.out.mono ?_
  clear HR
  rintro e W1 ⟨hk1, ⟨rfl, hj1⟩ | ⟨rfl, hx1⟩⟩
  case inr =>
    have HX1 := Lib.hid hx1
    have HK1 := Lib.hid hk1
    clear hx1 hy hk1
    gi_wp2
    go_ret
    exact ⟨KpP.trans _ _ _ (KpP.later HB0.out HLOW.out.size) HK1.out, .inr ⟨rfl, [_], ⟨_, HPE.out⟩, HX1.out⟩⟩
  case inl =>
    obtain ⟨n, hn⟩ : ∃ n, ks.length = n := ⟨_, rfl⟩
    have HN := Lib.hid hn
    have HJ1 := Lib.hid hj1
    have HK1 := Lib.hid hk1
    have hc4 : W1.cell? ⟨W.heap.size, 4, none⟩ = some (.slice A1 ks.length c1) := hk1.cell hlo (.inr rfl) (World.alloc_heap_new W _) (by rw [World.cell?_alloc_new]; rfl)
    rw [hn] at hc4 s3
    clear hy hj1 hk1 hn
    gi_wp2
    refine wpIn_wide.2 ?_
    go_loopw [17] (fun i wr => ∃ (k : Nat) (ys : List Pt), k ≤ n ∧ i = .int .i64 k ∧ Hid (ys.map Pt.key ++ partsL way k (ks.drop k) = xs) ∧ Hid (J (pre ++ ys) wr) ∧ Hid (KpP w0.heap.size lo W wr) ∧ W.heap.size < wr.heap.size ∧ 1 ≤ ys.length) (fun i _ => n - (intOf i).toNat)
    case atStart => exact ⟨0, [⟨.mk tag key text ps ks, A0, c0, A1, c1, way, Aw, cw⟩], by omega, rfl, Lib.hid (by rw [← HPE.out]; rfl), HJ1, Lib.hid (KpP.trans _ _ _ (KpP.later HB0.out HLOW.out.size) HK1.out), Nat.lt_of_lt_of_le (by simp) HK1.out.low.size, by simp⟩
    case round =>
      obtain ⟨k, ys, hk, rfl, HQ, HJ, HKP, hgz, hy1⟩ := hrel
      by_cases hlt : k < n
      · obtain ⟨x, hx⟩ := at_some (show k < ks.length by rw [HN.out]; exact hlt)
        obtain ⟨b, off, B0, d0, B1, d1, rfl, hblt, _, e0, e1, e2, e3, e4, hp, _, hks⟩ := HK.out.at_ hx
        have hLw := HLOW.out.trans HKP.out.low
        replace e0 := (hLw.cell (p := ⟨b, _, none⟩) hblt).trans e0
        replace e1 := (hLw.cell (p := ⟨b, _, none⟩) hblt).trans e1
        replace e2 := (hLw.cell (p := ⟨b, _, none⟩) hblt).trans e2
        replace e3 := (hLw.cell (p := ⟨b, _, none⟩) hblt).trans e3
        replace e4 := (hLw.cell (p := ⟨b, _, none⟩) hblt).trans e4
        have hQ := HQ.out
        rw [partsL_drop hx] at hQ
        have hyl : ys.length + sizeT x + sizeL (ks.drop (k + 1)) = sizeT (.mk tag key text ps ks) := by
          have e := congrArg List.length hQ
          rw [List.length_append, List.length_append, List.length_map, partsT_length, partsL_length _ way (k + 1) (fun y _ => partsT_length y), hxl] at e
          omega
        have hway1 : way.length + 1 ≤ 1000 := by have := sizeT_pos (.mk tag key text ps ks); omega
        have hi1 : (0 : Int) ≤ (k : Int) := by omega
        have hi2 : (k : Int) < (n : Int) := by omega
        have hgz2 := hLw.size
        have hbw : b < wr.heap.size := by omega
        have HC := Lib.hid (HI.out x (List.mem_of_getElem? hx))
        have HW := Lib.hid (HWAY.out.kept HKP.out)
        have HKS := Lib.hid hks
        have HPS := Lib.hid hp
        have HLW := Lib.hid hLw
        have HQ2 := Lib.hid hQ
        have HX := Lib.hid hx
        clear hx hp hks hLw hQ HQ
        obtain ⟨xt, xk, xs', xp, xq⟩ := x
        dsimp only [Tr.tag, Tr.key, Tr.text, Tr.ps, Tr.ks] at e0 e1 e2 e3 e4 HC
        go_wp2_with fail
        obtain ⟨wb, hwb⟩ : ∃ wb, wr.alloc (.cells #[.int .i64 xt, .int .i64 xk, .string xs', .slice B0 xp.length d0, .slice B1 xq.length d1] 26) = wb := ⟨_, rfl⟩
        have hbx : wb.heap[wr.heap.size]? = some (.cells #[.int .i64 xt, .int .i64 xk, .string xs', .slice B0 xp.length d0, .slice B1 xq.length d1] 26 (0, 0)) := by rw [← hwb]; exact World.alloc_heap_new wr _
        have hbb : Below wr.heap.size wr wb := by rw [← hwb]; exact Below.alloc (Below.refl _ _) (Nat.le_refl _) _
        have hwz : wb.heap.size = wr.heap.size + 1 := by rw [← hwb]; simp
        rw [hwb]
        have HBB := Lib.hid hbb
        clear hwb hbb e0 e1 e2 e3 e4
        refine wp_region_held_drew (S := fun w' => w'.heap[wr.heap.size]? = some (.cells #[.int .i64 xt, .int .i64 xk, .string xs', .slice B0 xp.length d0, .slice B1 xq.length d1] 26 (0, 0)) ∧ w'.cell? ⟨wr.heap.size, 0, none⟩ = some (.int .i64 xt) ∧ w'.cell? ⟨wr.heap.size, 1, none⟩ = some (.int .i64 xk) ∧ w'.cell? ⟨wr.heap.size, 2, none⟩ = some (.string xs') ∧ w'.cell? ⟨wr.heap.size, 3, none⟩ = some (.slice B0 xp.length d0) ∧ w'.cell? ⟨wr.heap.size, 4, none⟩ = some (.slice B1 xq.length d1)) (by kernel_rfl) ?_ (fun hHeld => ?_)
        · exact ⟨hbx, five_cells hbx⟩
        refine wpAnyH_take (i := 0) (oi := _) (v := ?_) rfl (by kernel_rfl) (by kernel_rfl) (by kernel_rfl) (fun _ _ _ h => h) (Or.inl ⟨by kernel_rfl, ?_⟩) (by assumption) ?_
        rotate_left
        · (intro w hSw; (try dsimp only at hSw); go_simp)
          try with_reducible rfl
        (try simp only [Act.put, List.getElem_toArray, List.getElem_cons_zero, List.getElem_cons_succ, List.setIfInBounds_toArray, List.set_cons_zero, List.set_cons_succ])
        refine wpAnyH_take (i := 1) (oi := _) (v := ?_) rfl (by kernel_rfl) (by kernel_rfl) (by kernel_rfl) (fun _ _ _ h => h) (Or.inl ⟨by kernel_rfl, ?_⟩) (by assumption) ?_
        rotate_left
        · (intro w hSw; (try dsimp only at hSw); go_simp)
          try with_reducible rfl
        (try simp only [Act.put, List.getElem_toArray, List.getElem_cons_zero, List.getElem_cons_succ, List.setIfInBounds_toArray, List.set_cons_zero, List.set_cons_succ])
        refine wpAnyH_take (i := 3) (oi := _) (v := ?_) rfl (by kernel_rfl) (by kernel_rfl) (by kernel_rfl) (fun _ _ _ h => h) (Or.inl ⟨by kernel_rfl, ?_⟩) (by assumption) ?_
        rotate_left
        · (intro w hSw; (try dsimp only at hSw); go_simp)
          try with_reducible rfl
        (try simp only [Act.put, List.getElem_toArray, List.getElem_cons_zero, List.getElem_cons_succ, List.setIfInBounds_toArray, List.set_cons_zero, List.set_cons_succ])
        refine wpAnyH_take (i := 4) (oi := _) (v := ?_) rfl (by kernel_rfl) (by kernel_rfl) (by kernel_rfl) (fun _ _ _ h => h) (Or.inl ⟨by kernel_rfl, ?_⟩) (by assumption) ?_
        rotate_left
        · (intro w hSw; (try dsimp only at hSw); go_simp)
          try with_reducible rfl
        (try simp only [Act.put, List.getElem_toArray, List.getElem_cons_zero, List.getElem_cons_succ, List.setIfInBounds_toArray, List.set_cons_zero, List.set_cons_succ])
        refine wpAnyH_ready (rs := [2]) (by kernel_rfl) (by simp) ?_
        refine AllReadyH.cons (o := _) rfl (fun K hK => ?_) AllReadyH.nil
        go_simp
        have hWd : Below wr.heap.size wr wb.drew := HBB.out.drew
        refine (with_any lo Aw cw way k wb.drew (HW.out.later hWd) (by omega)).mono ?_
        rintro e w2 ⟨g, c', rfl, hway2, hb2⟩
        have h2x := (hb2.block wr.heap.size (by show wr.heap.size < wb.heap.size; omega)).trans hbx
        refine hK.out _ _ ⟨h2x, five_cells h2x⟩ (fun hHeld2 => ?_)
        clear hK K
        (try simp only [Act.put, List.getElem_toArray, List.getElem_cons_zero, List.getElem_cons_succ, List.setIfInBounds_toArray, List.set_cons_zero, List.set_cons_succ])
        have hb12 : Below wr.heap.size wr w2 := hWd.trans (hb2.mono (by show wr.heap.size ≤ wb.heap.size; omega))
        have HB12 := Lib.hid hb12
        have hsub : ∀ y ∈ partsT (way ++ [k]) (.mk xt xk xs' xp xq), y ∈ L := fun y hy => HL.out y (by rw [← HQ2.out]; exact List.mem_append_right _ (List.mem_append_left _ hy))
        have hc5 := (HC.out (way ++ [k]) (some ⟨g, 0, none⟩) B0 B1 c' d0 d1 (pre ++ ys) w2 hsub (by have := hb12.size; omega) (HLW.out.trans (hb12.mono (by omega)))
          (row_mono hway2 (by show lo ≤ wb.heap.size; omega)) HPS.out HKS.out (by rw [List.length_append]; simp only [List.length_cons, List.length_nil]; omega) (hJ _ _ _ HJ.out hb12) (by rw [List.length_append]; omega))
        have hll : (way ++ [k]).length = way.length + 1 := by rw [List.length_append]; rfl
        rw [hll] at hc5
        dsimp only [Tr.tag, Tr.key, Tr.text, Tr.ps, Tr.ks] at hc5
        have HC5 := Lib.hid hc5
        clear hsub hway2 hb2 hb12 hWd hc5 hll
        refine wpAnyH_ready (rs := [5]) (by kernel_rfl) (by simp) ?_
        refine AllReadyH.cons (o := _) rfl (fun K hK => ?_) AllReadyH.nil
        go_simp
        refine HC5.out.mono ?_
        rintro e w3 ⟨hk3, hend⟩
        have h3x := (hk3.row wr.heap.size _ _ (by omega) (.inr rfl) h2x).trans h2x
        have HK3 := Lib.hid (KpP.trans _ _ _ HKP.out (KpP.trans _ _ _ (KpP.later HB12.out (by omega)) hk3))
        have hgz3 : W.heap.size < w3.heap.size := by have := hk3.low.size; have := HB12.out.size; omega
        rcases hend with ⟨rfl, zs, hz, hj3⟩ | ⟨rfl, zs, hz, hx3⟩
        · refine hK.out _ _ ⟨h3x, five_cells h3x⟩ (fun hHeld3 => ?_)
          clear hK K
          (try simp only [Act.put, List.getElem_toArray, List.getElem_cons_zero, List.getElem_cons_succ, List.setIfInBounds_toArray, List.set_cons_zero, List.set_cons_succ])
          have HZ := Lib.hid hz
          have HJ3 := Lib.hid hj3
          clear hz hj3 hk3
          refine wpAnyH_take (i := 6) (oi := _) (v := ?_) rfl (by kernel_rfl) (by kernel_rfl) (by kernel_rfl) (fun _ _ _ h => h) (Or.inl ⟨by kernel_rfl, ?_⟩) (by exact ⟨h3x, five_cells h3x⟩) ?_
          rotate_left
          · (intro w hSw; (try dsimp only at hSw); go_simp)
            try with_reducible rfl
          (try simp only [Act.put, List.getElem_toArray, List.getElem_cons_zero, List.getElem_cons_succ, List.setIfInBounds_toArray, List.set_cons_zero, List.set_cons_succ])
          refine wpAnyH_done (by kernel_rfl) ?_ _
          clear h3x h2x hbx hHeld hHeld2 hHeld3
          go_wp2_with fail
          go_roundw
          case rel => exact ⟨k + 1, ys ++ zs, by omega, by go_num, Lib.hid (by rw [← HQ2.out, List.map_append, HZ.out, List.append_assoc]), Lib.hid (by rw [← List.append_assoc]; exact HJ3.out), HK3, hgz3, by rw [List.length_append]; omega⟩
          case measure => simp [intOf]; omega
        · refine hK.out _ _ ⟨h3x, five_cells h3x⟩ (fun hHeld3 => ?_)
          clear hK K
          (try simp only [Act.put, List.getElem_toArray, List.getElem_cons_zero, List.getElem_cons_succ, List.setIfInBounds_toArray, List.set_cons_zero, List.set_cons_succ])
          have HZ := Lib.hid hz
          have HX3 := Lib.hid hx3
          clear hz hx3 hk3
          refine wpAnyH_take (i := 6) (oi := _) (v := ?_) rfl (by kernel_rfl) (by kernel_rfl) (by kernel_rfl) (fun _ _ _ h => h) (Or.inl ⟨by kernel_rfl, ?_⟩) (by exact ⟨h3x, five_cells h3x⟩) ?_
          rotate_left
          · (intro w hSw; (try dsimp only at hSw); go_simp)
            try with_reducible rfl
          (try simp only [Act.put, List.getElem_toArray, List.getElem_cons_zero, List.getElem_cons_succ, List.setIfInBounds_toArray, List.set_cons_zero, List.set_cons_succ])
          refine wpAnyH_done (by kernel_rfl) ?_ _
          clear h3x h2x hbx hHeld hHeld2 hHeld3
          go_wp2_with fail
          go_ret
          refine ⟨HK3.out, .inr ⟨rfl, ys ++ zs, ?_, by rw [← List.append_assoc]; exact HX3.out⟩⟩
          obtain ⟨q, hq⟩ := HZ.out
          exact ⟨q ++ partsL way (k + 1) (ks.drop (k + 1)), by rw [← HQ2.out, ← hq, List.map_append]; simp only [List.append_assoc]⟩
      · obtain rfl : k = n := by omega
        have hQ := HQ.out
        rw [← HN.out, List.drop_length, partsL_nil, List.append_nil] at hQ
        have HQ2 := Lib.hid hQ
        clear hQ
        go_wp2_with fail
        gi_wp2
        go_ret
        exact ⟨KpP.trans _ _ _ (KpP.refl _ _ _) HKP.out, .inl ⟨rfl, ys, HQ2.out, HJ.out⟩⟩
end Go.Proofs.YtpkhpaioddommaaDoor
