/- What the law FnFormOk draws. -/
import Derived.Test.YtgejhjhjdepmmaaDrawForm2
namespace Go.Proofs.Ytgejhjhjdepmmaa
open Go.Joins Go.ChangeShapes Go.WideShapes Go.ChangeAt Go.RowKit Go.Deep
set_option linter.unusedVariables false
set_option linter.unusedSimpArgs false

theorem stepB_same {x : Stp} {p st t : Int} (h : x.k = 5 → opS x.a = true) : stepB opI x p st t = stepB opS x p st t := by
  unfold stepB
  by_cases h5 : x.k = 5
  · rw [h h5]; rfl
  · rw [if_neg h5, if_neg h5]
theorem runB_same {ok1 ok2 : Stp → Bool} : ∀ (xs : List Stp) (m : Int), (∀ x ∈ xs, ok1 x = ok2 x) → runB ok1 m xs = runB ok2 m xs
  | [], _, _ => rfl
  | x :: xs, m, h => by
    show (ok1 x && decide (takesV x.k ≤ m) && runB ok1 _ xs) = (ok2 x && decide (takesV x.k ≤ m) && runB ok2 _ xs)
    rw [h x (by simp), runB_same xs _ (fun y hy => h y (by simp [hy]))]
theorem formB_same {xs : List Stp} {p st t : Int} (h : ∀ x ∈ xs, x.k = 5 → opS x.a = true) : formB opI xs p st t = formB opS xs p st t := by
  unfold formB
  rw [runB_same xs 0 (fun x hx => stepB_same (h x hx))]
theorem stepB_op {x : Stp} {p st t : Int} (h : stepB opS x p st t = true) (h5 : x.k = 5) : opS x.a = true := by
  unfold stepB at h
  rw [if_neg (by omega), if_neg (by omega), if_neg (by omega), if_neg (by omega), if_neg (by omega), if_pos h5] at h
  simp only [Bool.and_eq_true] at h
  exact h.1
theorem GoodF.same {p st t : Int} {xs : List Stp} (h : GoodF p st t xs) (p' st' t' : Int) : formB opI xs p' st' t' = formB opS xs p' st' t' := formB_same fun x hx => stepB_op (h.ok x hx)
theorem GoodF.same_init {p st t : Int} {xs : List Stp} (h : GoodF p st t xs) (p' st' t' : Int) : formB opI xs.dropLast p' st' t' = formB opS xs.dropLast p' st' t' := formB_same fun x hx => stepB_op (h.ok x (List.dropLast_subset _ hx))
theorem GoodF.same_snoc {p st t : Int} {xs : List Stp} (h : GoodF p st t xs) (y : Stp) : formB opI (xs ++ [y]) p st t = formB opS (xs ++ [y]) p st t := by
  unfold formB
  have r1 := h.run opI (fun _ _ => rfl) 0 [y] (by omega)
  have r2 := h.run opS (fun _ h => h) 0 [y] (by omega)
  rw [r1, r2]
  by_cases h5 : y.k = 5
  · have e : ∀ ok, runB ok (0 + 1) [y] = false := fun ok => by
      show (ok y && decide (takesV y.k ≤ 0 + 1) && _) = false
      rw [h5, decide_eq_false (by decide)]
      simp
    rw [e, e]
  · rw [runB_same (ok1 := fun x => stepB opI x p st t) (ok2 := fun x => stepB opS x p st t) [y] _ (fun x hx => by simp at hx; rw [hx]; exact stepB_same (fun h => absurd h h5))]
theorem stepB_mono {D : Int → Bool} {x : Stp} {p st t : Int} (h : stepB D x p st t = true) : stepB D x (p + 1) (st + 1) (t + 1) = true := by
  unfold stepB at h ⊢
  split at h <;> (try split at h) <;> (try split at h) <;> (try split at h) <;> (try split at h) <;> (try split at h) <;> (try split at h) <;> simp_all <;> omega
theorem runB_mono {ok1 ok2 : Stp → Bool} (hok : ∀ x, ok1 x = true → ok2 x = true) : ∀ (xs : List Stp) (m : Int), runB ok1 m xs = true → runB ok2 m xs = true
  | [], _, h => h
  | x :: xs, m, h => by
    have h' : (ok1 x && decide (takesV x.k ≤ m) && runB ok1 (m - takesV x.k + 1) xs) = true := h
    simp only [Bool.and_eq_true] at h'
    show (ok2 x && decide (takesV x.k ≤ m) && runB ok2 (m - takesV x.k + 1) xs) = true
    rw [hok x h'.1.1, h'.1.2, runB_mono hok xs _ h'.2]
    rfl
theorem formB_mono {D : Int → Bool} {xs : List Stp} {p st t : Int} (h : formB D xs p st t = true) : formB D xs (p + 1) (st + 1) (t + 1) = true := by
  unfold formB at h ⊢
  simp only [Bool.and_eq_true] at h ⊢
  exact ⟨h.1, runB_mono (fun x hx => stepB_mono hx) xs 0 h.2⟩
theorem formB_pos {D : Int → Bool} {xs : List Stp} {p st t : Int} (h : formB D xs p st t = true) : 0 < xs.length := by
  cases xs with
  | nil => exact absurd h (by simp [formB, runB])
  | cons x xs => simp
theorem Lies.init {w : World} {A : Option Addr} {xs : List Stp} (h : Lies w A xs) : Lies w A xs.dropLast := fun h0 => by
  obtain ⟨b, off, rfl, hb, hc⟩ := h (by rw [List.length_dropLast] at h0; omega)
  refine ⟨b, off, rfl, hb, fun i x hx => hc i x ?_⟩
  rw [List.getElem?_dropLast] at hx
  split at hx
  · exact hx
  · cases hx
theorem Owns.cap {w : World} {base b c : Nat} {xs : List Stp} (h : Owns w base b c xs) : xs.length ≤ c := by
  rcases h.2 with ⟨h', _⟩ | ⟨g', cap', cur, h', _, _, hn, _⟩
  · simp at h'
  · simp only [Value.slice.injEq, Option.some.injEq, Addr.mk.injEq, and_true, true_and] at h'
    omega
theorem small_a (w : World) : Small (w.alloc (.cells #[.int .i64 (-1), .int .i64 0, .int .i64 2] 3)) w.heap.size 3 (-1) 2 := by
  intro i hi
  rcases (by omega : i = 0 ∨ i = 1 ∨ i = 2) with rfl | rfl | rfl
  all_goals exact ⟨_, by decide, by decide, cell_of_row _ _ _ _ _ _ (heap_alloc_new w _)⟩
theorem small_p (w : World) : Small (w.alloc (.cells #[.int .i64 (-1), .int .i64 0, .int .i64 4] 3)) w.heap.size 3 (-1) 4 := by
  intro i hi
  rcases (by omega : i = 0 ∨ i = 1 ∨ i = 2) with rfl | rfl | rfl
  all_goals exact ⟨_, by decide, by decide, cell_of_row _ _ _ _ _ _ (heap_alloc_new w _)⟩
theorem small_s (w : World) : Small (w.alloc (.cells #[.int .i64 0, .int .i64 1] 3)) w.heap.size 2 0 1 := by
  intro i hi
  rcases (by omega : i = 0 ∨ i = 1) with rfl | rfl
  all_goals exact ⟨_, by decide, by decide, cell_of_row _ _ _ _ _ _ (heap_alloc_new w _)⟩

/-- What the law draws. -/
def FormArgs (w : World) (e : Ending) (w' : World) : Prop :=
  ∃ (A' : Option Addr) (c' : Nat) (xs : List Stp) (p st t : Int), e = .returned (.tuple #[.slice A' xs.length c', .int .i64 p, .int .i64 st, .int .i64 t]) ∧ Lies w' A' xs ∧ xs.length ≤ 10 ∧
    formB opI xs p st t = formB opS xs p st t ∧ (-1 ≤ p ∧ p ≤ 4 ∧ 0 ≤ st ∧ st ≤ 3 ∧ 0 ≤ t ∧ t ≤ 4) ∧ Below w.heap.size w w'

set_option maxHeartbeats 2000000 in
theorem DrawFormOk_any (A : Option Addr) (len cap : Nat) (w : World) (hc : Code w w.heap.size A len) (hl : len ≤ maxLen) :
    Calls Try.prog 8 #[.slice A len cap] w (FormArgs w) := by
  have HS0 := Lib.hid (St.new (cap := cap) hc hl)
  have HK0 := Lib.hid ((Keep.refl w.heap.size w.heap.size w).alloc (Nat.le_refl _) (.cells #[.slice A len cap, .int .i64 0, .int .i64 4000] 71))
  clear hc hl
  go_enter Try.func8, Try.ntmps8
  go_wp2_with (go_at_call 25; refine (newSource_any _ _ _ _).mono ?_; rintro e w' ⟨rfl, rfl⟩)
  go_wp2_with fail
  refine (pick_any w.heap.size A len cap 4 _ HS0.out (by omega)).mono ?_
  rintro e w1 ⟨p, rfl, p0, p1, hs, hk⟩
  have p2 : p < 4 := by omega
  have HS1 := Lib.hid hs
  have HK1 := Lib.hid (HK0.out.trans (hk.mono HK0.out.size))
  have hz1 := hk.size
  clear hs hk p1
  simp at hz1
  go_wp2_with fail
  refine (pick_any w.heap.size A len cap 4 w1 HS1.out (by omega)).mono ?_
  rintro e w2 ⟨st, rfl, st0, st1, hs, hk⟩
  have st2 : st < 4 := by omega
  have HS2 := Lib.hid hs
  have HK2 := Lib.hid (HK1.out.trans (hk.mono HK1.out.size))
  have hz2 := hk.size
  clear hs hk st1
  go_wp2_with fail
  refine (pick_any w.heap.size A len cap 5 w2 HS2.out (by omega)).mono ?_
  rintro e w3 ⟨t, rfl, t0, t1, hs, hk⟩
  have t2 : t < 5 := by omega
  have HS3 := Lib.hid hs
  have HK3 := Lib.hid (HK2.out.trans (hk.mono HK2.out.size))
  have hz3 := hk.size
  clear hs hk t1
  go_wp2_with fail
  refine (form_any w.heap.size A len cap p st t ⟨by omega, by omega⟩ ⟨by omega, by omega⟩ ⟨by omega, by omega⟩ 9 9 (by omega) (by omega) w3 HS3.out).mono ?_
  rintro e w4 ⟨b, c, xs, rfl, ho, hg, hlen, hs, hk⟩
  have HO4 := Lib.hid ho
  have HG := Lib.hid hg
  have HS4 := Lib.hid hs
  have HK4 := Lib.hid (HK3.out.trans (hk.mono HK3.out.size))
  have hz4 := hk.size
  have hpos := hg.pos
  clear ho hg hs hk
  go_wp2_with fail
  refine (pick_any w.heap.size A len cap 6 w4 HS4.out (by omega)).mono ?_
  rintro e w5 ⟨r, rfl, r0, r1, hs, hk⟩
  have r2 : r < 6 := by omega
  have HS5 := Lib.hid hs
  have HK5 := Lib.hid (HK4.out.trans (hk.mono HK4.out.size))
  have hz5 := hk.size
  have HO5 := Lib.hid (HO4.out.keep hk (by omega))
  clear hs hk r1
  rcases (by omega : r = 0 ∨ r = 1 ∨ r = 2 ∨ (3 ≤ r)) with rfl | rfl | rfl | r3
  · obtain ⟨n, hn⟩ : ∃ n, xs.length = n + 1 := ⟨xs.length - 1, by omega⟩
    have HN := Lib.hid hn
    have hdl := Lib.hid (show xs.dropLast.length = n by rw [List.length_dropLast]; omega)
    rw [hn] at hlen
    have hcap : n ≤ c := by have := HO5.out.cap; omega
    rw [hn]
    clear hn
    go_wp2_with fail
    refine bodyPost_ret (v := .tuple #[.slice (some ⟨b, 0, none⟩) n c, .int .i64 p, .int .i64 st, .int .i64 t]) (by simp [results, Try.results8, go_sem]) rfl ⟨some ⟨b, 0, none⟩, c, xs.dropLast, p, st, t, by rw [hdl.out], HO5.out.lies.init, by rw [hdl.out]; omega, HG.out.same_init _ _ _, by omega, HK5.out.below (Nat.le_refl _)⟩
  · have HPK := Lib.hid (pick_any w.heap.size A len cap 8 w5 HS5.out (by omega))
    go_wp2_with fail
    refine HPK.out.mono ?_
    rintro e w6 ⟨k, rfl, k0, k1, hs, hk⟩
    have HSa := Lib.hid (hs.alloc (.cells #[.int .i64 (-1), .int .i64 0, .int .i64 2] 3))
    have HK6 := Lib.hid (HK5.out.trans (hk.mono HK5.out.size))
    have HKa := Lib.hid (HK6.out.alloc HK6.out.size (.cells #[.int .i64 (-1), .int .i64 0, .int .i64 2] 3))
    have HLa := Lib.hid (small_a w6)
    have HOa := Lib.hid ((HO5.out.keep hk (by omega)).alloc (.cells #[.int .i64 (-1), .int .i64 0, .int .i64 2] 3))
    have hz6 := hk.size
    clear hs hk k1
    go_wp2_with fail
    refine (one_any w.heap.size A len cap w6.heap.size 3 3 (-1) 2 _ HSa.out (by simp) (by omega) HLa.out (by omega) (by omega)).mono ?_
    rintro e w7 ⟨z, rfl, z0, z1, hs, hk⟩
    have HO7 := HOa.out.keep hk (by omega)
    have HK7 := HKa.out.trans (hk.mono HKa.out.size)
    have HOx := Lib.hid (HO7.alloc (.cells #[.int .i64 k, .int .i64 z, .int .i64 0, .int .i64 0, .string ⟨#[]⟩] 52))
    have HKx := Lib.hid (HK7.alloc HK7.size (.cells #[.int .i64 k, .int .i64 z, .int .i64 0, .int .i64 0, .string ⟨#[]⟩] 52))
    have HNx := Lib.hid (Owns.lit w7 ⟨k, z, 0, 0, ⟨#[]⟩⟩ (Nat.le_refl _)).news
    have hlx : xs.length + ([⟨k, z, 0, 0, ⟨#[]⟩⟩] : List Stp).length ≤ 1000 := by simp; omega
    have hbx : w3.heap.size ≤ (w7.alloc (.cells #[.int .i64 k, .int .i64 z, .int .i64 0, .int .i64 0, .string ⟨#[]⟩] 52)).heap.size := by have := hk.size; simp at this; simp; omega
    have hbb := HO7.lt.1
    clear hs hk HO7 HK7
    go_wp2_with (at_builtin; refine wp_append_steps rfl (.tmp 35) (.tmp 42) rfl w3.heap.size b c xs rfl HOx.out ⟨w7.heap.size, 0, none⟩ 1 [⟨k, z, 0, 0, ⟨#[]⟩⟩] rfl HNx.out hpos hlx hbx ?_; intro bf cf xf wf HQ ho hgr HAT; have HOf := Lib.hid ho.lies; have HKf := Lib.hid (HKx.out.grown hgr HKx.out.size (by omega)); clear ho hgr)
    exact bodyPost_ret (v := .tuple #[.slice (some ⟨bf, 0, none⟩) xf.length cf, .int .i64 p, .int .i64 st, .int .i64 t]) (by simp [results, Try.results8, go_sem]) rfl ⟨_, _, xf, p, st, t, rfl, HOf.out, by rw [HQ.out]; simp; omega, by rw [HQ.out]; exact HG.out.same_snoc _, by omega, HKf.out.below (Nat.le_refl _)⟩
  · have HSa := Lib.hid (HS5.out.alloc (.cells #[.int .i64 (-1), .int .i64 0, .int .i64 4] 3))
    have HKa := Lib.hid (HK5.out.alloc HK5.out.size (.cells #[.int .i64 (-1), .int .i64 0, .int .i64 4] 3))
    have HLa := Lib.hid (small_p w5)
    have HOa := Lib.hid (HO5.out.alloc (.cells #[.int .i64 (-1), .int .i64 0, .int .i64 4] 3))
    go_wp2_with fail
    refine (one_any w.heap.size A len cap w5.heap.size 3 3 (-1) 4 _ HSa.out (by simp) (by omega) HLa.out (by omega) (by omega)).mono ?_
    rintro e w6 ⟨pz, rfl, pz0, pz1, hs, hk⟩
    have HSb := Lib.hid (hs.alloc (.cells #[.int .i64 0, .int .i64 1] 3))
    have HK6 := Lib.hid (HKa.out.trans (hk.mono HKa.out.size))
    have HKb := Lib.hid (HK6.out.alloc HK6.out.size (.cells #[.int .i64 0, .int .i64 1] 3))
    have HOb := Lib.hid ((HOa.out.keep hk (by omega)).alloc (.cells #[.int .i64 0, .int .i64 1] 3))
    have HLb := Lib.hid (small_s w6)
    have hz6 := hk.size
    simp at hz6
    clear hs hk
    go_wp2_with fail
    refine (one_any w.heap.size A len cap w6.heap.size 2 2 0 1 _ HSb.out (by simp) (by omega) HLb.out (by omega) (by omega)).mono ?_
    rintro e w7 ⟨sz, rfl, sz0, sz1, hs, hk⟩
    have HO7 := Lib.hid (HOb.out.keep hk (by omega))
    have HK7 := Lib.hid (HKb.out.trans (hk.mono HKb.out.size))
    clear hs hk
    go_wp2_with fail
    exact bodyPost_ret (v := .tuple #[.slice (some ⟨b, 0, none⟩) xs.length c, .int .i64 pz, .int .i64 sz, .int .i64 t]) (by simp [results, Try.results8, go_sem]) rfl ⟨_, _, xs, pz, sz, t, rfl, HO7.out.lies, by omega, HG.out.same _ _ _, by omega, HK7.out.below (Nat.le_refl _)⟩
  · have e0 : (r == 0) = false := by simp; omega
    have e1 : (r == 1) = false := by simp; omega
    have e2 : (r == 2) = false := by simp; omega
    go_wp2_with fail
    exact bodyPost_ret (v := .tuple #[.slice (some ⟨b, 0, none⟩) xs.length c, .int .i64 p, .int .i64 st, .int .i64 t]) (by simp [results, Try.results8, go_sem]) rfl ⟨_, _, xs, p, st, t, rfl, HO5.out.lies, by omega, HG.out.same _ _ _, by omega, HK5.out.below (Nat.le_refl _)⟩

end Go.Proofs.Ytgejhjhjdepmmaa
