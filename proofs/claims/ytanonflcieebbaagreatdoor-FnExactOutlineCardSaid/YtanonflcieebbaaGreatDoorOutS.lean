/- The document's Outline. -/
import Derived.Test.YtanonflcieebbaaGreatDoorApp1
import Derived.Test.YtanonflcieebbaaGreatDoorOut1
import Derived.Test.YtanonflcieebbaaGreatDoorWrt4
import Derived.Test.YtanonflcieebbaaGreatDoorTre11
namespace Go.Proofs.YtanonflcieebbaaGreatDoor
open Go.Joins Go.ChangeShapes Go.WideShapes Go.ChangeAt Go.RowKit Go.Deep
set_option linter.unusedVariables false
set_option linter.unusedSimpArgs false

theorem nok_sm {t : Tr} (h : SmT t) : SmT (nok t) := by
  obtain ⟨s0, s1, s2, s3, s4⟩ := h.open_
  exact .mk s0 s1 s2 (by decide) (fun x hx => by cases hx)
theorem deep_small {t : Tr} (h : treeOkB t = true) : deepT t ≤ 25 := by
  obtain ⟨_, e1, e2⟩ := treeB_yes (show treeB shownB t = true from h)
  rcases Decidable.em (deepT t + 1 ≤ 25 ∧ sizeT t ≤ 200) with hq | hq
  · omega
  · have := (tsT_is t 1).2 hq; omega
set_option maxHeartbeats 1000000 in
theorem sheadWords_any (t : Tr) (hsm : SmT t) (hok : treeOkB t = true) : ∀ (A0 A1 : Option Addr) (c0 c1 : Nat) (w : World), PrL w A0 t.ps →
    Calls Tryz.prog 61 #[.agg #[.int .i64 t.tag, .int .i64 t.key, .string t.text, .slice A0 t.ps.length c0, .slice A1 t.ks.length c1]] w fun e w' => e = .returned (.string (wordsT (nok t))) ∧ Below w.heap.size w w' := by
  intro A0 A1 c0 c1 w hp
  have k1 := fun W (h : PrL W A0 t.ps) => streeWords_any (nok t) (nok_sm hsm) (nok_ok hok) A0 none c0 0 W h TrL.nil
  generalize wordsT (nok t) = s at *
  obtain ⟨tag, key, text, ps, ks⟩ := t
  dsimp only [nok, Tr.tag, Tr.key, Tr.text, Tr.ps, Tr.ks, List.length_nil] at *
  generalize ps.length = np at *
  generalize ks.length = nk at *
  have hb0 := Below.alloc (Below.refl w.heap.size w) (Nat.le_refl _) (.cells #[.int .i64 tag, .int .i64 key, .string text, .slice A0 np c0, .slice A1 nk c1] 32)
  have HB0 := Lib.hid hb0
  have K1 := Lib.hid (k1 _ (hp.below hb0))
  clear hp k1 hb0 hsm hok
  go_enter Tryz.func61, Tryz.ntmps61
  go_wp2_with fail
  refine K1.out.mono ?_
  rintro e w1 ⟨rfl, hb⟩
  have HB1 := Lib.hid (more HB0.out (Nat.le_refl _) hb)
  clear hb
  go_wp2_with fail
  go_ret
  exact ⟨rfl, HB1.out⟩
theorem outsD_len : ∀ (ks : List Tr) (d : Nat), (outsD ks d).length = sizeL ks
  | [], _ => by simp [outsD, sizeL]
  | x :: xs, d => by simp only [outsD, sizeL, List.length_append, outD_len, outsD_len xs]
theorem outsD_take : ∀ {ks : List Tr} {k d : Nat} {x : Tr}, ks[k]? = some x → outsD (ks.take k) d ++ outD x d = outsD (ks.take (k + 1)) d
  | [], _, _, _, h => by simp at h
  | y :: ys, 0, d, x, h => by simp at h; subst h; simp [outsD]
  | y :: ys, k + 1, d, x, h => by
    simp only [List.getElem?_cons_succ] at h
    have := outsD_take (d := d) h
    simp only [List.take_succ_cons, outsD, List.append_assoc, this]
theorem sizeL_take : ∀ (ks : List Tr) (k : Nat) (x : Tr), ks[k]? = some x → sizeL (ks.take k) + sizeT x ≤ sizeL ks
  | [], _, _, h => by simp at h
  | y :: ys, 0, x, h => by simp at h; subst h; simp [sizeL]
  | y :: ys, k + 1, x, h => by
    simp only [List.getElem?_cons_succ] at h
    have := sizeL_take ys k x h
    simp only [List.take_succ_cons, sizeL]
    omega
/-- A tree's lines, behind others. -/
def OlX (ys : List ByteArray) (base : Nat) (v : Value) (w : World) (e : Ending) (w' : World) : Prop := ∃ v', e = .returned v' ∧ w'.ownsRow base 9 1 v' ys.length (tV ys) ∧ Gr w w' v v'
def OlC (t : Tr) : Prop := ∀ (A0 A1 : Option Addr) (c0 c1 : Nat) (w0 : World), PrL w0 A0 t.ps → TrL w0 0 A1 t.ks → ∀ (base d : Nat) (v : Value) (xs : List ByteArray) (w : World), Below w0.heap.size w0 w → w0.heap.size ≤ base → base ≤ w.heap.size → w.ownsRow base 9 1 v xs.length (tV xs) → xs.length + sizeT t ≤ 1000 → d + deepT t ≤ 1000 →
  Calls Tryz.prog 29 #[.agg #[.int .i64 t.tag, .int .i64 t.key, .string t.text, .slice A0 t.ps.length c0, .slice A1 t.ks.length c1], .int .i64 d, v] w (OlX (xs ++ outD t d) base v w)
set_option maxRecDepth 100000 in
set_option maxHeartbeats 8000000 in
theorem soutlined_any (t : Tr) : SmT t → treeOkB t = true → OlC t := by
  induction t using Tr.by_kids with
  | h t ih =>
  intro hsm hok A0 A1 c0 c1 w0 hp hk base d v xs w hlow h0b hbw hown hlen hdep
  obtain ⟨s0, s1, s2, s3, s4⟩ := hsm.open_
  have hi := fun x hx => ih x hx (s4 x hx) (kid_valid hok hx)
  have k1 := fun W h => sheadWords_any t hsm hok A0 A1 c0 c1 W h
  have hwm := wordsT_max (nok_ok hok)
  have he := outD_eq t d
  rw [sizeT_eq] at hlen
  rw [deepT_eq] at hdep
  have hT : ∀ e w', (∃ v', e = .returned v' ∧ w'.ownsRow base 9 1 v' (xs ++ outD t d).length (tV (xs ++ outD t d)) ∧ Gr w w' v v') → OlX (xs ++ outD t d) base v w e w' := fun e w' h => h
  rw [he] at hT ⊢
  generalize wordsT (nok t) = hw at *
  obtain ⟨Q, hQ⟩ : ∃ Q, OlX (xs ++ (dash d ++ hw) :: outsD t.ks (d + 1)) base v w = Q := ⟨_, rfl⟩
  rw [hQ] at hT ⊢
  have HQ := Lib.hid hT
  have HI := Lib.hid hi
  have K1 := Lib.hid k1
  clear ih hT hQ hi k1 hsm hok s0 s1 s2 s4 he
  obtain ⟨tag, key, text, ps, ks⟩ := t
  dsimp only [Tr.tag, Tr.key, Tr.text, Tr.ps, Tr.ks] at *
  obtain ⟨np, hnp⟩ : ∃ q, ps.length = q := ⟨_, rfl⟩
  obtain ⟨nk, hnk⟩ : ∃ q, ks.length = q := ⟨_, rfl⟩
  rw [hnp, hnk] at K1 ⊢
  rw [hnk] at s3
  have HNK := Lib.hid hnk
  clear hnp hnk
  unfold maxLen at s3
  have hb1 := Below.alloc (Below.refl w.heap.size w) (Nat.le_refl _) (.cells #[.int .i64 tag, .int .i64 key, .string text, .slice A0 np c0, .slice A1 nk c1] 32)
  have hlow1 := hlow.trans (hb1.mono hlow.size)
  have o0 : (w.alloc (.cells #[.int .i64 tag, .int .i64 key, .string text, .slice A0 np c0, .slice A1 nk c1] 32)).cell? ⟨w.heap.size, 0, none⟩ = some (.int .i64 tag) := by go_simp
  have o1 : (w.alloc (.cells #[.int .i64 tag, .int .i64 key, .string text, .slice A0 np c0, .slice A1 nk c1] 32)).cell? ⟨w.heap.size, 1, none⟩ = some (.int .i64 key) := by go_simp
  have o2 : (w.alloc (.cells #[.int .i64 tag, .int .i64 key, .string text, .slice A0 np c0, .slice A1 nk c1] 32)).cell? ⟨w.heap.size, 2, none⟩ = some (.string text) := by go_simp
  have o3 : (w.alloc (.cells #[.int .i64 tag, .int .i64 key, .string text, .slice A0 np c0, .slice A1 nk c1] 32)).cell? ⟨w.heap.size, 3, none⟩ = some (.slice A0 np c0) := by go_simp
  have o4 : (w.alloc (.cells #[.int .i64 tag, .int .i64 key, .string text, .slice A0 np c0, .slice A1 nk c1] 32)).cell? ⟨w.heap.size, 4, none⟩ = some (.slice A1 nk c1) := by go_simp
  have hz1 : w.heap.size < (w.alloc (.cells #[.int .i64 tag, .int .i64 key, .string text, .slice A0 np c0, .slice A1 nk c1] 32)).heap.size := by simp
  have hvb := fun g e => (World.ownsRow.lt hown g e)
  have HVB := Lib.hid hvb
  have HB1 := Lib.hid (Gr.of_below hb1 v)
  have HLOW := Lib.hid hlow1
  have HP := Lib.hid hp
  have HK := Lib.hid hk
  have HOWN := Lib.hid (ownsRow_below hown hb1)
  have HW := Lib.hid hwm
  obtain ⟨w1, hw1⟩ : ∃ q, w.alloc (.cells #[.int .i64 tag, .int .i64 key, .string text, .slice A0 np c0, .slice A1 nk c1] 32) = q := ⟨_, rfl⟩
  rw [hw1] at o0 o1 o2 o3 o4 hz1 HB1 HLOW HOWN
  obtain ⟨bx, hbx⟩ : ∃ q, w.heap.size = q := ⟨_, rfl⟩
  rw [hbx] at o0 o1 o2 o3 o4 hz1 hbw HVB
  clear hp hk hown hb1 hlow hlow1 hwm
  go_enter Tryz.func29, Tryz.ntmps29
  go_wp2_with fail
  (try rw [hw1])
  (try rw [hbx])
  clear hw1 hbx
  go_loopw [7, 8] (fun ln i wr => ∃ k : Nat, k ≤ d ∧ i = .int .i64 k ∧ ln = .string (dash k) ∧ w1 = wr) (fun _ i _ => d - (intOf i).toNat)
  case atStart => exact ⟨0, by omega, rfl, rfl, rfl⟩
  case round =>
    obtain ⟨k, hk, rfl, rfl, rfl⟩ := hrel
    have hds := dash_size k
    by_cases hlt : k < d
    · have hsc := dash_succ k
      have hln : (dash k).size + 1 ≤ 1001 := by omega
      go_wp2_with fail
      go_roundw
      case rel => exact ⟨k + 1, by omega, by go_num, by rw [hsc], trivial⟩
      case measure => simp [intOf]; omega
    · obtain rfl : d = k := by omega
      have HDS := Lib.hid hds
      clear hds
      go_wp2_with fail
      refine (K1.out _ (HP.out.below HLOW.out)).mono ?_
      rintro e w2 ⟨rfl, hb⟩
      have hds := HDS.out
      have hln : (dash d).size + hw.size ≤ 2000000 := by have := HW.out; omega
      have hvx : v.ownBlock ≠ some bx := fun e => by have := (HVB.out bx e).2; omega
      have hgr1 := Gr.of_below hb v
      have HOWN2 := Lib.hid (ownsRow_below HOWN.out hb)
      have HO4 := Lib.hid o4
      have HB2w := Lib.hid hgr1
      have hz2 := Nat.lt_of_lt_of_le hz1 hb.size
      have hb1w : base ≤ w1.heap.size := by have := HB1.out.1.size; omega
      have hlen0 : xs.length ≤ 1000000 := by omega
      clear hb hgr1 hds
      obtain ⟨bln, hbln⟩ : ∃ q, dash d ++ hw = q := ⟨_, rfl⟩
      rw [hbln] at HQ
      have HBL := Lib.hid hbln
      go_wp2_with (at_builtin; refine wp_append_text rfl (.tmp 17) (.tmp 22) rfl base v xs rfl (ownsRow_below HOWN2.out (Below.alloc (Below.refl _ _) (Nat.le_refl _) (.cells #[.string bln] 9))) ⟨w2.heap.size, 0, none⟩ 1 bln rfl (by rw [World.cell?_alloc_new]; rfl) hlen0 (by simp; omega) ?_; intro v3 w3 hown3 hgr3; have HOWN3 := Lib.hid hown3; have HGR3 := Lib.hid hgr3; clear hown3 hgr3)
      have hgr13 := HB2w.out.trans (Gr.trans (Gr.of_below (Below.alloc (Below.refl w2.heap.size w2) (Nat.le_refl _) (.cells #[.string bln] 9)) v) HGR3.out)
      have HG3 := Lib.hid hgr13
      replace o4 := (hgr13.cell hz1 hvx).trans HO4.out
      clear hgr13 HGR3 o0 o1 o2 o3 HOWN2
      go_loopw [2, 9] (fun ov i wr => ∃ (k : Nat) (v4 : Value), k ≤ nk ∧ i = .int .i64 k ∧ v4 = ov ∧ Hid (wr.ownsRow base 9 1 v4 (xs ++ bln :: outsD (ks.take k) (d + 1)).length (tV (xs ++ bln :: outsD (ks.take k) (d + 1)))) ∧ Hid (Gr w1 wr v v4)) (fun _ i _ => nk - (intOf i).toNat)
      case atStart => exact ⟨0, v3, by omega, rfl, rfl, HOWN3, HG3⟩
      case round =>
        clear o4 HOWN3 HG3
        obtain ⟨k, v4, hk, rfl, rfl, HO5, HG5⟩ := hrel
        have o4 := (HG5.out.cell hz1 hvx).trans HO4.out
        have hlowr := HLOW.out.trans (HG5.out.below (B := w0.heap.size) (by have := HLOW.out.size; omega) (fun g e => Nat.le_trans h0b (HVB.out g e).1))
        by_cases hlt : k < nk
        · obtain ⟨x, hx⟩ := at_some (show k < ks.length by rw [HNK.out]; exact hlt)
          obtain ⟨b, off, E0, d0, E1, d1, rfl, hblt, _, e0, e1, e2, e3, e4, hpx, _, hkx⟩ := HK.out.at_ hx
          replace e0 := (hlowr.cell (p := ⟨b, _, none⟩) hblt).trans e0
          replace e1 := (hlowr.cell (p := ⟨b, _, none⟩) hblt).trans e1
          replace e2 := (hlowr.cell (p := ⟨b, _, none⟩) hblt).trans e2
          replace e3 := (hlowr.cell (p := ⟨b, _, none⟩) hblt).trans e3
          replace e4 := (hlowr.cell (p := ⟨b, _, none⟩) hblt).trans e4
          have hmem := List.mem_of_getElem? hx
          have hszx := sizeL_mem hmem
          have hdpx := deepL_mem hmem
          have hszt := sizeL_take ks k x hx
          have hleq : (xs ++ bln :: outsD (ks.take k) (d + 1)).length = xs.length + 1 + sizeL (ks.take k) := by rw [List.length_append, List.length_cons, outsD_len]; omega
          have hrec := HI.out x hmem E0 E1 d0 d1 w0 hpx hkx base (d + 1) v4 (xs ++ bln :: outsD (ks.take k) (d + 1)) wr hlowr h0b (by have := HG5.out.1.size; omega) HO5.out (by rw [hleq]; omega) (by omega)
          have hox : ∀ e w', OlX ((xs ++ bln :: outsD (ks.take k) (d + 1)) ++ outD x (d + 1)) base v4 wr e w' → ∃ v', e = .returned v' ∧ w'.ownsRow base 9 1 v' ((xs ++ bln :: outsD (ks.take k) (d + 1)) ++ outD x (d + 1)).length (tV ((xs ++ bln :: outsD (ks.take k) (d + 1)) ++ outD x (d + 1))) ∧ Gr wr w' v4 v' := fun e w' h => h
          have hnx : (xs ++ bln :: outsD (ks.take k) (d + 1)) ++ outD x (d + 1) = xs ++ bln :: outsD (ks.take (k + 1)) (d + 1) := by
            rw [List.append_assoc, List.cons_append, outsD_take hx]
          rw [hnx] at hrec hox
          have HREC := Lib.hid hrec
          have HOX := Lib.hid hox
          have hi1 : (0 : Int) ≤ (k : Int) := by omega
          have hi2 : (k : Int) < (nk : Int) := by omega
          clear hrec hox hx hpx hkx hmem hszx hdpx hszt hleq hnx hlowr
          go_wp2_with fail
          refine HREC.out.mono ?_
          intro e w4 hq
          obtain ⟨v5, rfl, hown5, hgr5⟩ := HOX.out e w4 hq
          have HO6 := Lib.hid hown5
          have HG6 := Lib.hid (HG5.out.trans hgr5)
          clear hq hown5 hgr5
          go_wp2_with fail
          go_roundw
          case rel => exact ⟨k + 1, v5, by omega, by go_num, rfl, HO6, HG6⟩
          case measure => simp [intOf]; omega
        · obtain rfl : k = nk := by omega
          have h5 := HO5.out
          rw [List.take_of_length_le (by rw [HNK.out]; exact Nat.le_refl _)] at h5
          have H5 := Lib.hid h5
          clear h5 hlowr
          go_wp2_with fail
          exact HQ.out _ _ ⟨v4, rfl, H5.out, HB1.out.trans HG5.out⟩
set_option maxHeartbeats 1000000 in
theorem sOutline_any (t : Tr) (hsm : SmT t) : ∀ (A0 A1 : Option Addr) (c0 c1 : Nat) (w : World), PrL w A0 t.ps → TrL w 0 A1 t.ks →
    Calls Tryz.prog 7 #[.agg #[.int .i64 t.tag, .int .i64 t.key, .string t.text, .slice A0 t.ps.length c0, .slice A1 t.ks.length c1]] w (OuX (outV t) w) := by
  intro A0 A1 c0 c1 w hp hk
  have k1 := fun w hp hk => svalidTree_any t hsm A0 A1 c0 c1 w hp hk
  have k2 := fun (h : treeOkB t = true) W hp hk (h1 : (1 : Nat) = 1) => soutlined_any t hsm h A0 A1 c0 c1 W hp hk
  have hsz := @treeB_yes shownB t
  have hout : ∀ v, treeOkB t = v → outV t = if v = true then outD t 0 else [] := fun v hv => by unfold outV; rw [hv]
  have hT : ∀ e w', (∃ (A : Option Addr) (c : Nat), e = .returned (.slice A (outV t).length c) ∧ TxO w' w.heap.size w'.heap.size A c (outV t) ∧ Below w.heap.size w w') → OuX (outV t) w e w' := fun e w' h => h
  obtain ⟨X, hX⟩ : ∃ X, OuX (outV t) w = X := ⟨_, rfl⟩
  rw [hX] at hT ⊢
  obtain ⟨ok, hok⟩ : ∃ v, treeOkB t = v := ⟨_, rfl⟩
  have ho := hout ok hok
  rw [ho] at hT
  have HOK := Lib.hid hok
  rw [hok] at k1
  have HSZ := Lib.hid hsz
  have HT := Lib.hid hT
  have K2 := Lib.hid k2
  have HDE := Lib.hid (fun (h : treeOkB t = true) => deep_small h)
  clear hX hT hout ho hok hsz k2
  have hox : ∀ ys base v w e w', OlX ys base v w e w' → ∃ v', e = .returned v' ∧ w'.ownsRow base 9 1 v' ys.length (tV ys) ∧ Gr w w' v v' := fun _ _ _ _ _ _ h => h
  have HOX := Lib.hid hox
  have hb0 := Below.alloc (Below.refl w.heap.size w) (Nat.le_refl _) (.cells #[.int .i64 t.tag, .int .i64 t.key, .string t.text, .slice A0 t.ps.length c0, .slice A1 t.ks.length c1] 32)
  have o0 : (w.alloc (.cells #[.int .i64 t.tag, .int .i64 t.key, .string t.text, .slice A0 t.ps.length c0, .slice A1 t.ks.length c1] 32)).cell? ⟨w.heap.size, 0, none⟩ = some (.int .i64 t.tag) := by rw [World.cell?_alloc_new]; rfl
  have o1 : (w.alloc (.cells #[.int .i64 t.tag, .int .i64 t.key, .string t.text, .slice A0 t.ps.length c0, .slice A1 t.ks.length c1] 32)).cell? ⟨w.heap.size, 1, none⟩ = some (.int .i64 t.key) := by rw [World.cell?_alloc_new]; rfl
  have o2 : (w.alloc (.cells #[.int .i64 t.tag, .int .i64 t.key, .string t.text, .slice A0 t.ps.length c0, .slice A1 t.ks.length c1] 32)).cell? ⟨w.heap.size, 2, none⟩ = some (.string t.text) := by rw [World.cell?_alloc_new]; rfl
  have o3 : (w.alloc (.cells #[.int .i64 t.tag, .int .i64 t.key, .string t.text, .slice A0 t.ps.length c0, .slice A1 t.ks.length c1] 32)).cell? ⟨w.heap.size, 3, none⟩ = some (.slice A0 t.ps.length c0) := by rw [World.cell?_alloc_new]; rfl
  have o4 : (w.alloc (.cells #[.int .i64 t.tag, .int .i64 t.key, .string t.text, .slice A0 t.ps.length c0, .slice A1 t.ks.length c1] 32)).cell? ⟨w.heap.size, 4, none⟩ = some (.slice A1 t.ks.length c1) := by rw [World.cell?_alloc_new]; rfl
  have hz : w.heap.size < (w.alloc (.cells #[.int .i64 t.tag, .int .i64 t.key, .string t.text, .slice A0 t.ps.length c0, .slice A1 t.ks.length c1] 32)).heap.size := by simp
  have HB0 := Lib.hid hb0
  have K1 := Lib.hid (k1 _ (hp.below hb0) (hk.below hb0))
  have HP := Lib.hid hp
  have HK := Lib.hid hk
  clear hb0 k1 hp hk hsm hox
  obtain ⟨w1, hw1⟩ : ∃ q, w.alloc (.cells #[.int .i64 t.tag, .int .i64 t.key, .string t.text, .slice A0 t.ps.length c0, .slice A1 t.ks.length c1] 32) = q := ⟨_, rfl⟩
  rw [hw1] at o0 o1 o2 o3 o4 hz HB0 K1
  go_enter Tryz.func7, Tryz.ntmps7
  go_wp2_with fail
  refine K1.out.mono ?_
  rintro e w2 ⟨rfl, hb⟩
  replace o0 := (hb.cell (p := ⟨w.heap.size, 0, none⟩) hz).trans o0
  replace o1 := (hb.cell (p := ⟨w.heap.size, 1, none⟩) hz).trans o1
  replace o2 := (hb.cell (p := ⟨w.heap.size, 2, none⟩) hz).trans o2
  replace o3 := (hb.cell (p := ⟨w.heap.size, 3, none⟩) hz).trans o3
  replace o4 := (hb.cell (p := ⟨w.heap.size, 4, none⟩) hz).trans o4
  have HB2 := Lib.hid (more HB0.out (Nat.le_refl _) hb)
  have hz2 := Nat.lt_of_lt_of_le hz hb.size
  clear hb HB0 hw1 hz K1
  cases ok
  · go_wp2_with fail
    exact HT.out _ _ ⟨none, 0, rfl, fun h => absurd h (by simp), HB2.out⟩
  · have hba := Below.alloc (Below.refl w2.heap.size w2) (Nat.le_refl _) (.cells #[] 9)
    have hown : (w2.alloc (.cells #[] 9)).ownsRow w2.heap.size 9 1 (.slice (some ⟨w2.heap.size, 0, none⟩) 0 0) ([] : List ByteArray).length (tV []) := ⟨rfl, .inr ⟨w2.heap.size, 0, #[], rfl, Nat.le_refl _, World.alloc_heap_new w2 _, Nat.le_refl _, Nat.zero_le _, rfl, rfl⟩⟩
    obtain ⟨_, e1, e2⟩ := HSZ.out HOK.out
    have hde := HDE.out HOK.out
    have hcall := K2.out HOK.out w HP.out HK.out trivial w2.heap.size 0 _ [] _ (more HB2.out (Nat.le_refl _) hba) HB2.out.size hba.size hown (by simp; omega) (by omega)
    have HC := Lib.hid hcall
    have HBA := Lib.hid hba
    clear hcall hba hown K2 HSZ e1 e2 hde HP HK
    go_wp2_with fail
    refine HC.out.mono ?_
    intro e w3 hq
    obtain ⟨v', rfl, hown3, hgr3⟩ := HOX.out _ _ _ _ _ _ hq
    rw [List.nil_append] at hown3
    obtain ⟨A, c, rfl, htx⟩ := own_text hown3
    have HTX := Lib.hid htx
    have HG3 := Lib.hid hgr3
    clear hq hown3 hgr3 htx HC
    go_wp2_with fail
    refine HT.out _ _ ⟨A, c, rfl, fun h0 => ?_, ?_⟩
    · obtain ⟨g, e, x1, x2, x3⟩ := HTX.out h0
      exact ⟨g, e, Nat.le_trans HB2.out.size x1, x2, x3⟩
    · exact (more HB2.out (Nat.le_refl _) HBA.out).trans ((HG3.out.below (B := w2.heap.size) (by simp) (fun g e => by simp [Value.ownBlock] at e; omega)).mono HB2.out.size)
end Go.Proofs.YtanonflcieebbaaGreatDoor
