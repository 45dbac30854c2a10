/- Stores: the states of a place, in both texts. -/
import Derived.Test.YtfdejmdhcjfboaaSto8
import Derived.Test.YtfdejmdhcjfboaaSto7
import Derived.WalkSpells
namespace Go.Proofs.Ytfdejmdhcjfboaa
open Go.Joins Go.ChangeShapes Go.WideShapes Go.ChangeAt Go.RowKit Go.Deep
set_option linter.unusedVariables false
set_option linter.unusedSimpArgs false

/-- Values in a row of the call's own. -/
def OwnV (w : World) (base b c : Nat) (xs : List Va) : Prop := w.ownsRow base 90 3 (.slice (some ⟨b, 0, none⟩) xs.length c) xs.length (xs.flatMap Va.cells)
theorem vone_cells (xs : List Va) : ∀ u ∈ xs.flatMap Va.cells, u.oneCell' = true := by
  intro u hu
  rw [List.mem_flatMap] at hu
  obtain ⟨x, _, hx⟩ := hu
  simp [Va.cells] at hx
  rcases hx with rfl | rfl | rfl <;> rfl
theorem OwnV.none_ (w : World) {base : Nat} (hb : base ≤ w.heap.size) : OwnV (w.alloc (.cells #[] 90)) base w.heap.size 0 [] :=
  World.ownsRow_lit (e := 90) (size := 3) w #[] 0 hb (by decide) rfl
theorem OwnV.lies {w : World} {base b c : Nat} {xs : List Va} (h : OwnV w base b c xs) : VaL w (some ⟨b, 0, none⟩) xs := Lie.of_own (c := Va.cells) (fun _ => rfl) h
theorem OwnV.lt {w : World} {base b c : Nat} {xs : List Va} (h : OwnV w base b c xs) : base ≤ b ∧ b < w.heap.size := World.ownsRow.lt h b rfl
/-- The cells of values, by their places. -/
theorem VaL.news {w : World} {b o : Nat} {xs : List Va} (h : VaL w (some ⟨b, o, none⟩) xs) : ∀ j u, (xs.flatMap Va.cells)[j]? = some u → w.cell? ((⟨b, o, none⟩ : Addr).add j) = some u := by
  intro j u hu
  have hj : j < xs.length * 3 := by rw [← len_vcells]; exact (List.getElem?_eq_some_iff.1 hu).1
  obtain ⟨b', off, he, hlt, hc⟩ := h (by omega)
  simp only [Option.some.injEq, Addr.mk.injEq, and_true] at he
  obtain ⟨rfl, rfl⟩ := he
  obtain ⟨x, hx⟩ := at_some (show j / 3 < xs.length by omega)
  have key : ∀ (ys : List Va) (i r : Nat), ys[i]? = some x → r < 3 → (ys.flatMap Va.cells)[i * 3 + r]? = x.cells[r]? := by
    intro ys
    induction ys with
    | nil => intro i r hi; simp at hi
    | cons y ys ih =>
      intro i r hi hr
      cases i with
      | zero =>
        simp at hi
        subst hi
        rw [List.flatMap_cons, List.getElem?_append_left (by simp [Va.cells]; omega)]
        simp
      | succ i =>
        simp at hi
        rw [List.flatMap_cons, List.getElem?_append_right (by simp [Va.cells]; omega), show (i + 1) * 3 + r - y.cells.length = i * 3 + r by simp [Va.cells]; omega]
        exact ih i r hi hr
  have hu2 := key xs (j / 3) (j % 3) hx (by omega)
  rw [show j / 3 * 3 + j % 3 = j by omega, hu] at hu2
  have := hc (j / 3) x hx (j % 3) u hu2.symm
  rw [show o + j / 3 * 3 + j % 3 = o + j by omega] at this
  rw [add_plain]
  exact this

/-- An append of values onto a row of the call's own. -/
theorem wp_append_vals {w : World} {ops : Array Oper} {rest : List Oper} {o : Oper} {a : Act} {Q : Exit → Act → World → Prop} (hgd : o.guard = none) (s x : Operand)
    (ho : o.op = .call { callee := .builtin .append, args := #[s, x], argTypes := #[43, 43] }) (base b c : Nat) (xs : List Va) (hs : a.eval s = .slice (some ⟨b, 0, none⟩) xs.length c) (hown : OwnV w base b c xs)
    (ad : Addr) (c2 : Nat) (ys : List Va) (m : Nat) (hx : a.eval x = .slice (some ad) m c2) (hm : ys.length = m) (hcells : ∀ j u, (ys.flatMap Va.cells)[j]? = some u → w.cell? (ad.add j) = some u)
    (hlen : xs.length + ys.length ≤ 4000000) (hbase : base ≤ w.heap.size)
    (h : ∀ b' c' zs w', Hid (zs = xs ++ ys) → OwnV w' base b' c' zs → w.grownBy w' (some b) → Hid (b' = b ∨ b' = w.heap.size) → wpList Try.prog ops Q rest (a.put o.dst (.slice (some ⟨b', 0, none⟩) zs.length c')) w') :
    wpList Try.prog ops Q (o :: rest) a w := by
  subst hm
  obtain ⟨i0, hi0, hz0, hz1, hz2⟩ := info_parts infoVa
  refine wpList_append_own_at w hgd s x _ ho base 90 i0 _ 3 32 Try.underlying43 hi0 hz0 hz1 hz2 rfl (by omega) _ xs.length _ hs hown ad ys.length c2 _ hx (len_vcells ys) hcells (vone_cells ys) (by simp only [maxLen]; omega) (by omega) hbase ?_
  intro v' w' hown' hg hnil hat
  rw [← List.length_append, ← List.flatMap_append] at hown'
  have hform : ∃ b' c', v' = .slice (some ⟨b', 0, none⟩) (xs ++ ys).length c' := by
    rcases hown'.2 with ⟨rfl, _⟩ | ⟨g', cap', cur, rfl, _⟩
    · simp [Value.ownBlock] at hat
    · exact ⟨g', cap', rfl⟩
  obtain ⟨b', c', rfl⟩ := hform
  exact h b' c' _ w' (Lib.hid rfl) hown' hg (Lib.hid (by simpa [Value.ownBlock] using hat))

/-- Cells none of whose rows is nil. -/
def CeN (w : World) (A : Option Addr) (xs : List Ce) : Prop :=
  0 < xs.length → ∃ b off, A = some ⟨b, off, none⟩ ∧ b < w.heap.size ∧ ∀ i (x : Ce), xs[i]? = some x → ∃ b0 o0 c0 b1 o1 c1, CeAt w b (off + i * 2) x (some ⟨b0, o0, none⟩) c0 (some ⟨b1, o1, none⟩) c1
theorem CeN.cel {w : World} {A : Option Addr} {xs : List Ce} (h : CeN w A xs) : CeL w A xs := fun h0 => by
  obtain ⟨b, off, e, hlt, hc⟩ := h h0
  refine ⟨b, off, e, hlt, fun i x hx => ?_⟩
  obtain ⟨b0, o0, c0, b1, o1, c1, h1⟩ := hc i x hx
  exact ⟨_, c0, _, c1, h1⟩
theorem CeN.below {w w' : World} {A : Option Addr} {xs : List Ce} (h : CeN w A xs) (hb : Below w.heap.size w w') : CeN w' A xs := fun h0 => by
  obtain ⟨b, off, rfl, hlt, hc⟩ := h h0
  refine ⟨b, off, rfl, Nat.lt_of_lt_of_le hlt hb.size, fun i x hx => ?_⟩
  obtain ⟨b0, o0, c0, b1, o1, c1, h1⟩ := hc i x hx
  exact ⟨b0, o0, c0, b1, o1, c1, h1.below hlt hb⟩
theorem CeN.of_own {w : World} {lo h n m : Nat} {G : Nat → Nat} {L : List Value} {xs : List Ce} (ho : w.ownsRow h 60 2 (.slice (some ⟨m, 0, none⟩) n n) n L) (hc : CesOwn w lo G L xs n) (hn : xs.length = n) (hs : ∀ x ∈ xs, x.pl.length ≤ 1048576 ∧ x.st.length ≤ 1048576) : CeN w (some ⟨m, 0, none⟩) xs := fun h0 => by
  refine ⟨m, 0, rfl, (ho.lt m rfl).2, fun i x hx => ?_⟩
  have hi : i < n := by rw [← hn]; exact (List.getElem?_eq_some_iff.1 hx).1
  obtain ⟨a0, a1, a2⟩ := hc.at_ i x hi hx
  have hsz := hs x (List.mem_of_getElem? hx)
  refine ⟨_, 0, x.pl.length, _, 0, x.st.length, ⟨?_, ?_, Lie.of_own (c := Sl.cells) (fun _ => rfl) a2.pl, Lie.of_own (c := Va.cells) (fun _ => rfl) a2.st, Nat.le_refl _, Nat.le_refl _, by unfold maxLen; omega, by unfold maxLen; omega⟩⟩
  · rw [Nat.zero_add, ho.cellAt (i * 2) (by omega)]; exact a0
  · rw [Nat.zero_add, ho.cellAt (i * 2 + 1) (by omega)]; exact a1

/-- The states of a place, if there is one. -/
def getV (xs : List Ce) (p : List Sl) : Option (List Va) := if (storeB xs && placeB p && hasS xs p) = true then (xs[atS xs p]?).map Ce.st else none
def GetX (r : Option (List Va)) (w : World) (e : Ending) (w' : World) : Prop :=
  Below w.heap.size w w' ∧ match r with
    | none => e = .returned (.tuple #[.slice none 0 0, .bool false])
    | some vs => ∃ b c, e = .returned (.tuple #[.slice (some ⟨b, 0, none⟩) vs.length c, .bool true]) ∧ OwnV w' w.heap.size b c vs
theorem hasS_at {xs : List Ce} {p : List Sl} (h : hasS xs p = true) : ∃ x, xs[atS xs p]? = some x := by
  unfold hasS at h
  split at h
  · rename_i x hx; exact ⟨x, hx⟩
  · cases h

set_option maxHeartbeats 2000000 in
theorem sget_any (A A' : Option Addr) (c c' n m : Nat) (xs : List Ce) (p : List Sl) (w : World) (hx : CeN w A xs) (hp : SlL w A' p) (hn : xs.length = n) (hm : p.length = m) (hl : n ≤ maxLen) (hl' : m ≤ maxLen) (hs : ∀ x ∈ xs, x.st.length ≤ 2000000) :
    Calls Try.prog 34 #[.slice A n c, .slice A' m c'] w (GetX (getV xs p) w) := by
  have HN := Lib.hid hn
  have HM := Lib.hid hm
  have HX := Lib.hid hx
  have HP := Lib.hid hp
  have HL := Lib.hid hl
  have HL' := Lib.hid hl'
  have HS := Lib.hid hs
  have hg : getV xs p = if (storeB xs && placeB p && hasS xs p) = true then (xs[atS xs p]?).map Ce.st else none := rfl
  have k1 := fun w h => vstore_any A c n xs w h hn hl
  have k2 := fun w h => vplace_n A' c' m p w h hm hl'
  clear hx hp hn hm hl hl' hs
  cases hv : storeB xs
  · rw [hv] at k1 hg
    have K1 := Lib.hid k1
    have HG := Lib.hid hg
    clear k1 k2 hv hg
    go_enter Try.func34, Try.ntmps34
    go_wp2_with (go_at_call 68; ((with_reducible refine (K1.out _ HX.out.cel).mono ?_); rintro e w1 ⟨rfl, hb⟩); have HB := Lib.hid hb; clear hb)
    go_ret2
    rw [show getV xs p = none from HG.out]
    exact ⟨HB.out, rfl⟩
  rw [hv] at k1 hg
  have K1 := Lib.hid k1
  clear k1
  cases hq : placeB p
  · rw [hq] at k2 hg
    have K2 := Lib.hid k2
    have HG := Lib.hid hg
    clear k2 hv hq hg
    go_enter Try.func34, Try.ntmps34
    go_wp2_with (first
      | (go_at_call 68; ((with_reducible refine (K1.out _ HX.out.cel).mono ?_); rintro e w1 ⟨rfl, hb⟩); have HB := Lib.hid hb; clear hb)
      | (go_at_call 55; ((with_reducible refine (K2.out _ (HP.out.below HB.out)).mono ?_); rintro e w2 ⟨rfl, hb⟩); have HB2 := Lib.hid (more HB.out (Nat.le_refl _) hb); clear hb))
    go_ret2
    rw [show getV xs p = none from HG.out]
    exact ⟨HB2.out, rfl⟩
  rw [hq] at k2 hg
  have K2 := Lib.hid k2
  have k3 := fun w h h' => cellAt_any A A' c c' n m xs p w h h' HN.out HM.out HL.out HL'.out
  clear k2 hv hq
  cases hh : hasS xs p
  · rw [hh] at k3 hg
    have K3 := Lib.hid k3
    have HG := Lib.hid hg
    clear k3 hh hg
    go_enter Try.func34, Try.ntmps34
    go_wp2_with (first
      | (go_at_call 68; ((with_reducible refine (K1.out _ HX.out.cel).mono ?_); rintro e w1 ⟨rfl, hb⟩); have HB := Lib.hid hb; clear hb)
      | (go_at_call 55; ((with_reducible refine (K2.out _ (HP.out.below HB.out)).mono ?_); rintro e w2 ⟨rfl, hb⟩); have HB2 := Lib.hid (more HB.out (Nat.le_refl _) hb); clear hb))
    refine (K3.out _ (HX.out.below HB2.out).cel (HP.out.below HB2.out)).mono ?_
    rintro e w3 ⟨rfl, hb⟩
    have HB3 := Lib.hid (more HB2.out (Nat.le_refl _) hb)
    clear hb
    go_wp2_with fail
    go_ret2
    rw [show getV xs p = none from HG.out]
    exact ⟨HB3.out, rfl⟩
  · obtain ⟨x, hx⟩ := hasS_at hh
    rw [hh] at k3 hg
    obtain ⟨i, hi⟩ : ∃ i, atS xs p = i := ⟨_, rfl⟩
    rw [hi] at k3 hg hx
    have K3 := Lib.hid k3
    have HG := Lib.hid (show getV xs p = some x.st by rw [hg, hx]; rfl)
    have HXI := Lib.hid hx
    have hin : i < n := by rw [← HN.out]; exact (List.getElem?_eq_some_iff.1 hx).1
    have hsz := HS.out x (List.mem_of_getElem? hx)
    have hnn : 0 < n := by omega
    have hl := HL.out
    unfold maxLen at hl
    have hi1 : (0 : Int) ≤ (i : Int) := by omega
    have hi2 : (i : Int) < (n : Int) := by omega
    clear k3 hh hg hi hx
    go_enter Try.func34, Try.ntmps34
    go_wp2_with (first
      | (go_at_call 68; ((with_reducible refine (K1.out _ HX.out.cel).mono ?_); rintro e w1 ⟨rfl, hb⟩); have HB := Lib.hid hb; clear hb)
      | (go_at_call 55; ((with_reducible refine (K2.out _ (HP.out.below HB.out)).mono ?_); rintro e w2 ⟨rfl, hb⟩); have HB2 := Lib.hid (more HB.out (Nat.le_refl _) hb); clear hb))
    refine (K3.out _ (HX.out.below HB2.out).cel (HP.out.below HB2.out)).mono ?_
    rintro e w3 ⟨rfl, hb⟩
    have HB3 := Lib.hid (more HB2.out (Nat.le_refl _) hb)
    clear hb
    obtain ⟨b, off, rfl, hblt, hcell⟩ := (HX.out.below HB3.out) (by rw [HN.out]; omega)
    obtain ⟨b0, o0, c0, b1, o1, c1, hat⟩ := hcell i x HXI.out
    have e1 := hat.e1
    have HE := Lib.hid (OwnV.none_ w3 (base := w.heap.size) HB3.out.size)
    have HB4 := Lib.hid (HB3.out.alloc HB3.out.size (.cells #[] 90))
    have HA := Lib.hid ((hat.below hblt (Below.alloc (Below.refl _ _) (Nat.le_refl _) (.cells #[] 90))).st)
    have hL : (0 : Nat) + x.st.length ≤ 4000000 := by omega
    clear hcell hat
    go_wp2_with (at_builtin; refine wp_append_vals rfl (.tmp 24) (.tmp 29) rfl w.heap.size w3.heap.size 0 [] rfl HE.out ⟨b1, o1, none⟩ c1 x.st x.st.length rfl rfl HA.out.news hL HB4.out.size ?_; intro b3 c3 zs w5 HQ ho hgr HAT; have HO := Lib.hid ho; have HB5 := Lib.hid (HB4.out.grown hgr HB4.out.size (fun k hk => by injection hk with hk; have := HB3.out.size; omega)); clear ho hgr)
    go_ret2
    rw [show getV xs p = some x.st from HG.out]
    have hz : zs = x.st := HQ.out
    subst hz
    exact ⟨HB5.out, b3, c3, rfl, HO.out⟩
end Go.Proofs.Ytfdejmdhcjfboaa
