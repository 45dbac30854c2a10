/- Fnb2, Fnb3 in one text. -/
import Derived.Test.YtmfibedcloknlaaGreatDoorFnaM
import Derived.Test.YtmfibedcloknlaaGreatDoorLkM4
import Derived.Deep.RegionHeld3
import Derived.Maps.AppendAt
namespace Go.Proofs.YtmfibedcloknlaaGreatDoor
open Go.Joins Go.ChangeShapes Go.WideShapes Go.ChangeAt Go.RowKit Go.Deep
set_option linter.unusedVariables false
set_option linter.unusedSimpArgs false

open List renaming getElem_toArray → qa, getElem_cons_zero → qb, getElem_cons_succ → qc, setIfInBounds_toArray → qd, set_cons_zero → qe, set_cons_succ → qf
def ER (wr u : World) (b : Nat) : Prop := u.ownsRow wr.heap.size 3 1 (.slice (some ⟨b, 0, none⟩) 0 0) 0 []
theorem laterV1 {P : Prop} {F G : Nat → World → Prop} (h : Hid (∀ a0 w, F a0 w → G a0 w) → P) (ht : ∀ a0 w, F a0 w → G a0 w) : P := h (Lib.hid ht)
theorem laterV2 {P : Prop} {F G : Nat → Nat → World → Prop} (h : Hid (∀ a0 a1 w, F a0 a1 w → G a0 a1 w) → P) (ht : ∀ a0 a1 w, F a0 a1 w → G a0 a1 w) : P := h (Lib.hid ht)
theorem laterV3 {P : Prop} {F G : Nat → Nat → Nat → World → Prop} (h : Hid (∀ a0 a1 a2 w, F a0 a1 a2 w → G a0 a1 a2 w) → P) (ht : ∀ a0 a1 a2 w, F a0 a1 a2 w → G a0 a1 a2 w) : P := h (Lib.hid ht)
theorem laterV4 {P : Prop} {F G : Nat → Nat → Nat → Nat → World → Prop} (h : Hid (∀ a0 a1 a2 a3 w, F a0 a1 a2 a3 w → G a0 a1 a2 a3 w) → P) (ht : ∀ a0 a1 a2 a3 w, F a0 a1 a2 a3 w → G a0 a1 a2 a3 w) : P := h (Lib.hid ht)
theorem laterV5 {P : Prop} {F G : Nat → Nat → Nat → Nat → Nat → World → Prop} (h : Hid (∀ a0 a1 a2 a3 a4 w, F a0 a1 a2 a3 a4 w → G a0 a1 a2 a3 a4 w) → P) (ht : ∀ a0 a1 a2 a3 a4 w, F a0 a1 a2 a3 a4 w → G a0 a1 a2 a3 a4 w) : P := h (Lib.hid ht)
theorem laterV6 {P : Prop} {F G : Nat → Nat → Nat → Nat → Nat → Nat → World → Prop} (h : Hid (∀ a0 a1 a2 a3 a4 a5 w, F a0 a1 a2 a3 a4 a5 w → G a0 a1 a2 a3 a4 a5 w) → P) (ht : ∀ a0 a1 a2 a3 a4 a5 w, F a0 a1 a2 a3 a4 a5 w → G a0 a1 a2 a3 a4 a5 w) : P := h (Lib.hid ht)
theorem laterV7 {P : Prop} {F G : Nat → Nat → Nat → Nat → Nat → Nat → Nat → World → Prop} (h : Hid (∀ a0 a1 a2 a3 a4 a5 a6 w, F a0 a1 a2 a3 a4 a5 a6 w → G a0 a1 a2 a3 a4 a5 a6 w) → P) (ht : ∀ a0 a1 a2 a3 a4 a5 a6 w, F a0 a1 a2 a3 a4 a5 a6 w → G a0 a1 a2 a3 a4 a5 a6 w) : P := h (Lib.hid ht)
theorem laterV8 {P : Prop} {F G : Nat → Nat → Nat → Nat → Nat → Nat → Nat → Nat → World → Prop} (h : Hid (∀ a0 a1 a2 a3 a4 a5 a6 a7 w, F a0 a1 a2 a3 a4 a5 a6 a7 w → G a0 a1 a2 a3 a4 a5 a6 a7 w) → P) (ht : ∀ a0 a1 a2 a3 a4 a5 a6 a7 w, F a0 a1 a2 a3 a4 a5 a6 a7 w → G a0 a1 a2 a3 a4 a5 a6 a7 w) : P := h (Lib.hid ht)
theorem laterV9 {P : Prop} {F G : Nat → Nat → Nat → Nat → Nat → Nat → Nat → Nat → Nat → World → Prop} (h : Hid (∀ a0 a1 a2 a3 a4 a5 a6 a7 a8 w, F a0 a1 a2 a3 a4 a5 a6 a7 a8 w → G a0 a1 a2 a3 a4 a5 a6 a7 a8 w) → P) (ht : ∀ a0 a1 a2 a3 a4 a5 a6 a7 a8 w, F a0 a1 a2 a3 a4 a5 a6 a7 a8 w → G a0 a1 a2 a3 a4 a5 a6 a7 a8 w) : P := h (Lib.hid ht)
theorem laterV10 {P : Prop} {F G : Nat → Nat → Nat → Nat → Nat → Nat → Nat → Nat → Nat → Nat → World → Prop} (h : Hid (∀ a0 a1 a2 a3 a4 a5 a6 a7 a8 a9 w, F a0 a1 a2 a3 a4 a5 a6 a7 a8 a9 w → G a0 a1 a2 a3 a4 a5 a6 a7 a8 a9 w) → P) (ht : ∀ a0 a1 a2 a3 a4 a5 a6 a7 a8 a9 w, F a0 a1 a2 a3 a4 a5 a6 a7 a8 a9 w → G a0 a1 a2 a3 a4 a5 a6 a7 a8 a9 w) : P := h (Lib.hid ht)
theorem laterV11 {P : Prop} {F G : Nat → Nat → Nat → Nat → Nat → Nat → Nat → Nat → Nat → Nat → Nat → World → Prop} (h : Hid (∀ a0 a1 a2 a3 a4 a5 a6 a7 a8 a9 a10 w, F a0 a1 a2 a3 a4 a5 a6 a7 a8 a9 a10 w → G a0 a1 a2 a3 a4 a5 a6 a7 a8 a9 a10 w) → P) (ht : ∀ a0 a1 a2 a3 a4 a5 a6 a7 a8 a9 a10 w, F a0 a1 a2 a3 a4 a5 a6 a7 a8 a9 a10 w → G a0 a1 a2 a3 a4 a5 a6 a7 a8 a9 a10 w) : P := h (Lib.hid ht)
theorem laterV12 {P : Prop} {F G : Nat → Nat → Nat → Nat → Nat → Nat → Nat → Nat → Nat → Nat → Nat → Nat → World → Prop} (h : Hid (∀ a0 a1 a2 a3 a4 a5 a6 a7 a8 a9 a10 a11 w, F a0 a1 a2 a3 a4 a5 a6 a7 a8 a9 a10 a11 w → G a0 a1 a2 a3 a4 a5 a6 a7 a8 a9 a10 a11 w) → P) (ht : ∀ a0 a1 a2 a3 a4 a5 a6 a7 a8 a9 a10 a11 w, F a0 a1 a2 a3 a4 a5 a6 a7 a8 a9 a10 a11 w → G a0 a1 a2 a3 a4 a5 a6 a7 a8 a9 a10 a11 w) : P := h (Lib.hid ht)
/-- A way's copy, in a list of operations. -/
theorem wp_clone_way {w : World} {ops : Array Oper} {rest : List Oper} {o : Oper} {a : Act} {Q : Exit → Act → World → Prop} (hgd : o.guard = none) (s x : Operand) (ho : o.op = .call { callee := .builtin .append, args := #[s, x], argTypes := #[36, 36] }) (base b : Nat) (hs : a.eval s = .slice (some ⟨b, 0, none⟩) 0 0) (hown : w.ownsRow base 3 1 (.slice (some ⟨b, 0, none⟩) 0 0) 0 []) (lo g cw wl : Nat) (way : List Nat) (hx : a.eval x = .slice (some ⟨g, 0, none⟩) wl cw) (hwl : way.length = wl) (hway : WayR lo w (some ⟨g, 0, none⟩) cw way) (hl : wl ≤ 1000) (hbase : base ≤ w.heap.size)
  (h : ∀ b2 c2 w2, WayR base w2 (some ⟨b2, 0, none⟩) c2 way → w.grownBy w2 (some b) → wpList Tryz.prog ops Q rest (a.put o.dst (.slice (some ⟨b2, 0, none⟩) wl c2)) w2) : wpList Tryz.prog ops Q (o :: rest) a w := by
 obtain ⟨i0, hi0, hz0, hz1, hz2⟩ := info_parts infoInt
 refine wpList_append_own_at w hgd s x _ ho base 3 i0 _ 1 8 Tryz.underlying36 hi0 hz0 hz1 hz2 rfl (by omega) (.slice (some ⟨b, 0, none⟩) 0 0) 0 [] hs hown ⟨g, 0, none⟩ wl cw (intV way) hx (by rw [← hwl]; exact intV_length way) (fun j u hu => by
  have h1 := hway.cellAt j (by have := (List.getElem?_eq_some_iff.1 hu).1; rw [intV_length] at this; omega)
  rw [Addr.add_lit, Nat.zero_add]
  exact h1.trans hu) (intV_one way) (by simp only [maxLen]; omega) (by omega) hbase ?_
 intro v' w' hown' hg _ hat
 rw [Nat.zero_add, List.nil_append] at hown'
 obtain ⟨g2, c2, rfl⟩ := way_form hown' (by rcases hat with e | e <;> rw [e] <;> simp [Value.ownBlock])
 exact h g2 c2 w' (by unfold WayR; rw [hwl]; exact hown') hg
/-- A way's copy, in a region that draws its order. -/
theorem step_clone_way2 {w : World} {ops : Array Oper} {o : Oper} {a : Act} {K : Act → World → Prop} {Q : Exit → Act → World → Prop} {E : Prop} (hgd : o.guard = none) (s x : Operand) (ho : o.op = .call { callee := .builtin .append, args := #[s, x], argTypes := #[36, 36] }) (base b : Nat) (hs : a.eval s = .slice (some ⟨b, 0, none⟩) 0 0) (hown : w.ownsRow base 3 1 (.slice (some ⟨b, 0, none⟩) 0 0) 0 []) (lo g cw wl : Nat) (way : List Nat) (hx : a.eval x = .slice (some ⟨g, 0, none⟩) wl cw) (hwl : way.length = wl) (hway : WayR lo w (some ⟨g, 0, none⟩) cw way) (hl : wl ≤ 1000) (hbase : base ≤ w.heap.size)
  (h : ∀ b2 c2 w2, WayR base w2 (some ⟨b2, 0, none⟩) c2 way → w.grownBy w2 (some b) → (b2 = b ∨ b2 = w.heap.size) → K (a.put o.dst (.slice (some ⟨b2, 0, none⟩) wl c2)) w2) : if Region.wanted o (yielded ops a.tmps) = true then Oper.wp Tryz.prog o a w K Q else E := by
 have hw : Region.wanted o (yielded ops a.tmps) = true := by simp [Region.wanted, hgd]
 rw [if_pos hw]
 obtain ⟨i0, hi0, hz0, hz1, hz2⟩ := info_parts infoInt
 obtain ⟨v', w', hr, hown', hg, _, hat⟩ := run_append_own_at (P := Tryz.prog) w base 36 o.type 3 i0 _ 1 8 Tryz.underlying36 hi0 hz0 hz1 hz2 rfl (by omega) (.slice (some ⟨b, 0, none⟩) 0 0) 0 [] hown ⟨g, 0, none⟩ wl cw (intV way) (by rw [← hwl]; exact intV_length way) (fun j u hu => by
  have h1 := hway.cellAt j (by have := (List.getElem?_eq_some_iff.1 hu).1; rw [intV_length] at this; omega)
  rw [Addr.add_lit, Nat.zero_add]
  exact h1.trans hu) (intV_one way) (by simp only [maxLen]; omega) (by omega) hbase
 unfold Oper.wp execOp
 simp only [ho, resolve, invoke, builtin, Sem.run_bind, Sem.run_pure, Result.andThen_ok, List.map_toArray, List.map_cons, List.map_nil, hs, hx, hr]
 rw [Nat.zero_add, List.nil_append] at hown'
 obtain ⟨g2, c2, rfl⟩ := way_form hown' (by rcases hat with e | e <;> rw [e] <;> simp [Value.ownBlock])
 exact h g2 c2 w' (by unfold WayR; rw [hwl]; exact hown') hg (hat.imp (fun e => by simpa [Value.ownBlock] using e) (fun e => by simpa [Value.ownBlock] using e))
/-- A way's next number, in a region that draws its order. -/
theorem step_add_way2 {w : World} {ops : Array Oper} {o : Oper} {a : Act} {K : Act → World → Prop} {Q : Exit → Act → World → Prop} {E : Prop} (hgd : o.guard = none) (s x : Operand) (ho : o.op = .call { callee := .builtin .append, args := #[s, x], argTypes := #[36, 36] }) (base b c n : Nat) (way : List Nat) (hs : a.eval s = .slice (some ⟨b, 0, none⟩) n c) (hn : way.length = n) (hway : WayR base w (some ⟨b, 0, none⟩) c way) (ad : Addr) (c3 k : Nat) (hx : a.eval x = .slice (some ad) 1 c3) (hc : w.cell? ad = some (.int .i64 k)) (hl : n ≤ 1000) (hbase : base ≤ w.heap.size)
  (h : ∀ b2 c2 w2, WayR base w2 (some ⟨b2, 0, none⟩) c2 (way ++ [k]) → w.grownBy w2 (some b) → (b2 = b ∨ b2 = w.heap.size) → K (a.put o.dst (.slice (some ⟨b2, 0, none⟩) (n + 1) c2)) w2) : if Region.wanted o (yielded ops a.tmps) = true then Oper.wp Tryz.prog o a w K Q else E := by
 have hw : Region.wanted o (yielded ops a.tmps) = true := by simp [Region.wanted, hgd]
 rw [if_pos hw]
 obtain ⟨i0, hi0, hz0, hz1, hz2⟩ := info_parts infoInt
 obtain ⟨v', w', hr, hown', hg, _, hat⟩ := run_append_own_at (P := Tryz.prog) w base 36 o.type 3 i0 _ 1 8 Tryz.underlying36 hi0 hz0 hz1 hz2 rfl (by omega) (.slice (some ⟨b, 0, none⟩) n c) n (intV way) (by rw [← hn]; exact hway) ad 1 c3 [.int .i64 k] rfl (fun j u hu => by
  match j with
  | 0 => simp at hu; subst hu; simpa [Addr.add] using hc
  | j + 1 => simp at hu) (fun u hu => by simp at hu; subst hu; rfl) (by simp only [maxLen]; omega) (by omega) hbase
 unfold Oper.wp execOp
 simp only [ho, resolve, invoke, builtin, Sem.run_bind, Sem.run_pure, Result.andThen_ok, List.map_toArray, List.map_cons, List.map_nil, hs, hx, hr]
 rw [intV_append] at hown'
 obtain ⟨g2, c2, rfl⟩ := way_form hown' (by rcases hat with e | e <;> rw [e] <;> simp [Value.ownBlock])
 exact h g2 c2 w' (by unfold WayR; rw [List.length_append, hn]; exact hown') hg (hat.imp (fun e => by simpa [Value.ownBlock] using e) (fun e => by simpa [Value.ownBlock] using e))
theorem row_hold {w w' : World} {base m n b c bL : Nat} {e : TypeId} {xs : List Value} (h : w.ownsRow base e m (.slice (some ⟨b, 0, none⟩) n c) n xs) (hg : w.grownBy w' (some bL)) (hne : bL ≠ b) : w'.ownsRow base e m (.slice (some ⟨b, 0, none⟩) n c) n xs :=
 own_at h (fun g cur e2 hc => hg.block g (Array.getElem?_eq_some_iff.1 hc).1 (fun e3 => by
  injection e2 with e2
  injection e3 with e3
  exact hne (e3.symm.trans e2.symm)))
theorem cell_hold {w w' : World} {b bL : Nat} {v : Value} (h : w.cell? ⟨b, 0, none⟩ = some v) (hg : w.grownBy w' (some bL)) (hne : bL ≠ b) : w'.cell? ⟨b, 0, none⟩ = some v :=
 (World.cell?_of_block (a := ⟨b, 0, none⟩) (hg.block b (World.block_lt_of_cell? w _ h) (fun e => by injection e with e; exact hne e.symm))).trans h
theorem fnd_len {sh : ByteArray → Bool} (x : Ru) (t : Tr) (hv : vpT sh t = true) (ab : List Int) (way : List Nat) : (fndT x ab way t).length ≤ sizeT t := by
 rw [← find_same x t hv ab 0 way, List.length_map]
 exact Nat.le_trans (selP_sub _ _).length_le (Nat.le_of_eq (partsT_length t way))
def FoT (x : Ru) (w0 : World) (base : Nat) (t : Tr) : Prop := ∀ (ab way : List Nat) (g cw g2 cw2 : Nat) (A0 A1 : Option Addr) (c0 c1 : Nat) (yss : List (List Int)) (B : Option Addr) (d : Nat) (w : World), base ≤ w.heap.size → Below w0.heap.size w0 w → WayR w0.heap.size w (some ⟨g, 0, none⟩) cw ab → WayR w0.heap.size w (some ⟨g2, 0, none⟩) cw2 way → PrL w0 A0 t.ps → TrL w0 0 A1 t.ks → LkW yss base B d w → yss.length + sizeT t ≤ 1000 → ab.length + sizeT t ≤ 1000 → way.length + sizeT t ≤ 1000 →
 Calls Tryz.prog 48 #[.agg #[.int .i64 t.tag, .int .i64 t.key, .string t.text, .slice A0 t.ps.length c0, .slice A1 t.ks.length c1], .slice (some ⟨g, 0, none⟩) ab.length cw, .slice (some ⟨g2, 0, none⟩) way.length cw2, .agg #[.int .i64 x.t, .int .i64 x.a, .int .i64 x.nm, .int .i64 x.v.k, .int .i64 x.v.n, .string x.v.s, .int .i64 x.l, .int .i64 x.g], .slice B yss.length d] w (AlX (yss ++ (fndT x (natI ab) way t).map natI) base (.slice B yss.length d) w)
set_option maxRecDepth 100000 in
set_option maxHeartbeats 16000000 in
theorem sfound_any (sh : ByteArray → Bool) (x : Ru) (w0 : World) (base : Nat) (hbase : w0.heap.size ≤ base) : ∀ t : Tr, vpT sh t = true → SmT t → FoT x w0 base t := Tr.by_kids fun t ih hv hsm ab way g cw g2 cw2 A0 A1 c0 c1 yss B d w hbw hlow hway hway2 hp hk hout hyl hal hal2 => by
 obtain ⟨s0, s1, s2, s3, s4⟩ := hsm.open_
 have HI := Lib.hid (fun y hy => ih y hy (vp_kid hv hy) (s4 y hy))
 have HVK := Lib.hid (fun y (hy : y ∈ t.ks) => vp_kid hv hy)
 have HW := Lib.hid (vp_ways hv)
 have HE := Lib.hid (fndT_eq x (natI ab) way t)
 have hio : IntL w (some ⟨g, 0, none⟩) (natI ab) := IntL.of_row hway
 have hkz := sizeT_eq t
 obtain ⟨zss, hzss⟩ : ∃ q, fndT x (natI ab) way t = q := ⟨_, rfl⟩
 rw [hzss] at HE ⊢
 obtain ⟨X, hX⟩ : ∃ X, AlX (yss ++ zss.map natI) base (.slice B yss.length d) w = X := ⟨_, rfl⟩
 have HX := Lib.hid hX
 rw [hX]
 obtain ⟨tag, key, text, ps, ks⟩ := t
 dsimp only [Tr.tag, Tr.key, Tr.text, Tr.ps, Tr.ks] at s1 s3 HW HE hp hk hkz HVK ⊢
 replace HI := Lib.hid (show ∀ y ∈ ks, _ from HI.out)
 replace HE := Lib.hid (show zss = if tag < 0 then [] else (if meetS x tag ps (natI ab) = true then [way] else []) ++ fndL x (natI ab ++ [tag]) way 0 ks from HE.out)
 obtain ⟨np, hnp⟩ : ∃ n, ps.length = n := ⟨_, rfl⟩
 obtain ⟨n, hn⟩ : ∃ n, ks.length = n := ⟨_, rfl⟩
 obtain ⟨gn, hgn⟩ : ∃ n, ab.length = n := ⟨_, rfl⟩
 obtain ⟨wn, hwn⟩ : ∃ n, way.length = n := ⟨_, rfl⟩
 rw [hnp] at s1 ⊢
 rw [hn] at s3 ⊢
 rw [hgn] at hal ⊢
 rw [hwn] at hal2 ⊢
 unfold maxLen at s3
 have hb1 : Below w.heap.size w ((w.alloc (.cells #[.int .i64 tag, .int .i64 key, .string text, .slice A0 np c0, .slice A1 n c1] 26)).alloc (.cells #[.int .i64 x.t, .int .i64 x.a, .int .i64 x.nm, .int .i64 x.v.k, .int .i64 x.v.n, .string x.v.s, .int .i64 x.l, .int .i64 x.g] 42)) := (Below.alloc (Below.refl _ w) (Nat.le_refl _) _).alloc (by simp) _
 have hz0 := hlow.size
 have K1 := Lib.hid (fun w' (h : Below w.heap.size w w') => meets_any x tag key text ps A0 A1 (some ⟨g, 0, none⟩) np c0 n c1 gn cw (natI ab) w' (hp.below (hlow.trans (h.mono hlow.size))) hnp s1 (hio.below h) ((natI_len ab).trans hgn) (by unfold maxLen; omega))
 have HT1 := Lib.hid (show ((w.alloc (.cells #[.int .i64 tag, .int .i64 key, .string text, .slice A0 np c0, .slice A1 n c1] 26)).alloc (.cells #[.int .i64 x.t, .int .i64 x.a, .int .i64 x.nm, .int .i64 x.v.k, .int .i64 x.v.n, .string x.v.s, .int .i64 x.l, .int .i64 x.g] 42)).heap[w.heap.size]? = some (.cells #[.int .i64 tag, .int .i64 key, .string text, .slice A0 np c0, .slice A1 n c1] 26) from (Below.heap_alloc _ _ _ (by simp)).trans (World.alloc_heap_new w _))
 have HR1 := Lib.hid (show ((w.alloc (.cells #[.int .i64 tag, .int .i64 key, .string text, .slice A0 np c0, .slice A1 n c1] 26)).alloc (.cells #[.int .i64 x.t, .int .i64 x.a, .int .i64 x.nm, .int .i64 x.v.k, .int .i64 x.v.n, .string x.v.s, .int .i64 x.l, .int .i64 x.g] 42)).heap[w.heap.size + 1]? = some (.cells #[.int .i64 x.t, .int .i64 x.a, .int .i64 x.nm, .int .i64 x.v.k, .int .i64 x.v.n, .string x.v.s, .int .i64 x.l, .int .i64 x.g] 42) from by have h := World.alloc_heap_new (w.alloc (.cells #[.int .i64 tag, .int .i64 key, .string text, .slice A0 np c0, .slice A1 n c1] 26)) (.cells #[.int .i64 x.t, .int .i64 x.a, .int .i64 x.nm, .int .i64 x.v.k, .int .i64 x.v.n, .string x.v.s, .int .i64 x.l, .int .i64 x.g] 42); rw [World.size_alloc] at h; exact h)
 have HB1 := Lib.hid hb1
 have HN := Lib.hid hn
 have HGN := Lib.hid hgn
 have HWN := Lib.hid hwn
 have HKZ := Lib.hid hkz
 have HWAY := Lib.hid hway
 have HWAY2 := Lib.hid hway2
 have HK := Lib.hid hk
 have HOUT := Lib.hid hout
 have HLOW := Lib.hid hlow
 have HYL := Lib.hid hyl
 have HAL := Lib.hid hal
 have HAL2 := Lib.hid hal2
 have hvg : ∀ g, (Value.slice B yss.length d).ownBlock = some g → w0.heap.size ≤ g := fun g e => by
  obtain ⟨L, hL⟩ := hout.own
  have := (World.ownsRow.lt hL g e).1
  omega
 have HVG := Lib.hid hvg
 clear ih hv hsm hway hway2 hp hk hout hlow hyl hal hal2 hio hkz hzss hX hnp hn hgn hwn hb1 s0 s2 s4 hvg
 by_cases h0 : tag < 0
 ·have hze : zss = [] := by have := HE.out; rwa [if_pos h0] at this
  go_enter Tryz.func48, Tryz.ntmps48
  go_wp2_with fail
  rw [← HX.out, hze, List.map_nil, List.append_nil]
  exact ⟨B, d, rfl, HOUT.out.below HB1.out, Gr.of_below HB1.out _⟩
 have hze := HE.out
 rw [if_neg h0] at hze
 have HZE := Lib.hid hze
 obtain ⟨mb, hmb⟩ : ∃ v, meetS x tag ps (natI ab) = v := ⟨_, rfl⟩
 rw [hmb] at K1
 have HMB := Lib.hid hmb
 clear hze hmb HE
 go_enter Tryz.func48, Tryz.ntmps48
 go_wp2_with fail
 refine (K1.out _ HB1.out).mono ?_
 rintro e w1 ⟨rfl, hb⟩
 have HB2 := Lib.hid (more HB1.out (Nat.le_refl _) hb)
 have HT2 := Lib.hid ((hb.block _ (by simp only [World.size_alloc]; omega)).trans HT1.out)
 have HR2 := Lib.hid ((hb.block _ (by simp only [World.size_alloc]; omega)).trans HR1.out)
 clear hb K1 HT1 HR1 HB1
 cases mb
 ·obtain ⟨cur0, hc0⟩ : ∃ q, yss = q := ⟨_, rfl⟩
  obtain ⟨A3, hA3⟩ : ∃ q, B = q := ⟨_, rfl⟩
  obtain ⟨c3, hc3⟩ : ∃ q, d = q := ⟨_, rfl⟩
  have HC0 := Lib.hid (show yss.length = cur0.length by rw [hc0])
  have HLW3 := Lib.hid (show LkW cur0 base B d w1 by rw [← hc0]; exact HOUT.out.below HB2.out)
  have HG3 := Lib.hid (show Gr w w1 (.slice B yss.length d) (.slice B cur0.length d) by rw [← hc0]; exact Gr.of_below HB2.out _)
  have HQ0 := Lib.hid (show cur0 ++ (fndL x (natI ab ++ [tag]) way 0 (ks.drop 0)).map natI = yss ++ zss.map natI by rw [HZE.out, HMB.out, ← hc0]; rfl)
  have HCZ0 := Lib.hid (show cur0.length + sizeL (ks.drop 0) ≤ 1000 by have h1 := HYL.out; have h2 := HKZ.out; rw [← hc0, List.drop_zero]; omega)
  have HT3 := HT2
  have HR3 := HR2
  clear hc0 HT2 HR2 hA3 hc3 A3 c3
  go_wp2_with fail
  go_loopw [4, 11] (fun ll i wr => ∃ (k : Nat) (cur : List (List Int)), k ≤ n ∧ i = .int .i64 k ∧ (∃ B' d', ll = .slice B' cur.length d' ∧ Hid (LkW cur base B' d' wr) ∧ Hid (Gr w wr (.slice B yss.length d) (.slice B' cur.length d'))) ∧ Hid (cur ++ (fndL x (natI ab ++ [tag]) way k (ks.drop k)).map natI = yss ++ zss.map natI) ∧ Hid (cur.length + sizeL (ks.drop k) ≤ 1000) ∧ Hid (wr.heap[w.heap.size]? = some (.cells #[.int .i64 tag, .int .i64 key, .string text, .slice A0 np c0, .slice A1 n c1] 26)) ∧ Hid (wr.heap[w.heap.size + 1]? = some (.cells #[.int .i64 x.t, .int .i64 x.a, .int .i64 x.nm, .int .i64 x.v.k, .int .i64 x.v.n, .string x.v.s, .int .i64 x.l, .int .i64 x.g] 42))) (fun _ i _ => n - (intOf i).toNat)
  case atStart => exact ⟨0, cur0, by omega, rfl, ⟨B, d, by rw [HC0.out], HLW3, HG3⟩, HQ0, HCZ0, HT3, HR3⟩
  case round =>
   obtain ⟨k, cur, hk, rfl, ⟨B', d', rfl, HLW, HGR⟩, HQ, HCZ, HT, HRU⟩ := hrel
   have hlowr : Below w0.heap.size w0 wr := HLOW.out.trans (HGR.out.below hz0 HVG.out)
   have hwr := HGR.out.1.size
   have hzw1 : w.heap.size + 1 < wr.heap.size := (Array.getElem?_eq_some_iff.1 HRU.out).1
   have hzw : w.heap.size < wr.heap.size := Nat.lt_of_succ_lt hzw1
   by_cases hlt : k < n
   ·obtain ⟨y, hx⟩ := at_some (show k < ks.length by rw [HN.out]; exact hlt)
    rcases HW.out with ⟨_, hk0⟩ | ⟨ht0, ht4, _⟩
    ·rw [hk0] at hx; simp at hx
    obtain ⟨tn, htn⟩ : ∃ k : Nat, tag = (k : Int) := ⟨tag.toNat, by omega⟩
    subst htn
    have hq := HQ.out
    rw [fndL_drop hx, natI_app] at hq
    have HQ2 := Lib.hid hq
    have hcz := HCZ.out
    rw [sizeL_drop hx] at hcz
    have hfl := fnd_len x y (HVK.out y (List.mem_of_getElem? hx)) (natI (ab ++ [tn])) (way ++ [k])
    have HCZ2 := Lib.hid (show cur.length + (fndT x (natI (ab ++ [tn])) (way ++ [k]) y).length + sizeL (ks.drop (k + 1)) ≤ 1000 by omega)
    have hxs := sizeT_kid (t := .mk tn key text ps ks) (List.mem_of_getElem? hx)
    have hcl : cur.length + sizeT y ≤ 1000 := by omega
    have hal2 : (ab ++ [tn]).length + sizeT y ≤ 1000 := by have := HAL.out; rw [List.length_append, HGN.out, List.length_singleton]; omega
    have hal3 : (way ++ [k]).length + sizeT y ≤ 1000 := by have := HAL2.out; rw [List.length_append, HWN.out, List.length_singleton]; omega
    have HWG := Lib.hid (by obtain ⟨L, hL⟩ := HOUT.out.own; exact way_gr HWAY.out HGR.out hL : WayR w0.heap.size wr (some ⟨g, 0, none⟩) cw ab)
    have HWG2 := Lib.hid (by obtain ⟨L, hL⟩ := HOUT.out.own; exact way_gr HWAY2.out HGR.out hL : WayR w0.heap.size wr (some ⟨g2, 0, none⟩) cw2 way)
    obtain ⟨b, off, B0, d0, B1, d1, hA1, hblt, _, e0, e1, e2, e3, e4, hp, _, hks⟩ := HK.out.at_ hx
    subst hA1
    replace e0 := (hlowr.cell (p := ⟨b, _, none⟩) hblt).trans e0
    replace e1 := (hlowr.cell (p := ⟨b, _, none⟩) hblt).trans e1
    replace e2 := (hlowr.cell (p := ⟨b, _, none⟩) hblt).trans e2
    replace e3 := (hlowr.cell (p := ⟨b, _, none⟩) hblt).trans e3
    replace e4 := (hlowr.cell (p := ⟨b, _, none⟩) hblt).trans e4
    have hbr : b < wr.heap.size := Nat.lt_of_lt_of_le hblt hlowr.size
    have a0 : wr.cell? ⟨w.heap.size, 0, none⟩ = some (.int .i64 tn) := by rw [cell_of_row _ w.heap.size 0 _ _ _ HT.out]; rfl
    have a4 : wr.cell? ⟨w.heap.size, 4, none⟩ = some (.slice (some ⟨b, off, none⟩) n c1) := by rw [cell_of_row _ w.heap.size 4 _ _ _ HT.out]; rfl
    have KI := Lib.hid (fun b3 c3 b4 c4 u hu h1 h2 h3 h4 h5 h6 => HI.out y (List.mem_of_getElem? hx) (ab ++ [tn]) (way ++ [k]) b3 c3 b4 c4 B0 B1 d0 d1 cur B' d' u hu h1 h2 h3 h4 h5 h6)
    have HP2 := Lib.hid hp
    have HK2 := Lib.hid hks
    have hi1 : (0 : Int) ≤ (k : Int) := by omega
    have hi2 : (k : Int) < (n : Int) := by omega
    have HCL := Lib.hid (And.intro hcl (And.intro hal2 hal3))
    have HLR := Lib.hid hlowr
    have hgn1 : gn ≤ 1000 := by have := HAL.out; omega
    have hwn1 : wn ≤ 1000 := by have := HAL2.out; omega
    obtain ⟨yt, yk, ys', yp, yq⟩ := y
    dsimp only [Tr.tag, Tr.key, Tr.text, Tr.ps, Tr.ks] at e0 e1 e2 e3 e4 KI HP2 HK2
    have SF := Lib.hid (show ∀ u, Below wr.heap.size wr u → (fun w' : World => w'.cell? ⟨w.heap.size, 0, none⟩ = some (.int .i64 tn) ∧ w'.cell? ⟨w.heap.size, 4, none⟩ = some (.slice (some ⟨b, off, none⟩) n c1) ∧ w'.cell? ⟨b, off + k * 5, none⟩ = some (.int .i64 yt) ∧ w'.cell? ⟨b, off + k * 5 + 1, none⟩ = some (.int .i64 yk) ∧ w'.cell? ⟨b, off + k * 5 + 2, none⟩ = some (.string ys') ∧ w'.cell? ⟨b, off + k * 5 + 3, none⟩ = some (.slice B0 yp.length d0) ∧ w'.cell? ⟨b, off + k * 5 + 4, none⟩ = some (.slice B1 yq.length d1) ∧ w'.cell? ⟨w.heap.size + 1, 0, none⟩ = some (.int .i64 x.t) ∧ w'.cell? ⟨w.heap.size + 1, 1, none⟩ = some (.int .i64 x.a) ∧ w'.cell? ⟨w.heap.size + 1, 2, none⟩ = some (.int .i64 x.nm) ∧ w'.cell? ⟨w.heap.size + 1, 3, none⟩ = some (.int .i64 x.v.k) ∧ w'.cell? ⟨w.heap.size + 1, 4, none⟩ = some (.int .i64 x.v.n) ∧ w'.cell? ⟨w.heap.size + 1, 5, none⟩ = some (.string x.v.s) ∧ w'.cell? ⟨w.heap.size + 1, 6, none⟩ = some (.int .i64 x.l) ∧ w'.cell? ⟨w.heap.size + 1, 7, none⟩ = some (.int .i64 x.g)) u from fun u hu => ⟨(hu.cell (p := ⟨w.heap.size, 0, none⟩) hzw).trans a0, (hu.cell (p := ⟨w.heap.size, 4, none⟩) hzw).trans a4, (hu.cell (p := ⟨b, _, none⟩) hbr).trans e0, (hu.cell (p := ⟨b, _, none⟩) hbr).trans e1, (hu.cell (p := ⟨b, _, none⟩) hbr).trans e2, (hu.cell (p := ⟨b, _, none⟩) hbr).trans e3, (hu.cell (p := ⟨b, _, none⟩) hbr).trans e4, (hu.cell (p := ⟨w.heap.size + 1, 0, none⟩) hzw1).trans (by rw [cell_of_row _ (w.heap.size + 1) 0 _ _ _ HRU.out]; rfl), (hu.cell (p := ⟨w.heap.size + 1, 1, none⟩) hzw1).trans (by rw [cell_of_row _ (w.heap.size + 1) 1 _ _ _ HRU.out]; rfl), (hu.cell (p := ⟨w.heap.size + 1, 2, none⟩) hzw1).trans (by rw [cell_of_row _ (w.heap.size + 1) 2 _ _ _ HRU.out]; rfl), (hu.cell (p := ⟨w.heap.size + 1, 3, none⟩) hzw1).trans (by rw [cell_of_row _ (w.heap.size + 1) 3 _ _ _ HRU.out]; rfl), (hu.cell (p := ⟨w.heap.size + 1, 4, none⟩) hzw1).trans (by rw [cell_of_row _ (w.heap.size + 1) 4 _ _ _ HRU.out]; rfl), (hu.cell (p := ⟨w.heap.size + 1, 5, none⟩) hzw1).trans (by rw [cell_of_row _ (w.heap.size + 1) 5 _ _ _ HRU.out]; rfl), (hu.cell (p := ⟨w.heap.size + 1, 6, none⟩) hzw1).trans (by rw [cell_of_row _ (w.heap.size + 1) 6 _ _ _ HRU.out]; rfl), (hu.cell (p := ⟨w.heap.size + 1, 7, none⟩) hzw1).trans (by rw [cell_of_row _ (w.heap.size + 1) 7 _ _ _ HRU.out]; rfl)⟩)
    clear hx hp hks hq hfl hxs hcz hcl hal2 hal3 hlowr ht0 ht4
    go_wp2_with fail
    apply laterV12 (F := fun b5 b7 c7 b10 b11 c11 b12 b14 c14 b16 b17 c17 u => Below wr.heap.size wr u ∧ WayR wr.heap.size u (some ⟨b11, 0, none⟩) c11 (ab ++ [tn]) ∧ WayR wr.heap.size u (some ⟨b17, 0, none⟩) c17 (way ++ [k]) ∧ b11 ≠ b17)
    intro hT_5_7_10_11_12_14_16_17
    apply laterV10 (F := fun b5 b7 c7 b10 b11 c11 b12 b14 c14 b16 u => Below wr.heap.size wr u ∧ WayR wr.heap.size u (some ⟨b11, 0, none⟩) c11 (ab ++ [tn]) ∧ WayR wr.heap.size u (some ⟨b14, 0, none⟩) c14 way ∧ u.cell? ⟨b16, 0, none⟩ = some (.int .i64 (k : Int)) ∧ b11 ≠ b14 ∧ b11 ≠ b16 ∧ b14 ≠ b16)
    intro hT_5_7_10_11_12_14_16
    apply laterV8 (F := fun b5 b7 c7 b10 b11 c11 b12 b16 u => Below wr.heap.size wr u ∧ WayR wr.heap.size u (some ⟨b11, 0, none⟩) c11 (ab ++ [tn]) ∧ ER wr u b12 ∧ u.cell? ⟨b16, 0, none⟩ = some (.int .i64 (k : Int)) ∧ b11 ≠ b12 ∧ b11 ≠ b16 ∧ b12 ≠ b16)
    intro hT_5_7_10_11_12_16
    apply laterV9 (F := fun b5 b7 c7 b10 b11 c11 b12 b14 c14 u => Below wr.heap.size wr u ∧ WayR wr.heap.size u (some ⟨b11, 0, none⟩) c11 (ab ++ [tn]) ∧ WayR wr.heap.size u (some ⟨b14, 0, none⟩) c14 way ∧ b11 ≠ b14)
    intro hT_5_7_10_11_12_14
    apply laterV6 (F := fun b5 b7 c7 b10 b12 b16 u => Below wr.heap.size wr u ∧ WayR wr.heap.size u (some ⟨b7, 0, none⟩) c7 ab ∧ u.cell? ⟨b10, 0, none⟩ = some (.int .i64 (tn : Int)) ∧ ER wr u b12 ∧ u.cell? ⟨b16, 0, none⟩ = some (.int .i64 (k : Int)) ∧ b7 ≠ b10 ∧ b7 ≠ b12 ∧ b7 ≠ b16 ∧ b10 ≠ b12 ∧ b10 ≠ b16 ∧ b12 ≠ b16)
    intro hT_5_7_10_12_16
    apply laterV7 (F := fun b5 b7 c7 b10 b11 c11 b16 u => Below wr.heap.size wr u ∧ WayR wr.heap.size u (some ⟨b11, 0, none⟩) c11 (ab ++ [tn]) ∧ u.cell? ⟨b16, 0, none⟩ = some (.int .i64 (k : Int)) ∧ b11 ≠ b16)
    intro hT_5_7_10_11_16
    apply laterV7 (F := fun b5 b7 c7 b10 b11 c11 b12 u => Below wr.heap.size wr u ∧ WayR wr.heap.size u (some ⟨b11, 0, none⟩) c11 (ab ++ [tn]) ∧ ER wr u b12 ∧ b11 ≠ b12)
    intro hT_5_7_10_11_12
    apply laterV4 (F := fun b5 b10 b12 b16 u => Below wr.heap.size wr u ∧ ER wr u b5 ∧ u.cell? ⟨b10, 0, none⟩ = some (.int .i64 (tn : Int)) ∧ ER wr u b12 ∧ u.cell? ⟨b16, 0, none⟩ = some (.int .i64 (k : Int)) ∧ b5 ≠ b10 ∧ b5 ≠ b12 ∧ b5 ≠ b16 ∧ b10 ≠ b12 ∧ b10 ≠ b16 ∧ b12 ≠ b16)
    intro hT_5_10_12_16
    apply laterV5 (F := fun b5 b7 c7 b12 b16 u => Below wr.heap.size wr u ∧ WayR wr.heap.size u (some ⟨b7, 0, none⟩) c7 ab ∧ ER wr u b12 ∧ u.cell? ⟨b16, 0, none⟩ = some (.int .i64 (k : Int)) ∧ b7 ≠ b12 ∧ b7 ≠ b16 ∧ b12 ≠ b16)
    intro hT_5_7_12_16
    apply laterV5 (F := fun b5 b7 c7 b10 b16 u => Below wr.heap.size wr u ∧ WayR wr.heap.size u (some ⟨b7, 0, none⟩) c7 ab ∧ u.cell? ⟨b10, 0, none⟩ = some (.int .i64 (tn : Int)) ∧ u.cell? ⟨b16, 0, none⟩ = some (.int .i64 (k : Int)) ∧ b7 ≠ b10 ∧ b7 ≠ b16 ∧ b10 ≠ b16)
    intro hT_5_7_10_16
    apply laterV5 (F := fun b5 b7 c7 b10 b12 u => Below wr.heap.size wr u ∧ WayR wr.heap.size u (some ⟨b7, 0, none⟩) c7 ab ∧ u.cell? ⟨b10, 0, none⟩ = some (.int .i64 (tn : Int)) ∧ ER wr u b12 ∧ b7 ≠ b10 ∧ b7 ≠ b12 ∧ b10 ≠ b12)
    intro hT_5_7_10_12
    apply laterV6 (F := fun b5 b7 c7 b10 b11 c11 u => Below wr.heap.size wr u ∧ WayR wr.heap.size u (some ⟨b11, 0, none⟩) c11 (ab ++ [tn]))
    intro hT_5_7_10_11
    apply laterV3 (F := fun b10 b12 b16 u => Below wr.heap.size wr u ∧ u.cell? ⟨b10, 0, none⟩ = some (.int .i64 (tn : Int)) ∧ ER wr u b12 ∧ u.cell? ⟨b16, 0, none⟩ = some (.int .i64 (k : Int)) ∧ b10 ≠ b12 ∧ b10 ≠ b16 ∧ b12 ≠ b16)
    intro hT_10_12_16
    apply laterV3 (F := fun b5 b12 b16 u => Below wr.heap.size wr u ∧ ER wr u b5 ∧ ER wr u b12 ∧ u.cell? ⟨b16, 0, none⟩ = some (.int .i64 (k : Int)) ∧ b5 ≠ b12 ∧ b5 ≠ b16 ∧ b12 ≠ b16)
    intro hT_5_12_16
    apply laterV3 (F := fun b5 b10 b16 u => Below wr.heap.size wr u ∧ ER wr u b5 ∧ u.cell? ⟨b10, 0, none⟩ = some (.int .i64 (tn : Int)) ∧ u.cell? ⟨b16, 0, none⟩ = some (.int .i64 (k : Int)) ∧ b5 ≠ b10 ∧ b5 ≠ b16 ∧ b10 ≠ b16)
    intro hT_5_10_16
    apply laterV3 (F := fun b5 b10 b12 u => Below wr.heap.size wr u ∧ ER wr u b5 ∧ u.cell? ⟨b10, 0, none⟩ = some (.int .i64 (tn : Int)) ∧ ER wr u b12 ∧ b5 ≠ b10 ∧ b5 ≠ b12 ∧ b10 ≠ b12)
    intro hT_5_10_12
    apply laterV4 (F := fun b5 b7 c7 b16 u => Below wr.heap.size wr u ∧ WayR wr.heap.size u (some ⟨b7, 0, none⟩) c7 ab ∧ u.cell? ⟨b16, 0, none⟩ = some (.int .i64 (k : Int)) ∧ b7 ≠ b16)
    intro hT_5_7_16
    apply laterV4 (F := fun b5 b7 c7 b12 u => Below wr.heap.size wr u ∧ WayR wr.heap.size u (some ⟨b7, 0, none⟩) c7 ab ∧ ER wr u b12 ∧ b7 ≠ b12)
    intro hT_5_7_12
    apply laterV4 (F := fun b5 b7 c7 b10 u => Below wr.heap.size wr u ∧ WayR wr.heap.size u (some ⟨b7, 0, none⟩) c7 ab ∧ u.cell? ⟨b10, 0, none⟩ = some (.int .i64 (tn : Int)) ∧ b7 ≠ b10)
    intro hT_5_7_10
    apply laterV2 (F := fun b12 b16 u => Below wr.heap.size wr u ∧ ER wr u b12 ∧ u.cell? ⟨b16, 0, none⟩ = some (.int .i64 (k : Int)) ∧ b12 ≠ b16)
    intro hT_12_16
    apply laterV2 (F := fun b10 b16 u => Below wr.heap.size wr u ∧ u.cell? ⟨b10, 0, none⟩ = some (.int .i64 (tn : Int)) ∧ u.cell? ⟨b16, 0, none⟩ = some (.int .i64 (k : Int)) ∧ b10 ≠ b16)
    intro hT_10_16
    apply laterV2 (F := fun b10 b12 u => Below wr.heap.size wr u ∧ u.cell? ⟨b10, 0, none⟩ = some (.int .i64 (tn : Int)) ∧ ER wr u b12 ∧ b10 ≠ b12)
    intro hT_10_12
    apply laterV2 (F := fun b5 b16 u => Below wr.heap.size wr u ∧ ER wr u b5 ∧ u.cell? ⟨b16, 0, none⟩ = some (.int .i64 (k : Int)) ∧ b5 ≠ b16)
    intro hT_5_16
    apply laterV2 (F := fun b5 b12 u => Below wr.heap.size wr u ∧ ER wr u b5 ∧ ER wr u b12 ∧ b5 ≠ b12)
    intro hT_5_12
    apply laterV2 (F := fun b5 b10 u => Below wr.heap.size wr u ∧ ER wr u b5 ∧ u.cell? ⟨b10, 0, none⟩ = some (.int .i64 (tn : Int)) ∧ b5 ≠ b10)
    intro hT_5_10
    apply laterV3 (F := fun b5 b7 c7 u => Below wr.heap.size wr u ∧ WayR wr.heap.size u (some ⟨b7, 0, none⟩) c7 ab)
    intro hT_5_7
    apply laterV1 (F := fun b16 u => Below wr.heap.size wr u ∧ u.cell? ⟨b16, 0, none⟩ = some (.int .i64 (k : Int)))
    intro hT_16
    apply laterV1 (F := fun b12 u => Below wr.heap.size wr u ∧ ER wr u b12)
    intro hT_12
    apply laterV1 (F := fun b10 u => Below wr.heap.size wr u ∧ u.cell? ⟨b10, 0, none⟩ = some (.int .i64 (tn : Int)))
    intro hT_10
    apply laterV1 (F := fun b5 u => Below wr.heap.size wr u ∧ ER wr u b5)
    intro hT_5
    ·have HU := Lib.hid (Below.drew (Below.refl wr.heap.size wr))
     refine wp_region_held_drew (S := (fun w' : World => w'.cell? ⟨w.heap.size, 0, none⟩ = some (.int .i64 tn) ∧ w'.cell? ⟨w.heap.size, 4, none⟩ = some (.slice (some ⟨b, off, none⟩) n c1) ∧ w'.cell? ⟨b, off + k * 5, none⟩ = some (.int .i64 yt) ∧ w'.cell? ⟨b, off + k * 5 + 1, none⟩ = some (.int .i64 yk) ∧ w'.cell? ⟨b, off + k * 5 + 2, none⟩ = some (.string ys') ∧ w'.cell? ⟨b, off + k * 5 + 3, none⟩ = some (.slice B0 yp.length d0) ∧ w'.cell? ⟨b, off + k * 5 + 4, none⟩ = some (.slice B1 yq.length d1) ∧ w'.cell? ⟨w.heap.size + 1, 0, none⟩ = some (.int .i64 x.t) ∧ w'.cell? ⟨w.heap.size + 1, 1, none⟩ = some (.int .i64 x.a) ∧ w'.cell? ⟨w.heap.size + 1, 2, none⟩ = some (.int .i64 x.nm) ∧ w'.cell? ⟨w.heap.size + 1, 3, none⟩ = some (.int .i64 x.v.k) ∧ w'.cell? ⟨w.heap.size + 1, 4, none⟩ = some (.int .i64 x.v.n) ∧ w'.cell? ⟨w.heap.size + 1, 5, none⟩ = some (.string x.v.s) ∧ w'.cell? ⟨w.heap.size + 1, 6, none⟩ = some (.int .i64 x.l) ∧ w'.cell? ⟨w.heap.size + 1, 7, none⟩ = some (.int .i64 x.g))) (by kernel_rfl) (SF.out _ HU.out) (fun hHeld => ?_)
     obtain ⟨u, hu0⟩ : ∃ q, wr.drew = q := ⟨_, rfl⟩
     rw [hu0] at HU hHeld ⊢
     clear hu0
     refine wpAnyH_take (i := 0) (oi := _) (v := ?_) rfl (by kernel_rfl) (by kernel_rfl) (by kernel_rfl) (fun _ _ _ h => h) (Or.inl ⟨by kernel_rfl, ?_⟩) (by assumption) ?_
     rotate_left
     ·(intro w hSw; (try dsimp only at hSw); go_simp)
      try with_reducible rfl
     (try simp only [Act.put, qa, qb, qc, qd, qe, qf])
     refine wpAnyH_take (i := 1) (oi := _) (v := ?_) rfl (by kernel_rfl) (by kernel_rfl) (by kernel_rfl) (fun _ _ _ h => h) (Or.inl ⟨by kernel_rfl, ?_⟩) (by assumption) ?_
     rotate_left
     ·(intro w hSw; (try dsimp only at hSw); go_simp)
      try with_reducible rfl
     (try simp only [Act.put, qa, qb, qc, qd, qe, qf])
     refine wpAnyH_take (i := 2) (oi := _) (v := ?_) rfl (by kernel_rfl) (by kernel_rfl) (by kernel_rfl) (fun _ _ _ h => h) (Or.inl ⟨by kernel_rfl, ?_⟩) (by assumption) ?_
     rotate_left
     ·(intro w hSw; (try dsimp only at hSw); go_simp)
      try with_reducible rfl
     (try simp only [Act.put, qa, qb, qc, qd, qe, qf])
     refine wpAnyH_take (i := 3) (oi := _) (v := ?_) rfl (by kernel_rfl) (by kernel_rfl) (by kernel_rfl) (fun _ _ _ h => h) (Or.inl ⟨by kernel_rfl, ?_⟩) (by assumption) ?_
     rotate_left
     ·(intro w hSw; (try dsimp only at hSw); go_simp)
      try with_reducible rfl
     (try simp only [Act.put, qa, qb, qc, qd, qe, qf])
     refine wpAnyH_take (i := 4) (oi := _) (v := ?_) rfl (by kernel_rfl) (by kernel_rfl) (by kernel_rfl) (fun _ _ _ h => h) (Or.inl ⟨by kernel_rfl, ?_⟩) (by assumption) ?_
     rotate_left
     ·(intro w hSw; (try dsimp only at hSw); go_simp)
      try with_reducible rfl
     (try simp only [Act.put, qa, qb, qc, qd, qe, qf])
     refine wpAnyH_take (i := 6) (oi := _) (v := ?_) rfl (by kernel_rfl) (by kernel_rfl) (by kernel_rfl) (fun _ _ _ h => h) (Or.inl ⟨by kernel_rfl, ?_⟩) (by assumption) ?_
     rotate_left
     ·(intro w hSw; (try dsimp only at hSw); go_simp)
      try with_reducible rfl
     (try simp only [Act.put, qa, qb, qc, qd, qe, qf])
     refine wpAnyH_take (i := 8) (oi := _) (v := ?_) rfl (by kernel_rfl) (by kernel_rfl) (by kernel_rfl) (fun _ _ _ h => h) (Or.inl ⟨by kernel_rfl, ?_⟩) (by assumption) ?_
     rotate_left
     ·(intro w hSw; (try dsimp only at hSw); go_simp)
      try with_reducible rfl
     (try simp only [Act.put, qa, qb, qc, qd, qe, qf])
     refine wpAnyH_take (i := 9) (oi := _) (v := ?_) rfl (by kernel_rfl) (by kernel_rfl) (by kernel_rfl) (fun _ _ _ h => h) (Or.inl ⟨by kernel_rfl, ?_⟩) (by assumption) ?_
     rotate_left
     ·(intro w hSw; (try dsimp only at hSw); go_simp)
      try with_reducible rfl
     (try simp only [Act.put, qa, qb, qc, qd, qe, qf])
     refine wpAnyH_take (i := 13) (oi := _) (v := ?_) rfl (by kernel_rfl) (by kernel_rfl) (by kernel_rfl) (fun _ _ _ h => h) (Or.inl ⟨by kernel_rfl, ?_⟩) (by assumption) ?_
     rotate_left
     ·(intro w hSw; (try dsimp only at hSw); go_simp)
      try with_reducible rfl
     (try simp only [Act.put, qa, qb, qc, qd, qe, qf])
     refine wpAnyH_take (i := 15) (oi := _) (v := ?_) rfl (by kernel_rfl) (by kernel_rfl) (by kernel_rfl) (fun _ _ _ h => h) (Or.inl ⟨by kernel_rfl, ?_⟩) (by assumption) ?_
     rotate_left
     ·(intro w hSw; (try dsimp only at hSw); go_simp)
      try with_reducible rfl
     (try simp only [Act.put, qa, qb, qc, qd, qe, qf])
     refine wpAnyH_take (i := 18) (oi := _) (v := ?_) rfl (by kernel_rfl) (by kernel_rfl) (by kernel_rfl) (fun _ _ _ h => h) (Or.inl ⟨by kernel_rfl, ?_⟩) (by assumption) ?_
     rotate_left
     ·(intro w hSw; (try dsimp only at hSw); go_simp)
      try with_reducible rfl
     (try simp only [Act.put, qa, qb, qc, qd, qe, qf])
     refine wpAnyH_take (i := 19) (oi := _) (v := ?_) rfl (by kernel_rfl) (by kernel_rfl) (by kernel_rfl) (fun _ _ _ h => h) (Or.inl ⟨by kernel_rfl, ?_⟩) (by assumption) ?_
     rotate_left
     ·(intro w hSw; (try dsimp only at hSw); go_simp)
      try with_reducible rfl
     (try simp only [Act.put, qa, qb, qc, qd, qe, qf])
     refine wpAnyH_ready (rs := [5, 10, 12, 16]) (by kernel_rfl) (by simp) ?_
     refine AllReadyH.cons (o := _) rfl (fun K hK => ?_) ?_
     ·skip
      go_simp
      have hb := Below.alloc (Below.refl u.heap.size u) (Nat.le_refl _) (.cells #[] 3)
      have hu2 := more HU.out (Nat.le_refl _) hb
      refine hK.out _ _ (SF.out _ hu2) (fun hHeld2 => ?_)
      clear hHeld2 hK K hHeld
      (try simp only [Act.put, qa, qb, qc, qd, qe, qf])
      obtain ⟨b5, hbo⟩ : ∃ q, u.heap.size = q := ⟨_, rfl⟩
      obtain ⟨u2, hN⟩ : ∃ q, (u.alloc (.cells #[] 3)) = q := ⟨_, rfl⟩
      rw [hN, hbo]
      exact hT_5.out b5 u2 (by subst hN hbo; exact ⟨hu2, ⟨rfl, .inr ⟨u.heap.size, 0, #[], rfl, HU.out.size, World.alloc_heap_new u _, Nat.le_refl _, by decide, rfl, rfl⟩⟩⟩)
     refine AllReadyH.cons (o := _) rfl (fun K hK => ?_) ?_
     ·skip
      go_simp
      have hb := Below.alloc (Below.refl u.heap.size u) (Nat.le_refl _) (.cells #[.int .i64 tn] 3)
      have hu2 := more HU.out (Nat.le_refl _) hb
      refine hK.out _ _ (SF.out _ hu2) (fun hHeld2 => ?_)
      clear hHeld2 hK K hHeld
      (try simp only [Act.put, qa, qb, qc, qd, qe, qf])
      obtain ⟨b10, hbo⟩ : ∃ q, u.heap.size = q := ⟨_, rfl⟩
      obtain ⟨u2, hN⟩ : ∃ q, (u.alloc (.cells #[.int .i64 tn] 3)) = q := ⟨_, rfl⟩
      rw [hN, hbo]
      exact hT_10.out b10 u2 (by subst hN hbo; exact ⟨hu2, (by rw [World.cell?_alloc_new]; rfl)⟩)
     refine AllReadyH.cons (o := _) rfl (fun K hK => ?_) ?_
     ·skip
      go_simp
      have hb := Below.alloc (Below.refl u.heap.size u) (Nat.le_refl _) (.cells #[] 3)
      have hu2 := more HU.out (Nat.le_refl _) hb
      refine hK.out _ _ (SF.out _ hu2) (fun hHeld2 => ?_)
      clear hHeld2 hK K hHeld
      (try simp only [Act.put, qa, qb, qc, qd, qe, qf])
      obtain ⟨b12, hbo⟩ : ∃ q, u.heap.size = q := ⟨_, rfl⟩
      obtain ⟨u2, hN⟩ : ∃ q, (u.alloc (.cells #[] 3)) = q := ⟨_, rfl⟩
      rw [hN, hbo]
      exact hT_12.out b12 u2 (by subst hN hbo; exact ⟨hu2, ⟨rfl, .inr ⟨u.heap.size, 0, #[], rfl, HU.out.size, World.alloc_heap_new u _, Nat.le_refl _, by decide, rfl, rfl⟩⟩⟩)
     refine AllReadyH.cons (o := _) rfl (fun K hK => ?_) AllReadyH.nil
     go_simp
     have hb := Below.alloc (Below.refl u.heap.size u) (Nat.le_refl _) (.cells #[.int .i64 k] 3)
     have hu2 := more HU.out (Nat.le_refl _) hb
     refine hK.out _ _ (SF.out _ hu2) (fun hHeld2 => ?_)
     clear hHeld2 hK K hHeld
     (try simp only [Act.put, qa, qb, qc, qd, qe, qf])
     obtain ⟨b16, hbo⟩ : ∃ q, u.heap.size = q := ⟨_, rfl⟩
     obtain ⟨u2, hN⟩ : ∃ q, (u.alloc (.cells #[.int .i64 k] 3)) = q := ⟨_, rfl⟩
     rw [hN, hbo]
     exact hT_16.out b16 u2 (by subst hN hbo; exact ⟨hu2, (by rw [World.cell?_alloc_new]; rfl)⟩)
    ·rintro b5 u ⟨hU, r5⟩
     have HU := Lib.hid hU
     have Ro5 := Lib.hid r5
     have l5 : b5 < u.heap.size := (World.ownsRow.lt r5 b5 rfl).2
     have hHeld := SF.out _ HU.out
     clear hU r5
     refine wpAnyH_ready (rs := [7, 10, 12, 16]) (by kernel_rfl) (by simp) ?_
     refine AllReadyH.cons (o := _) rfl (fun K hK => ?_) ?_
     ·skip
      refine step_clone_way2 (by rfl) (.tmp 38) (.tmp 39) (by rfl) wr.heap.size b5 (by rfl) Ro5.out w0.heap.size g cw gn ab (by rfl) HGN.out (HWG.out.later HU.out) (by omega) HU.out.size ?_
      intro b7 c7 u2 hw hg hat
      have hu2 := HU.out.grown hg HU.out.size (fun k e => by cases e; exact (World.ownsRow.lt Ro5.out b5 rfl).1)
      refine hK.out _ _ (SF.out _ hu2) (fun hHeld2 => ?_)
      clear hHeld2 hK K hHeld
      (try simp only [Act.put, qa, qb, qc, qd, qe, qf])
      exact hT_5_7.out b5 b7 c7 u2 ⟨hu2, hw⟩
     refine AllReadyH.cons (o := _) rfl (fun K hK => ?_) ?_
     ·skip
      go_simp
      have hb := Below.alloc (Below.refl u.heap.size u) (Nat.le_refl _) (.cells #[.int .i64 tn] 3)
      have hu2 := more HU.out (Nat.le_refl _) hb
      refine hK.out _ _ (SF.out _ hu2) (fun hHeld2 => ?_)
      clear hHeld2 hK K hHeld
      (try simp only [Act.put, qa, qb, qc, qd, qe, qf])
      obtain ⟨b10, hbo⟩ : ∃ q, u.heap.size = q := ⟨_, rfl⟩
      obtain ⟨u2, hN⟩ : ∃ q, (u.alloc (.cells #[.int .i64 tn] 3)) = q := ⟨_, rfl⟩
      rw [hN, hbo]
      exact hT_5_10.out b5 b10 u2 (by subst hN hbo; exact ⟨hu2, ownsRow_below Ro5.out hb, (by rw [World.cell?_alloc_new]; rfl), (by omega)⟩)
     refine AllReadyH.cons (o := _) rfl (fun K hK => ?_) ?_
     ·skip
      go_simp
      have hb := Below.alloc (Below.refl u.heap.size u) (Nat.le_refl _) (.cells #[] 3)
      have hu2 := more HU.out (Nat.le_refl _) hb
      refine hK.out _ _ (SF.out _ hu2) (fun hHeld2 => ?_)
      clear hHeld2 hK K hHeld
      (try simp only [Act.put, qa, qb, qc, qd, qe, qf])
      obtain ⟨b12, hbo⟩ : ∃ q, u.heap.size = q := ⟨_, rfl⟩
      obtain ⟨u2, hN⟩ : ∃ q, (u.alloc (.cells #[] 3)) = q := ⟨_, rfl⟩
      rw [hN, hbo]
      exact hT_5_12.out b5 b12 u2 (by subst hN hbo; exact ⟨hu2, ownsRow_below Ro5.out hb, ⟨rfl, .inr ⟨u.heap.size, 0, #[], rfl, HU.out.size, World.alloc_heap_new u _, Nat.le_refl _, by decide, rfl, rfl⟩⟩, (by omega)⟩)
     refine AllReadyH.cons (o := _) rfl (fun K hK => ?_) AllReadyH.nil
     go_simp
     have hb := Below.alloc (Below.refl u.heap.size u) (Nat.le_refl _) (.cells #[.int .i64 k] 3)
     have hu2 := more HU.out (Nat.le_refl _) hb
     refine hK.out _ _ (SF.out _ hu2) (fun hHeld2 => ?_)
     clear hHeld2 hK K hHeld
     (try simp only [Act.put, qa, qb, qc, qd, qe, qf])
     obtain ⟨b16, hbo⟩ : ∃ q, u.heap.size = q := ⟨_, rfl⟩
     obtain ⟨u2, hN⟩ : ∃ q, (u.alloc (.cells #[.int .i64 k] 3)) = q := ⟨_, rfl⟩
     rw [hN, hbo]
     exact hT_5_16.out b5 b16 u2 (by subst hN hbo; exact ⟨hu2, ownsRow_below Ro5.out hb, (by rw [World.cell?_alloc_new]; rfl), (by omega)⟩)
    ·rintro b10 u ⟨hU, r10⟩
     have HU := Lib.hid hU
     have Ro10 := Lib.hid r10
     have l10 : b10 < u.heap.size := World.block_lt_of_cell? u _ r10
     have hHeld := SF.out _ HU.out
     clear hU r10
     refine wpAnyH_ready (rs := [5, 12, 16]) (by kernel_rfl) (by simp) ?_
     refine AllReadyH.cons (o := _) rfl (fun K hK => ?_) ?_
     ·skip
      go_simp
      have hb := Below.alloc (Below.refl u.heap.size u) (Nat.le_refl _) (.cells #[] 3)
      have hu2 := more HU.out (Nat.le_refl _) hb
      refine hK.out _ _ (SF.out _ hu2) (fun hHeld2 => ?_)
      clear hHeld2 hK K hHeld
      (try simp only [Act.put, qa, qb, qc, qd, qe, qf])
      obtain ⟨b5, hbo⟩ : ∃ q, u.heap.size = q := ⟨_, rfl⟩
      obtain ⟨u2, hN⟩ : ∃ q, (u.alloc (.cells #[] 3)) = q := ⟨_, rfl⟩
      rw [hN, hbo]
      exact hT_5_10.out b5 b10 u2 (by subst hN hbo; exact ⟨hu2, ⟨rfl, .inr ⟨u.heap.size, 0, #[], rfl, HU.out.size, World.alloc_heap_new u _, Nat.le_refl _, by decide, rfl, rfl⟩⟩, (hb.cell (p := ⟨b10, 0, none⟩) l10).trans Ro10.out, (by omega)⟩)
     refine AllReadyH.cons (o := _) rfl (fun K hK => ?_) ?_
     ·skip
      go_simp
      have hb := Below.alloc (Below.refl u.heap.size u) (Nat.le_refl _) (.cells #[] 3)
      have hu2 := more HU.out (Nat.le_refl _) hb
      refine hK.out _ _ (SF.out _ hu2) (fun hHeld2 => ?_)
      clear hHeld2 hK K hHeld
      (try simp only [Act.put, qa, qb, qc, qd, qe, qf])
      obtain ⟨b12, hbo⟩ : ∃ q, u.heap.size = q := ⟨_, rfl⟩
      obtain ⟨u2, hN⟩ : ∃ q, (u.alloc (.cells #[] 3)) = q := ⟨_, rfl⟩
      rw [hN, hbo]
      exact hT_10_12.out b10 b12 u2 (by subst hN hbo; exact ⟨hu2, (hb.cell (p := ⟨b10, 0, none⟩) l10).trans Ro10.out, ⟨rfl, .inr ⟨u.heap.size, 0, #[], rfl, HU.out.size, World.alloc_heap_new u _, Nat.le_refl _, by decide, rfl, rfl⟩⟩, (by omega)⟩)
     refine AllReadyH.cons (o := _) rfl (fun K hK => ?_) AllReadyH.nil
     go_simp
     have hb := Below.alloc (Below.refl u.heap.size u) (Nat.le_refl _) (.cells #[.int .i64 k] 3)
     have hu2 := more HU.out (Nat.le_refl _) hb
     refine hK.out _ _ (SF.out _ hu2) (fun hHeld2 => ?_)
     clear hHeld2 hK K hHeld
     (try simp only [Act.put, qa, qb, qc, qd, qe, qf])
     obtain ⟨b16, hbo⟩ : ∃ q, u.heap.size = q := ⟨_, rfl⟩
     obtain ⟨u2, hN⟩ : ∃ q, (u.alloc (.cells #[.int .i64 k] 3)) = q := ⟨_, rfl⟩
     rw [hN, hbo]
     exact hT_10_16.out b10 b16 u2 (by subst hN hbo; exact ⟨hu2, (hb.cell (p := ⟨b10, 0, none⟩) l10).trans Ro10.out, (by rw [World.cell?_alloc_new]; rfl), (by omega)⟩)
    ·rintro b12 u ⟨hU, r12⟩
     have HU := Lib.hid hU
     have Ro12 := Lib.hid r12
     have l12 : b12 < u.heap.size := (World.ownsRow.lt r12 b12 rfl).2
     have hHeld := SF.out _ HU.out
     clear hU r12
     refine wpAnyH_ready (rs := [5, 10, 16]) (by kernel_rfl) (by simp) ?_
     refine AllReadyH.cons (o := _) rfl (fun K hK => ?_) ?_
     ·skip
      go_simp
      have hb := Below.alloc (Below.refl u.heap.size u) (Nat.le_refl _) (.cells #[] 3)
      have hu2 := more HU.out (Nat.le_refl _) hb
      refine hK.out _ _ (SF.out _ hu2) (fun hHeld2 => ?_)
      clear hHeld2 hK K hHeld
      (try simp only [Act.put, qa, qb, qc, qd, qe, qf])
      obtain ⟨b5, hbo⟩ : ∃ q, u.heap.size = q := ⟨_, rfl⟩
      obtain ⟨u2, hN⟩ : ∃ q, (u.alloc (.cells #[] 3)) = q := ⟨_, rfl⟩
      rw [hN, hbo]
      exact hT_5_12.out b5 b12 u2 (by subst hN hbo; exact ⟨hu2, ⟨rfl, .inr ⟨u.heap.size, 0, #[], rfl, HU.out.size, World.alloc_heap_new u _, Nat.le_refl _, by decide, rfl, rfl⟩⟩, ownsRow_below Ro12.out hb, (by omega)⟩)
     refine AllReadyH.cons (o := _) rfl (fun K hK => ?_) ?_
     ·skip
      go_simp
      have hb := Below.alloc (Below.refl u.heap.size u) (Nat.le_refl _) (.cells #[.int .i64 tn] 3)
      have hu2 := more HU.out (Nat.le_refl _) hb
      refine hK.out _ _ (SF.out _ hu2) (fun hHeld2 => ?_)
      clear hHeld2 hK K hHeld
      (try simp only [Act.put, qa, qb, qc, qd, qe, qf])
      obtain ⟨b10, hbo⟩ : ∃ q, u.heap.size = q := ⟨_, rfl⟩
      obtain ⟨u2, hN⟩ : ∃ q, (u.alloc (.cells #[.int .i64 tn] 3)) = q := ⟨_, rfl⟩
      rw [hN, hbo]
      exact hT_10_12.out b10 b12 u2 (by subst hN hbo; exact ⟨hu2, (by rw [World.cell?_alloc_new]; rfl), ownsRow_below Ro12.out hb, (by omega)⟩)
     refine AllReadyH.cons (o := _) rfl (fun K hK => ?_) AllReadyH.nil
     go_simp
     have hb := Below.alloc (Below.refl u.heap.size u) (Nat.le_refl _) (.cells #[.int .i64 k] 3)
     have hu2 := more HU.out (Nat.le_refl _) hb
     refine hK.out _ _ (SF.out _ hu2) (fun hHeld2 => ?_)
     clear hHeld2 hK K hHeld
     (try simp only [Act.put, qa, qb, qc, qd, qe, qf])
     obtain ⟨b16, hbo⟩ : ∃ q, u.heap.size = q := ⟨_, rfl⟩
     obtain ⟨u2, hN⟩ : ∃ q, (u.alloc (.cells #[.int .i64 k] 3)) = q := ⟨_, rfl⟩
     rw [hN, hbo]
     exact hT_12_16.out b12 b16 u2 (by subst hN hbo; exact ⟨hu2, ownsRow_below Ro12.out hb, (by rw [World.cell?_alloc_new]; rfl), (by omega)⟩)
    ·rintro b16 u ⟨hU, r16⟩
     have HU := Lib.hid hU
     have Ro16 := Lib.hid r16
     have l16 : b16 < u.heap.size := World.block_lt_of_cell? u _ r16
     have hHeld := SF.out _ HU.out
     clear hU r16
     refine wpAnyH_ready (rs := [5, 10, 12]) (by kernel_rfl) (by simp) ?_
     refine AllReadyH.cons (o := _) rfl (fun K hK => ?_) ?_
     ·skip
      go_simp
      have hb := Below.alloc (Below.refl u.heap.size u) (Nat.le_refl _) (.cells #[] 3)
      have hu2 := more HU.out (Nat.le_refl _) hb
      refine hK.out _ _ (SF.out _ hu2) (fun hHeld2 => ?_)
      clear hHeld2 hK K hHeld
      (try simp only [Act.put, qa, qb, qc, qd, qe, qf])
      obtain ⟨b5, hbo⟩ : ∃ q, u.heap.size = q := ⟨_, rfl⟩
      obtain ⟨u2, hN⟩ : ∃ q, (u.alloc (.cells #[] 3)) = q := ⟨_, rfl⟩
      rw [hN, hbo]
      exact hT_5_16.out b5 b16 u2 (by subst hN hbo; exact ⟨hu2, ⟨rfl, .inr ⟨u.heap.size, 0, #[], rfl, HU.out.size, World.alloc_heap_new u _, Nat.le_refl _, by decide, rfl, rfl⟩⟩, (hb.cell (p := ⟨b16, 0, none⟩) l16).trans Ro16.out, (by omega)⟩)
     refine AllReadyH.cons (o := _) rfl (fun K hK => ?_) ?_
     ·skip
      go_simp
      have hb := Below.alloc (Below.refl u.heap.size u) (Nat.le_refl _) (.cells #[.int .i64 tn] 3)
      have hu2 := more HU.out (Nat.le_refl _) hb
      refine hK.out _ _ (SF.out _ hu2) (fun hHeld2 => ?_)
      clear hHeld2 hK K hHeld
      (try simp only [Act.put, qa, qb, qc, qd, qe, qf])
      obtain ⟨b10, hbo⟩ : ∃ q, u.heap.size = q := ⟨_, rfl⟩
      obtain ⟨u2, hN⟩ : ∃ q, (u.alloc (.cells #[.int .i64 tn] 3)) = q := ⟨_, rfl⟩
      rw [hN, hbo]
      exact hT_10_16.out b10 b16 u2 (by subst hN hbo; exact ⟨hu2, (by rw [World.cell?_alloc_new]; rfl), (hb.cell (p := ⟨b16, 0, none⟩) l16).trans Ro16.out, (by omega)⟩)
     refine AllReadyH.cons (o := _) rfl (fun K hK => ?_) AllReadyH.nil
     go_simp
     have hb := Below.alloc (Below.refl u.heap.size u) (Nat.le_refl _) (.cells #[] 3)
     have hu2 := more HU.out (Nat.le_refl _) hb
     refine hK.out _ _ (SF.out _ hu2) (fun hHeld2 => ?_)
     clear hHeld2 hK K hHeld
     (try simp only [Act.put, qa, qb, qc, qd, qe, qf])
     obtain ⟨b12, hbo⟩ : ∃ q, u.heap.size = q := ⟨_, rfl⟩
     obtain ⟨u2, hN⟩ : ∃ q, (u.alloc (.cells #[] 3)) = q := ⟨_, rfl⟩
     rw [hN, hbo]
     exact hT_12_16.out b12 b16 u2 (by subst hN hbo; exact ⟨hu2, ⟨rfl, .inr ⟨u.heap.size, 0, #[], rfl, HU.out.size, World.alloc_heap_new u _, Nat.le_refl _, by decide, rfl, rfl⟩⟩, (hb.cell (p := ⟨b16, 0, none⟩) l16).trans Ro16.out, (by omega)⟩)
    ·rintro b5 b7 c7 u ⟨hU, r7⟩
     have HU := Lib.hid hU
     have Ro7 := Lib.hid r7
     have l7 : b7 < u.heap.size := (World.ownsRow.lt r7 b7 rfl).2
     have hHeld := SF.out _ HU.out
     clear hU r7
     refine wpAnyH_ready (rs := [10, 12, 16]) (by kernel_rfl) (by simp) ?_
     refine AllReadyH.cons (o := _) rfl (fun K hK => ?_) ?_
     ·skip
      go_simp
      have hb := Below.alloc (Below.refl u.heap.size u) (Nat.le_refl _) (.cells #[.int .i64 tn] 3)
      have hu2 := more HU.out (Nat.le_refl _) hb
      refine hK.out _ _ (SF.out _ hu2) (fun hHeld2 => ?_)
      clear hHeld2 hK K hHeld
      (try simp only [Act.put, qa, qb, qc, qd, qe, qf])
      obtain ⟨b10, hbo⟩ : ∃ q, u.heap.size = q := ⟨_, rfl⟩
      obtain ⟨u2, hN⟩ : ∃ q, (u.alloc (.cells #[.int .i64 tn] 3)) = q := ⟨_, rfl⟩
      rw [hN, hbo]
      exact hT_5_7_10.out b5 b7 c7 b10 u2 (by subst hN hbo; exact ⟨hu2, Ro7.out.later hb, (by rw [World.cell?_alloc_new]; rfl), (by omega)⟩)
     refine AllReadyH.cons (o := _) rfl (fun K hK => ?_) ?_
     ·skip
      go_simp
      have hb := Below.alloc (Below.refl u.heap.size u) (Nat.le_refl _) (.cells #[] 3)
      have hu2 := more HU.out (Nat.le_refl _) hb
      refine hK.out _ _ (SF.out _ hu2) (fun hHeld2 => ?_)
      clear hHeld2 hK K hHeld
      (try simp only [Act.put, qa, qb, qc, qd, qe, qf])
      obtain ⟨b12, hbo⟩ : ∃ q, u.heap.size = q := ⟨_, rfl⟩
      obtain ⟨u2, hN⟩ : ∃ q, (u.alloc (.cells #[] 3)) = q := ⟨_, rfl⟩
      rw [hN, hbo]
      exact hT_5_7_12.out b5 b7 c7 b12 u2 (by subst hN hbo; exact ⟨hu2, Ro7.out.later hb, ⟨rfl, .inr ⟨u.heap.size, 0, #[], rfl, HU.out.size, World.alloc_heap_new u _, Nat.le_refl _, by decide, rfl, rfl⟩⟩, (by omega)⟩)
     refine AllReadyH.cons (o := _) rfl (fun K hK => ?_) AllReadyH.nil
     go_simp
     have hb := Below.alloc (Below.refl u.heap.size u) (Nat.le_refl _) (.cells #[.int .i64 k] 3)
     have hu2 := more HU.out (Nat.le_refl _) hb
     refine hK.out _ _ (SF.out _ hu2) (fun hHeld2 => ?_)
     clear hHeld2 hK K hHeld
     (try simp only [Act.put, qa, qb, qc, qd, qe, qf])
     obtain ⟨b16, hbo⟩ : ∃ q, u.heap.size = q := ⟨_, rfl⟩
     obtain ⟨u2, hN⟩ : ∃ q, (u.alloc (.cells #[.int .i64 k] 3)) = q := ⟨_, rfl⟩
     rw [hN, hbo]
     exact hT_5_7_16.out b5 b7 c7 b16 u2 (by subst hN hbo; exact ⟨hu2, Ro7.out.later hb, (by rw [World.cell?_alloc_new]; rfl), (by omega)⟩)
    ·rintro b5 b10 u ⟨hU, r5, r10, N5_10⟩
     have HU := Lib.hid hU
     have Ro5 := Lib.hid r5
     have l5 : b5 < u.heap.size := (World.ownsRow.lt r5 b5 rfl).2
     have Ro10 := Lib.hid r10
     have l10 : b10 < u.heap.size := World.block_lt_of_cell? u _ r10
     have hHeld := SF.out _ HU.out
     clear hU r5 r10
     refine wpAnyH_ready (rs := [7, 12, 16]) (by kernel_rfl) (by simp) ?_
     refine AllReadyH.cons (o := _) rfl (fun K hK => ?_) ?_
     ·skip
      refine step_clone_way2 (by rfl) (.tmp 38) (.tmp 39) (by rfl) wr.heap.size b5 (by rfl) Ro5.out w0.heap.size g cw gn ab (by rfl) HGN.out (HWG.out.later HU.out) (by omega) HU.out.size ?_
      intro b7 c7 u2 hw hg hat
      have hu2 := HU.out.grown hg HU.out.size (fun k e => by cases e; exact (World.ownsRow.lt Ro5.out b5 rfl).1)
      refine hK.out _ _ (SF.out _ hu2) (fun hHeld2 => ?_)
      clear hHeld2 hK K hHeld
      (try simp only [Act.put, qa, qb, qc, qd, qe, qf])
      exact hT_5_7_10.out b5 b7 c7 b10 u2 ⟨hu2, hw, cell_hold Ro10.out hg (fun e => N5_10 e), (by have := N5_10; omega)⟩
     refine AllReadyH.cons (o := _) rfl (fun K hK => ?_) ?_
     ·skip
      go_simp
      have hb := Below.alloc (Below.refl u.heap.size u) (Nat.le_refl _) (.cells #[] 3)
      have hu2 := more HU.out (Nat.le_refl _) hb
      refine hK.out _ _ (SF.out _ hu2) (fun hHeld2 => ?_)
      clear hHeld2 hK K hHeld
      (try simp only [Act.put, qa, qb, qc, qd, qe, qf])
      obtain ⟨b12, hbo⟩ : ∃ q, u.heap.size = q := ⟨_, rfl⟩
      obtain ⟨u2, hN⟩ : ∃ q, (u.alloc (.cells #[] 3)) = q := ⟨_, rfl⟩
      rw [hN, hbo]
      exact hT_5_10_12.out b5 b10 b12 u2 (by subst hN hbo; exact ⟨hu2, ownsRow_below Ro5.out hb, (hb.cell (p := ⟨b10, 0, none⟩) l10).trans Ro10.out, ⟨rfl, .inr ⟨u.heap.size, 0, #[], rfl, HU.out.size, World.alloc_heap_new u _, Nat.le_refl _, by decide, rfl, rfl⟩⟩, N5_10, (by omega), (by omega)⟩)
     refine AllReadyH.cons (o := _) rfl (fun K hK => ?_) AllReadyH.nil
     go_simp
     have hb := Below.alloc (Below.refl u.heap.size u) (Nat.le_refl _) (.cells #[.int .i64 k] 3)
     have hu2 := more HU.out (Nat.le_refl _) hb
     refine hK.out _ _ (SF.out _ hu2) (fun hHeld2 => ?_)
     clear hHeld2 hK K hHeld
     (try simp only [Act.put, qa, qb, qc, qd, qe, qf])
     obtain ⟨b16, hbo⟩ : ∃ q, u.heap.size = q := ⟨_, rfl⟩
     obtain ⟨u2, hN⟩ : ∃ q, (u.alloc (.cells #[.int .i64 k] 3)) = q := ⟨_, rfl⟩
     rw [hN, hbo]
     exact hT_5_10_16.out b5 b10 b16 u2 (by subst hN hbo; exact ⟨hu2, ownsRow_below Ro5.out hb, (hb.cell (p := ⟨b10, 0, none⟩) l10).trans Ro10.out, (by rw [World.cell?_alloc_new]; rfl), N5_10, (by omega), (by omega)⟩)
    ·rintro b5 b12 u ⟨hU, r5, r12, N5_12⟩
     have HU := Lib.hid hU
     have Ro5 := Lib.hid r5
     have l5 : b5 < u.heap.size := (World.ownsRow.lt r5 b5 rfl).2
     have Ro12 := Lib.hid r12
     have l12 : b12 < u.heap.size := (World.ownsRow.lt r12 b12 rfl).2
     have hHeld := SF.out _ HU.out
     clear hU r5 r12
     refine wpAnyH_ready (rs := [7, 10, 16]) (by kernel_rfl) (by simp) ?_
     refine AllReadyH.cons (o := _) rfl (fun K hK => ?_) ?_
     ·skip
      refine step_clone_way2 (by rfl) (.tmp 38) (.tmp 39) (by rfl) wr.heap.size b5 (by rfl) Ro5.out w0.heap.size g cw gn ab (by rfl) HGN.out (HWG.out.later HU.out) (by omega) HU.out.size ?_
      intro b7 c7 u2 hw hg hat
      have hu2 := HU.out.grown hg HU.out.size (fun k e => by cases e; exact (World.ownsRow.lt Ro5.out b5 rfl).1)
      refine hK.out _ _ (SF.out _ hu2) (fun hHeld2 => ?_)
      clear hHeld2 hK K hHeld
      (try simp only [Act.put, qa, qb, qc, qd, qe, qf])
      exact hT_5_7_12.out b5 b7 c7 b12 u2 ⟨hu2, hw, row_hold Ro12.out hg (fun e => N5_12 e), (by have := N5_12; omega)⟩
     refine AllReadyH.cons (o := _) rfl (fun K hK => ?_) ?_
     ·skip
      go_simp
      have hb := Below.alloc (Below.refl u.heap.size u) (Nat.le_refl _) (.cells #[.int .i64 tn] 3)
      have hu2 := more HU.out (Nat.le_refl _) hb
      refine hK.out _ _ (SF.out _ hu2) (fun hHeld2 => ?_)
      clear hHeld2 hK K hHeld
      (try simp only [Act.put, qa, qb, qc, qd, qe, qf])
      obtain ⟨b10, hbo⟩ : ∃ q, u.heap.size = q := ⟨_, rfl⟩
      obtain ⟨u2, hN⟩ : ∃ q, (u.alloc (.cells #[.int .i64 tn] 3)) = q := ⟨_, rfl⟩
      rw [hN, hbo]
      exact hT_5_10_12.out b5 b10 b12 u2 (by subst hN hbo; exact ⟨hu2, ownsRow_below Ro5.out hb, (by rw [World.cell?_alloc_new]; rfl), ownsRow_below Ro12.out hb, (by omega), N5_12, (by omega)⟩)
     refine AllReadyH.cons (o := _) rfl (fun K hK => ?_) AllReadyH.nil
     go_simp
     have hb := Below.alloc (Below.refl u.heap.size u) (Nat.le_refl _) (.cells #[.int .i64 k] 3)
     have hu2 := more HU.out (Nat.le_refl _) hb
     refine hK.out _ _ (SF.out _ hu2) (fun hHeld2 => ?_)
     clear hHeld2 hK K hHeld
     (try simp only [Act.put, qa, qb, qc, qd, qe, qf])
     obtain ⟨b16, hbo⟩ : ∃ q, u.heap.size = q := ⟨_, rfl⟩
     obtain ⟨u2, hN⟩ : ∃ q, (u.alloc (.cells #[.int .i64 k] 3)) = q := ⟨_, rfl⟩
     rw [hN, hbo]
     exact hT_5_12_16.out b5 b12 b16 u2 (by subst hN hbo; exact ⟨hu2, ownsRow_below Ro5.out hb, ownsRow_below Ro12.out hb, (by rw [World.cell?_alloc_new]; rfl), N5_12, (by omega), (by omega)⟩)
    ·rintro b5 b16 u ⟨hU, r5, r16, N5_16⟩
     have HU := Lib.hid hU
     have Ro5 := Lib.hid r5
     have l5 : b5 < u.heap.size := (World.ownsRow.lt r5 b5 rfl).2
     have Ro16 := Lib.hid r16
     have l16 : b16 < u.heap.size := World.block_lt_of_cell? u _ r16
     have hHeld := SF.out _ HU.out
     clear hU r5 r16
     refine wpAnyH_ready (rs := [7, 10, 12]) (by kernel_rfl) (by simp) ?_
     refine AllReadyH.cons (o := _) rfl (fun K hK => ?_) ?_
     ·skip
      refine step_clone_way2 (by rfl) (.tmp 38) (.tmp 39) (by rfl) wr.heap.size b5 (by rfl) Ro5.out w0.heap.size g cw gn ab (by rfl) HGN.out (HWG.out.later HU.out) (by omega) HU.out.size ?_
      intro b7 c7 u2 hw hg hat
      have hu2 := HU.out.grown hg HU.out.size (fun k e => by cases e; exact (World.ownsRow.lt Ro5.out b5 rfl).1)
      refine hK.out _ _ (SF.out _ hu2) (fun hHeld2 => ?_)
      clear hHeld2 hK K hHeld
      (try simp only [Act.put, qa, qb, qc, qd, qe, qf])
      exact hT_5_7_16.out b5 b7 c7 b16 u2 ⟨hu2, hw, cell_hold Ro16.out hg (fun e => N5_16 e), (by have := N5_16; omega)⟩
     refine AllReadyH.cons (o := _) rfl (fun K hK => ?_) ?_
     ·skip
      go_simp
      have hb := Below.alloc (Below.refl u.heap.size u) (Nat.le_refl _) (.cells #[.int .i64 tn] 3)
      have hu2 := more HU.out (Nat.le_refl _) hb
      refine hK.out _ _ (SF.out _ hu2) (fun hHeld2 => ?_)
      clear hHeld2 hK K hHeld
      (try simp only [Act.put, qa, qb, qc, qd, qe, qf])
      obtain ⟨b10, hbo⟩ : ∃ q, u.heap.size = q := ⟨_, rfl⟩
      obtain ⟨u2, hN⟩ : ∃ q, (u.alloc (.cells #[.int .i64 tn] 3)) = q := ⟨_, rfl⟩
      rw [hN, hbo]
      exact hT_5_10_16.out b5 b10 b16 u2 (by subst hN hbo; exact ⟨hu2, ownsRow_below Ro5.out hb, (by rw [World.cell?_alloc_new]; rfl), (hb.cell (p := ⟨b16, 0, none⟩) l16).trans Ro16.out, (by omega), N5_16, (by omega)⟩)
     refine AllReadyH.cons (o := _) rfl (fun K hK => ?_) AllReadyH.nil
     go_simp
     have hb := Below.alloc (Below.refl u.heap.size u) (Nat.le_refl _) (.cells #[] 3)
     have hu2 := more HU.out (Nat.le_refl _) hb
     refine hK.out _ _ (SF.out _ hu2) (fun hHeld2 => ?_)
     clear hHeld2 hK K hHeld
     (try simp only [Act.put, qa, qb, qc, qd, qe, qf])
     obtain ⟨b12, hbo⟩ : ∃ q, u.heap.size = q := ⟨_, rfl⟩
     obtain ⟨u2, hN⟩ : ∃ q, (u.alloc (.cells #[] 3)) = q := ⟨_, rfl⟩
     rw [hN, hbo]
     exact hT_5_12_16.out b5 b12 b16 u2 (by subst hN hbo; exact ⟨hu2, ownsRow_below Ro5.out hb, ⟨rfl, .inr ⟨u.heap.size, 0, #[], rfl, HU.out.size, World.alloc_heap_new u _, Nat.le_refl _, by decide, rfl, rfl⟩⟩, (hb.cell (p := ⟨b16, 0, none⟩) l16).trans Ro16.out, (by omega), N5_16, (by omega)⟩)
    ·rintro b10 b12 u ⟨hU, r10, r12, N10_12⟩
     have HU := Lib.hid hU
     have Ro10 := Lib.hid r10
     have l10 : b10 < u.heap.size := World.block_lt_of_cell? u _ r10
     have Ro12 := Lib.hid r12
     have l12 : b12 < u.heap.size := (World.ownsRow.lt r12 b12 rfl).2
     have hHeld := SF.out _ HU.out
     clear hU r10 r12
     refine wpAnyH_ready (rs := [5, 16]) (by kernel_rfl) (by simp) ?_
     refine AllReadyH.cons (o := _) rfl (fun K hK => ?_) ?_
     ·skip
      go_simp
      have hb := Below.alloc (Below.refl u.heap.size u) (Nat.le_refl _) (.cells #[] 3)
      have hu2 := more HU.out (Nat.le_refl _) hb
      refine hK.out _ _ (SF.out _ hu2) (fun hHeld2 => ?_)
      clear hHeld2 hK K hHeld
      (try simp only [Act.put, qa, qb, qc, qd, qe, qf])
      obtain ⟨b5, hbo⟩ : ∃ q, u.heap.size = q := ⟨_, rfl⟩
      obtain ⟨u2, hN⟩ : ∃ q, (u.alloc (.cells #[] 3)) = q := ⟨_, rfl⟩
      rw [hN, hbo]
      exact hT_5_10_12.out b5 b10 b12 u2 (by subst hN hbo; exact ⟨hu2, ⟨rfl, .inr ⟨u.heap.size, 0, #[], rfl, HU.out.size, World.alloc_heap_new u _, Nat.le_refl _, by decide, rfl, rfl⟩⟩, (hb.cell (p := ⟨b10, 0, none⟩) l10).trans Ro10.out, ownsRow_below Ro12.out hb, (by omega), (by omega), N10_12⟩)
     refine AllReadyH.cons (o := _) rfl (fun K hK => ?_) AllReadyH.nil
     go_simp
     have hb := Below.alloc (Below.refl u.heap.size u) (Nat.le_refl _) (.cells #[.int .i64 k] 3)
     have hu2 := more HU.out (Nat.le_refl _) hb
     refine hK.out _ _ (SF.out _ hu2) (fun hHeld2 => ?_)
     clear hHeld2 hK K hHeld
     (try simp only [Act.put, qa, qb, qc, qd, qe, qf])
     obtain ⟨b16, hbo⟩ : ∃ q, u.heap.size = q := ⟨_, rfl⟩
     obtain ⟨u2, hN⟩ : ∃ q, (u.alloc (.cells #[.int .i64 k] 3)) = q := ⟨_, rfl⟩
     rw [hN, hbo]
     exact hT_10_12_16.out b10 b12 b16 u2 (by subst hN hbo; exact ⟨hu2, (hb.cell (p := ⟨b10, 0, none⟩) l10).trans Ro10.out, ownsRow_below Ro12.out hb, (by rw [World.cell?_alloc_new]; rfl), N10_12, (by omega), (by omega)⟩)
    ·rintro b10 b16 u ⟨hU, r10, r16, N10_16⟩
     have HU := Lib.hid hU
     have Ro10 := Lib.hid r10
     have l10 : b10 < u.heap.size := World.block_lt_of_cell? u _ r10
     have Ro16 := Lib.hid r16
     have l16 : b16 < u.heap.size := World.block_lt_of_cell? u _ r16
     have hHeld := SF.out _ HU.out
     clear hU r10 r16
     refine wpAnyH_ready (rs := [5, 12]) (by kernel_rfl) (by simp) ?_
     refine AllReadyH.cons (o := _) rfl (fun K hK => ?_) ?_
     ·skip
      go_simp
      have hb := Below.alloc (Below.refl u.heap.size u) (Nat.le_refl _) (.cells #[] 3)
      have hu2 := more HU.out (Nat.le_refl _) hb
      refine hK.out _ _ (SF.out _ hu2) (fun hHeld2 => ?_)
      clear hHeld2 hK K hHeld
      (try simp only [Act.put, qa, qb, qc, qd, qe, qf])
      obtain ⟨b5, hbo⟩ : ∃ q, u.heap.size = q := ⟨_, rfl⟩
      obtain ⟨u2, hN⟩ : ∃ q, (u.alloc (.cells #[] 3)) = q := ⟨_, rfl⟩
      rw [hN, hbo]
      exact hT_5_10_16.out b5 b10 b16 u2 (by subst hN hbo; exact ⟨hu2, ⟨rfl, .inr ⟨u.heap.size, 0, #[], rfl, HU.out.size, World.alloc_heap_new u _, Nat.le_refl _, by decide, rfl, rfl⟩⟩, (hb.cell (p := ⟨b10, 0, none⟩) l10).trans Ro10.out, (hb.cell (p := ⟨b16, 0, none⟩) l16).trans Ro16.out, (by omega), (by omega), N10_16⟩)
     refine AllReadyH.cons (o := _) rfl (fun K hK => ?_) AllReadyH.nil
     go_simp
     have hb := Below.alloc (Below.refl u.heap.size u) (Nat.le_refl _) (.cells #[] 3)
     have hu2 := more HU.out (Nat.le_refl _) hb
     refine hK.out _ _ (SF.out _ hu2) (fun hHeld2 => ?_)
     clear hHeld2 hK K hHeld
     (try simp only [Act.put, qa, qb, qc, qd, qe, qf])
     obtain ⟨b12, hbo⟩ : ∃ q, u.heap.size = q := ⟨_, rfl⟩
     obtain ⟨u2, hN⟩ : ∃ q, (u.alloc (.cells #[] 3)) = q := ⟨_, rfl⟩
     rw [hN, hbo]
     exact hT_10_12_16.out b10 b12 b16 u2 (by subst hN hbo; exact ⟨hu2, (hb.cell (p := ⟨b10, 0, none⟩) l10).trans Ro10.out, ⟨rfl, .inr ⟨u.heap.size, 0, #[], rfl, HU.out.size, World.alloc_heap_new u _, Nat.le_refl _, by decide, rfl, rfl⟩⟩, (hb.cell (p := ⟨b16, 0, none⟩) l16).trans Ro16.out, (by omega), N10_16, (by omega)⟩)
    ·rintro b12 b16 u ⟨hU, r12, r16, N12_16⟩
     have HU := Lib.hid hU
     have Ro12 := Lib.hid r12
     have l12 : b12 < u.heap.size := (World.ownsRow.lt r12 b12 rfl).2
     have Ro16 := Lib.hid r16
     have l16 : b16 < u.heap.size := World.block_lt_of_cell? u _ r16
     have hHeld := SF.out _ HU.out
     clear hU r12 r16
     refine wpAnyH_ready (rs := [5, 10]) (by kernel_rfl) (by simp) ?_
     refine AllReadyH.cons (o := _) rfl (fun K hK => ?_) ?_
     ·skip
      go_simp
      have hb := Below.alloc (Below.refl u.heap.size u) (Nat.le_refl _) (.cells #[] 3)
      have hu2 := more HU.out (Nat.le_refl _) hb
      refine hK.out _ _ (SF.out _ hu2) (fun hHeld2 => ?_)
      clear hHeld2 hK K hHeld
      (try simp only [Act.put, qa, qb, qc, qd, qe, qf])
      obtain ⟨b5, hbo⟩ : ∃ q, u.heap.size = q := ⟨_, rfl⟩
      obtain ⟨u2, hN⟩ : ∃ q, (u.alloc (.cells #[] 3)) = q := ⟨_, rfl⟩
      rw [hN, hbo]
      exact hT_5_12_16.out b5 b12 b16 u2 (by subst hN hbo; exact ⟨hu2, ⟨rfl, .inr ⟨u.heap.size, 0, #[], rfl, HU.out.size, World.alloc_heap_new u _, Nat.le_refl _, by decide, rfl, rfl⟩⟩, ownsRow_below Ro12.out hb, (hb.cell (p := ⟨b16, 0, none⟩) l16).trans Ro16.out, (by omega), (by omega), N12_16⟩)
     refine AllReadyH.cons (o := _) rfl (fun K hK => ?_) AllReadyH.nil
     go_simp
     have hb := Below.alloc (Below.refl u.heap.size u) (Nat.le_refl _) (.cells #[.int .i64 tn] 3)
     have hu2 := more HU.out (Nat.le_refl _) hb
     refine hK.out _ _ (SF.out _ hu2) (fun hHeld2 => ?_)
     clear hHeld2 hK K hHeld
     (try simp only [Act.put, qa, qb, qc, qd, qe, qf])
     obtain ⟨b10, hbo⟩ : ∃ q, u.heap.size = q := ⟨_, rfl⟩
     obtain ⟨u2, hN⟩ : ∃ q, (u.alloc (.cells #[.int .i64 tn] 3)) = q := ⟨_, rfl⟩
     rw [hN, hbo]
     exact hT_10_12_16.out b10 b12 b16 u2 (by subst hN hbo; exact ⟨hu2, (by rw [World.cell?_alloc_new]; rfl), ownsRow_below Ro12.out hb, (hb.cell (p := ⟨b16, 0, none⟩) l16).trans Ro16.out, (by omega), (by omega), N12_16⟩)
    ·rintro b5 b7 c7 b10 u ⟨hU, r7, r10, N7_10⟩
     have HU := Lib.hid hU
     have Ro7 := Lib.hid r7
     have l7 : b7 < u.heap.size := (World.ownsRow.lt r7 b7 rfl).2
     have Ro10 := Lib.hid r10
     have l10 : b10 < u.heap.size := World.block_lt_of_cell? u _ r10
     have hHeld := SF.out _ HU.out
     clear hU r7 r10
     refine wpAnyH_ready (rs := [11, 12, 16]) (by kernel_rfl) (by simp) ?_
     refine AllReadyH.cons (o := _) rfl (fun K hK => ?_) ?_
     ·skip
      refine step_add_way2 (by rfl) (.tmp 40) (.tmp 43) (by rfl) wr.heap.size b7 c7 gn ab (by rfl) HGN.out Ro7.out ⟨b10, 0, none⟩ 1 tn (by rfl) Ro10.out (by omega) HU.out.size ?_
      intro b11 c11 u2 hw hg hat
      have hu2 := HU.out.grown hg HU.out.size (fun k e => by cases e; exact (World.ownsRow.lt Ro7.out b7 rfl).1)
      refine hK.out _ _ (SF.out _ hu2) (fun hHeld2 => ?_)
      clear hHeld2 hK K hHeld
      (try simp only [Act.put, qa, qb, qc, qd, qe, qf])
      exact hT_5_7_10_11.out b5 b7 c7 b10 b11 c11 u2 ⟨hu2, hw⟩
     refine AllReadyH.cons (o := _) rfl (fun K hK => ?_) ?_
     ·skip
      go_simp
      have hb := Below.alloc (Below.refl u.heap.size u) (Nat.le_refl _) (.cells #[] 3)
      have hu2 := more HU.out (Nat.le_refl _) hb
      refine hK.out _ _ (SF.out _ hu2) (fun hHeld2 => ?_)
      clear hHeld2 hK K hHeld
      (try simp only [Act.put, qa, qb, qc, qd, qe, qf])
      obtain ⟨b12, hbo⟩ : ∃ q, u.heap.size = q := ⟨_, rfl⟩
      obtain ⟨u2, hN⟩ : ∃ q, (u.alloc (.cells #[] 3)) = q := ⟨_, rfl⟩
      rw [hN, hbo]
      exact hT_5_7_10_12.out b5 b7 c7 b10 b12 u2 (by subst hN hbo; exact ⟨hu2, Ro7.out.later hb, (hb.cell (p := ⟨b10, 0, none⟩) l10).trans Ro10.out, ⟨rfl, .inr ⟨u.heap.size, 0, #[], rfl, HU.out.size, World.alloc_heap_new u _, Nat.le_refl _, by decide, rfl, rfl⟩⟩, N7_10, (by omega), (by omega)⟩)
     refine AllReadyH.cons (o := _) rfl (fun K hK => ?_) AllReadyH.nil
     go_simp
     have hb := Below.alloc (Below.refl u.heap.size u) (Nat.le_refl _) (.cells #[.int .i64 k] 3)
     have hu2 := more HU.out (Nat.le_refl _) hb
     refine hK.out _ _ (SF.out _ hu2) (fun hHeld2 => ?_)
     clear hHeld2 hK K hHeld
     (try simp only [Act.put, qa, qb, qc, qd, qe, qf])
     obtain ⟨b16, hbo⟩ : ∃ q, u.heap.size = q := ⟨_, rfl⟩
     obtain ⟨u2, hN⟩ : ∃ q, (u.alloc (.cells #[.int .i64 k] 3)) = q := ⟨_, rfl⟩
     rw [hN, hbo]
     exact hT_5_7_10_16.out b5 b7 c7 b10 b16 u2 (by subst hN hbo; exact ⟨hu2, Ro7.out.later hb, (hb.cell (p := ⟨b10, 0, none⟩) l10).trans Ro10.out, (by rw [World.cell?_alloc_new]; rfl), N7_10, (by omega), (by omega)⟩)
    ·rintro b5 b7 c7 b12 u ⟨hU, r7, r12, N7_12⟩
     have HU := Lib.hid hU
     have Ro7 := Lib.hid r7
     have l7 : b7 < u.heap.size := (World.ownsRow.lt r7 b7 rfl).2
     have Ro12 := Lib.hid r12
     have l12 : b12 < u.heap.size := (World.ownsRow.lt r12 b12 rfl).2
     have hHeld := SF.out _ HU.out
     clear hU r7 r12
     refine wpAnyH_ready (rs := [10, 16]) (by kernel_rfl) (by simp) ?_
     refine AllReadyH.cons (o := _) rfl (fun K hK => ?_) ?_
     ·skip
      go_simp
      have hb := Below.alloc (Below.refl u.heap.size u) (Nat.le_refl _) (.cells #[.int .i64 tn] 3)
      have hu2 := more HU.out (Nat.le_refl _) hb
      refine hK.out _ _ (SF.out _ hu2) (fun hHeld2 => ?_)
      clear hHeld2 hK K hHeld
      (try simp only [Act.put, qa, qb, qc, qd, qe, qf])
      obtain ⟨b10, hbo⟩ : ∃ q, u.heap.size = q := ⟨_, rfl⟩
      obtain ⟨u2, hN⟩ : ∃ q, (u.alloc (.cells #[.int .i64 tn] 3)) = q := ⟨_, rfl⟩
      rw [hN, hbo]
      exact hT_5_7_10_12.out b5 b7 c7 b10 b12 u2 (by subst hN hbo; exact ⟨hu2, Ro7.out.later hb, (by rw [World.cell?_alloc_new]; rfl), ownsRow_below Ro12.out hb, (by omega), N7_12, (by omega)⟩)
     refine AllReadyH.cons (o := _) rfl (fun K hK => ?_) AllReadyH.nil
     go_simp
     have hb := Below.alloc (Below.refl u.heap.size u) (Nat.le_refl _) (.cells #[.int .i64 k] 3)
     have hu2 := more HU.out (Nat.le_refl _) hb
     refine hK.out _ _ (SF.out _ hu2) (fun hHeld2 => ?_)
     clear hHeld2 hK K hHeld
     (try simp only [Act.put, qa, qb, qc, qd, qe, qf])
     obtain ⟨b16, hbo⟩ : ∃ q, u.heap.size = q := ⟨_, rfl⟩
     obtain ⟨u2, hN⟩ : ∃ q, (u.alloc (.cells #[.int .i64 k] 3)) = q := ⟨_, rfl⟩
     rw [hN, hbo]
     exact hT_5_7_12_16.out b5 b7 c7 b12 b16 u2 (by subst hN hbo; exact ⟨hu2, Ro7.out.later hb, ownsRow_below Ro12.out hb, (by rw [World.cell?_alloc_new]; rfl), N7_12, (by omega), (by omega)⟩)
    ·rintro b5 b7 c7 b16 u ⟨hU, r7, r16, N7_16⟩
     have HU := Lib.hid hU
     have Ro7 := Lib.hid r7
     have l7 : b7 < u.heap.size := (World.ownsRow.lt r7 b7 rfl).2
     have Ro16 := Lib.hid r16
     have l16 : b16 < u.heap.size := World.block_lt_of_cell? u _ r16
     have hHeld := SF.out _ HU.out
     clear hU r7 r16
     refine wpAnyH_ready (rs := [10, 12]) (by kernel_rfl) (by simp) ?_
     refine AllReadyH.cons (o := _) rfl (fun K hK => ?_) ?_
     ·skip
      go_simp
      have hb := Below.alloc (Below.refl u.heap.size u) (Nat.le_refl _) (.cells #[.int .i64 tn] 3)
      have hu2 := more HU.out (Nat.le_refl _) hb
      refine hK.out _ _ (SF.out _ hu2) (fun hHeld2 => ?_)
      clear hHeld2 hK K hHeld
      (try simp only [Act.put, qa, qb, qc, qd, qe, qf])
      obtain ⟨b10, hbo⟩ : ∃ q, u.heap.size = q := ⟨_, rfl⟩
      obtain ⟨u2, hN⟩ : ∃ q, (u.alloc (.cells #[.int .i64 tn] 3)) = q := ⟨_, rfl⟩
      rw [hN, hbo]
      exact hT_5_7_10_16.out b5 b7 c7 b10 b16 u2 (by subst hN hbo; exact ⟨hu2, Ro7.out.later hb, (by rw [World.cell?_alloc_new]; rfl), (hb.cell (p := ⟨b16, 0, none⟩) l16).trans Ro16.out, (by omega), N7_16, (by omega)⟩)
     refine AllReadyH.cons (o := _) rfl (fun K hK => ?_) AllReadyH.nil
     go_simp
     have hb := Below.alloc (Below.refl u.heap.size u) (Nat.le_refl _) (.cells #[] 3)
     have hu2 := more HU.out (Nat.le_refl _) hb
     refine hK.out _ _ (SF.out _ hu2) (fun hHeld2 => ?_)
     clear hHeld2 hK K hHeld
     (try simp only [Act.put, qa, qb, qc, qd, qe, qf])
     obtain ⟨b12, hbo⟩ : ∃ q, u.heap.size = q := ⟨_, rfl⟩
     obtain ⟨u2, hN⟩ : ∃ q, (u.alloc (.cells #[] 3)) = q := ⟨_, rfl⟩
     rw [hN, hbo]
     exact hT_5_7_12_16.out b5 b7 c7 b12 b16 u2 (by subst hN hbo; exact ⟨hu2, Ro7.out.later hb, ⟨rfl, .inr ⟨u.heap.size, 0, #[], rfl, HU.out.size, World.alloc_heap_new u _, Nat.le_refl _, by decide, rfl, rfl⟩⟩, (hb.cell (p := ⟨b16, 0, none⟩) l16).trans Ro16.out, (by omega), N7_16, (by omega)⟩)
    ·rintro b5 b10 b12 u ⟨hU, r5, r10, r12, N5_10, N5_12, N10_12⟩
     have HU := Lib.hid hU
     have Ro5 := Lib.hid r5
     have l5 : b5 < u.heap.size := (World.ownsRow.lt r5 b5 rfl).2
     have Ro10 := Lib.hid r10
     have l10 : b10 < u.heap.size := World.block_lt_of_cell? u _ r10
     have Ro12 := Lib.hid r12
     have l12 : b12 < u.heap.size := (World.ownsRow.lt r12 b12 rfl).2
     have hHeld := SF.out _ HU.out
     clear hU r5 r10 r12
     refine wpAnyH_ready (rs := [7, 16]) (by kernel_rfl) (by simp) ?_
     refine AllReadyH.cons (o := _) rfl (fun K hK => ?_) ?_
     ·skip
      refine step_clone_way2 (by rfl) (.tmp 38) (.tmp 39) (by rfl) wr.heap.size b5 (by rfl) Ro5.out w0.heap.size g cw gn ab (by rfl) HGN.out (HWG.out.later HU.out) (by omega) HU.out.size ?_
      intro b7 c7 u2 hw hg hat
      have hu2 := HU.out.grown hg HU.out.size (fun k e => by cases e; exact (World.ownsRow.lt Ro5.out b5 rfl).1)
      refine hK.out _ _ (SF.out _ hu2) (fun hHeld2 => ?_)
      clear hHeld2 hK K hHeld
      (try simp only [Act.put, qa, qb, qc, qd, qe, qf])
      exact hT_5_7_10_12.out b5 b7 c7 b10 b12 u2 ⟨hu2, hw, cell_hold Ro10.out hg (fun e => N5_10 e), row_hold Ro12.out hg (fun e => N5_12 e), (by have := N5_10; omega), (by have := N5_12; omega), N10_12⟩
     refine AllReadyH.cons (o := _) rfl (fun K hK => ?_) AllReadyH.nil
     go_simp
     have hb := Below.alloc (Below.refl u.heap.size u) (Nat.le_refl _) (.cells #[.int .i64 k] 3)
     have hu2 := more HU.out (Nat.le_refl _) hb
     refine hK.out _ _ (SF.out _ hu2) (fun hHeld2 => ?_)
     clear hHeld2 hK K hHeld
     (try simp only [Act.put, qa, qb, qc, qd, qe, qf])
     obtain ⟨b16, hbo⟩ : ∃ q, u.heap.size = q := ⟨_, rfl⟩
     obtain ⟨u2, hN⟩ : ∃ q, (u.alloc (.cells #[.int .i64 k] 3)) = q := ⟨_, rfl⟩
     rw [hN, hbo]
     exact hT_5_10_12_16.out b5 b10 b12 b16 u2 (by subst hN hbo; exact ⟨hu2, ownsRow_below Ro5.out hb, (hb.cell (p := ⟨b10, 0, none⟩) l10).trans Ro10.out, ownsRow_below Ro12.out hb, (by rw [World.cell?_alloc_new]; rfl), N5_10, N5_12, (by omega), N10_12, (by omega), (by omega)⟩)
    ·rintro b5 b10 b16 u ⟨hU, r5, r10, r16, N5_10, N5_16, N10_16⟩
     have HU := Lib.hid hU
     have Ro5 := Lib.hid r5
     have l5 : b5 < u.heap.size := (World.ownsRow.lt r5 b5 rfl).2
     have Ro10 := Lib.hid r10
     have l10 : b10 < u.heap.size := World.block_lt_of_cell? u _ r10
     have Ro16 := Lib.hid r16
     have l16 : b16 < u.heap.size := World.block_lt_of_cell? u _ r16
     have hHeld := SF.out _ HU.out
     clear hU r5 r10 r16
     refine wpAnyH_ready (rs := [7, 12]) (by kernel_rfl) (by simp) ?_
     refine AllReadyH.cons (o := _) rfl (fun K hK => ?_) ?_
     ·skip
      refine step_clone_way2 (by rfl) (.tmp 38) (.tmp 39) (by rfl) wr.heap.size b5 (by rfl) Ro5.out w0.heap.size g cw gn ab (by rfl) HGN.out (HWG.out.later HU.out) (by omega) HU.out.size ?_
      intro b7 c7 u2 hw hg hat
      have hu2 := HU.out.grown hg HU.out.size (fun k e => by cases e; exact (World.ownsRow.lt Ro5.out b5 rfl).1)
      refine hK.out _ _ (SF.out _ hu2) (fun hHeld2 => ?_)
      clear hHeld2 hK K hHeld
      (try simp only [Act.put, qa, qb, qc, qd, qe, qf])
      exact hT_5_7_10_16.out b5 b7 c7 b10 b16 u2 ⟨hu2, hw, cell_hold Ro10.out hg (fun e => N5_10 e), cell_hold Ro16.out hg (fun e => N5_16 e), (by have := N5_10; omega), (by have := N5_16; omega), N10_16⟩
     refine AllReadyH.cons (o := _) rfl (fun K hK => ?_) AllReadyH.nil
     go_simp
     have hb := Below.alloc (Below.refl u.heap.size u) (Nat.le_refl _) (.cells #[] 3)
     have hu2 := more HU.out (Nat.le_refl _) hb
     refine hK.out _ _ (SF.out _ hu2) (fun hHeld2 => ?_)
     clear hHeld2 hK K hHeld
     (try simp only [Act.put, qa, qb, qc, qd, qe, qf])
     obtain ⟨b12, hbo⟩ : ∃ q, u.heap.size = q := ⟨_, rfl⟩
     obtain ⟨u2, hN⟩ : ∃ q, (u.alloc (.cells #[] 3)) = q := ⟨_, rfl⟩
     rw [hN, hbo]
     exact hT_5_10_12_16.out b5 b10 b12 b16 u2 (by subst hN hbo; exact ⟨hu2, ownsRow_below Ro5.out hb, (hb.cell (p := ⟨b10, 0, none⟩) l10).trans Ro10.out, ⟨rfl, .inr ⟨u.heap.size, 0, #[], rfl, HU.out.size, World.alloc_heap_new u _, Nat.le_refl _, by decide, rfl, rfl⟩⟩, (hb.cell (p := ⟨b16, 0, none⟩) l16).trans Ro16.out, N5_10, (by omega), N5_16, (by omega), N10_16, (by omega)⟩)
    ·rintro b5 b12 b16 u ⟨hU, r5, r12, r16, N5_12, N5_16, N12_16⟩
     have HU := Lib.hid hU
     have Ro5 := Lib.hid r5
     have l5 : b5 < u.heap.size := (World.ownsRow.lt r5 b5 rfl).2
     have Ro12 := Lib.hid r12
     have l12 : b12 < u.heap.size := (World.ownsRow.lt r12 b12 rfl).2
     have Ro16 := Lib.hid r16
     have l16 : b16 < u.heap.size := World.block_lt_of_cell? u _ r16
     have hHeld := SF.out _ HU.out
     clear hU r5 r12 r16
     refine wpAnyH_ready (rs := [7, 10]) (by kernel_rfl) (by simp) ?_
     refine AllReadyH.cons (o := _) rfl (fun K hK => ?_) ?_
     ·skip
      refine step_clone_way2 (by rfl) (.tmp 38) (.tmp 39) (by rfl) wr.heap.size b5 (by rfl) Ro5.out w0.heap.size g cw gn ab (by rfl) HGN.out (HWG.out.later HU.out) (by omega) HU.out.size ?_
      intro b7 c7 u2 hw hg hat
      have hu2 := HU.out.grown hg HU.out.size (fun k e => by cases e; exact (World.ownsRow.lt Ro5.out b5 rfl).1)
      refine hK.out _ _ (SF.out _ hu2) (fun hHeld2 => ?_)
      clear hHeld2 hK K hHeld
      (try simp only [Act.put, qa, qb, qc, qd, qe, qf])
      exact hT_5_7_12_16.out b5 b7 c7 b12 b16 u2 ⟨hu2, hw, row_hold Ro12.out hg (fun e => N5_12 e), cell_hold Ro16.out hg (fun e => N5_16 e), (by have := N5_12; omega), (by have := N5_16; omega), N12_16⟩
     refine AllReadyH.cons (o := _) rfl (fun K hK => ?_) AllReadyH.nil
     go_simp
     have hb := Below.alloc (Below.refl u.heap.size u) (Nat.le_refl _) (.cells #[.int .i64 tn] 3)
     have hu2 := more HU.out (Nat.le_refl _) hb
     refine hK.out _ _ (SF.out _ hu2) (fun hHeld2 => ?_)
     clear hHeld2 hK K hHeld
     (try simp only [Act.put, qa, qb, qc, qd, qe, qf])
     obtain ⟨b10, hbo⟩ : ∃ q, u.heap.size = q := ⟨_, rfl⟩
     obtain ⟨u2, hN⟩ : ∃ q, (u.alloc (.cells #[.int .i64 tn] 3)) = q := ⟨_, rfl⟩
     rw [hN, hbo]
     exact hT_5_10_12_16.out b5 b10 b12 b16 u2 (by subst hN hbo; exact ⟨hu2, ownsRow_below Ro5.out hb, (by rw [World.cell?_alloc_new]; rfl), ownsRow_below Ro12.out hb, (hb.cell (p := ⟨b16, 0, none⟩) l16).trans Ro16.out, (by omega), N5_12, N5_16, (by omega), (by omega), N12_16⟩)
    ·rintro b10 b12 b16 u ⟨hU, r10, r12, r16, N10_12, N10_16, N12_16⟩
     have HU := Lib.hid hU
     have Ro10 := Lib.hid r10
     have l10 : b10 < u.heap.size := World.block_lt_of_cell? u _ r10
     have Ro12 := Lib.hid r12
     have l12 : b12 < u.heap.size := (World.ownsRow.lt r12 b12 rfl).2
     have Ro16 := Lib.hid r16
     have l16 : b16 < u.heap.size := World.block_lt_of_cell? u _ r16
     have hHeld := SF.out _ HU.out
     clear hU r10 r12 r16
     refine wpAnyH_ready (rs := [5]) (by kernel_rfl) (by simp) ?_
     refine AllReadyH.cons (o := _) rfl (fun K hK => ?_) AllReadyH.nil
     go_simp
     have hb := Below.alloc (Below.refl u.heap.size u) (Nat.le_refl _) (.cells #[] 3)
     have hu2 := more HU.out (Nat.le_refl _) hb
     refine hK.out _ _ (SF.out _ hu2) (fun hHeld2 => ?_)
     clear hHeld2 hK K hHeld
     (try simp only [Act.put, qa, qb, qc, qd, qe, qf])
     obtain ⟨b5, hbo⟩ : ∃ q, u.heap.size = q := ⟨_, rfl⟩
     obtain ⟨u2, hN⟩ : ∃ q, (u.alloc (.cells #[] 3)) = q := ⟨_, rfl⟩
     rw [hN, hbo]
     exact hT_5_10_12_16.out b5 b10 b12 b16 u2 (by subst hN hbo; exact ⟨hu2, ⟨rfl, .inr ⟨u.heap.size, 0, #[], rfl, HU.out.size, World.alloc_heap_new u _, Nat.le_refl _, by decide, rfl, rfl⟩⟩, (hb.cell (p := ⟨b10, 0, none⟩) l10).trans Ro10.out, ownsRow_below Ro12.out hb, (hb.cell (p := ⟨b16, 0, none⟩) l16).trans Ro16.out, (by omega), (by omega), (by omega), N10_12, N10_16, N12_16⟩)
    ·rintro b5 b7 c7 b10 b11 c11 u ⟨hU, r11⟩
     have HU := Lib.hid hU
     have Ro11 := Lib.hid r11
     have l11 : b11 < u.heap.size := (World.ownsRow.lt r11 b11 rfl).2
     have hHeld := SF.out _ HU.out
     clear hU r11
     refine wpAnyH_ready (rs := [12, 16]) (by kernel_rfl) (by simp) ?_
     refine AllReadyH.cons (o := _) rfl (fun K hK => ?_) ?_
     ·skip
      go_simp
      have hb := Below.alloc (Below.refl u.heap.size u) (Nat.le_refl _) (.cells #[] 3)
      have hu2 := more HU.out (Nat.le_refl _) hb
      refine hK.out _ _ (SF.out _ hu2) (fun hHeld2 => ?_)
      clear hHeld2 hK K hHeld
      (try simp only [Act.put, qa, qb, qc, qd, qe, qf])
      obtain ⟨b12, hbo⟩ : ∃ q, u.heap.size = q := ⟨_, rfl⟩
      obtain ⟨u2, hN⟩ : ∃ q, (u.alloc (.cells #[] 3)) = q := ⟨_, rfl⟩
      rw [hN, hbo]
      exact hT_5_7_10_11_12.out b5 b7 c7 b10 b11 c11 b12 u2 (by subst hN hbo; exact ⟨hu2, Ro11.out.later hb, ⟨rfl, .inr ⟨u.heap.size, 0, #[], rfl, HU.out.size, World.alloc_heap_new u _, Nat.le_refl _, by decide, rfl, rfl⟩⟩, (by omega)⟩)
     refine AllReadyH.cons (o := _) rfl (fun K hK => ?_) AllReadyH.nil
     go_simp
     have hb := Below.alloc (Below.refl u.heap.size u) (Nat.le_refl _) (.cells #[.int .i64 k] 3)
     have hu2 := more HU.out (Nat.le_refl _) hb
     refine hK.out _ _ (SF.out _ hu2) (fun hHeld2 => ?_)
     clear hHeld2 hK K hHeld
     (try simp only [Act.put, qa, qb, qc, qd, qe, qf])
     obtain ⟨b16, hbo⟩ : ∃ q, u.heap.size = q := ⟨_, rfl⟩
     obtain ⟨u2, hN⟩ : ∃ q, (u.alloc (.cells #[.int .i64 k] 3)) = q := ⟨_, rfl⟩
     rw [hN, hbo]
     exact hT_5_7_10_11_16.out b5 b7 c7 b10 b11 c11 b16 u2 (by subst hN hbo; exact ⟨hu2, Ro11.out.later hb, (by rw [World.cell?_alloc_new]; rfl), (by omega)⟩)
    ·rintro b5 b7 c7 b10 b12 u ⟨hU, r7, r10, r12, N7_10, N7_12, N10_12⟩
     have HU := Lib.hid hU
     have Ro7 := Lib.hid r7
     have l7 : b7 < u.heap.size := (World.ownsRow.lt r7 b7 rfl).2
     have Ro10 := Lib.hid r10
     have l10 : b10 < u.heap.size := World.block_lt_of_cell? u _ r10
     have Ro12 := Lib.hid r12
     have l12 : b12 < u.heap.size := (World.ownsRow.lt r12 b12 rfl).2
     have hHeld := SF.out _ HU.out
     clear hU r7 r10 r12
     refine wpAnyH_ready (rs := [11, 16]) (by kernel_rfl) (by simp) ?_
     refine AllReadyH.cons (o := _) rfl (fun K hK => ?_) ?_
     ·skip
      refine step_add_way2 (by rfl) (.tmp 40) (.tmp 43) (by rfl) wr.heap.size b7 c7 gn ab (by rfl) HGN.out Ro7.out ⟨b10, 0, none⟩ 1 tn (by rfl) Ro10.out (by omega) HU.out.size ?_
      intro b11 c11 u2 hw hg hat
      have hu2 := HU.out.grown hg HU.out.size (fun k e => by cases e; exact (World.ownsRow.lt Ro7.out b7 rfl).1)
      refine hK.out _ _ (SF.out _ hu2) (fun hHeld2 => ?_)
      clear hHeld2 hK K hHeld
      (try simp only [Act.put, qa, qb, qc, qd, qe, qf])
      exact hT_5_7_10_11_12.out b5 b7 c7 b10 b11 c11 b12 u2 ⟨hu2, hw, row_hold Ro12.out hg (fun e => N7_12 e), (by have := N7_12; omega)⟩
     refine AllReadyH.cons (o := _) rfl (fun K hK => ?_) AllReadyH.nil
     go_simp
     have hb := Below.alloc (Below.refl u.heap.size u) (Nat.le_refl _) (.cells #[.int .i64 k] 3)
     have hu2 := more HU.out (Nat.le_refl _) hb
     refine hK.out _ _ (SF.out _ hu2) (fun hHeld2 => ?_)
     clear hHeld2 hK K hHeld
     (try simp only [Act.put, qa, qb, qc, qd, qe, qf])
     obtain ⟨b16, hbo⟩ : ∃ q, u.heap.size = q := ⟨_, rfl⟩
     obtain ⟨u2, hN⟩ : ∃ q, (u.alloc (.cells #[.int .i64 k] 3)) = q := ⟨_, rfl⟩
     rw [hN, hbo]
     exact hT_5_7_10_12_16.out b5 b7 c7 b10 b12 b16 u2 (by subst hN hbo; exact ⟨hu2, Ro7.out.later hb, (hb.cell (p := ⟨b10, 0, none⟩) l10).trans Ro10.out, ownsRow_below Ro12.out hb, (by rw [World.cell?_alloc_new]; rfl), N7_10, N7_12, (by omega), N10_12, (by omega), (by omega)⟩)
    ·rintro b5 b7 c7 b10 b16 u ⟨hU, r7, r10, r16, N7_10, N7_16, N10_16⟩
     have HU := Lib.hid hU
     have Ro7 := Lib.hid r7
     have l7 : b7 < u.heap.size := (World.ownsRow.lt r7 b7 rfl).2
     have Ro10 := Lib.hid r10
     have l10 : b10 < u.heap.size := World.block_lt_of_cell? u _ r10
     have Ro16 := Lib.hid r16
     have l16 : b16 < u.heap.size := World.block_lt_of_cell? u _ r16
     have hHeld := SF.out _ HU.out
     clear hU r7 r10 r16
     refine wpAnyH_ready (rs := [11, 12]) (by kernel_rfl) (by simp) ?_
     refine AllReadyH.cons (o := _) rfl (fun K hK => ?_) ?_
     ·skip
      refine step_add_way2 (by rfl) (.tmp 40) (.tmp 43) (by rfl) wr.heap.size b7 c7 gn ab (by rfl) HGN.out Ro7.out ⟨b10, 0, none⟩ 1 tn (by rfl) Ro10.out (by omega) HU.out.size ?_
      intro b11 c11 u2 hw hg hat
      have hu2 := HU.out.grown hg HU.out.size (fun k e => by cases e; exact (World.ownsRow.lt Ro7.out b7 rfl).1)
      refine hK.out _ _ (SF.out _ hu2) (fun hHeld2 => ?_)
      clear hHeld2 hK K hHeld
      (try simp only [Act.put, qa, qb, qc, qd, qe, qf])
      exact hT_5_7_10_11_16.out b5 b7 c7 b10 b11 c11 b16 u2 ⟨hu2, hw, cell_hold Ro16.out hg (fun e => N7_16 e), (by have := N7_16; omega)⟩
     refine AllReadyH.cons (o := _) rfl (fun K hK => ?_) AllReadyH.nil
     go_simp
     have hb := Below.alloc (Below.refl u.heap.size u) (Nat.le_refl _) (.cells #[] 3)
     have hu2 := more HU.out (Nat.le_refl _) hb
     refine hK.out _ _ (SF.out _ hu2) (fun hHeld2 => ?_)
     clear hHeld2 hK K hHeld
     (try simp only [Act.put, qa, qb, qc, qd, qe, qf])
     obtain ⟨b12, hbo⟩ : ∃ q, u.heap.size = q := ⟨_, rfl⟩
     obtain ⟨u2, hN⟩ : ∃ q, (u.alloc (.cells #[] 3)) = q := ⟨_, rfl⟩
     rw [hN, hbo]
     exact hT_5_7_10_12_16.out b5 b7 c7 b10 b12 b16 u2 (by subst hN hbo; exact ⟨hu2, Ro7.out.later hb, (hb.cell (p := ⟨b10, 0, none⟩) l10).trans Ro10.out, ⟨rfl, .inr ⟨u.heap.size, 0, #[], rfl, HU.out.size, World.alloc_heap_new u _, Nat.le_refl _, by decide, rfl, rfl⟩⟩, (hb.cell (p := ⟨b16, 0, none⟩) l16).trans Ro16.out, N7_10, (by omega), N7_16, (by omega), N10_16, (by omega)⟩)
    ·rintro b5 b7 c7 b12 b16 u ⟨hU, r7, r12, r16, N7_12, N7_16, N12_16⟩
     have HU := Lib.hid hU
     have Ro7 := Lib.hid r7
     have l7 : b7 < u.heap.size := (World.ownsRow.lt r7 b7 rfl).2
     have Ro12 := Lib.hid r12
     have l12 : b12 < u.heap.size := (World.ownsRow.lt r12 b12 rfl).2
     have Ro16 := Lib.hid r16
     have l16 : b16 < u.heap.size := World.block_lt_of_cell? u _ r16
     have hHeld := SF.out _ HU.out
     clear hU r7 r12 r16
     refine wpAnyH_ready (rs := [10]) (by kernel_rfl) (by simp) ?_
     refine AllReadyH.cons (o := _) rfl (fun K hK => ?_) AllReadyH.nil
     go_simp
     have hb := Below.alloc (Below.refl u.heap.size u) (Nat.le_refl _) (.cells #[.int .i64 tn] 3)
     have hu2 := more HU.out (Nat.le_refl _) hb
     refine hK.out _ _ (SF.out _ hu2) (fun hHeld2 => ?_)
     clear hHeld2 hK K hHeld
     (try simp only [Act.put, qa, qb, qc, qd, qe, qf])
     obtain ⟨b10, hbo⟩ : ∃ q, u.heap.size = q := ⟨_, rfl⟩
     obtain ⟨u2, hN⟩ : ∃ q, (u.alloc (.cells #[.int .i64 tn] 3)) = q := ⟨_, rfl⟩
     rw [hN, hbo]
     exact hT_5_7_10_12_16.out b5 b7 c7 b10 b12 b16 u2 (by subst hN hbo; exact ⟨hu2, Ro7.out.later hb, (by rw [World.cell?_alloc_new]; rfl), ownsRow_below Ro12.out hb, (hb.cell (p := ⟨b16, 0, none⟩) l16).trans Ro16.out, (by omega), N7_12, N7_16, (by omega), (by omega), N12_16⟩)
    ·rintro b5 b10 b12 b16 u ⟨hU, r5, r10, r12, r16, N5_10, N5_12, N5_16, N10_12, N10_16, N12_16⟩
     have HU := Lib.hid hU
     have Ro5 := Lib.hid r5
     have l5 : b5 < u.heap.size := (World.ownsRow.lt r5 b5 rfl).2
     have Ro10 := Lib.hid r10
     have l10 : b10 < u.heap.size := World.block_lt_of_cell? u _ r10
     have Ro12 := Lib.hid r12
     have l12 : b12 < u.heap.size := (World.ownsRow.lt r12 b12 rfl).2
     have Ro16 := Lib.hid r16
     have l16 : b16 < u.heap.size := World.block_lt_of_cell? u _ r16
     have hHeld := SF.out _ HU.out
     clear hU r5 r10 r12 r16
     refine wpAnyH_ready (rs := [7]) (by kernel_rfl) (by simp) ?_
     refine AllReadyH.cons (o := _) rfl (fun K hK => ?_) AllReadyH.nil
     refine step_clone_way2 (by rfl) (.tmp 38) (.tmp 39) (by rfl) wr.heap.size b5 (by rfl) Ro5.out w0.heap.size g cw gn ab (by rfl) HGN.out (HWG.out.later HU.out) (by omega) HU.out.size ?_
     intro b7 c7 u2 hw hg hat
     have hu2 := HU.out.grown hg HU.out.size (fun k e => by cases e; exact (World.ownsRow.lt Ro5.out b5 rfl).1)
     refine hK.out _ _ (SF.out _ hu2) (fun hHeld2 => ?_)
     clear hHeld2 hK K hHeld
     (try simp only [Act.put, qa, qb, qc, qd, qe, qf])
     exact hT_5_7_10_12_16.out b5 b7 c7 b10 b12 b16 u2 ⟨hu2, hw, cell_hold Ro10.out hg (fun e => N5_10 e), row_hold Ro12.out hg (fun e => N5_12 e), cell_hold Ro16.out hg (fun e => N5_16 e), (by have := N5_10; omega), (by have := N5_12; omega), (by have := N5_16; omega), N10_12, N10_16, N12_16⟩
    ·rintro b5 b7 c7 b10 b11 c11 b12 u ⟨hU, r11, r12, N11_12⟩
     have HU := Lib.hid hU
     have Ro11 := Lib.hid r11
     have l11 : b11 < u.heap.size := (World.ownsRow.lt r11 b11 rfl).2
     have Ro12 := Lib.hid r12
     have l12 : b12 < u.heap.size := (World.ownsRow.lt r12 b12 rfl).2
     have hHeld := SF.out _ HU.out
     clear hU r11 r12
     refine wpAnyH_ready (rs := [14, 16]) (by kernel_rfl) (by simp) ?_
     refine AllReadyH.cons (o := _) rfl (fun K hK => ?_) ?_
     ·skip
      refine step_clone_way2 (by rfl) (.tmp 45) (.tmp 46) (by rfl) wr.heap.size b12 (by rfl) Ro12.out w0.heap.size g2 cw2 wn way (by rfl) HWN.out (HWG2.out.later HU.out) (by omega) HU.out.size ?_
      intro b14 c14 u2 hw hg hat
      have hu2 := HU.out.grown hg HU.out.size (fun k e => by cases e; exact (World.ownsRow.lt Ro12.out b12 rfl).1)
      refine hK.out _ _ (SF.out _ hu2) (fun hHeld2 => ?_)
      clear hHeld2 hK K hHeld
      (try simp only [Act.put, qa, qb, qc, qd, qe, qf])
      exact hT_5_7_10_11_12_14.out b5 b7 c7 b10 b11 c11 b12 b14 c14 u2 ⟨hu2, row_hold Ro11.out hg (fun e => N11_12 e.symm), hw, (by have := N11_12; omega)⟩
     refine AllReadyH.cons (o := _) rfl (fun K hK => ?_) AllReadyH.nil
     go_simp
     have hb := Below.alloc (Below.refl u.heap.size u) (Nat.le_refl _) (.cells #[.int .i64 k] 3)
     have hu2 := more HU.out (Nat.le_refl _) hb
     refine hK.out _ _ (SF.out _ hu2) (fun hHeld2 => ?_)
     clear hHeld2 hK K hHeld
     (try simp only [Act.put, qa, qb, qc, qd, qe, qf])
     obtain ⟨b16, hbo⟩ : ∃ q, u.heap.size = q := ⟨_, rfl⟩
     obtain ⟨u2, hN⟩ : ∃ q, (u.alloc (.cells #[.int .i64 k] 3)) = q := ⟨_, rfl⟩
     rw [hN, hbo]
     exact hT_5_7_10_11_12_16.out b5 b7 c7 b10 b11 c11 b12 b16 u2 (by subst hN hbo; exact ⟨hu2, Ro11.out.later hb, ownsRow_below Ro12.out hb, (by rw [World.cell?_alloc_new]; rfl), N11_12, (by omega), (by omega)⟩)
    ·rintro b5 b7 c7 b10 b11 c11 b16 u ⟨hU, r11, r16, N11_16⟩
     have HU := Lib.hid hU
     have Ro11 := Lib.hid r11
     have l11 : b11 < u.heap.size := (World.ownsRow.lt r11 b11 rfl).2
     have Ro16 := Lib.hid r16
     have l16 : b16 < u.heap.size := World.block_lt_of_cell? u _ r16
     have hHeld := SF.out _ HU.out
     clear hU r11 r16
     refine wpAnyH_ready (rs := [12]) (by kernel_rfl) (by simp) ?_
     refine AllReadyH.cons (o := _) rfl (fun K hK => ?_) AllReadyH.nil
     go_simp
     have hb := Below.alloc (Below.refl u.heap.size u) (Nat.le_refl _) (.cells #[] 3)
     have hu2 := more HU.out (Nat.le_refl _) hb
     refine hK.out _ _ (SF.out _ hu2) (fun hHeld2 => ?_)
     clear hHeld2 hK K hHeld
     (try simp only [Act.put, qa, qb, qc, qd, qe, qf])
     obtain ⟨b12, hbo⟩ : ∃ q, u.heap.size = q := ⟨_, rfl⟩
     obtain ⟨u2, hN⟩ : ∃ q, (u.alloc (.cells #[] 3)) = q := ⟨_, rfl⟩
     rw [hN, hbo]
     exact hT_5_7_10_11_12_16.out b5 b7 c7 b10 b11 c11 b12 b16 u2 (by subst hN hbo; exact ⟨hu2, Ro11.out.later hb, ⟨rfl, .inr ⟨u.heap.size, 0, #[], rfl, HU.out.size, World.alloc_heap_new u _, Nat.le_refl _, by decide, rfl, rfl⟩⟩, (hb.cell (p := ⟨b16, 0, none⟩) l16).trans Ro16.out, (by omega), N11_16, (by omega)⟩)
    ·rintro b5 b7 c7 b10 b12 b16 u ⟨hU, r7, r10, r12, r16, N7_10, N7_12, N7_16, N10_12, N10_16, N12_16⟩
     have HU := Lib.hid hU
     have Ro7 := Lib.hid r7
     have l7 : b7 < u.heap.size := (World.ownsRow.lt r7 b7 rfl).2
     have Ro10 := Lib.hid r10
     have l10 : b10 < u.heap.size := World.block_lt_of_cell? u _ r10
     have Ro12 := Lib.hid r12
     have l12 : b12 < u.heap.size := (World.ownsRow.lt r12 b12 rfl).2
     have Ro16 := Lib.hid r16
     have l16 : b16 < u.heap.size := World.block_lt_of_cell? u _ r16
     have hHeld := SF.out _ HU.out
     clear hU r7 r10 r12 r16
     refine wpAnyH_ready (rs := [11]) (by kernel_rfl) (by simp) ?_
     refine AllReadyH.cons (o := _) rfl (fun K hK => ?_) AllReadyH.nil
     refine step_add_way2 (by rfl) (.tmp 40) (.tmp 43) (by rfl) wr.heap.size b7 c7 gn ab (by rfl) HGN.out Ro7.out ⟨b10, 0, none⟩ 1 tn (by rfl) Ro10.out (by omega) HU.out.size ?_
     intro b11 c11 u2 hw hg hat
     have hu2 := HU.out.grown hg HU.out.size (fun k e => by cases e; exact (World.ownsRow.lt Ro7.out b7 rfl).1)
     refine hK.out _ _ (SF.out _ hu2) (fun hHeld2 => ?_)
     clear hHeld2 hK K hHeld
     (try simp only [Act.put, qa, qb, qc, qd, qe, qf])
     exact hT_5_7_10_11_12_16.out b5 b7 c7 b10 b11 c11 b12 b16 u2 ⟨hu2, hw, row_hold Ro12.out hg (fun e => N7_12 e), cell_hold Ro16.out hg (fun e => N7_16 e), (by have := N7_12; omega), (by have := N7_16; omega), N12_16⟩
    ·rintro b5 b7 c7 b10 b11 c11 b12 b14 c14 u ⟨hU, r11, r14, N11_14⟩
     have HU := Lib.hid hU
     have Ro11 := Lib.hid r11
     have l11 : b11 < u.heap.size := (World.ownsRow.lt r11 b11 rfl).2
     have Ro14 := Lib.hid r14
     have l14 : b14 < u.heap.size := (World.ownsRow.lt r14 b14 rfl).2
     have hHeld := SF.out _ HU.out
     clear hU r11 r14
     refine wpAnyH_ready (rs := [16]) (by kernel_rfl) (by simp) ?_
     refine AllReadyH.cons (o := _) rfl (fun K hK => ?_) AllReadyH.nil
     go_simp
     have hb := Below.alloc (Below.refl u.heap.size u) (Nat.le_refl _) (.cells #[.int .i64 k] 3)
     have hu2 := more HU.out (Nat.le_refl _) hb
     refine hK.out _ _ (SF.out _ hu2) (fun hHeld2 => ?_)
     clear hHeld2 hK K hHeld
     (try simp only [Act.put, qa, qb, qc, qd, qe, qf])
     obtain ⟨b16, hbo⟩ : ∃ q, u.heap.size = q := ⟨_, rfl⟩
     obtain ⟨u2, hN⟩ : ∃ q, (u.alloc (.cells #[.int .i64 k] 3)) = q := ⟨_, rfl⟩
     rw [hN, hbo]
     exact hT_5_7_10_11_12_14_16.out b5 b7 c7 b10 b11 c11 b12 b14 c14 b16 u2 (by subst hN hbo; exact ⟨hu2, Ro11.out.later hb, Ro14.out.later hb, (by rw [World.cell?_alloc_new]; rfl), N11_14, (by omega), (by omega)⟩)
    ·rintro b5 b7 c7 b10 b11 c11 b12 b16 u ⟨hU, r11, r12, r16, N11_12, N11_16, N12_16⟩
     have HU := Lib.hid hU
     have Ro11 := Lib.hid r11
     have l11 : b11 < u.heap.size := (World.ownsRow.lt r11 b11 rfl).2
     have Ro12 := Lib.hid r12
     have l12 : b12 < u.heap.size := (World.ownsRow.lt r12 b12 rfl).2
     have Ro16 := Lib.hid r16
     have l16 : b16 < u.heap.size := World.block_lt_of_cell? u _ r16
     have hHeld := SF.out _ HU.out
     clear hU r11 r12 r16
     refine wpAnyH_ready (rs := [14]) (by kernel_rfl) (by simp) ?_
     refine AllReadyH.cons (o := _) rfl (fun K hK => ?_) AllReadyH.nil
     refine step_clone_way2 (by rfl) (.tmp 45) (.tmp 46) (by rfl) wr.heap.size b12 (by rfl) Ro12.out w0.heap.size g2 cw2 wn way (by rfl) HWN.out (HWG2.out.later HU.out) (by omega) HU.out.size ?_
     intro b14 c14 u2 hw hg hat
     have hu2 := HU.out.grown hg HU.out.size (fun k e => by cases e; exact (World.ownsRow.lt Ro12.out b12 rfl).1)
     refine hK.out _ _ (SF.out _ hu2) (fun hHeld2 => ?_)
     clear hHeld2 hK K hHeld
     (try simp only [Act.put, qa, qb, qc, qd, qe, qf])
     exact hT_5_7_10_11_12_14_16.out b5 b7 c7 b10 b11 c11 b12 b14 c14 b16 u2 ⟨hu2, row_hold Ro11.out hg (fun e => N11_12 e.symm), hw, cell_hold Ro16.out hg (fun e => N12_16 e), (by have := N11_12; omega), N11_16, (by have := N12_16; omega)⟩
    ·rintro b5 b7 c7 b10 b11 c11 b12 b14 c14 b16 u ⟨hU, r11, r14, r16, N11_14, N11_16, N14_16⟩
     have HU := Lib.hid hU
     have Ro11 := Lib.hid r11
     have l11 : b11 < u.heap.size := (World.ownsRow.lt r11 b11 rfl).2
     have Ro14 := Lib.hid r14
     have l14 : b14 < u.heap.size := (World.ownsRow.lt r14 b14 rfl).2
     have Ro16 := Lib.hid r16
     have l16 : b16 < u.heap.size := World.block_lt_of_cell? u _ r16
     have hHeld := SF.out _ HU.out
     clear hU r11 r14 r16
     refine wpAnyH_ready (rs := [17]) (by kernel_rfl) (by simp) ?_
     refine AllReadyH.cons (o := _) rfl (fun K hK => ?_) AllReadyH.nil
     refine step_add_way2 (by rfl) (.tmp 47) (.tmp 49) (by rfl) wr.heap.size b14 c14 wn way (by rfl) HWN.out Ro14.out ⟨b16, 0, none⟩ 1 k (by rfl) Ro16.out (by omega) HU.out.size ?_
     intro b17 c17 u2 hw hg hat
     have hu2 := HU.out.grown hg HU.out.size (fun k e => by cases e; exact (World.ownsRow.lt Ro14.out b14 rfl).1)
     refine hK.out _ _ (SF.out _ hu2) (fun hHeld2 => ?_)
     clear hHeld2 hK K hHeld
     (try simp only [Act.put, qa, qb, qc, qd, qe, qf])
     exact hT_5_7_10_11_12_14_16_17.out b5 b7 c7 b10 b11 c11 b12 b14 c14 b16 b17 c17 u2 ⟨hu2, row_hold Ro11.out hg (fun e => N11_14 e.symm), hw, (by have := N11_14; omega)⟩
    ·rintro b5 b7 c7 b10 b11 c11 b12 b14 c14 b16 b17 c17 u ⟨hbu, hw11, hw17, -⟩
     have hHeld := SF.out _ hbu
     have HBU := Lib.hid hbu
     have hszu := hbu.size
     have K5 := Lib.hid (KI.out b11 c11 b17 c17 u (by omega) (HLR.out.trans (hbu.mono HLR.out.size)) (row_mono hw11 HLR.out.size) (row_mono hw17 HLR.out.size) HP2.out HK2.out (HLW.out.below hbu) HCL.out.1 HCL.out.2.1 HCL.out.2.2)
     clear hbu hw11 hw17
     refine wpAnyH_ready (rs := [20]) (by kernel_rfl) (by simp) ?_
     refine AllReadyH.cons (o := _) rfl (fun K hK => ?_) AllReadyH.nil
     go_simp
     have K6 := K5.out
     simp only [List.length_append, List.length_singleton, HGN.out, HWN.out] at K6
     refine K6.mono ?_
     rintro e w5 ⟨B5, d5, rfl, h5, hg5⟩
     obtain ⟨L5, hL5⟩ := HLW.out.own
     have hgr := (Gr.of_below HBU.out (.slice B' cur.length d')).trans hg5
     have ht5 := box_gr HT.out (by decide) hgr hL5
     have hr5 := box_gr HRU.out (by decide) hgr hL5
     have hub : (Value.slice B' cur.length d').ownBlock ≠ some b := fun e => by have := (World.ownsRow.lt hL5 b e).1; omega
     have hS5 : (fun w' : World => w'.cell? ⟨w.heap.size, 0, none⟩ = some (.int .i64 tn) ∧ w'.cell? ⟨w.heap.size, 4, none⟩ = some (.slice (some ⟨b, off, none⟩) n c1) ∧ w'.cell? ⟨b, off + k * 5, none⟩ = some (.int .i64 yt) ∧ w'.cell? ⟨b, off + k * 5 + 1, none⟩ = some (.int .i64 yk) ∧ w'.cell? ⟨b, off + k * 5 + 2, none⟩ = some (.string ys') ∧ w'.cell? ⟨b, off + k * 5 + 3, none⟩ = some (.slice B0 yp.length d0) ∧ w'.cell? ⟨b, off + k * 5 + 4, none⟩ = some (.slice B1 yq.length d1) ∧ w'.cell? ⟨w.heap.size + 1, 0, none⟩ = some (.int .i64 x.t) ∧ w'.cell? ⟨w.heap.size + 1, 1, none⟩ = some (.int .i64 x.a) ∧ w'.cell? ⟨w.heap.size + 1, 2, none⟩ = some (.int .i64 x.nm) ∧ w'.cell? ⟨w.heap.size + 1, 3, none⟩ = some (.int .i64 x.v.k) ∧ w'.cell? ⟨w.heap.size + 1, 4, none⟩ = some (.int .i64 x.v.n) ∧ w'.cell? ⟨w.heap.size + 1, 5, none⟩ = some (.string x.v.s) ∧ w'.cell? ⟨w.heap.size + 1, 6, none⟩ = some (.int .i64 x.l) ∧ w'.cell? ⟨w.heap.size + 1, 7, none⟩ = some (.int .i64 x.g)) w5 := ⟨by rw [cell_of_row _ w.heap.size 0 _ _ _ ht5]; rfl, by rw [cell_of_row _ w.heap.size 4 _ _ _ ht5]; rfl, (hgr.cell hbr hub).trans e0, (hgr.cell hbr hub).trans e1, (hgr.cell hbr hub).trans e2, (hgr.cell hbr hub).trans e3, (hgr.cell hbr hub).trans e4, by rw [cell_of_row _ (w.heap.size + 1) 0 _ _ _ hr5]; rfl, by rw [cell_of_row _ (w.heap.size + 1) 1 _ _ _ hr5]; rfl, by rw [cell_of_row _ (w.heap.size + 1) 2 _ _ _ hr5]; rfl, by rw [cell_of_row _ (w.heap.size + 1) 3 _ _ _ hr5]; rfl, by rw [cell_of_row _ (w.heap.size + 1) 4 _ _ _ hr5]; rfl, by rw [cell_of_row _ (w.heap.size + 1) 5 _ _ _ hr5]; rfl, by rw [cell_of_row _ (w.heap.size + 1) 6 _ _ _ hr5]; rfl, by rw [cell_of_row _ (w.heap.size + 1) 7 _ _ _ hr5]; rfl⟩
     refine hK.out _ _ hS5 (fun hHeld2 => ?_)
     clear hHeld2 hK K hHeld
     have hHeld := hS5
     have HL5 := Lib.hid h5
     have HG5 := Lib.hid (HGR.out.trans hgr)
     have HT5 := Lib.hid ht5
     have HR5 := Lib.hid hr5
     clear h5 hg5 hgr ht5 hr5 hS5 hub K6
     (try simp only [Act.put, qa, qb, qc, qd, qe, qf])
     refine wpAnyH_take (i := 21) (oi := _) (v := ?_) rfl (by kernel_rfl) (by kernel_rfl) (by kernel_rfl) (fun _ _ _ h => h) (Or.inl ⟨by kernel_rfl, ?_⟩) (by assumption) ?_
     rotate_left
     ·(intro w hSw; (try dsimp only at hSw); go_simp)
      try with_reducible rfl
     (try simp only [Act.put, qa, qb, qc, qd, qe, qf])
     refine wpAnyH_done (by kernel_rfl) ?_ _
     obtain ⟨q5, hq5⟩ : ∃ q, cur ++ (fndT x (natI (ab ++ [tn])) (way ++ [k]) (.mk yt yk ys' yp yq)).map natI = q := ⟨_, rfl⟩
     rw [hq5] at HL5 HG5 ⊢
     have HQ5 := Lib.hid hq5
     have hcz5 : q5.length + sizeL (ks.drop (k + 1)) ≤ 1000 := by
      have h1 := HCZ2.out
      rw [← hq5, List.length_append, List.length_map]
      omega
     have HCZ5 := Lib.hid hcz5
     clear hq5 hcz5
     go_wp2_with fail
     go_roundw
     case rel => exact ⟨k + 1, q5, by omega, by go_num, ⟨B5, d5, by rw [← HQ5.out, List.length_append, List.length_map], HL5, HG5⟩, Lib.hid (by rw [← HQ5.out, natI_app, List.append_assoc, ← List.map_append]; exact HQ2.out), HCZ5, HT5, HR5⟩
     case measure => simp [intOf]; omega
   ·obtain rfl : k = n := by omega
    have hq := HQ.out
    rw [drop_none (by rw [HN.out]; omega), fndL_nil, List.map_nil, List.append_nil] at hq
    have HQ3 := Lib.hid hq
    have a4 : wr.cell? ⟨w.heap.size, 4, none⟩ = some (.slice A1 k c1) := by rw [cell_of_row _ w.heap.size 4 _ _ _ HT.out]; rfl
    clear hq
    go_wp2_with fail
    rw [← HX.out, ← HQ3.out]
    exact ⟨B', d', rfl, HLW.out, HGR.out⟩
 ·have hba := Below.alloc (Below.refl w1.heap.size w1) (Nat.le_refl _) (.cells #[] 3)
  have HOA := Lib.hid (show (w1.alloc (.cells #[] 3)).ownsRow w1.heap.size 3 1 (.slice (some ⟨w1.heap.size, 0, none⟩) 0 0) 0 [] from ⟨rfl, .inr ⟨w1.heap.size, 0, #[], rfl, Nat.le_refl _, World.alloc_heap_new w1 _, Nat.le_refl _, by decide, rfl, rfl⟩⟩)
  have HWA := Lib.hid (show WayR w0.heap.size (w1.alloc (.cells #[] 3)) (some ⟨g2, 0, none⟩) cw2 way from (HWAY2.out.later HB2.out).later hba)
  have HBA := Lib.hid hba
  clear hba
  go_wp2_with (at_builtin; refine wp_clone_way rfl (.tmp 21) (.tmp 22) rfl w1.heap.size w1.heap.size rfl HOA.out w0.heap.size g2 cw2 wn way rfl HWN.out HWA.out (by have := HAL2.out; omega) (by simp) ?_)
  intro b2 c2 w2 hw2 hg2
  have hb12 : Below w1.heap.size w1 w2 := HBA.out.grown hg2 HBA.out.size (fun k e => by cases e; exact Nat.le_refl _)
  have HB3 := Lib.hid (more HB2.out (Nat.le_refl _) hb12)
  have HTA := Lib.hid ((hb12.block _ (by have := (Array.getElem?_eq_some_iff.1 HT2.out).1; omega)).trans HT2.out)
  have HRA := Lib.hid ((hb12.block _ (by have := (Array.getElem?_eq_some_iff.1 HR2.out).1; omega)).trans HR2.out)
  have hw12 : w.heap.size ≤ w1.heap.size := HB2.out.size
  have HF1 := Lib.hid (show LkR w2 w1.heap.size ⟨b2, c2, natI way⟩ by
   show w2.ownsRow w1.heap.size 3 1 (.slice (some ⟨b2, 0, none⟩) (natI way).length c2) (natI way).length (zV (natI way))
   rw [natI_len, ← intV_natI]
   exact hw2)
  obtain ⟨rs, q1, q2', q3, q4⟩ := HOUT.out
  have q2 := ownsRow_below q2' HB3.out
  have HRS := Lib.hid (show (rs.map Lk.zs = yss ∧ ∀ r ∈ rs, LkR w2 base r ∧ r.b < w.heap.size) ∧ rs.Pairwise (fun a b => a.b ≠ b.b) from ⟨⟨q1, fun r hr => ⟨(q3 r hr).below HB3.out, (q3 r hr).lt.2⟩⟩, q4⟩)
  have hbx := Below.alloc (Below.refl w2.heap.size w2) (Nat.le_refl _) (.cells #[.slice (some ⟨b2, 0, none⟩) wn c2] 36)
  have HO3 := Lib.hid (ownsRow_below q2 hbx)
  have HC3 := Lib.hid (show (w2.alloc (.cells #[.slice (some ⟨b2, 0, none⟩) wn c2] 36)).cell? ⟨w2.heap.size, 0, none⟩ = some (.slice (some ⟨b2, 0, none⟩) wn c2) by rw [World.cell?_alloc_new]; rfl)
  have HL3 := Lib.hid (show (rs.map Lk.hv).length = yss.length by rw [← q1]; simp)
  have HBX := Lib.hid hbx
  have hz2 := HB3.out.size
  have hle : yss.length ≤ 100000 := by have := HYL.out; omega
  clear q1 q2 q2' q3 q4 hbx hw2 hg2 hb12
  go_wp2_with (at_builtin; refine wp_add_row rfl (.tmp 20) (.tmp 24) rfl base yss.length (.slice B yss.length d) (.slice (some ⟨b2, 0, none⟩) wn c2) (rs.map Lk.hv) rfl HL3.out HO3.out ⟨w2.heap.size, 0, none⟩ 1 rfl HC3.out rfl hle (by simp; omega) ?_)
  intro A3 c3 w3 hown3 hg3
  obtain ⟨cur0, hc0⟩ : ∃ q, yss ++ [natI way] = q := ⟨_, rfl⟩
  have hl0 : cur0.length = yss.length + 1 := by rw [← hc0, List.length_append]; rfl
  have HC0 := Lib.hid (show yss.length + 1 = cur0.length by rw [hl0])
  have hbw3 : Below w.heap.size w (w2.alloc (.cells #[.slice (some ⟨b2, 0, none⟩) wn c2] 36)) := more HB3.out (Nat.le_refl _) HBX.out
  have HF3 := Lib.hid (HF1.out.below HBX.out)
  have HG3 := Lib.hid (show Gr w w3 (.slice B yss.length d) (.slice A3 cur0.length c3) by rw [hl0]; exact (Gr.of_below hbw3 (.slice B yss.length d)).trans hg3)
  have HLW3 := Lib.hid (show LkW cur0 base A3 c3 w3 by
   rw [← hc0]
   exact ⟨rs ++ [⟨b2, c2, natI way⟩], by rw [List.map_append, HRS.out.1.1]; rfl, by
    rw [List.length_append, List.map_append, List.map_cons, List.map_nil, show Lk.hv ⟨b2, c2, natI way⟩ = .slice (some ⟨b2, 0, none⟩) (natI way).length c2 from rfl, natI_len, HWN.out]
    exact hown3, fun r hr => by
     rcases List.mem_append.1 hr with hr | hr
     ·exact ((HRS.out.1.2 r hr).1.below HBX.out).grown HO3.out hg3.1
     ·obtain rfl := List.mem_singleton.1 hr
      exact (HF3.out.grown HO3.out hg3.1).mono (Nat.le_trans hbw hw12), List.pairwise_append.2 ⟨HRS.out.2, List.pairwise_singleton _ _, fun a ha b hb => by
     obtain rfl := List.mem_singleton.1 hb
     have h1 := (HRS.out.1.2 a ha).2
     have h2 := HF3.out.lt.1
     dsimp only at h2 ⊢
     omega⟩⟩)
  have HT3 := Lib.hid (box_gr ((HBX.out.block _ (by have := (Array.getElem?_eq_some_iff.1 HTA.out).1; omega)).trans HTA.out) (by decide) hg3 HO3.out)
  have HR3 := Lib.hid (box_gr ((HBX.out.block _ (by have := (Array.getElem?_eq_some_iff.1 HRA.out).1; omega)).trans HRA.out) (by decide) hg3 HO3.out)
  have HQ0 := Lib.hid (show cur0 ++ (fndL x (natI ab ++ [tag]) way 0 (ks.drop 0)).map natI = yss ++ zss.map natI by rw [HZE.out, HMB.out, ← hc0, if_pos rfl, List.map_append, List.append_assoc]; rfl)
  have HCZ0 := Lib.hid (show cur0.length + sizeL (ks.drop 0) ≤ 1000 by have h1 := HYL.out; have h2 := HKZ.out; rw [hl0, List.drop_zero]; omega)
  clear hc0 hown3 hg3 hbw3 hl0 HT2 HR2 HTA HRA
  go_wp2_with fail
  go_loopw [4, 11] (fun ll i wr => ∃ (k : Nat) (cur : List (List Int)), k ≤ n ∧ i = .int .i64 k ∧ (∃ B' d', ll = .slice B' cur.length d' ∧ Hid (LkW cur base B' d' wr) ∧ Hid (Gr w wr (.slice B yss.length d) (.slice B' cur.length d'))) ∧ Hid (cur ++ (fndL x (natI ab ++ [tag]) way k (ks.drop k)).map natI = yss ++ zss.map natI) ∧ Hid (cur.length + sizeL (ks.drop k) ≤ 1000) ∧ Hid (wr.heap[w.heap.size]? = some (.cells #[.int .i64 tag, .int .i64 key, .string text, .slice A0 np c0, .slice A1 n c1] 26)) ∧ Hid (wr.heap[w.heap.size + 1]? = some (.cells #[.int .i64 x.t, .int .i64 x.a, .int .i64 x.nm, .int .i64 x.v.k, .int .i64 x.v.n, .string x.v.s, .int .i64 x.l, .int .i64 x.g] 42))) (fun _ i _ => n - (intOf i).toNat)
  case atStart => exact ⟨0, cur0, by omega, rfl, ⟨A3, c3, by rw [HC0.out], HLW3, HG3⟩, HQ0, HCZ0, HT3, HR3⟩
  case round =>
   obtain ⟨k, cur, hk, rfl, ⟨B', d', rfl, HLW, HGR⟩, HQ, HCZ, HT, HRU⟩ := hrel
   have hlowr : Below w0.heap.size w0 wr := HLOW.out.trans (HGR.out.below hz0 HVG.out)
   have hwr := HGR.out.1.size
   have hzw1 : w.heap.size + 1 < wr.heap.size := (Array.getElem?_eq_some_iff.1 HRU.out).1
   have hzw : w.heap.size < wr.heap.size := Nat.lt_of_succ_lt hzw1
   by_cases hlt : k < n
   ·obtain ⟨y, hx⟩ := at_some (show k < ks.length by rw [HN.out]; exact hlt)
    rcases HW.out with ⟨_, hk0⟩ | ⟨ht0, ht4, _⟩
    ·rw [hk0] at hx; simp at hx
    obtain ⟨tn, htn⟩ : ∃ k : Nat, tag = (k : Int) := ⟨tag.toNat, by omega⟩
    subst htn
    have hq := HQ.out
    rw [fndL_drop hx, natI_app] at hq
    have HQ2 := Lib.hid hq
    have hcz := HCZ.out
    rw [sizeL_drop hx] at hcz
    have hfl := fnd_len x y (HVK.out y (List.mem_of_getElem? hx)) (natI (ab ++ [tn])) (way ++ [k])
    have HCZ2 := Lib.hid (show cur.length + (fndT x (natI (ab ++ [tn])) (way ++ [k]) y).length + sizeL (ks.drop (k + 1)) ≤ 1000 by omega)
    have hxs := sizeT_kid (t := .mk tn key text ps ks) (List.mem_of_getElem? hx)
    have hcl : cur.length + sizeT y ≤ 1000 := by omega
    have hal2 : (ab ++ [tn]).length + sizeT y ≤ 1000 := by have := HAL.out; rw [List.length_append, HGN.out, List.length_singleton]; omega
    have hal3 : (way ++ [k]).length + sizeT y ≤ 1000 := by have := HAL2.out; rw [List.length_append, HWN.out, List.length_singleton]; omega
    have HWG := Lib.hid (by obtain ⟨L, hL⟩ := HOUT.out.own; exact way_gr HWAY.out HGR.out hL : WayR w0.heap.size wr (some ⟨g, 0, none⟩) cw ab)
    have HWG2 := Lib.hid (by obtain ⟨L, hL⟩ := HOUT.out.own; exact way_gr HWAY2.out HGR.out hL : WayR w0.heap.size wr (some ⟨g2, 0, none⟩) cw2 way)
    obtain ⟨b, off, B0, d0, B1, d1, hA1, hblt, _, e0, e1, e2, e3, e4, hp, _, hks⟩ := HK.out.at_ hx
    subst hA1
    replace e0 := (hlowr.cell (p := ⟨b, _, none⟩) hblt).trans e0
    replace e1 := (hlowr.cell (p := ⟨b, _, none⟩) hblt).trans e1
    replace e2 := (hlowr.cell (p := ⟨b, _, none⟩) hblt).trans e2
    replace e3 := (hlowr.cell (p := ⟨b, _, none⟩) hblt).trans e3
    replace e4 := (hlowr.cell (p := ⟨b, _, none⟩) hblt).trans e4
    have hbr : b < wr.heap.size := Nat.lt_of_lt_of_le hblt hlowr.size
    have a0 : wr.cell? ⟨w.heap.size, 0, none⟩ = some (.int .i64 tn) := by rw [cell_of_row _ w.heap.size 0 _ _ _ HT.out]; rfl
    have a4 : wr.cell? ⟨w.heap.size, 4, none⟩ = some (.slice (some ⟨b, off, none⟩) n c1) := by rw [cell_of_row _ w.heap.size 4 _ _ _ HT.out]; rfl
    have KI := Lib.hid (fun b3 c3 b4 c4 u hu h1 h2 h3 h4 h5 h6 => HI.out y (List.mem_of_getElem? hx) (ab ++ [tn]) (way ++ [k]) b3 c3 b4 c4 B0 B1 d0 d1 cur B' d' u hu h1 h2 h3 h4 h5 h6)
    have HP2 := Lib.hid hp
    have HK2 := Lib.hid hks
    have hi1 : (0 : Int) ≤ (k : Int) := by omega
    have hi2 : (k : Int) < (n : Int) := by omega
    have HCL := Lib.hid (And.intro hcl (And.intro hal2 hal3))
    have HLR := Lib.hid hlowr
    have hgn1 : gn ≤ 1000 := by have := HAL.out; omega
    have hwn1 : wn ≤ 1000 := by have := HAL2.out; omega
    obtain ⟨yt, yk, ys', yp, yq⟩ := y
    dsimp only [Tr.tag, Tr.key, Tr.text, Tr.ps, Tr.ks] at e0 e1 e2 e3 e4 KI HP2 HK2
    have SF := Lib.hid (show ∀ u, Below wr.heap.size wr u → (fun w' : World => w'.cell? ⟨w.heap.size, 0, none⟩ = some (.int .i64 tn) ∧ w'.cell? ⟨w.heap.size, 4, none⟩ = some (.slice (some ⟨b, off, none⟩) n c1) ∧ w'.cell? ⟨b, off + k * 5, none⟩ = some (.int .i64 yt) ∧ w'.cell? ⟨b, off + k * 5 + 1, none⟩ = some (.int .i64 yk) ∧ w'.cell? ⟨b, off + k * 5 + 2, none⟩ = some (.string ys') ∧ w'.cell? ⟨b, off + k * 5 + 3, none⟩ = some (.slice B0 yp.length d0) ∧ w'.cell? ⟨b, off + k * 5 + 4, none⟩ = some (.slice B1 yq.length d1) ∧ w'.cell? ⟨w.heap.size + 1, 0, none⟩ = some (.int .i64 x.t) ∧ w'.cell? ⟨w.heap.size + 1, 1, none⟩ = some (.int .i64 x.a) ∧ w'.cell? ⟨w.heap.size + 1, 2, none⟩ = some (.int .i64 x.nm) ∧ w'.cell? ⟨w.heap.size + 1, 3, none⟩ = some (.int .i64 x.v.k) ∧ w'.cell? ⟨w.heap.size + 1, 4, none⟩ = some (.int .i64 x.v.n) ∧ w'.cell? ⟨w.heap.size + 1, 5, none⟩ = some (.string x.v.s) ∧ w'.cell? ⟨w.heap.size + 1, 6, none⟩ = some (.int .i64 x.l) ∧ w'.cell? ⟨w.heap.size + 1, 7, none⟩ = some (.int .i64 x.g)) u from fun u hu => ⟨(hu.cell (p := ⟨w.heap.size, 0, none⟩) hzw).trans a0, (hu.cell (p := ⟨w.heap.size, 4, none⟩) hzw).trans a4, (hu.cell (p := ⟨b, _, none⟩) hbr).trans e0, (hu.cell (p := ⟨b, _, none⟩) hbr).trans e1, (hu.cell (p := ⟨b, _, none⟩) hbr).trans e2, (hu.cell (p := ⟨b, _, none⟩) hbr).trans e3, (hu.cell (p := ⟨b, _, none⟩) hbr).trans e4, (hu.cell (p := ⟨w.heap.size + 1, 0, none⟩) hzw1).trans (by rw [cell_of_row _ (w.heap.size + 1) 0 _ _ _ HRU.out]; rfl), (hu.cell (p := ⟨w.heap.size + 1, 1, none⟩) hzw1).trans (by rw [cell_of_row _ (w.heap.size + 1) 1 _ _ _ HRU.out]; rfl), (hu.cell (p := ⟨w.heap.size + 1, 2, none⟩) hzw1).trans (by rw [cell_of_row _ (w.heap.size + 1) 2 _ _ _ HRU.out]; rfl), (hu.cell (p := ⟨w.heap.size + 1, 3, none⟩) hzw1).trans (by rw [cell_of_row _ (w.heap.size + 1) 3 _ _ _ HRU.out]; rfl), (hu.cell (p := ⟨w.heap.size + 1, 4, none⟩) hzw1).trans (by rw [cell_of_row _ (w.heap.size + 1) 4 _ _ _ HRU.out]; rfl), (hu.cell (p := ⟨w.heap.size + 1, 5, none⟩) hzw1).trans (by rw [cell_of_row _ (w.heap.size + 1) 5 _ _ _ HRU.out]; rfl), (hu.cell (p := ⟨w.heap.size + 1, 6, none⟩) hzw1).trans (by rw [cell_of_row _ (w.heap.size + 1) 6 _ _ _ HRU.out]; rfl), (hu.cell (p := ⟨w.heap.size + 1, 7, none⟩) hzw1).trans (by rw [cell_of_row _ (w.heap.size + 1) 7 _ _ _ HRU.out]; rfl)⟩)
    clear hx hp hks hq hfl hxs hcz hcl hal2 hal3 hlowr ht0 ht4
    go_wp2_with fail
    apply laterV12 (F := fun b5 b7 c7 b10 b11 c11 b12 b14 c14 b16 b17 c17 u => Below wr.heap.size wr u ∧ WayR wr.heap.size u (some ⟨b11, 0, none⟩) c11 (ab ++ [tn]) ∧ WayR wr.heap.size u (some ⟨b17, 0, none⟩) c17 (way ++ [k]) ∧ b11 ≠ b17)
    intro hT_5_7_10_11_12_14_16_17
    apply laterV10 (F := fun b5 b7 c7 b10 b11 c11 b12 b14 c14 b16 u => Below wr.heap.size wr u ∧ WayR wr.heap.size u (some ⟨b11, 0, none⟩) c11 (ab ++ [tn]) ∧ WayR wr.heap.size u (some ⟨b14, 0, none⟩) c14 way ∧ u.cell? ⟨b16, 0, none⟩ = some (.int .i64 (k : Int)) ∧ b11 ≠ b14 ∧ b11 ≠ b16 ∧ b14 ≠ b16)
    intro hT_5_7_10_11_12_14_16
    apply laterV8 (F := fun b5 b7 c7 b10 b11 c11 b12 b16 u => Below wr.heap.size wr u ∧ WayR wr.heap.size u (some ⟨b11, 0, none⟩) c11 (ab ++ [tn]) ∧ ER wr u b12 ∧ u.cell? ⟨b16, 0, none⟩ = some (.int .i64 (k : Int)) ∧ b11 ≠ b12 ∧ b11 ≠ b16 ∧ b12 ≠ b16)
    intro hT_5_7_10_11_12_16
    apply laterV9 (F := fun b5 b7 c7 b10 b11 c11 b12 b14 c14 u => Below wr.heap.size wr u ∧ WayR wr.heap.size u (some ⟨b11, 0, none⟩) c11 (ab ++ [tn]) ∧ WayR wr.heap.size u (some ⟨b14, 0, none⟩) c14 way ∧ b11 ≠ b14)
    intro hT_5_7_10_11_12_14
    apply laterV6 (F := fun b5 b7 c7 b10 b12 b16 u => Below wr.heap.size wr u ∧ WayR wr.heap.size u (some ⟨b7, 0, none⟩) c7 ab ∧ u.cell? ⟨b10, 0, none⟩ = some (.int .i64 (tn : Int)) ∧ ER wr u b12 ∧ u.cell? ⟨b16, 0, none⟩ = some (.int .i64 (k : Int)) ∧ b7 ≠ b10 ∧ b7 ≠ b12 ∧ b7 ≠ b16 ∧ b10 ≠ b12 ∧ b10 ≠ b16 ∧ b12 ≠ b16)
    intro hT_5_7_10_12_16
    apply laterV7 (F := fun b5 b7 c7 b10 b11 c11 b16 u => Below wr.heap.size wr u ∧ WayR wr.heap.size u (some ⟨b11, 0, none⟩) c11 (ab ++ [tn]) ∧ u.cell? ⟨b16, 0, none⟩ = some (.int .i64 (k : Int)) ∧ b11 ≠ b16)
    intro hT_5_7_10_11_16
    apply laterV7 (F := fun b5 b7 c7 b10 b11 c11 b12 u => Below wr.heap.size wr u ∧ WayR wr.heap.size u (some ⟨b11, 0, none⟩) c11 (ab ++ [tn]) ∧ ER wr u b12 ∧ b11 ≠ b12)
    intro hT_5_7_10_11_12
    apply laterV4 (F := fun b5 b10 b12 b16 u => Below wr.heap.size wr u ∧ ER wr u b5 ∧ u.cell? ⟨b10, 0, none⟩ = some (.int .i64 (tn : Int)) ∧ ER wr u b12 ∧ u.cell? ⟨b16, 0, none⟩ = some (.int .i64 (k : Int)) ∧ b5 ≠ b10 ∧ b5 ≠ b12 ∧ b5 ≠ b16 ∧ b10 ≠ b12 ∧ b10 ≠ b16 ∧ b12 ≠ b16)
    intro hT_5_10_12_16
    apply laterV5 (F := fun b5 b7 c7 b12 b16 u => Below wr.heap.size wr u ∧ WayR wr.heap.size u (some ⟨b7, 0, none⟩) c7 ab ∧ ER wr u b12 ∧ u.cell? ⟨b16, 0, none⟩ = some (.int .i64 (k : Int)) ∧ b7 ≠ b12 ∧ b7 ≠ b16 ∧ b12 ≠ b16)
    intro hT_5_7_12_16
    apply laterV5 (F := fun b5 b7 c7 b10 b16 u => Below wr.heap.size wr u ∧ WayR wr.heap.size u (some ⟨b7, 0, none⟩) c7 ab ∧ u.cell? ⟨b10, 0, none⟩ = some (.int .i64 (tn : Int)) ∧ u.cell? ⟨b16, 0, none⟩ = some (.int .i64 (k : Int)) ∧ b7 ≠ b10 ∧ b7 ≠ b16 ∧ b10 ≠ b16)
    intro hT_5_7_10_16
    apply laterV5 (F := fun b5 b7 c7 b10 b12 u => Below wr.heap.size wr u ∧ WayR wr.heap.size u (some ⟨b7, 0, none⟩) c7 ab ∧ u.cell? ⟨b10, 0, none⟩ = some (.int .i64 (tn : Int)) ∧ ER wr u b12 ∧ b7 ≠ b10 ∧ b7 ≠ b12 ∧ b10 ≠ b12)
    intro hT_5_7_10_12
    apply laterV6 (F := fun b5 b7 c7 b10 b11 c11 u => Below wr.heap.size wr u ∧ WayR wr.heap.size u (some ⟨b11, 0, none⟩) c11 (ab ++ [tn]))
    intro hT_5_7_10_11
    apply laterV3 (F := fun b10 b12 b16 u => Below wr.heap.size wr u ∧ u.cell? ⟨b10, 0, none⟩ = some (.int .i64 (tn : Int)) ∧ ER wr u b12 ∧ u.cell? ⟨b16, 0, none⟩ = some (.int .i64 (k : Int)) ∧ b10 ≠ b12 ∧ b10 ≠ b16 ∧ b12 ≠ b16)
    intro hT_10_12_16
    apply laterV3 (F := fun b5 b12 b16 u => Below wr.heap.size wr u ∧ ER wr u b5 ∧ ER wr u b12 ∧ u.cell? ⟨b16, 0, none⟩ = some (.int .i64 (k : Int)) ∧ b5 ≠ b12 ∧ b5 ≠ b16 ∧ b12 ≠ b16)
    intro hT_5_12_16
    apply laterV3 (F := fun b5 b10 b16 u => Below wr.heap.size wr u ∧ ER wr u b5 ∧ u.cell? ⟨b10, 0, none⟩ = some (.int .i64 (tn : Int)) ∧ u.cell? ⟨b16, 0, none⟩ = some (.int .i64 (k : Int)) ∧ b5 ≠ b10 ∧ b5 ≠ b16 ∧ b10 ≠ b16)
    intro hT_5_10_16
    apply laterV3 (F := fun b5 b10 b12 u => Below wr.heap.size wr u ∧ ER wr u b5 ∧ u.cell? ⟨b10, 0, none⟩ = some (.int .i64 (tn : Int)) ∧ ER wr u b12 ∧ b5 ≠ b10 ∧ b5 ≠ b12 ∧ b10 ≠ b12)
    intro hT_5_10_12
    apply laterV4 (F := fun b5 b7 c7 b16 u => Below wr.heap.size wr u ∧ WayR wr.heap.size u (some ⟨b7, 0, none⟩) c7 ab ∧ u.cell? ⟨b16, 0, none⟩ = some (.int .i64 (k : Int)) ∧ b7 ≠ b16)
    intro hT_5_7_16
    apply laterV4 (F := fun b5 b7 c7 b12 u => Below wr.heap.size wr u ∧ WayR wr.heap.size u (some ⟨b7, 0, none⟩) c7 ab ∧ ER wr u b12 ∧ b7 ≠ b12)
    intro hT_5_7_12
    apply laterV4 (F := fun b5 b7 c7 b10 u => Below wr.heap.size wr u ∧ WayR wr.heap.size u (some ⟨b7, 0, none⟩) c7 ab ∧ u.cell? ⟨b10, 0, none⟩ = some (.int .i64 (tn : Int)) ∧ b7 ≠ b10)
    intro hT_5_7_10
    apply laterV2 (F := fun b12 b16 u => Below wr.heap.size wr u ∧ ER wr u b12 ∧ u.cell? ⟨b16, 0, none⟩ = some (.int .i64 (k : Int)) ∧ b12 ≠ b16)
    intro hT_12_16
    apply laterV2 (F := fun b10 b16 u => Below wr.heap.size wr u ∧ u.cell? ⟨b10, 0, none⟩ = some (.int .i64 (tn : Int)) ∧ u.cell? ⟨b16, 0, none⟩ = some (.int .i64 (k : Int)) ∧ b10 ≠ b16)
    intro hT_10_16
    apply laterV2 (F := fun b10 b12 u => Below wr.heap.size wr u ∧ u.cell? ⟨b10, 0, none⟩ = some (.int .i64 (tn : Int)) ∧ ER wr u b12 ∧ b10 ≠ b12)
    intro hT_10_12
    apply laterV2 (F := fun b5 b16 u => Below wr.heap.size wr u ∧ ER wr u b5 ∧ u.cell? ⟨b16, 0, none⟩ = some (.int .i64 (k : Int)) ∧ b5 ≠ b16)
    intro hT_5_16
    apply laterV2 (F := fun b5 b12 u => Below wr.heap.size wr u ∧ ER wr u b5 ∧ ER wr u b12 ∧ b5 ≠ b12)
    intro hT_5_12
    apply laterV2 (F := fun b5 b10 u => Below wr.heap.size wr u ∧ ER wr u b5 ∧ u.cell? ⟨b10, 0, none⟩ = some (.int .i64 (tn : Int)) ∧ b5 ≠ b10)
    intro hT_5_10
    apply laterV3 (F := fun b5 b7 c7 u => Below wr.heap.size wr u ∧ WayR wr.heap.size u (some ⟨b7, 0, none⟩) c7 ab)
    intro hT_5_7
    apply laterV1 (F := fun b16 u => Below wr.heap.size wr u ∧ u.cell? ⟨b16, 0, none⟩ = some (.int .i64 (k : Int)))
    intro hT_16
    apply laterV1 (F := fun b12 u => Below wr.heap.size wr u ∧ ER wr u b12)
    intro hT_12
    apply laterV1 (F := fun b10 u => Below wr.heap.size wr u ∧ u.cell? ⟨b10, 0, none⟩ = some (.int .i64 (tn : Int)))
    intro hT_10
    apply laterV1 (F := fun b5 u => Below wr.heap.size wr u ∧ ER wr u b5)
    intro hT_5
    ·have HU := Lib.hid (Below.drew (Below.refl wr.heap.size wr))
     refine wp_region_held_drew (S := (fun w' : World => w'.cell? ⟨w.heap.size, 0, none⟩ = some (.int .i64 tn) ∧ w'.cell? ⟨w.heap.size, 4, none⟩ = some (.slice (some ⟨b, off, none⟩) n c1) ∧ w'.cell? ⟨b, off + k * 5, none⟩ = some (.int .i64 yt) ∧ w'.cell? ⟨b, off + k * 5 + 1, none⟩ = some (.int .i64 yk) ∧ w'.cell? ⟨b, off + k * 5 + 2, none⟩ = some (.string ys') ∧ w'.cell? ⟨b, off + k * 5 + 3, none⟩ = some (.slice B0 yp.length d0) ∧ w'.cell? ⟨b, off + k * 5 + 4, none⟩ = some (.slice B1 yq.length d1) ∧ w'.cell? ⟨w.heap.size + 1, 0, none⟩ = some (.int .i64 x.t) ∧ w'.cell? ⟨w.heap.size + 1, 1, none⟩ = some (.int .i64 x.a) ∧ w'.cell? ⟨w.heap.size + 1, 2, none⟩ = some (.int .i64 x.nm) ∧ w'.cell? ⟨w.heap.size + 1, 3, none⟩ = some (.int .i64 x.v.k) ∧ w'.cell? ⟨w.heap.size + 1, 4, none⟩ = some (.int .i64 x.v.n) ∧ w'.cell? ⟨w.heap.size + 1, 5, none⟩ = some (.string x.v.s) ∧ w'.cell? ⟨w.heap.size + 1, 6, none⟩ = some (.int .i64 x.l) ∧ w'.cell? ⟨w.heap.size + 1, 7, none⟩ = some (.int .i64 x.g))) (by kernel_rfl) (SF.out _ HU.out) (fun hHeld => ?_)
     obtain ⟨u, hu0⟩ : ∃ q, wr.drew = q := ⟨_, rfl⟩
     rw [hu0] at HU hHeld ⊢
     clear hu0
     refine wpAnyH_take (i := 0) (oi := _) (v := ?_) rfl (by kernel_rfl) (by kernel_rfl) (by kernel_rfl) (fun _ _ _ h => h) (Or.inl ⟨by kernel_rfl, ?_⟩) (by assumption) ?_
     rotate_left
     ·(intro w hSw; (try dsimp only at hSw); go_simp)
      try with_reducible rfl
     (try simp only [Act.put, qa, qb, qc, qd, qe, qf])
     refine wpAnyH_take (i := 1) (oi := _) (v := ?_) rfl (by kernel_rfl) (by kernel_rfl) (by kernel_rfl) (fun _ _ _ h => h) (Or.inl ⟨by kernel_rfl, ?_⟩) (by assumption) ?_
     rotate_left
     ·(intro w hSw; (try dsimp only at hSw); go_simp)
      try with_reducible rfl
     (try simp only [Act.put, qa, qb, qc, qd, qe, qf])
     refine wpAnyH_take (i := 2) (oi := _) (v := ?_) rfl (by kernel_rfl) (by kernel_rfl) (by kernel_rfl) (fun _ _ _ h => h) (Or.inl ⟨by kernel_rfl, ?_⟩) (by assumption) ?_
     rotate_left
     ·(intro w hSw; (try dsimp only at hSw); go_simp)
      try with_reducible rfl
     (try simp only [Act.put, qa, qb, qc, qd, qe, qf])
     refine wpAnyH_take (i := 3) (oi := _) (v := ?_) rfl (by kernel_rfl) (by kernel_rfl) (by kernel_rfl) (fun _ _ _ h => h) (Or.inl ⟨by kernel_rfl, ?_⟩) (by assumption) ?_
     rotate_left
     ·(intro w hSw; (try dsimp only at hSw); go_simp)
      try with_reducible rfl
     (try simp only [Act.put, qa, qb, qc, qd, qe, qf])
     refine wpAnyH_take (i := 4) (oi := _) (v := ?_) rfl (by kernel_rfl) (by kernel_rfl) (by kernel_rfl) (fun _ _ _ h => h) (Or.inl ⟨by kernel_rfl, ?_⟩) (by assumption) ?_
     rotate_left
     ·(intro w hSw; (try dsimp only at hSw); go_simp)
      try with_reducible rfl
     (try simp only [Act.put, qa, qb, qc, qd, qe, qf])
     refine wpAnyH_take (i := 6) (oi := _) (v := ?_) rfl (by kernel_rfl) (by kernel_rfl) (by kernel_rfl) (fun _ _ _ h => h) (Or.inl ⟨by kernel_rfl, ?_⟩) (by assumption) ?_
     rotate_left
     ·(intro w hSw; (try dsimp only at hSw); go_simp)
      try with_reducible rfl
     (try simp only [Act.put, qa, qb, qc, qd, qe, qf])
     refine wpAnyH_take (i := 8) (oi := _) (v := ?_) rfl (by kernel_rfl) (by kernel_rfl) (by kernel_rfl) (fun _ _ _ h => h) (Or.inl ⟨by kernel_rfl, ?_⟩) (by assumption) ?_
     rotate_left
     ·(intro w hSw; (try dsimp only at hSw); go_simp)
      try with_reducible rfl
     (try simp only [Act.put, qa, qb, qc, qd, qe, qf])
     refine wpAnyH_take (i := 9) (oi := _) (v := ?_) rfl (by kernel_rfl) (by kernel_rfl) (by kernel_rfl) (fun _ _ _ h => h) (Or.inl ⟨by kernel_rfl, ?_⟩) (by assumption) ?_
     rotate_left
     ·(intro w hSw; (try dsimp only at hSw); go_simp)
      try with_reducible rfl
     (try simp only [Act.put, qa, qb, qc, qd, qe, qf])
     refine wpAnyH_take (i := 13) (oi := _) (v := ?_) rfl (by kernel_rfl) (by kernel_rfl) (by kernel_rfl) (fun _ _ _ h => h) (Or.inl ⟨by kernel_rfl, ?_⟩) (by assumption) ?_
     rotate_left
     ·(intro w hSw; (try dsimp only at hSw); go_simp)
      try with_reducible rfl
     (try simp only [Act.put, qa, qb, qc, qd, qe, qf])
     refine wpAnyH_take (i := 15) (oi := _) (v := ?_) rfl (by kernel_rfl) (by kernel_rfl) (by kernel_rfl) (fun _ _ _ h => h) (Or.inl ⟨by kernel_rfl, ?_⟩) (by assumption) ?_
     rotate_left
     ·(intro w hSw; (try dsimp only at hSw); go_simp)
      try with_reducible rfl
     (try simp only [Act.put, qa, qb, qc, qd, qe, qf])
     refine wpAnyH_take (i := 18) (oi := _) (v := ?_) rfl (by kernel_rfl) (by kernel_rfl) (by kernel_rfl) (fun _ _ _ h => h) (Or.inl ⟨by kernel_rfl, ?_⟩) (by assumption) ?_
     rotate_left
     ·(intro w hSw; (try dsimp only at hSw); go_simp)
      try with_reducible rfl
     (try simp only [Act.put, qa, qb, qc, qd, qe, qf])
     refine wpAnyH_take (i := 19) (oi := _) (v := ?_) rfl (by kernel_rfl) (by kernel_rfl) (by kernel_rfl) (fun _ _ _ h => h) (Or.inl ⟨by kernel_rfl, ?_⟩) (by assumption) ?_
     rotate_left
     ·(intro w hSw; (try dsimp only at hSw); go_simp)
      try with_reducible rfl
     (try simp only [Act.put, qa, qb, qc, qd, qe, qf])
     refine wpAnyH_ready (rs := [5, 10, 12, 16]) (by kernel_rfl) (by simp) ?_
     refine AllReadyH.cons (o := _) rfl (fun K hK => ?_) ?_
     ·skip
      go_simp
      have hb := Below.alloc (Below.refl u.heap.size u) (Nat.le_refl _) (.cells #[] 3)
      have hu2 := more HU.out (Nat.le_refl _) hb
      refine hK.out _ _ (SF.out _ hu2) (fun hHeld2 => ?_)
      clear hHeld2 hK K hHeld
      (try simp only [Act.put, qa, qb, qc, qd, qe, qf])
      obtain ⟨b5, hbo⟩ : ∃ q, u.heap.size = q := ⟨_, rfl⟩
      obtain ⟨u2, hN⟩ : ∃ q, (u.alloc (.cells #[] 3)) = q := ⟨_, rfl⟩
      rw [hN, hbo]
      exact hT_5.out b5 u2 (by subst hN hbo; exact ⟨hu2, ⟨rfl, .inr ⟨u.heap.size, 0, #[], rfl, HU.out.size, World.alloc_heap_new u _, Nat.le_refl _, by decide, rfl, rfl⟩⟩⟩)
     refine AllReadyH.cons (o := _) rfl (fun K hK => ?_) ?_
     ·skip
      go_simp
      have hb := Below.alloc (Below.refl u.heap.size u) (Nat.le_refl _) (.cells #[.int .i64 tn] 3)
      have hu2 := more HU.out (Nat.le_refl _) hb
      refine hK.out _ _ (SF.out _ hu2) (fun hHeld2 => ?_)
      clear hHeld2 hK K hHeld
      (try simp only [Act.put, qa, qb, qc, qd, qe, qf])
      obtain ⟨b10, hbo⟩ : ∃ q, u.heap.size = q := ⟨_, rfl⟩
      obtain ⟨u2, hN⟩ : ∃ q, (u.alloc (.cells #[.int .i64 tn] 3)) = q := ⟨_, rfl⟩
      rw [hN, hbo]
      exact hT_10.out b10 u2 (by subst hN hbo; exact ⟨hu2, (by rw [World.cell?_alloc_new]; rfl)⟩)
     refine AllReadyH.cons (o := _) rfl (fun K hK => ?_) ?_
     ·skip
      go_simp
      have hb := Below.alloc (Below.refl u.heap.size u) (Nat.le_refl _) (.cells #[] 3)
      have hu2 := more HU.out (Nat.le_refl _) hb
      refine hK.out _ _ (SF.out _ hu2) (fun hHeld2 => ?_)
      clear hHeld2 hK K hHeld
      (try simp only [Act.put, qa, qb, qc, qd, qe, qf])
      obtain ⟨b12, hbo⟩ : ∃ q, u.heap.size = q := ⟨_, rfl⟩
      obtain ⟨u2, hN⟩ : ∃ q, (u.alloc (.cells #[] 3)) = q := ⟨_, rfl⟩
      rw [hN, hbo]
      exact hT_12.out b12 u2 (by subst hN hbo; exact ⟨hu2, ⟨rfl, .inr ⟨u.heap.size, 0, #[], rfl, HU.out.size, World.alloc_heap_new u _, Nat.le_refl _, by decide, rfl, rfl⟩⟩⟩)
     refine AllReadyH.cons (o := _) rfl (fun K hK => ?_) AllReadyH.nil
     go_simp
     have hb := Below.alloc (Below.refl u.heap.size u) (Nat.le_refl _) (.cells #[.int .i64 k] 3)
     have hu2 := more HU.out (Nat.le_refl _) hb
     refine hK.out _ _ (SF.out _ hu2) (fun hHeld2 => ?_)
     clear hHeld2 hK K hHeld
     (try simp only [Act.put, qa, qb, qc, qd, qe, qf])
     obtain ⟨b16, hbo⟩ : ∃ q, u.heap.size = q := ⟨_, rfl⟩
     obtain ⟨u2, hN⟩ : ∃ q, (u.alloc (.cells #[.int .i64 k] 3)) = q := ⟨_, rfl⟩
     rw [hN, hbo]
     exact hT_16.out b16 u2 (by subst hN hbo; exact ⟨hu2, (by rw [World.cell?_alloc_new]; rfl)⟩)
    ·rintro b5 u ⟨hU, r5⟩
     have HU := Lib.hid hU
     have Ro5 := Lib.hid r5
     have l5 : b5 < u.heap.size := (World.ownsRow.lt r5 b5 rfl).2
     have hHeld := SF.out _ HU.out
     clear hU r5
     refine wpAnyH_ready (rs := [7, 10, 12, 16]) (by kernel_rfl) (by simp) ?_
     refine AllReadyH.cons (o := _) rfl (fun K hK => ?_) ?_
     ·skip
      refine step_clone_way2 (by rfl) (.tmp 38) (.tmp 39) (by rfl) wr.heap.size b5 (by rfl) Ro5.out w0.heap.size g cw gn ab (by rfl) HGN.out (HWG.out.later HU.out) (by omega) HU.out.size ?_
      intro b7 c7 u2 hw hg hat
      have hu2 := HU.out.grown hg HU.out.size (fun k e => by cases e; exact (World.ownsRow.lt Ro5.out b5 rfl).1)
      refine hK.out _ _ (SF.out _ hu2) (fun hHeld2 => ?_)
      clear hHeld2 hK K hHeld
      (try simp only [Act.put, qa, qb, qc, qd, qe, qf])
      exact hT_5_7.out b5 b7 c7 u2 ⟨hu2, hw⟩
     refine AllReadyH.cons (o := _) rfl (fun K hK => ?_) ?_
     ·skip
      go_simp
      have hb := Below.alloc (Below.refl u.heap.size u) (Nat.le_refl _) (.cells #[.int .i64 tn] 3)
      have hu2 := more HU.out (Nat.le_refl _) hb
      refine hK.out _ _ (SF.out _ hu2) (fun hHeld2 => ?_)
      clear hHeld2 hK K hHeld
      (try simp only [Act.put, qa, qb, qc, qd, qe, qf])
      obtain ⟨b10, hbo⟩ : ∃ q, u.heap.size = q := ⟨_, rfl⟩
      obtain ⟨u2, hN⟩ : ∃ q, (u.alloc (.cells #[.int .i64 tn] 3)) = q := ⟨_, rfl⟩
      rw [hN, hbo]
      exact hT_5_10.out b5 b10 u2 (by subst hN hbo; exact ⟨hu2, ownsRow_below Ro5.out hb, (by rw [World.cell?_alloc_new]; rfl), (by omega)⟩)
     refine AllReadyH.cons (o := _) rfl (fun K hK => ?_) ?_
     ·skip
      go_simp
      have hb := Below.alloc (Below.refl u.heap.size u) (Nat.le_refl _) (.cells #[] 3)
      have hu2 := more HU.out (Nat.le_refl _) hb
      refine hK.out _ _ (SF.out _ hu2) (fun hHeld2 => ?_)
      clear hHeld2 hK K hHeld
      (try simp only [Act.put, qa, qb, qc, qd, qe, qf])
      obtain ⟨b12, hbo⟩ : ∃ q, u.heap.size = q := ⟨_, rfl⟩
      obtain ⟨u2, hN⟩ : ∃ q, (u.alloc (.cells #[] 3)) = q := ⟨_, rfl⟩
      rw [hN, hbo]
      exact hT_5_12.out b5 b12 u2 (by subst hN hbo; exact ⟨hu2, ownsRow_below Ro5.out hb, ⟨rfl, .inr ⟨u.heap.size, 0, #[], rfl, HU.out.size, World.alloc_heap_new u _, Nat.le_refl _, by decide, rfl, rfl⟩⟩, (by omega)⟩)
     refine AllReadyH.cons (o := _) rfl (fun K hK => ?_) AllReadyH.nil
     go_simp
     have hb := Below.alloc (Below.refl u.heap.size u) (Nat.le_refl _) (.cells #[.int .i64 k] 3)
     have hu2 := more HU.out (Nat.le_refl _) hb
     refine hK.out _ _ (SF.out _ hu2) (fun hHeld2 => ?_)
     clear hHeld2 hK K hHeld
     (try simp only [Act.put, qa, qb, qc, qd, qe, qf])
     obtain ⟨b16, hbo⟩ : ∃ q, u.heap.size = q := ⟨_, rfl⟩
     obtain ⟨u2, hN⟩ : ∃ q, (u.alloc (.cells #[.int .i64 k] 3)) = q := ⟨_, rfl⟩
     rw [hN, hbo]
     exact hT_5_16.out b5 b16 u2 (by subst hN hbo; exact ⟨hu2, ownsRow_below Ro5.out hb, (by rw [World.cell?_alloc_new]; rfl), (by omega)⟩)
    ·rintro b10 u ⟨hU, r10⟩
     have HU := Lib.hid hU
     have Ro10 := Lib.hid r10
     have l10 : b10 < u.heap.size := World.block_lt_of_cell? u _ r10
     have hHeld := SF.out _ HU.out
     clear hU r10
     refine wpAnyH_ready (rs := [5, 12, 16]) (by kernel_rfl) (by simp) ?_
     refine AllReadyH.cons (o := _) rfl (fun K hK => ?_) ?_
     ·skip
      go_simp
      have hb := Below.alloc (Below.refl u.heap.size u) (Nat.le_refl _) (.cells #[] 3)
      have hu2 := more HU.out (Nat.le_refl _) hb
      refine hK.out _ _ (SF.out _ hu2) (fun hHeld2 => ?_)
      clear hHeld2 hK K hHeld
      (try simp only [Act.put, qa, qb, qc, qd, qe, qf])
      obtain ⟨b5, hbo⟩ : ∃ q, u.heap.size = q := ⟨_, rfl⟩
      obtain ⟨u2, hN⟩ : ∃ q, (u.alloc (.cells #[] 3)) = q := ⟨_, rfl⟩
      rw [hN, hbo]
      exact hT_5_10.out b5 b10 u2 (by subst hN hbo; exact ⟨hu2, ⟨rfl, .inr ⟨u.heap.size, 0, #[], rfl, HU.out.size, World.alloc_heap_new u _, Nat.le_refl _, by decide, rfl, rfl⟩⟩, (hb.cell (p := ⟨b10, 0, none⟩) l10).trans Ro10.out, (by omega)⟩)
     refine AllReadyH.cons (o := _) rfl (fun K hK => ?_) ?_
     ·skip
      go_simp
      have hb := Below.alloc (Below.refl u.heap.size u) (Nat.le_refl _) (.cells #[] 3)
      have hu2 := more HU.out (Nat.le_refl _) hb
      refine hK.out _ _ (SF.out _ hu2) (fun hHeld2 => ?_)
      clear hHeld2 hK K hHeld
      (try simp only [Act.put, qa, qb, qc, qd, qe, qf])
      obtain ⟨b12, hbo⟩ : ∃ q, u.heap.size = q := ⟨_, rfl⟩
      obtain ⟨u2, hN⟩ : ∃ q, (u.alloc (.cells #[] 3)) = q := ⟨_, rfl⟩
      rw [hN, hbo]
      exact hT_10_12.out b10 b12 u2 (by subst hN hbo; exact ⟨hu2, (hb.cell (p := ⟨b10, 0, none⟩) l10).trans Ro10.out, ⟨rfl, .inr ⟨u.heap.size, 0, #[], rfl, HU.out.size, World.alloc_heap_new u _, Nat.le_refl _, by decide, rfl, rfl⟩⟩, (by omega)⟩)
     refine AllReadyH.cons (o := _) rfl (fun K hK => ?_) AllReadyH.nil
     go_simp
     have hb := Below.alloc (Below.refl u.heap.size u) (Nat.le_refl _) (.cells #[.int .i64 k] 3)
     have hu2 := more HU.out (Nat.le_refl _) hb
     refine hK.out _ _ (SF.out _ hu2) (fun hHeld2 => ?_)
     clear hHeld2 hK K hHeld
     (try simp only [Act.put, qa, qb, qc, qd, qe, qf])
     obtain ⟨b16, hbo⟩ : ∃ q, u.heap.size = q := ⟨_, rfl⟩
     obtain ⟨u2, hN⟩ : ∃ q, (u.alloc (.cells #[.int .i64 k] 3)) = q := ⟨_, rfl⟩
     rw [hN, hbo]
     exact hT_10_16.out b10 b16 u2 (by subst hN hbo; exact ⟨hu2, (hb.cell (p := ⟨b10, 0, none⟩) l10).trans Ro10.out, (by rw [World.cell?_alloc_new]; rfl), (by omega)⟩)
    ·rintro b12 u ⟨hU, r12⟩
     have HU := Lib.hid hU
     have Ro12 := Lib.hid r12
     have l12 : b12 < u.heap.size := (World.ownsRow.lt r12 b12 rfl).2
     have hHeld := SF.out _ HU.out
     clear hU r12
     refine wpAnyH_ready (rs := [5, 10, 16]) (by kernel_rfl) (by simp) ?_
     refine AllReadyH.cons (o := _) rfl (fun K hK => ?_) ?_
     ·skip
      go_simp
      have hb := Below.alloc (Below.refl u.heap.size u) (Nat.le_refl _) (.cells #[] 3)
      have hu2 := more HU.out (Nat.le_refl _) hb
      refine hK.out _ _ (SF.out _ hu2) (fun hHeld2 => ?_)
      clear hHeld2 hK K hHeld
      (try simp only [Act.put, qa, qb, qc, qd, qe, qf])
      obtain ⟨b5, hbo⟩ : ∃ q, u.heap.size = q := ⟨_, rfl⟩
      obtain ⟨u2, hN⟩ : ∃ q, (u.alloc (.cells #[] 3)) = q := ⟨_, rfl⟩
      rw [hN, hbo]
      exact hT_5_12.out b5 b12 u2 (by subst hN hbo; exact ⟨hu2, ⟨rfl, .inr ⟨u.heap.size, 0, #[], rfl, HU.out.size, World.alloc_heap_new u _, Nat.le_refl _, by decide, rfl, rfl⟩⟩, ownsRow_below Ro12.out hb, (by omega)⟩)
     refine AllReadyH.cons (o := _) rfl (fun K hK => ?_) ?_
     ·skip
      go_simp
      have hb := Below.alloc (Below.refl u.heap.size u) (Nat.le_refl _) (.cells #[.int .i64 tn] 3)
      have hu2 := more HU.out (Nat.le_refl _) hb
      refine hK.out _ _ (SF.out _ hu2) (fun hHeld2 => ?_)
      clear hHeld2 hK K hHeld
      (try simp only [Act.put, qa, qb, qc, qd, qe, qf])
      obtain ⟨b10, hbo⟩ : ∃ q, u.heap.size = q := ⟨_, rfl⟩
      obtain ⟨u2, hN⟩ : ∃ q, (u.alloc (.cells #[.int .i64 tn] 3)) = q := ⟨_, rfl⟩
      rw [hN, hbo]
      exact hT_10_12.out b10 b12 u2 (by subst hN hbo; exact ⟨hu2, (by rw [World.cell?_alloc_new]; rfl), ownsRow_below Ro12.out hb, (by omega)⟩)
     refine AllReadyH.cons (o := _) rfl (fun K hK => ?_) AllReadyH.nil
     go_simp
     have hb := Below.alloc (Below.refl u.heap.size u) (Nat.le_refl _) (.cells #[.int .i64 k] 3)
     have hu2 := more HU.out (Nat.le_refl _) hb
     refine hK.out _ _ (SF.out _ hu2) (fun hHeld2 => ?_)
     clear hHeld2 hK K hHeld
     (try simp only [Act.put, qa, qb, qc, qd, qe, qf])
     obtain ⟨b16, hbo⟩ : ∃ q, u.heap.size = q := ⟨_, rfl⟩
     obtain ⟨u2, hN⟩ : ∃ q, (u.alloc (.cells #[.int .i64 k] 3)) = q := ⟨_, rfl⟩
     rw [hN, hbo]
     exact hT_12_16.out b12 b16 u2 (by subst hN hbo; exact ⟨hu2, ownsRow_below Ro12.out hb, (by rw [World.cell?_alloc_new]; rfl), (by omega)⟩)
    ·rintro b16 u ⟨hU, r16⟩
     have HU := Lib.hid hU
     have Ro16 := Lib.hid r16
     have l16 : b16 < u.heap.size := World.block_lt_of_cell? u _ r16
     have hHeld := SF.out _ HU.out
     clear hU r16
     refine wpAnyH_ready (rs := [5, 10, 12]) (by kernel_rfl) (by simp) ?_
     refine AllReadyH.cons (o := _) rfl (fun K hK => ?_) ?_
     ·skip
      go_simp
      have hb := Below.alloc (Below.refl u.heap.size u) (Nat.le_refl _) (.cells #[] 3)
      have hu2 := more HU.out (Nat.le_refl _) hb
      refine hK.out _ _ (SF.out _ hu2) (fun hHeld2 => ?_)
      clear hHeld2 hK K hHeld
      (try simp only [Act.put, qa, qb, qc, qd, qe, qf])
      obtain ⟨b5, hbo⟩ : ∃ q, u.heap.size = q := ⟨_, rfl⟩
      obtain ⟨u2, hN⟩ : ∃ q, (u.alloc (.cells #[] 3)) = q := ⟨_, rfl⟩
      rw [hN, hbo]
      exact hT_5_16.out b5 b16 u2 (by subst hN hbo; exact ⟨hu2, ⟨rfl, .inr ⟨u.heap.size, 0, #[], rfl, HU.out.size, World.alloc_heap_new u _, Nat.le_refl _, by decide, rfl, rfl⟩⟩, (hb.cell (p := ⟨b16, 0, none⟩) l16).trans Ro16.out, (by omega)⟩)
     refine AllReadyH.cons (o := _) rfl (fun K hK => ?_) ?_
     ·skip
      go_simp
      have hb := Below.alloc (Below.refl u.heap.size u) (Nat.le_refl _) (.cells #[.int .i64 tn] 3)
      have hu2 := more HU.out (Nat.le_refl _) hb
      refine hK.out _ _ (SF.out _ hu2) (fun hHeld2 => ?_)
      clear hHeld2 hK K hHeld
      (try simp only [Act.put, qa, qb, qc, qd, qe, qf])
      obtain ⟨b10, hbo⟩ : ∃ q, u.heap.size = q := ⟨_, rfl⟩
      obtain ⟨u2, hN⟩ : ∃ q, (u.alloc (.cells #[.int .i64 tn] 3)) = q := ⟨_, rfl⟩
      rw [hN, hbo]
      exact hT_10_16.out b10 b16 u2 (by subst hN hbo; exact ⟨hu2, (by rw [World.cell?_alloc_new]; rfl), (hb.cell (p := ⟨b16, 0, none⟩) l16).trans Ro16.out, (by omega)⟩)
     refine AllReadyH.cons (o := _) rfl (fun K hK => ?_) AllReadyH.nil
     go_simp
     have hb := Below.alloc (Below.refl u.heap.size u) (Nat.le_refl _) (.cells #[] 3)
     have hu2 := more HU.out (Nat.le_refl _) hb
     refine hK.out _ _ (SF.out _ hu2) (fun hHeld2 => ?_)
     clear hHeld2 hK K hHeld
     (try simp only [Act.put, qa, qb, qc, qd, qe, qf])
     obtain ⟨b12, hbo⟩ : ∃ q, u.heap.size = q := ⟨_, rfl⟩
     obtain ⟨u2, hN⟩ : ∃ q, (u.alloc (.cells #[] 3)) = q := ⟨_, rfl⟩
     rw [hN, hbo]
     exact hT_12_16.out b12 b16 u2 (by subst hN hbo; exact ⟨hu2, ⟨rfl, .inr ⟨u.heap.size, 0, #[], rfl, HU.out.size, World.alloc_heap_new u _, Nat.le_refl _, by decide, rfl, rfl⟩⟩, (hb.cell (p := ⟨b16, 0, none⟩) l16).trans Ro16.out, (by omega)⟩)
    ·rintro b5 b7 c7 u ⟨hU, r7⟩
     have HU := Lib.hid hU
     have Ro7 := Lib.hid r7
     have l7 : b7 < u.heap.size := (World.ownsRow.lt r7 b7 rfl).2
     have hHeld := SF.out _ HU.out
     clear hU r7
     refine wpAnyH_ready (rs := [10, 12, 16]) (by kernel_rfl) (by simp) ?_
     refine AllReadyH.cons (o := _) rfl (fun K hK => ?_) ?_
     ·skip
      go_simp
      have hb := Below.alloc (Below.refl u.heap.size u) (Nat.le_refl _) (.cells #[.int .i64 tn] 3)
      have hu2 := more HU.out (Nat.le_refl _) hb
      refine hK.out _ _ (SF.out _ hu2) (fun hHeld2 => ?_)
      clear hHeld2 hK K hHeld
      (try simp only [Act.put, qa, qb, qc, qd, qe, qf])
      obtain ⟨b10, hbo⟩ : ∃ q, u.heap.size = q := ⟨_, rfl⟩
      obtain ⟨u2, hN⟩ : ∃ q, (u.alloc (.cells #[.int .i64 tn] 3)) = q := ⟨_, rfl⟩
      rw [hN, hbo]
      exact hT_5_7_10.out b5 b7 c7 b10 u2 (by subst hN hbo; exact ⟨hu2, Ro7.out.later hb, (by rw [World.cell?_alloc_new]; rfl), (by omega)⟩)
     refine AllReadyH.cons (o := _) rfl (fun K hK => ?_) ?_
     ·skip
      go_simp
      have hb := Below.alloc (Below.refl u.heap.size u) (Nat.le_refl _) (.cells #[] 3)
      have hu2 := more HU.out (Nat.le_refl _) hb
      refine hK.out _ _ (SF.out _ hu2) (fun hHeld2 => ?_)
      clear hHeld2 hK K hHeld
      (try simp only [Act.put, qa, qb, qc, qd, qe, qf])
      obtain ⟨b12, hbo⟩ : ∃ q, u.heap.size = q := ⟨_, rfl⟩
      obtain ⟨u2, hN⟩ : ∃ q, (u.alloc (.cells #[] 3)) = q := ⟨_, rfl⟩
      rw [hN, hbo]
      exact hT_5_7_12.out b5 b7 c7 b12 u2 (by subst hN hbo; exact ⟨hu2, Ro7.out.later hb, ⟨rfl, .inr ⟨u.heap.size, 0, #[], rfl, HU.out.size, World.alloc_heap_new u _, Nat.le_refl _, by decide, rfl, rfl⟩⟩, (by omega)⟩)
     refine AllReadyH.cons (o := _) rfl (fun K hK => ?_) AllReadyH.nil
     go_simp
     have hb := Below.alloc (Below.refl u.heap.size u) (Nat.le_refl _) (.cells #[.int .i64 k] 3)
     have hu2 := more HU.out (Nat.le_refl _) hb
     refine hK.out _ _ (SF.out _ hu2) (fun hHeld2 => ?_)
     clear hHeld2 hK K hHeld
     (try simp only [Act.put, qa, qb, qc, qd, qe, qf])
     obtain ⟨b16, hbo⟩ : ∃ q, u.heap.size = q := ⟨_, rfl⟩
     obtain ⟨u2, hN⟩ : ∃ q, (u.alloc (.cells #[.int .i64 k] 3)) = q := ⟨_, rfl⟩
     rw [hN, hbo]
     exact hT_5_7_16.out b5 b7 c7 b16 u2 (by subst hN hbo; exact ⟨hu2, Ro7.out.later hb, (by rw [World.cell?_alloc_new]; rfl), (by omega)⟩)
    ·rintro b5 b10 u ⟨hU, r5, r10, N5_10⟩
     have HU := Lib.hid hU
     have Ro5 := Lib.hid r5
     have l5 : b5 < u.heap.size := (World.ownsRow.lt r5 b5 rfl).2
     have Ro10 := Lib.hid r10
     have l10 : b10 < u.heap.size := World.block_lt_of_cell? u _ r10
     have hHeld := SF.out _ HU.out
     clear hU r5 r10
     refine wpAnyH_ready (rs := [7, 12, 16]) (by kernel_rfl) (by simp) ?_
     refine AllReadyH.cons (o := _) rfl (fun K hK => ?_) ?_
     ·skip
      refine step_clone_way2 (by rfl) (.tmp 38) (.tmp 39) (by rfl) wr.heap.size b5 (by rfl) Ro5.out w0.heap.size g cw gn ab (by rfl) HGN.out (HWG.out.later HU.out) (by omega) HU.out.size ?_
      intro b7 c7 u2 hw hg hat
      have hu2 := HU.out.grown hg HU.out.size (fun k e => by cases e; exact (World.ownsRow.lt Ro5.out b5 rfl).1)
      refine hK.out _ _ (SF.out _ hu2) (fun hHeld2 => ?_)
      clear hHeld2 hK K hHeld
      (try simp only [Act.put, qa, qb, qc, qd, qe, qf])
      exact hT_5_7_10.out b5 b7 c7 b10 u2 ⟨hu2, hw, cell_hold Ro10.out hg (fun e => N5_10 e), (by have := N5_10; omega)⟩
     refine AllReadyH.cons (o := _) rfl (fun K hK => ?_) ?_
     ·skip
      go_simp
      have hb := Below.alloc (Below.refl u.heap.size u) (Nat.le_refl _) (.cells #[] 3)
      have hu2 := more HU.out (Nat.le_refl _) hb
      refine hK.out _ _ (SF.out _ hu2) (fun hHeld2 => ?_)
      clear hHeld2 hK K hHeld
      (try simp only [Act.put, qa, qb, qc, qd, qe, qf])
      obtain ⟨b12, hbo⟩ : ∃ q, u.heap.size = q := ⟨_, rfl⟩
      obtain ⟨u2, hN⟩ : ∃ q, (u.alloc (.cells #[] 3)) = q := ⟨_, rfl⟩
      rw [hN, hbo]
      exact hT_5_10_12.out b5 b10 b12 u2 (by subst hN hbo; exact ⟨hu2, ownsRow_below Ro5.out hb, (hb.cell (p := ⟨b10, 0, none⟩) l10).trans Ro10.out, ⟨rfl, .inr ⟨u.heap.size, 0, #[], rfl, HU.out.size, World.alloc_heap_new u _, Nat.le_refl _, by decide, rfl, rfl⟩⟩, N5_10, (by omega), (by omega)⟩)
     refine AllReadyH.cons (o := _) rfl (fun K hK => ?_) AllReadyH.nil
     go_simp
     have hb := Below.alloc (Below.refl u.heap.size u) (Nat.le_refl _) (.cells #[.int .i64 k] 3)
     have hu2 := more HU.out (Nat.le_refl _) hb
     refine hK.out _ _ (SF.out _ hu2) (fun hHeld2 => ?_)
     clear hHeld2 hK K hHeld
     (try simp only [Act.put, qa, qb, qc, qd, qe, qf])
     obtain ⟨b16, hbo⟩ : ∃ q, u.heap.size = q := ⟨_, rfl⟩
     obtain ⟨u2, hN⟩ : ∃ q, (u.alloc (.cells #[.int .i64 k] 3)) = q := ⟨_, rfl⟩
     rw [hN, hbo]
     exact hT_5_10_16.out b5 b10 b16 u2 (by subst hN hbo; exact ⟨hu2, ownsRow_below Ro5.out hb, (hb.cell (p := ⟨b10, 0, none⟩) l10).trans Ro10.out, (by rw [World.cell?_alloc_new]; rfl), N5_10, (by omega), (by omega)⟩)
    ·rintro b5 b12 u ⟨hU, r5, r12, N5_12⟩
     have HU := Lib.hid hU
     have Ro5 := Lib.hid r5
     have l5 : b5 < u.heap.size := (World.ownsRow.lt r5 b5 rfl).2
     have Ro12 := Lib.hid r12
     have l12 : b12 < u.heap.size := (World.ownsRow.lt r12 b12 rfl).2
     have hHeld := SF.out _ HU.out
     clear hU r5 r12
     refine wpAnyH_ready (rs := [7, 10, 16]) (by kernel_rfl) (by simp) ?_
     refine AllReadyH.cons (o := _) rfl (fun K hK => ?_) ?_
     ·skip
      refine step_clone_way2 (by rfl) (.tmp 38) (.tmp 39) (by rfl) wr.heap.size b5 (by rfl) Ro5.out w0.heap.size g cw gn ab (by rfl) HGN.out (HWG.out.later HU.out) (by omega) HU.out.size ?_
      intro b7 c7 u2 hw hg hat
      have hu2 := HU.out.grown hg HU.out.size (fun k e => by cases e; exact (World.ownsRow.lt Ro5.out b5 rfl).1)
      refine hK.out _ _ (SF.out _ hu2) (fun hHeld2 => ?_)
      clear hHeld2 hK K hHeld
      (try simp only [Act.put, qa, qb, qc, qd, qe, qf])
      exact hT_5_7_12.out b5 b7 c7 b12 u2 ⟨hu2, hw, row_hold Ro12.out hg (fun e => N5_12 e), (by have := N5_12; omega)⟩
     refine AllReadyH.cons (o := _) rfl (fun K hK => ?_) ?_
     ·skip
      go_simp
      have hb := Below.alloc (Below.refl u.heap.size u) (Nat.le_refl _) (.cells #[.int .i64 tn] 3)
      have hu2 := more HU.out (Nat.le_refl _) hb
      refine hK.out _ _ (SF.out _ hu2) (fun hHeld2 => ?_)
      clear hHeld2 hK K hHeld
      (try simp only [Act.put, qa, qb, qc, qd, qe, qf])
      obtain ⟨b10, hbo⟩ : ∃ q, u.heap.size = q := ⟨_, rfl⟩
      obtain ⟨u2, hN⟩ : ∃ q, (u.alloc (.cells #[.int .i64 tn] 3)) = q := ⟨_, rfl⟩
      rw [hN, hbo]
      exact hT_5_10_12.out b5 b10 b12 u2 (by subst hN hbo; exact ⟨hu2, ownsRow_below Ro5.out hb, (by rw [World.cell?_alloc_new]; rfl), ownsRow_below Ro12.out hb, (by omega), N5_12, (by omega)⟩)
     refine AllReadyH.cons (o := _) rfl (fun K hK => ?_) AllReadyH.nil
     go_simp
     have hb := Below.alloc (Below.refl u.heap.size u) (Nat.le_refl _) (.cells #[.int .i64 k] 3)
     have hu2 := more HU.out (Nat.le_refl _) hb
     refine hK.out _ _ (SF.out _ hu2) (fun hHeld2 => ?_)
     clear hHeld2 hK K hHeld
     (try simp only [Act.put, qa, qb, qc, qd, qe, qf])
     obtain ⟨b16, hbo⟩ : ∃ q, u.heap.size = q := ⟨_, rfl⟩
     obtain ⟨u2, hN⟩ : ∃ q, (u.alloc (.cells #[.int .i64 k] 3)) = q := ⟨_, rfl⟩
     rw [hN, hbo]
     exact hT_5_12_16.out b5 b12 b16 u2 (by subst hN hbo; exact ⟨hu2, ownsRow_below Ro5.out hb, ownsRow_below Ro12.out hb, (by rw [World.cell?_alloc_new]; rfl), N5_12, (by omega), (by omega)⟩)
    ·rintro b5 b16 u ⟨hU, r5, r16, N5_16⟩
     have HU := Lib.hid hU
     have Ro5 := Lib.hid r5
     have l5 : b5 < u.heap.size := (World.ownsRow.lt r5 b5 rfl).2
     have Ro16 := Lib.hid r16
     have l16 : b16 < u.heap.size := World.block_lt_of_cell? u _ r16
     have hHeld := SF.out _ HU.out
     clear hU r5 r16
     refine wpAnyH_ready (rs := [7, 10, 12]) (by kernel_rfl) (by simp) ?_
     refine AllReadyH.cons (o := _) rfl (fun K hK => ?_) ?_
     ·skip
      refine step_clone_way2 (by rfl) (.tmp 38) (.tmp 39) (by rfl) wr.heap.size b5 (by rfl) Ro5.out w0.heap.size g cw gn ab (by rfl) HGN.out (HWG.out.later HU.out) (by omega) HU.out.size ?_
      intro b7 c7 u2 hw hg hat
      have hu2 := HU.out.grown hg HU.out.size (fun k e => by cases e; exact (World.ownsRow.lt Ro5.out b5 rfl).1)
      refine hK.out _ _ (SF.out _ hu2) (fun hHeld2 => ?_)
      clear hHeld2 hK K hHeld
      (try simp only [Act.put, qa, qb, qc, qd, qe, qf])
      exact hT_5_7_16.out b5 b7 c7 b16 u2 ⟨hu2, hw, cell_hold Ro16.out hg (fun e => N5_16 e), (by have := N5_16; omega)⟩
     refine AllReadyH.cons (o := _) rfl (fun K hK => ?_) ?_
     ·skip
      go_simp
      have hb := Below.alloc (Below.refl u.heap.size u) (Nat.le_refl _) (.cells #[.int .i64 tn] 3)
      have hu2 := more HU.out (Nat.le_refl _) hb
      refine hK.out _ _ (SF.out _ hu2) (fun hHeld2 => ?_)
      clear hHeld2 hK K hHeld
      (try simp only [Act.put, qa, qb, qc, qd, qe, qf])
      obtain ⟨b10, hbo⟩ : ∃ q, u.heap.size = q := ⟨_, rfl⟩
      obtain ⟨u2, hN⟩ : ∃ q, (u.alloc (.cells #[.int .i64 tn] 3)) = q := ⟨_, rfl⟩
      rw [hN, hbo]
      exact hT_5_10_16.out b5 b10 b16 u2 (by subst hN hbo; exact ⟨hu2, ownsRow_below Ro5.out hb, (by rw [World.cell?_alloc_new]; rfl), (hb.cell (p := ⟨b16, 0, none⟩) l16).trans Ro16.out, (by omega), N5_16, (by omega)⟩)
     refine AllReadyH.cons (o := _) rfl (fun K hK => ?_) AllReadyH.nil
     go_simp
     have hb := Below.alloc (Below.refl u.heap.size u) (Nat.le_refl _) (.cells #[] 3)
     have hu2 := more HU.out (Nat.le_refl _) hb
     refine hK.out _ _ (SF.out _ hu2) (fun hHeld2 => ?_)
     clear hHeld2 hK K hHeld
     (try simp only [Act.put, qa, qb, qc, qd, qe, qf])
     obtain ⟨b12, hbo⟩ : ∃ q, u.heap.size = q := ⟨_, rfl⟩
     obtain ⟨u2, hN⟩ : ∃ q, (u.alloc (.cells #[] 3)) = q := ⟨_, rfl⟩
     rw [hN, hbo]
     exact hT_5_12_16.out b5 b12 b16 u2 (by subst hN hbo; exact ⟨hu2, ownsRow_below Ro5.out hb, ⟨rfl, .inr ⟨u.heap.size, 0, #[], rfl, HU.out.size, World.alloc_heap_new u _, Nat.le_refl _, by decide, rfl, rfl⟩⟩, (hb.cell (p := ⟨b16, 0, none⟩) l16).trans Ro16.out, (by omega), N5_16, (by omega)⟩)
    ·rintro b10 b12 u ⟨hU, r10, r12, N10_12⟩
     have HU := Lib.hid hU
     have Ro10 := Lib.hid r10
     have l10 : b10 < u.heap.size := World.block_lt_of_cell? u _ r10
     have Ro12 := Lib.hid r12
     have l12 : b12 < u.heap.size := (World.ownsRow.lt r12 b12 rfl).2
     have hHeld := SF.out _ HU.out
     clear hU r10 r12
     refine wpAnyH_ready (rs := [5, 16]) (by kernel_rfl) (by simp) ?_
     refine AllReadyH.cons (o := _) rfl (fun K hK => ?_) ?_
     ·skip
      go_simp
      have hb := Below.alloc (Below.refl u.heap.size u) (Nat.le_refl _) (.cells #[] 3)
      have hu2 := more HU.out (Nat.le_refl _) hb
      refine hK.out _ _ (SF.out _ hu2) (fun hHeld2 => ?_)
      clear hHeld2 hK K hHeld
      (try simp only [Act.put, qa, qb, qc, qd, qe, qf])
      obtain ⟨b5, hbo⟩ : ∃ q, u.heap.size = q := ⟨_, rfl⟩
      obtain ⟨u2, hN⟩ : ∃ q, (u.alloc (.cells #[] 3)) = q := ⟨_, rfl⟩
      rw [hN, hbo]
      exact hT_5_10_12.out b5 b10 b12 u2 (by subst hN hbo; exact ⟨hu2, ⟨rfl, .inr ⟨u.heap.size, 0, #[], rfl, HU.out.size, World.alloc_heap_new u _, Nat.le_refl _, by decide, rfl, rfl⟩⟩, (hb.cell (p := ⟨b10, 0, none⟩) l10).trans Ro10.out, ownsRow_below Ro12.out hb, (by omega), (by omega), N10_12⟩)
     refine AllReadyH.cons (o := _) rfl (fun K hK => ?_) AllReadyH.nil
     go_simp
     have hb := Below.alloc (Below.refl u.heap.size u) (Nat.le_refl _) (.cells #[.int .i64 k] 3)
     have hu2 := more HU.out (Nat.le_refl _) hb
     refine hK.out _ _ (SF.out _ hu2) (fun hHeld2 => ?_)
     clear hHeld2 hK K hHeld
     (try simp only [Act.put, qa, qb, qc, qd, qe, qf])
     obtain ⟨b16, hbo⟩ : ∃ q, u.heap.size = q := ⟨_, rfl⟩
     obtain ⟨u2, hN⟩ : ∃ q, (u.alloc (.cells #[.int .i64 k] 3)) = q := ⟨_, rfl⟩
     rw [hN, hbo]
     exact hT_10_12_16.out b10 b12 b16 u2 (by subst hN hbo; exact ⟨hu2, (hb.cell (p := ⟨b10, 0, none⟩) l10).trans Ro10.out, ownsRow_below Ro12.out hb, (by rw [World.cell?_alloc_new]; rfl), N10_12, (by omega), (by omega)⟩)
    ·rintro b10 b16 u ⟨hU, r10, r16, N10_16⟩
     have HU := Lib.hid hU
     have Ro10 := Lib.hid r10
     have l10 : b10 < u.heap.size := World.block_lt_of_cell? u _ r10
     have Ro16 := Lib.hid r16
     have l16 : b16 < u.heap.size := World.block_lt_of_cell? u _ r16
     have hHeld := SF.out _ HU.out
     clear hU r10 r16
     refine wpAnyH_ready (rs := [5, 12]) (by kernel_rfl) (by simp) ?_
     refine AllReadyH.cons (o := _) rfl (fun K hK => ?_) ?_
     ·skip
      go_simp
      have hb := Below.alloc (Below.refl u.heap.size u) (Nat.le_refl _) (.cells #[] 3)
      have hu2 := more HU.out (Nat.le_refl _) hb
      refine hK.out _ _ (SF.out _ hu2) (fun hHeld2 => ?_)
      clear hHeld2 hK K hHeld
      (try simp only [Act.put, qa, qb, qc, qd, qe, qf])
      obtain ⟨b5, hbo⟩ : ∃ q, u.heap.size = q := ⟨_, rfl⟩
      obtain ⟨u2, hN⟩ : ∃ q, (u.alloc (.cells #[] 3)) = q := ⟨_, rfl⟩
      rw [hN, hbo]
      exact hT_5_10_16.out b5 b10 b16 u2 (by subst hN hbo; exact ⟨hu2, ⟨rfl, .inr ⟨u.heap.size, 0, #[], rfl, HU.out.size, World.alloc_heap_new u _, Nat.le_refl _, by decide, rfl, rfl⟩⟩, (hb.cell (p := ⟨b10, 0, none⟩) l10).trans Ro10.out, (hb.cell (p := ⟨b16, 0, none⟩) l16).trans Ro16.out, (by omega), (by omega), N10_16⟩)
     refine AllReadyH.cons (o := _) rfl (fun K hK => ?_) AllReadyH.nil
     go_simp
     have hb := Below.alloc (Below.refl u.heap.size u) (Nat.le_refl _) (.cells #[] 3)
     have hu2 := more HU.out (Nat.le_refl _) hb
     refine hK.out _ _ (SF.out _ hu2) (fun hHeld2 => ?_)
     clear hHeld2 hK K hHeld
     (try simp only [Act.put, qa, qb, qc, qd, qe, qf])
     obtain ⟨b12, hbo⟩ : ∃ q, u.heap.size = q := ⟨_, rfl⟩
     obtain ⟨u2, hN⟩ : ∃ q, (u.alloc (.cells #[] 3)) = q := ⟨_, rfl⟩
     rw [hN, hbo]
     exact hT_10_12_16.out b10 b12 b16 u2 (by subst hN hbo; exact ⟨hu2, (hb.cell (p := ⟨b10, 0, none⟩) l10).trans Ro10.out, ⟨rfl, .inr ⟨u.heap.size, 0, #[], rfl, HU.out.size, World.alloc_heap_new u _, Nat.le_refl _, by decide, rfl, rfl⟩⟩, (hb.cell (p := ⟨b16, 0, none⟩) l16).trans Ro16.out, (by omega), N10_16, (by omega)⟩)
    ·rintro b12 b16 u ⟨hU, r12, r16, N12_16⟩
     have HU := Lib.hid hU
     have Ro12 := Lib.hid r12
     have l12 : b12 < u.heap.size := (World.ownsRow.lt r12 b12 rfl).2
     have Ro16 := Lib.hid r16
     have l16 : b16 < u.heap.size := World.block_lt_of_cell? u _ r16
     have hHeld := SF.out _ HU.out
     clear hU r12 r16
     refine wpAnyH_ready (rs := [5, 10]) (by kernel_rfl) (by simp) ?_
     refine AllReadyH.cons (o := _) rfl (fun K hK => ?_) ?_
     ·skip
      go_simp
      have hb := Below.alloc (Below.refl u.heap.size u) (Nat.le_refl _) (.cells #[] 3)
      have hu2 := more HU.out (Nat.le_refl _) hb
      refine hK.out _ _ (SF.out _ hu2) (fun hHeld2 => ?_)
      clear hHeld2 hK K hHeld
      (try simp only [Act.put, qa, qb, qc, qd, qe, qf])
      obtain ⟨b5, hbo⟩ : ∃ q, u.heap.size = q := ⟨_, rfl⟩
      obtain ⟨u2, hN⟩ : ∃ q, (u.alloc (.cells #[] 3)) = q := ⟨_, rfl⟩
      rw [hN, hbo]
      exact hT_5_12_16.out b5 b12 b16 u2 (by subst hN hbo; exact ⟨hu2, ⟨rfl, .inr ⟨u.heap.size, 0, #[], rfl, HU.out.size, World.alloc_heap_new u _, Nat.le_refl _, by decide, rfl, rfl⟩⟩, ownsRow_below Ro12.out hb, (hb.cell (p := ⟨b16, 0, none⟩) l16).trans Ro16.out, (by omega), (by omega), N12_16⟩)
     refine AllReadyH.cons (o := _) rfl (fun K hK => ?_) AllReadyH.nil
     go_simp
     have hb := Below.alloc (Below.refl u.heap.size u) (Nat.le_refl _) (.cells #[.int .i64 tn] 3)
     have hu2 := more HU.out (Nat.le_refl _) hb
     refine hK.out _ _ (SF.out _ hu2) (fun hHeld2 => ?_)
     clear hHeld2 hK K hHeld
     (try simp only [Act.put, qa, qb, qc, qd, qe, qf])
     obtain ⟨b10, hbo⟩ : ∃ q, u.heap.size = q := ⟨_, rfl⟩
     obtain ⟨u2, hN⟩ : ∃ q, (u.alloc (.cells #[.int .i64 tn] 3)) = q := ⟨_, rfl⟩
     rw [hN, hbo]
     exact hT_10_12_16.out b10 b12 b16 u2 (by subst hN hbo; exact ⟨hu2, (by rw [World.cell?_alloc_new]; rfl), ownsRow_below Ro12.out hb, (hb.cell (p := ⟨b16, 0, none⟩) l16).trans Ro16.out, (by omega), (by omega), N12_16⟩)
    ·rintro b5 b7 c7 b10 u ⟨hU, r7, r10, N7_10⟩
     have HU := Lib.hid hU
     have Ro7 := Lib.hid r7
     have l7 : b7 < u.heap.size := (World.ownsRow.lt r7 b7 rfl).2
     have Ro10 := Lib.hid r10
     have l10 : b10 < u.heap.size := World.block_lt_of_cell? u _ r10
     have hHeld := SF.out _ HU.out
     clear hU r7 r10
     refine wpAnyH_ready (rs := [11, 12, 16]) (by kernel_rfl) (by simp) ?_
     refine AllReadyH.cons (o := _) rfl (fun K hK => ?_) ?_
     ·skip
      refine step_add_way2 (by rfl) (.tmp 40) (.tmp 43) (by rfl) wr.heap.size b7 c7 gn ab (by rfl) HGN.out Ro7.out ⟨b10, 0, none⟩ 1 tn (by rfl) Ro10.out (by omega) HU.out.size ?_
      intro b11 c11 u2 hw hg hat
      have hu2 := HU.out.grown hg HU.out.size (fun k e => by cases e; exact (World.ownsRow.lt Ro7.out b7 rfl).1)
      refine hK.out _ _ (SF.out _ hu2) (fun hHeld2 => ?_)
      clear hHeld2 hK K hHeld
      (try simp only [Act.put, qa, qb, qc, qd, qe, qf])
      exact hT_5_7_10_11.out b5 b7 c7 b10 b11 c11 u2 ⟨hu2, hw⟩
     refine AllReadyH.cons (o := _) rfl (fun K hK => ?_) ?_
     ·skip
      go_simp
      have hb := Below.alloc (Below.refl u.heap.size u) (Nat.le_refl _) (.cells #[] 3)
      have hu2 := more HU.out (Nat.le_refl _) hb
      refine hK.out _ _ (SF.out _ hu2) (fun hHeld2 => ?_)
      clear hHeld2 hK K hHeld
      (try simp only [Act.put, qa, qb, qc, qd, qe, qf])
      obtain ⟨b12, hbo⟩ : ∃ q, u.heap.size = q := ⟨_, rfl⟩
      obtain ⟨u2, hN⟩ : ∃ q, (u.alloc (.cells #[] 3)) = q := ⟨_, rfl⟩
      rw [hN, hbo]
      exact hT_5_7_10_12.out b5 b7 c7 b10 b12 u2 (by subst hN hbo; exact ⟨hu2, Ro7.out.later hb, (hb.cell (p := ⟨b10, 0, none⟩) l10).trans Ro10.out, ⟨rfl, .inr ⟨u.heap.size, 0, #[], rfl, HU.out.size, World.alloc_heap_new u _, Nat.le_refl _, by decide, rfl, rfl⟩⟩, N7_10, (by omega), (by omega)⟩)
     refine AllReadyH.cons (o := _) rfl (fun K hK => ?_) AllReadyH.nil
     go_simp
     have hb := Below.alloc (Below.refl u.heap.size u) (Nat.le_refl _) (.cells #[.int .i64 k] 3)
     have hu2 := more HU.out (Nat.le_refl _) hb
     refine hK.out _ _ (SF.out _ hu2) (fun hHeld2 => ?_)
     clear hHeld2 hK K hHeld
     (try simp only [Act.put, qa, qb, qc, qd, qe, qf])
     obtain ⟨b16, hbo⟩ : ∃ q, u.heap.size = q := ⟨_, rfl⟩
     obtain ⟨u2, hN⟩ : ∃ q, (u.alloc (.cells #[.int .i64 k] 3)) = q := ⟨_, rfl⟩
     rw [hN, hbo]
     exact hT_5_7_10_16.out b5 b7 c7 b10 b16 u2 (by subst hN hbo; exact ⟨hu2, Ro7.out.later hb, (hb.cell (p := ⟨b10, 0, none⟩) l10).trans Ro10.out, (by rw [World.cell?_alloc_new]; rfl), N7_10, (by omega), (by omega)⟩)
    ·rintro b5 b7 c7 b12 u ⟨hU, r7, r12, N7_12⟩
     have HU := Lib.hid hU
     have Ro7 := Lib.hid r7
     have l7 : b7 < u.heap.size := (World.ownsRow.lt r7 b7 rfl).2
     have Ro12 := Lib.hid r12
     have l12 : b12 < u.heap.size := (World.ownsRow.lt r12 b12 rfl).2
     have hHeld := SF.out _ HU.out
     clear hU r7 r12
     refine wpAnyH_ready (rs := [10, 16]) (by kernel_rfl) (by simp) ?_
     refine AllReadyH.cons (o := _) rfl (fun K hK => ?_) ?_
     ·skip
      go_simp
      have hb := Below.alloc (Below.refl u.heap.size u) (Nat.le_refl _) (.cells #[.int .i64 tn] 3)
      have hu2 := more HU.out (Nat.le_refl _) hb
      refine hK.out _ _ (SF.out _ hu2) (fun hHeld2 => ?_)
      clear hHeld2 hK K hHeld
      (try simp only [Act.put, qa, qb, qc, qd, qe, qf])
      obtain ⟨b10, hbo⟩ : ∃ q, u.heap.size = q := ⟨_, rfl⟩
      obtain ⟨u2, hN⟩ : ∃ q, (u.alloc (.cells #[.int .i64 tn] 3)) = q := ⟨_, rfl⟩
      rw [hN, hbo]
      exact hT_5_7_10_12.out b5 b7 c7 b10 b12 u2 (by subst hN hbo; exact ⟨hu2, Ro7.out.later hb, (by rw [World.cell?_alloc_new]; rfl), ownsRow_below Ro12.out hb, (by omega), N7_12, (by omega)⟩)
     refine AllReadyH.cons (o := _) rfl (fun K hK => ?_) AllReadyH.nil
     go_simp
     have hb := Below.alloc (Below.refl u.heap.size u) (Nat.le_refl _) (.cells #[.int .i64 k] 3)
     have hu2 := more HU.out (Nat.le_refl _) hb
     refine hK.out _ _ (SF.out _ hu2) (fun hHeld2 => ?_)
     clear hHeld2 hK K hHeld
     (try simp only [Act.put, qa, qb, qc, qd, qe, qf])
     obtain ⟨b16, hbo⟩ : ∃ q, u.heap.size = q := ⟨_, rfl⟩
     obtain ⟨u2, hN⟩ : ∃ q, (u.alloc (.cells #[.int .i64 k] 3)) = q := ⟨_, rfl⟩
     rw [hN, hbo]
     exact hT_5_7_12_16.out b5 b7 c7 b12 b16 u2 (by subst hN hbo; exact ⟨hu2, Ro7.out.later hb, ownsRow_below Ro12.out hb, (by rw [World.cell?_alloc_new]; rfl), N7_12, (by omega), (by omega)⟩)
    ·rintro b5 b7 c7 b16 u ⟨hU, r7, r16, N7_16⟩
     have HU := Lib.hid hU
     have Ro7 := Lib.hid r7
     have l7 : b7 < u.heap.size := (World.ownsRow.lt r7 b7 rfl).2
     have Ro16 := Lib.hid r16
     have l16 : b16 < u.heap.size := World.block_lt_of_cell? u _ r16
     have hHeld := SF.out _ HU.out
     clear hU r7 r16
     refine wpAnyH_ready (rs := [10, 12]) (by kernel_rfl) (by simp) ?_
     refine AllReadyH.cons (o := _) rfl (fun K hK => ?_) ?_
     ·skip
      go_simp
      have hb := Below.alloc (Below.refl u.heap.size u) (Nat.le_refl _) (.cells #[.int .i64 tn] 3)
      have hu2 := more HU.out (Nat.le_refl _) hb
      refine hK.out _ _ (SF.out _ hu2) (fun hHeld2 => ?_)
      clear hHeld2 hK K hHeld
      (try simp only [Act.put, qa, qb, qc, qd, qe, qf])
      obtain ⟨b10, hbo⟩ : ∃ q, u.heap.size = q := ⟨_, rfl⟩
      obtain ⟨u2, hN⟩ : ∃ q, (u.alloc (.cells #[.int .i64 tn] 3)) = q := ⟨_, rfl⟩
      rw [hN, hbo]
      exact hT_5_7_10_16.out b5 b7 c7 b10 b16 u2 (by subst hN hbo; exact ⟨hu2, Ro7.out.later hb, (by rw [World.cell?_alloc_new]; rfl), (hb.cell (p := ⟨b16, 0, none⟩) l16).trans Ro16.out, (by omega), N7_16, (by omega)⟩)
     refine AllReadyH.cons (o := _) rfl (fun K hK => ?_) AllReadyH.nil
     go_simp
     have hb := Below.alloc (Below.refl u.heap.size u) (Nat.le_refl _) (.cells #[] 3)
     have hu2 := more HU.out (Nat.le_refl _) hb
     refine hK.out _ _ (SF.out _ hu2) (fun hHeld2 => ?_)
     clear hHeld2 hK K hHeld
     (try simp only [Act.put, qa, qb, qc, qd, qe, qf])
     obtain ⟨b12, hbo⟩ : ∃ q, u.heap.size = q := ⟨_, rfl⟩
     obtain ⟨u2, hN⟩ : ∃ q, (u.alloc (.cells #[] 3)) = q := ⟨_, rfl⟩
     rw [hN, hbo]
     exact hT_5_7_12_16.out b5 b7 c7 b12 b16 u2 (by subst hN hbo; exact ⟨hu2, Ro7.out.later hb, ⟨rfl, .inr ⟨u.heap.size, 0, #[], rfl, HU.out.size, World.alloc_heap_new u _, Nat.le_refl _, by decide, rfl, rfl⟩⟩, (hb.cell (p := ⟨b16, 0, none⟩) l16).trans Ro16.out, (by omega), N7_16, (by omega)⟩)
    ·rintro b5 b10 b12 u ⟨hU, r5, r10, r12, N5_10, N5_12, N10_12⟩
     have HU := Lib.hid hU
     have Ro5 := Lib.hid r5
     have l5 : b5 < u.heap.size := (World.ownsRow.lt r5 b5 rfl).2
     have Ro10 := Lib.hid r10
     have l10 : b10 < u.heap.size := World.block_lt_of_cell? u _ r10
     have Ro12 := Lib.hid r12
     have l12 : b12 < u.heap.size := (World.ownsRow.lt r12 b12 rfl).2
     have hHeld := SF.out _ HU.out
     clear hU r5 r10 r12
     refine wpAnyH_ready (rs := [7, 16]) (by kernel_rfl) (by simp) ?_
     refine AllReadyH.cons (o := _) rfl (fun K hK => ?_) ?_
     ·skip
      refine step_clone_way2 (by rfl) (.tmp 38) (.tmp 39) (by rfl) wr.heap.size b5 (by rfl) Ro5.out w0.heap.size g cw gn ab (by rfl) HGN.out (HWG.out.later HU.out) (by omega) HU.out.size ?_
      intro b7 c7 u2 hw hg hat
      have hu2 := HU.out.grown hg HU.out.size (fun k e => by cases e; exact (World.ownsRow.lt Ro5.out b5 rfl).1)
      refine hK.out _ _ (SF.out _ hu2) (fun hHeld2 => ?_)
      clear hHeld2 hK K hHeld
      (try simp only [Act.put, qa, qb, qc, qd, qe, qf])
      exact hT_5_7_10_12.out b5 b7 c7 b10 b12 u2 ⟨hu2, hw, cell_hold Ro10.out hg (fun e => N5_10 e), row_hold Ro12.out hg (fun e => N5_12 e), (by have := N5_10; omega), (by have := N5_12; omega), N10_12⟩
     refine AllReadyH.cons (o := _) rfl (fun K hK => ?_) AllReadyH.nil
     go_simp
     have hb := Below.alloc (Below.refl u.heap.size u) (Nat.le_refl _) (.cells #[.int .i64 k] 3)
     have hu2 := more HU.out (Nat.le_refl _) hb
     refine hK.out _ _ (SF.out _ hu2) (fun hHeld2 => ?_)
     clear hHeld2 hK K hHeld
     (try simp only [Act.put, qa, qb, qc, qd, qe, qf])
     obtain ⟨b16, hbo⟩ : ∃ q, u.heap.size = q := ⟨_, rfl⟩
     obtain ⟨u2, hN⟩ : ∃ q, (u.alloc (.cells #[.int .i64 k] 3)) = q := ⟨_, rfl⟩
     rw [hN, hbo]
     exact hT_5_10_12_16.out b5 b10 b12 b16 u2 (by subst hN hbo; exact ⟨hu2, ownsRow_below Ro5.out hb, (hb.cell (p := ⟨b10, 0, none⟩) l10).trans Ro10.out, ownsRow_below Ro12.out hb, (by rw [World.cell?_alloc_new]; rfl), N5_10, N5_12, (by omega), N10_12, (by omega), (by omega)⟩)
    ·rintro b5 b10 b16 u ⟨hU, r5, r10, r16, N5_10, N5_16, N10_16⟩
     have HU := Lib.hid hU
     have Ro5 := Lib.hid r5
     have l5 : b5 < u.heap.size := (World.ownsRow.lt r5 b5 rfl).2
     have Ro10 := Lib.hid r10
     have l10 : b10 < u.heap.size := World.block_lt_of_cell? u _ r10
     have Ro16 := Lib.hid r16
     have l16 : b16 < u.heap.size := World.block_lt_of_cell? u _ r16
     have hHeld := SF.out _ HU.out
     clear hU r5 r10 r16
     refine wpAnyH_ready (rs := [7, 12]) (by kernel_rfl) (by simp) ?_
     refine AllReadyH.cons (o := _) rfl (fun K hK => ?_) ?_
     ·skip
      refine step_clone_way2 (by rfl) (.tmp 38) (.tmp 39) (by rfl) wr.heap.size b5 (by rfl) Ro5.out w0.heap.size g cw gn ab (by rfl) HGN.out (HWG.out.later HU.out) (by omega) HU.out.size ?_
      intro b7 c7 u2 hw hg hat
      have hu2 := HU.out.grown hg HU.out.size (fun k e => by cases e; exact (World.ownsRow.lt Ro5.out b5 rfl).1)
      refine hK.out _ _ (SF.out _ hu2) (fun hHeld2 => ?_)
      clear hHeld2 hK K hHeld
      (try simp only [Act.put, qa, qb, qc, qd, qe, qf])
      exact hT_5_7_10_16.out b5 b7 c7 b10 b16 u2 ⟨hu2, hw, cell_hold Ro10.out hg (fun e => N5_10 e), cell_hold Ro16.out hg (fun e => N5_16 e), (by have := N5_10; omega), (by have := N5_16; omega), N10_16⟩
     refine AllReadyH.cons (o := _) rfl (fun K hK => ?_) AllReadyH.nil
     go_simp
     have hb := Below.alloc (Below.refl u.heap.size u) (Nat.le_refl _) (.cells #[] 3)
     have hu2 := more HU.out (Nat.le_refl _) hb
     refine hK.out _ _ (SF.out _ hu2) (fun hHeld2 => ?_)
     clear hHeld2 hK K hHeld
     (try simp only [Act.put, qa, qb, qc, qd, qe, qf])
     obtain ⟨b12, hbo⟩ : ∃ q, u.heap.size = q := ⟨_, rfl⟩
     obtain ⟨u2, hN⟩ : ∃ q, (u.alloc (.cells #[] 3)) = q := ⟨_, rfl⟩
     rw [hN, hbo]
     exact hT_5_10_12_16.out b5 b10 b12 b16 u2 (by subst hN hbo; exact ⟨hu2, ownsRow_below Ro5.out hb, (hb.cell (p := ⟨b10, 0, none⟩) l10).trans Ro10.out, ⟨rfl, .inr ⟨u.heap.size, 0, #[], rfl, HU.out.size, World.alloc_heap_new u _, Nat.le_refl _, by decide, rfl, rfl⟩⟩, (hb.cell (p := ⟨b16, 0, none⟩) l16).trans Ro16.out, N5_10, (by omega), N5_16, (by omega), N10_16, (by omega)⟩)
    ·rintro b5 b12 b16 u ⟨hU, r5, r12, r16, N5_12, N5_16, N12_16⟩
     have HU := Lib.hid hU
     have Ro5 := Lib.hid r5
     have l5 : b5 < u.heap.size := (World.ownsRow.lt r5 b5 rfl).2
     have Ro12 := Lib.hid r12
     have l12 : b12 < u.heap.size := (World.ownsRow.lt r12 b12 rfl).2
     have Ro16 := Lib.hid r16
     have l16 : b16 < u.heap.size := World.block_lt_of_cell? u _ r16
     have hHeld := SF.out _ HU.out
     clear hU r5 r12 r16
     refine wpAnyH_ready (rs := [7, 10]) (by kernel_rfl) (by simp) ?_
     refine AllReadyH.cons (o := _) rfl (fun K hK => ?_) ?_
     ·skip
      refine step_clone_way2 (by rfl) (.tmp 38) (.tmp 39) (by rfl) wr.heap.size b5 (by rfl) Ro5.out w0.heap.size g cw gn ab (by rfl) HGN.out (HWG.out.later HU.out) (by omega) HU.out.size ?_
      intro b7 c7 u2 hw hg hat
      have hu2 := HU.out.grown hg HU.out.size (fun k e => by cases e; exact (World.ownsRow.lt Ro5.out b5 rfl).1)
      refine hK.out _ _ (SF.out _ hu2) (fun hHeld2 => ?_)
      clear hHeld2 hK K hHeld
      (try simp only [Act.put, qa, qb, qc, qd, qe, qf])
      exact hT_5_7_12_16.out b5 b7 c7 b12 b16 u2 ⟨hu2, hw, row_hold Ro12.out hg (fun e => N5_12 e), cell_hold Ro16.out hg (fun e => N5_16 e), (by have := N5_12; omega), (by have := N5_16; omega), N12_16⟩
     refine AllReadyH.cons (o := _) rfl (fun K hK => ?_) AllReadyH.nil
     go_simp
     have hb := Below.alloc (Below.refl u.heap.size u) (Nat.le_refl _) (.cells #[.int .i64 tn] 3)
     have hu2 := more HU.out (Nat.le_refl _) hb
     refine hK.out _ _ (SF.out _ hu2) (fun hHeld2 => ?_)
     clear hHeld2 hK K hHeld
     (try simp only [Act.put, qa, qb, qc, qd, qe, qf])
     obtain ⟨b10, hbo⟩ : ∃ q, u.heap.size = q := ⟨_, rfl⟩
     obtain ⟨u2, hN⟩ : ∃ q, (u.alloc (.cells #[.int .i64 tn] 3)) = q := ⟨_, rfl⟩
     rw [hN, hbo]
     exact hT_5_10_12_16.out b5 b10 b12 b16 u2 (by subst hN hbo; exact ⟨hu2, ownsRow_below Ro5.out hb, (by rw [World.cell?_alloc_new]; rfl), ownsRow_below Ro12.out hb, (hb.cell (p := ⟨b16, 0, none⟩) l16).trans Ro16.out, (by omega), N5_12, N5_16, (by omega), (by omega), N12_16⟩)
    ·rintro b10 b12 b16 u ⟨hU, r10, r12, r16, N10_12, N10_16, N12_16⟩
     have HU := Lib.hid hU
     have Ro10 := Lib.hid r10
     have l10 : b10 < u.heap.size := World.block_lt_of_cell? u _ r10
     have Ro12 := Lib.hid r12
     have l12 : b12 < u.heap.size := (World.ownsRow.lt r12 b12 rfl).2
     have Ro16 := Lib.hid r16
     have l16 : b16 < u.heap.size := World.block_lt_of_cell? u _ r16
     have hHeld := SF.out _ HU.out
     clear hU r10 r12 r16
     refine wpAnyH_ready (rs := [5]) (by kernel_rfl) (by simp) ?_
     refine AllReadyH.cons (o := _) rfl (fun K hK => ?_) AllReadyH.nil
     go_simp
     have hb := Below.alloc (Below.refl u.heap.size u) (Nat.le_refl _) (.cells #[] 3)
     have hu2 := more HU.out (Nat.le_refl _) hb
     refine hK.out _ _ (SF.out _ hu2) (fun hHeld2 => ?_)
     clear hHeld2 hK K hHeld
     (try simp only [Act.put, qa, qb, qc, qd, qe, qf])
     obtain ⟨b5, hbo⟩ : ∃ q, u.heap.size = q := ⟨_, rfl⟩
     obtain ⟨u2, hN⟩ : ∃ q, (u.alloc (.cells #[] 3)) = q := ⟨_, rfl⟩
     rw [hN, hbo]
     exact hT_5_10_12_16.out b5 b10 b12 b16 u2 (by subst hN hbo; exact ⟨hu2, ⟨rfl, .inr ⟨u.heap.size, 0, #[], rfl, HU.out.size, World.alloc_heap_new u _, Nat.le_refl _, by decide, rfl, rfl⟩⟩, (hb.cell (p := ⟨b10, 0, none⟩) l10).trans Ro10.out, ownsRow_below Ro12.out hb, (hb.cell (p := ⟨b16, 0, none⟩) l16).trans Ro16.out, (by omega), (by omega), (by omega), N10_12, N10_16, N12_16⟩)
    ·rintro b5 b7 c7 b10 b11 c11 u ⟨hU, r11⟩
     have HU := Lib.hid hU
     have Ro11 := Lib.hid r11
     have l11 : b11 < u.heap.size := (World.ownsRow.lt r11 b11 rfl).2
     have hHeld := SF.out _ HU.out
     clear hU r11
     refine wpAnyH_ready (rs := [12, 16]) (by kernel_rfl) (by simp) ?_
     refine AllReadyH.cons (o := _) rfl (fun K hK => ?_) ?_
     ·skip
      go_simp
      have hb := Below.alloc (Below.refl u.heap.size u) (Nat.le_refl _) (.cells #[] 3)
      have hu2 := more HU.out (Nat.le_refl _) hb
      refine hK.out _ _ (SF.out _ hu2) (fun hHeld2 => ?_)
      clear hHeld2 hK K hHeld
      (try simp only [Act.put, qa, qb, qc, qd, qe, qf])
      obtain ⟨b12, hbo⟩ : ∃ q, u.heap.size = q := ⟨_, rfl⟩
      obtain ⟨u2, hN⟩ : ∃ q, (u.alloc (.cells #[] 3)) = q := ⟨_, rfl⟩
      rw [hN, hbo]
      exact hT_5_7_10_11_12.out b5 b7 c7 b10 b11 c11 b12 u2 (by subst hN hbo; exact ⟨hu2, Ro11.out.later hb, ⟨rfl, .inr ⟨u.heap.size, 0, #[], rfl, HU.out.size, World.alloc_heap_new u _, Nat.le_refl _, by decide, rfl, rfl⟩⟩, (by omega)⟩)
     refine AllReadyH.cons (o := _) rfl (fun K hK => ?_) AllReadyH.nil
     go_simp
     have hb := Below.alloc (Below.refl u.heap.size u) (Nat.le_refl _) (.cells #[.int .i64 k] 3)
     have hu2 := more HU.out (Nat.le_refl _) hb
     refine hK.out _ _ (SF.out _ hu2) (fun hHeld2 => ?_)
     clear hHeld2 hK K hHeld
     (try simp only [Act.put, qa, qb, qc, qd, qe, qf])
     obtain ⟨b16, hbo⟩ : ∃ q, u.heap.size = q := ⟨_, rfl⟩
     obtain ⟨u2, hN⟩ : ∃ q, (u.alloc (.cells #[.int .i64 k] 3)) = q := ⟨_, rfl⟩
     rw [hN, hbo]
     exact hT_5_7_10_11_16.out b5 b7 c7 b10 b11 c11 b16 u2 (by subst hN hbo; exact ⟨hu2, Ro11.out.later hb, (by rw [World.cell?_alloc_new]; rfl), (by omega)⟩)
    ·rintro b5 b7 c7 b10 b12 u ⟨hU, r7, r10, r12, N7_10, N7_12, N10_12⟩
     have HU := Lib.hid hU
     have Ro7 := Lib.hid r7
     have l7 : b7 < u.heap.size := (World.ownsRow.lt r7 b7 rfl).2
     have Ro10 := Lib.hid r10
     have l10 : b10 < u.heap.size := World.block_lt_of_cell? u _ r10
     have Ro12 := Lib.hid r12
     have l12 : b12 < u.heap.size := (World.ownsRow.lt r12 b12 rfl).2
     have hHeld := SF.out _ HU.out
     clear hU r7 r10 r12
     refine wpAnyH_ready (rs := [11, 16]) (by kernel_rfl) (by simp) ?_
     refine AllReadyH.cons (o := _) rfl (fun K hK => ?_) ?_
     ·skip
      refine step_add_way2 (by rfl) (.tmp 40) (.tmp 43) (by rfl) wr.heap.size b7 c7 gn ab (by rfl) HGN.out Ro7.out ⟨b10, 0, none⟩ 1 tn (by rfl) Ro10.out (by omega) HU.out.size ?_
      intro b11 c11 u2 hw hg hat
      have hu2 := HU.out.grown hg HU.out.size (fun k e => by cases e; exact (World.ownsRow.lt Ro7.out b7 rfl).1)
      refine hK.out _ _ (SF.out _ hu2) (fun hHeld2 => ?_)
      clear hHeld2 hK K hHeld
      (try simp only [Act.put, qa, qb, qc, qd, qe, qf])
      exact hT_5_7_10_11_12.out b5 b7 c7 b10 b11 c11 b12 u2 ⟨hu2, hw, row_hold Ro12.out hg (fun e => N7_12 e), (by have := N7_12; omega)⟩
     refine AllReadyH.cons (o := _) rfl (fun K hK => ?_) AllReadyH.nil
     go_simp
     have hb := Below.alloc (Below.refl u.heap.size u) (Nat.le_refl _) (.cells #[.int .i64 k] 3)
     have hu2 := more HU.out (Nat.le_refl _) hb
     refine hK.out _ _ (SF.out _ hu2) (fun hHeld2 => ?_)
     clear hHeld2 hK K hHeld
     (try simp only [Act.put, qa, qb, qc, qd, qe, qf])
     obtain ⟨b16, hbo⟩ : ∃ q, u.heap.size = q := ⟨_, rfl⟩
     obtain ⟨u2, hN⟩ : ∃ q, (u.alloc (.cells #[.int .i64 k] 3)) = q := ⟨_, rfl⟩
     rw [hN, hbo]
     exact hT_5_7_10_12_16.out b5 b7 c7 b10 b12 b16 u2 (by subst hN hbo; exact ⟨hu2, Ro7.out.later hb, (hb.cell (p := ⟨b10, 0, none⟩) l10).trans Ro10.out, ownsRow_below Ro12.out hb, (by rw [World.cell?_alloc_new]; rfl), N7_10, N7_12, (by omega), N10_12, (by omega), (by omega)⟩)
    ·rintro b5 b7 c7 b10 b16 u ⟨hU, r7, r10, r16, N7_10, N7_16, N10_16⟩
     have HU := Lib.hid hU
     have Ro7 := Lib.hid r7
     have l7 : b7 < u.heap.size := (World.ownsRow.lt r7 b7 rfl).2
     have Ro10 := Lib.hid r10
     have l10 : b10 < u.heap.size := World.block_lt_of_cell? u _ r10
     have Ro16 := Lib.hid r16
     have l16 : b16 < u.heap.size := World.block_lt_of_cell? u _ r16
     have hHeld := SF.out _ HU.out
     clear hU r7 r10 r16
     refine wpAnyH_ready (rs := [11, 12]) (by kernel_rfl) (by simp) ?_
     refine AllReadyH.cons (o := _) rfl (fun K hK => ?_) ?_
     ·skip
      refine step_add_way2 (by rfl) (.tmp 40) (.tmp 43) (by rfl) wr.heap.size b7 c7 gn ab (by rfl) HGN.out Ro7.out ⟨b10, 0, none⟩ 1 tn (by rfl) Ro10.out (by omega) HU.out.size ?_
      intro b11 c11 u2 hw hg hat
      have hu2 := HU.out.grown hg HU.out.size (fun k e => by cases e; exact (World.ownsRow.lt Ro7.out b7 rfl).1)
      refine hK.out _ _ (SF.out _ hu2) (fun hHeld2 => ?_)
      clear hHeld2 hK K hHeld
      (try simp only [Act.put, qa, qb, qc, qd, qe, qf])
      exact hT_5_7_10_11_16.out b5 b7 c7 b10 b11 c11 b16 u2 ⟨hu2, hw, cell_hold Ro16.out hg (fun e => N7_16 e), (by have := N7_16; omega)⟩
     refine AllReadyH.cons (o := _) rfl (fun K hK => ?_) AllReadyH.nil
     go_simp
     have hb := Below.alloc (Below.refl u.heap.size u) (Nat.le_refl _) (.cells #[] 3)
     have hu2 := more HU.out (Nat.le_refl _) hb
     refine hK.out _ _ (SF.out _ hu2) (fun hHeld2 => ?_)
     clear hHeld2 hK K hHeld
     (try simp only [Act.put, qa, qb, qc, qd, qe, qf])
     obtain ⟨b12, hbo⟩ : ∃ q, u.heap.size = q := ⟨_, rfl⟩
     obtain ⟨u2, hN⟩ : ∃ q, (u.alloc (.cells #[] 3)) = q := ⟨_, rfl⟩
     rw [hN, hbo]
     exact hT_5_7_10_12_16.out b5 b7 c7 b10 b12 b16 u2 (by subst hN hbo; exact ⟨hu2, Ro7.out.later hb, (hb.cell (p := ⟨b10, 0, none⟩) l10).trans Ro10.out, ⟨rfl, .inr ⟨u.heap.size, 0, #[], rfl, HU.out.size, World.alloc_heap_new u _, Nat.le_refl _, by decide, rfl, rfl⟩⟩, (hb.cell (p := ⟨b16, 0, none⟩) l16).trans Ro16.out, N7_10, (by omega), N7_16, (by omega), N10_16, (by omega)⟩)
    ·rintro b5 b7 c7 b12 b16 u ⟨hU, r7, r12, r16, N7_12, N7_16, N12_16⟩
     have HU := Lib.hid hU
     have Ro7 := Lib.hid r7
     have l7 : b7 < u.heap.size := (World.ownsRow.lt r7 b7 rfl).2
     have Ro12 := Lib.hid r12
     have l12 : b12 < u.heap.size := (World.ownsRow.lt r12 b12 rfl).2
     have Ro16 := Lib.hid r16
     have l16 : b16 < u.heap.size := World.block_lt_of_cell? u _ r16
     have hHeld := SF.out _ HU.out
     clear hU r7 r12 r16
     refine wpAnyH_ready (rs := [10]) (by kernel_rfl) (by simp) ?_
     refine AllReadyH.cons (o := _) rfl (fun K hK => ?_) AllReadyH.nil
     go_simp
     have hb := Below.alloc (Below.refl u.heap.size u) (Nat.le_refl _) (.cells #[.int .i64 tn] 3)
     have hu2 := more HU.out (Nat.le_refl _) hb
     refine hK.out _ _ (SF.out _ hu2) (fun hHeld2 => ?_)
     clear hHeld2 hK K hHeld
     (try simp only [Act.put, qa, qb, qc, qd, qe, qf])
     obtain ⟨b10, hbo⟩ : ∃ q, u.heap.size = q := ⟨_, rfl⟩
     obtain ⟨u2, hN⟩ : ∃ q, (u.alloc (.cells #[.int .i64 tn] 3)) = q := ⟨_, rfl⟩
     rw [hN, hbo]
     exact hT_5_7_10_12_16.out b5 b7 c7 b10 b12 b16 u2 (by subst hN hbo; exact ⟨hu2, Ro7.out.later hb, (by rw [World.cell?_alloc_new]; rfl), ownsRow_below Ro12.out hb, (hb.cell (p := ⟨b16, 0, none⟩) l16).trans Ro16.out, (by omega), N7_12, N7_16, (by omega), (by omega), N12_16⟩)
    ·rintro b5 b10 b12 b16 u ⟨hU, r5, r10, r12, r16, N5_10, N5_12, N5_16, N10_12, N10_16, N12_16⟩
     have HU := Lib.hid hU
     have Ro5 := Lib.hid r5
     have l5 : b5 < u.heap.size := (World.ownsRow.lt r5 b5 rfl).2
     have Ro10 := Lib.hid r10
     have l10 : b10 < u.heap.size := World.block_lt_of_cell? u _ r10
     have Ro12 := Lib.hid r12
     have l12 : b12 < u.heap.size := (World.ownsRow.lt r12 b12 rfl).2
     have Ro16 := Lib.hid r16
     have l16 : b16 < u.heap.size := World.block_lt_of_cell? u _ r16
     have hHeld := SF.out _ HU.out
     clear hU r5 r10 r12 r16
     refine wpAnyH_ready (rs := [7]) (by kernel_rfl) (by simp) ?_
     refine AllReadyH.cons (o := _) rfl (fun K hK => ?_) AllReadyH.nil
     refine step_clone_way2 (by rfl) (.tmp 38) (.tmp 39) (by rfl) wr.heap.size b5 (by rfl) Ro5.out w0.heap.size g cw gn ab (by rfl) HGN.out (HWG.out.later HU.out) (by omega) HU.out.size ?_
     intro b7 c7 u2 hw hg hat
     have hu2 := HU.out.grown hg HU.out.size (fun k e => by cases e; exact (World.ownsRow.lt Ro5.out b5 rfl).1)
     refine hK.out _ _ (SF.out _ hu2) (fun hHeld2 => ?_)
     clear hHeld2 hK K hHeld
     (try simp only [Act.put, qa, qb, qc, qd, qe, qf])
     exact hT_5_7_10_12_16.out b5 b7 c7 b10 b12 b16 u2 ⟨hu2, hw, cell_hold Ro10.out hg (fun e => N5_10 e), row_hold Ro12.out hg (fun e => N5_12 e), cell_hold Ro16.out hg (fun e => N5_16 e), (by have := N5_10; omega), (by have := N5_12; omega), (by have := N5_16; omega), N10_12, N10_16, N12_16⟩
    ·rintro b5 b7 c7 b10 b11 c11 b12 u ⟨hU, r11, r12, N11_12⟩
     have HU := Lib.hid hU
     have Ro11 := Lib.hid r11
     have l11 : b11 < u.heap.size := (World.ownsRow.lt r11 b11 rfl).2
     have Ro12 := Lib.hid r12
     have l12 : b12 < u.heap.size := (World.ownsRow.lt r12 b12 rfl).2
     have hHeld := SF.out _ HU.out
     clear hU r11 r12
     refine wpAnyH_ready (rs := [14, 16]) (by kernel_rfl) (by simp) ?_
     refine AllReadyH.cons (o := _) rfl (fun K hK => ?_) ?_
     ·skip
      refine step_clone_way2 (by rfl) (.tmp 45) (.tmp 46) (by rfl) wr.heap.size b12 (by rfl) Ro12.out w0.heap.size g2 cw2 wn way (by rfl) HWN.out (HWG2.out.later HU.out) (by omega) HU.out.size ?_
      intro b14 c14 u2 hw hg hat
      have hu2 := HU.out.grown hg HU.out.size (fun k e => by cases e; exact (World.ownsRow.lt Ro12.out b12 rfl).1)
      refine hK.out _ _ (SF.out _ hu2) (fun hHeld2 => ?_)
      clear hHeld2 hK K hHeld
      (try simp only [Act.put, qa, qb, qc, qd, qe, qf])
      exact hT_5_7_10_11_12_14.out b5 b7 c7 b10 b11 c11 b12 b14 c14 u2 ⟨hu2, row_hold Ro11.out hg (fun e => N11_12 e.symm), hw, (by have := N11_12; omega)⟩
     refine AllReadyH.cons (o := _) rfl (fun K hK => ?_) AllReadyH.nil
     go_simp
     have hb := Below.alloc (Below.refl u.heap.size u) (Nat.le_refl _) (.cells #[.int .i64 k] 3)
     have hu2 := more HU.out (Nat.le_refl _) hb
     refine hK.out _ _ (SF.out _ hu2) (fun hHeld2 => ?_)
     clear hHeld2 hK K hHeld
     (try simp only [Act.put, qa, qb, qc, qd, qe, qf])
     obtain ⟨b16, hbo⟩ : ∃ q, u.heap.size = q := ⟨_, rfl⟩
     obtain ⟨u2, hN⟩ : ∃ q, (u.alloc (.cells #[.int .i64 k] 3)) = q := ⟨_, rfl⟩
     rw [hN, hbo]
     exact hT_5_7_10_11_12_16.out b5 b7 c7 b10 b11 c11 b12 b16 u2 (by subst hN hbo; exact ⟨hu2, Ro11.out.later hb, ownsRow_below Ro12.out hb, (by rw [World.cell?_alloc_new]; rfl), N11_12, (by omega), (by omega)⟩)
    ·rintro b5 b7 c7 b10 b11 c11 b16 u ⟨hU, r11, r16, N11_16⟩
     have HU := Lib.hid hU
     have Ro11 := Lib.hid r11
     have l11 : b11 < u.heap.size := (World.ownsRow.lt r11 b11 rfl).2
     have Ro16 := Lib.hid r16
     have l16 : b16 < u.heap.size := World.block_lt_of_cell? u _ r16
     have hHeld := SF.out _ HU.out
     clear hU r11 r16
     refine wpAnyH_ready (rs := [12]) (by kernel_rfl) (by simp) ?_
     refine AllReadyH.cons (o := _) rfl (fun K hK => ?_) AllReadyH.nil
     go_simp
     have hb := Below.alloc (Below.refl u.heap.size u) (Nat.le_refl _) (.cells #[] 3)
     have hu2 := more HU.out (Nat.le_refl _) hb
     refine hK.out _ _ (SF.out _ hu2) (fun hHeld2 => ?_)
     clear hHeld2 hK K hHeld
     (try simp only [Act.put, qa, qb, qc, qd, qe, qf])
     obtain ⟨b12, hbo⟩ : ∃ q, u.heap.size = q := ⟨_, rfl⟩
     obtain ⟨u2, hN⟩ : ∃ q, (u.alloc (.cells #[] 3)) = q := ⟨_, rfl⟩
     rw [hN, hbo]
     exact hT_5_7_10_11_12_16.out b5 b7 c7 b10 b11 c11 b12 b16 u2 (by subst hN hbo; exact ⟨hu2, Ro11.out.later hb, ⟨rfl, .inr ⟨u.heap.size, 0, #[], rfl, HU.out.size, World.alloc_heap_new u _, Nat.le_refl _, by decide, rfl, rfl⟩⟩, (hb.cell (p := ⟨b16, 0, none⟩) l16).trans Ro16.out, (by omega), N11_16, (by omega)⟩)
    ·rintro b5 b7 c7 b10 b12 b16 u ⟨hU, r7, r10, r12, r16, N7_10, N7_12, N7_16, N10_12, N10_16, N12_16⟩
     have HU := Lib.hid hU
     have Ro7 := Lib.hid r7
     have l7 : b7 < u.heap.size := (World.ownsRow.lt r7 b7 rfl).2
     have Ro10 := Lib.hid r10
     have l10 : b10 < u.heap.size := World.block_lt_of_cell? u _ r10
     have Ro12 := Lib.hid r12
     have l12 : b12 < u.heap.size := (World.ownsRow.lt r12 b12 rfl).2
     have Ro16 := Lib.hid r16
     have l16 : b16 < u.heap.size := World.block_lt_of_cell? u _ r16
     have hHeld := SF.out _ HU.out
     clear hU r7 r10 r12 r16
     refine wpAnyH_ready (rs := [11]) (by kernel_rfl) (by simp) ?_
     refine AllReadyH.cons (o := _) rfl (fun K hK => ?_) AllReadyH.nil
     refine step_add_way2 (by rfl) (.tmp 40) (.tmp 43) (by rfl) wr.heap.size b7 c7 gn ab (by rfl) HGN.out Ro7.out ⟨b10, 0, none⟩ 1 tn (by rfl) Ro10.out (by omega) HU.out.size ?_
     intro b11 c11 u2 hw hg hat
     have hu2 := HU.out.grown hg HU.out.size (fun k e => by cases e; exact (World.ownsRow.lt Ro7.out b7 rfl).1)
     refine hK.out _ _ (SF.out _ hu2) (fun hHeld2 => ?_)
     clear hHeld2 hK K hHeld
     (try simp only [Act.put, qa, qb, qc, qd, qe, qf])
     exact hT_5_7_10_11_12_16.out b5 b7 c7 b10 b11 c11 b12 b16 u2 ⟨hu2, hw, row_hold Ro12.out hg (fun e => N7_12 e), cell_hold Ro16.out hg (fun e => N7_16 e), (by have := N7_12; omega), (by have := N7_16; omega), N12_16⟩
    ·rintro b5 b7 c7 b10 b11 c11 b12 b14 c14 u ⟨hU, r11, r14, N11_14⟩
     have HU := Lib.hid hU
     have Ro11 := Lib.hid r11
     have l11 : b11 < u.heap.size := (World.ownsRow.lt r11 b11 rfl).2
     have Ro14 := Lib.hid r14
     have l14 : b14 < u.heap.size := (World.ownsRow.lt r14 b14 rfl).2
     have hHeld := SF.out _ HU.out
     clear hU r11 r14
     refine wpAnyH_ready (rs := [16]) (by kernel_rfl) (by simp) ?_
     refine AllReadyH.cons (o := _) rfl (fun K hK => ?_) AllReadyH.nil
     go_simp
     have hb := Below.alloc (Below.refl u.heap.size u) (Nat.le_refl _) (.cells #[.int .i64 k] 3)
     have hu2 := more HU.out (Nat.le_refl _) hb
     refine hK.out _ _ (SF.out _ hu2) (fun hHeld2 => ?_)
     clear hHeld2 hK K hHeld
     (try simp only [Act.put, qa, qb, qc, qd, qe, qf])
     obtain ⟨b16, hbo⟩ : ∃ q, u.heap.size = q := ⟨_, rfl⟩
     obtain ⟨u2, hN⟩ : ∃ q, (u.alloc (.cells #[.int .i64 k] 3)) = q := ⟨_, rfl⟩
     rw [hN, hbo]
     exact hT_5_7_10_11_12_14_16.out b5 b7 c7 b10 b11 c11 b12 b14 c14 b16 u2 (by subst hN hbo; exact ⟨hu2, Ro11.out.later hb, Ro14.out.later hb, (by rw [World.cell?_alloc_new]; rfl), N11_14, (by omega), (by omega)⟩)
    ·rintro b5 b7 c7 b10 b11 c11 b12 b16 u ⟨hU, r11, r12, r16, N11_12, N11_16, N12_16⟩
     have HU := Lib.hid hU
     have Ro11 := Lib.hid r11
     have l11 : b11 < u.heap.size := (World.ownsRow.lt r11 b11 rfl).2
     have Ro12 := Lib.hid r12
     have l12 : b12 < u.heap.size := (World.ownsRow.lt r12 b12 rfl).2
     have Ro16 := Lib.hid r16
     have l16 : b16 < u.heap.size := World.block_lt_of_cell? u _ r16
     have hHeld := SF.out _ HU.out
     clear hU r11 r12 r16
     refine wpAnyH_ready (rs := [14]) (by kernel_rfl) (by simp) ?_
     refine AllReadyH.cons (o := _) rfl (fun K hK => ?_) AllReadyH.nil
     refine step_clone_way2 (by rfl) (.tmp 45) (.tmp 46) (by rfl) wr.heap.size b12 (by rfl) Ro12.out w0.heap.size g2 cw2 wn way (by rfl) HWN.out (HWG2.out.later HU.out) (by omega) HU.out.size ?_
     intro b14 c14 u2 hw hg hat
     have hu2 := HU.out.grown hg HU.out.size (fun k e => by cases e; exact (World.ownsRow.lt Ro12.out b12 rfl).1)
     refine hK.out _ _ (SF.out _ hu2) (fun hHeld2 => ?_)
     clear hHeld2 hK K hHeld
     (try simp only [Act.put, qa, qb, qc, qd, qe, qf])
     exact hT_5_7_10_11_12_14_16.out b5 b7 c7 b10 b11 c11 b12 b14 c14 b16 u2 ⟨hu2, row_hold Ro11.out hg (fun e => N11_12 e.symm), hw, cell_hold Ro16.out hg (fun e => N12_16 e), (by have := N11_12; omega), N11_16, (by have := N12_16; omega)⟩
    ·rintro b5 b7 c7 b10 b11 c11 b12 b14 c14 b16 u ⟨hU, r11, r14, r16, N11_14, N11_16, N14_16⟩
     have HU := Lib.hid hU
     have Ro11 := Lib.hid r11
     have l11 : b11 < u.heap.size := (World.ownsRow.lt r11 b11 rfl).2
     have Ro14 := Lib.hid r14
     have l14 : b14 < u.heap.size := (World.ownsRow.lt r14 b14 rfl).2
     have Ro16 := Lib.hid r16
     have l16 : b16 < u.heap.size := World.block_lt_of_cell? u _ r16
     have hHeld := SF.out _ HU.out
     clear hU r11 r14 r16
     refine wpAnyH_ready (rs := [17]) (by kernel_rfl) (by simp) ?_
     refine AllReadyH.cons (o := _) rfl (fun K hK => ?_) AllReadyH.nil
     refine step_add_way2 (by rfl) (.tmp 47) (.tmp 49) (by rfl) wr.heap.size b14 c14 wn way (by rfl) HWN.out Ro14.out ⟨b16, 0, none⟩ 1 k (by rfl) Ro16.out (by omega) HU.out.size ?_
     intro b17 c17 u2 hw hg hat
     have hu2 := HU.out.grown hg HU.out.size (fun k e => by cases e; exact (World.ownsRow.lt Ro14.out b14 rfl).1)
     refine hK.out _ _ (SF.out _ hu2) (fun hHeld2 => ?_)
     clear hHeld2 hK K hHeld
     (try simp only [Act.put, qa, qb, qc, qd, qe, qf])
     exact hT_5_7_10_11_12_14_16_17.out b5 b7 c7 b10 b11 c11 b12 b14 c14 b16 b17 c17 u2 ⟨hu2, row_hold Ro11.out hg (fun e => N11_14 e.symm), hw, (by have := N11_14; omega)⟩
    ·rintro b5 b7 c7 b10 b11 c11 b12 b14 c14 b16 b17 c17 u ⟨hbu, hw11, hw17, -⟩
     have hHeld := SF.out _ hbu
     have HBU := Lib.hid hbu
     have hszu := hbu.size
     have K5 := Lib.hid (KI.out b11 c11 b17 c17 u (by omega) (HLR.out.trans (hbu.mono HLR.out.size)) (row_mono hw11 HLR.out.size) (row_mono hw17 HLR.out.size) HP2.out HK2.out (HLW.out.below hbu) HCL.out.1 HCL.out.2.1 HCL.out.2.2)
     clear hbu hw11 hw17
     refine wpAnyH_ready (rs := [20]) (by kernel_rfl) (by simp) ?_
     refine AllReadyH.cons (o := _) rfl (fun K hK => ?_) AllReadyH.nil
     go_simp
     have K6 := K5.out
     simp only [List.length_append, List.length_singleton, HGN.out, HWN.out] at K6
     refine K6.mono ?_
     rintro e w5 ⟨B5, d5, rfl, h5, hg5⟩
     obtain ⟨L5, hL5⟩ := HLW.out.own
     have hgr := (Gr.of_below HBU.out (.slice B' cur.length d')).trans hg5
     have ht5 := box_gr HT.out (by decide) hgr hL5
     have hr5 := box_gr HRU.out (by decide) hgr hL5
     have hub : (Value.slice B' cur.length d').ownBlock ≠ some b := fun e => by have := (World.ownsRow.lt hL5 b e).1; omega
     have hS5 : (fun w' : World => w'.cell? ⟨w.heap.size, 0, none⟩ = some (.int .i64 tn) ∧ w'.cell? ⟨w.heap.size, 4, none⟩ = some (.slice (some ⟨b, off, none⟩) n c1) ∧ w'.cell? ⟨b, off + k * 5, none⟩ = some (.int .i64 yt) ∧ w'.cell? ⟨b, off + k * 5 + 1, none⟩ = some (.int .i64 yk) ∧ w'.cell? ⟨b, off + k * 5 + 2, none⟩ = some (.string ys') ∧ w'.cell? ⟨b, off + k * 5 + 3, none⟩ = some (.slice B0 yp.length d0) ∧ w'.cell? ⟨b, off + k * 5 + 4, none⟩ = some (.slice B1 yq.length d1) ∧ w'.cell? ⟨w.heap.size + 1, 0, none⟩ = some (.int .i64 x.t) ∧ w'.cell? ⟨w.heap.size + 1, 1, none⟩ = some (.int .i64 x.a) ∧ w'.cell? ⟨w.heap.size + 1, 2, none⟩ = some (.int .i64 x.nm) ∧ w'.cell? ⟨w.heap.size + 1, 3, none⟩ = some (.int .i64 x.v.k) ∧ w'.cell? ⟨w.heap.size + 1, 4, none⟩ = some (.int .i64 x.v.n) ∧ w'.cell? ⟨w.heap.size + 1, 5, none⟩ = some (.string x.v.s) ∧ w'.cell? ⟨w.heap.size + 1, 6, none⟩ = some (.int .i64 x.l) ∧ w'.cell? ⟨w.heap.size + 1, 7, none⟩ = some (.int .i64 x.g)) w5 := ⟨by rw [cell_of_row _ w.heap.size 0 _ _ _ ht5]; rfl, by rw [cell_of_row _ w.heap.size 4 _ _ _ ht5]; rfl, (hgr.cell hbr hub).trans e0, (hgr.cell hbr hub).trans e1, (hgr.cell hbr hub).trans e2, (hgr.cell hbr hub).trans e3, (hgr.cell hbr hub).trans e4, by rw [cell_of_row _ (w.heap.size + 1) 0 _ _ _ hr5]; rfl, by rw [cell_of_row _ (w.heap.size + 1) 1 _ _ _ hr5]; rfl, by rw [cell_of_row _ (w.heap.size + 1) 2 _ _ _ hr5]; rfl, by rw [cell_of_row _ (w.heap.size + 1) 3 _ _ _ hr5]; rfl, by rw [cell_of_row _ (w.heap.size + 1) 4 _ _ _ hr5]; rfl, by rw [cell_of_row _ (w.heap.size + 1) 5 _ _ _ hr5]; rfl, by rw [cell_of_row _ (w.heap.size + 1) 6 _ _ _ hr5]; rfl, by rw [cell_of_row _ (w.heap.size + 1) 7 _ _ _ hr5]; rfl⟩
     refine hK.out _ _ hS5 (fun hHeld2 => ?_)
     clear hHeld2 hK K hHeld
     have hHeld := hS5
     have HL5 := Lib.hid h5
     have HG5 := Lib.hid (HGR.out.trans hgr)
     have HT5 := Lib.hid ht5
     have HR5 := Lib.hid hr5
     clear h5 hg5 hgr ht5 hr5 hS5 hub K6
     (try simp only [Act.put, qa, qb, qc, qd, qe, qf])
     refine wpAnyH_take (i := 21) (oi := _) (v := ?_) rfl (by kernel_rfl) (by kernel_rfl) (by kernel_rfl) (fun _ _ _ h => h) (Or.inl ⟨by kernel_rfl, ?_⟩) (by assumption) ?_
     rotate_left
     ·(intro w hSw; (try dsimp only at hSw); go_simp)
      try with_reducible rfl
     (try simp only [Act.put, qa, qb, qc, qd, qe, qf])
     refine wpAnyH_done (by kernel_rfl) ?_ _
     obtain ⟨q5, hq5⟩ : ∃ q, cur ++ (fndT x (natI (ab ++ [tn])) (way ++ [k]) (.mk yt yk ys' yp yq)).map natI = q := ⟨_, rfl⟩
     rw [hq5] at HL5 HG5 ⊢
     have HQ5 := Lib.hid hq5
     have hcz5 : q5.length + sizeL (ks.drop (k + 1)) ≤ 1000 := by
      have h1 := HCZ2.out
      rw [← hq5, List.length_append, List.length_map]
      omega
     have HCZ5 := Lib.hid hcz5
     clear hq5 hcz5
     go_wp2_with fail
     go_roundw
     case rel => exact ⟨k + 1, q5, by omega, by go_num, ⟨B5, d5, by rw [← HQ5.out, List.length_append, List.length_map], HL5, HG5⟩, Lib.hid (by rw [← HQ5.out, natI_app, List.append_assoc, ← List.map_append]; exact HQ2.out), HCZ5, HT5, HR5⟩
     case measure => simp [intOf]; omega
   ·obtain rfl : k = n := by omega
    have hq := HQ.out
    rw [drop_none (by rw [HN.out]; omega), fndL_nil, List.map_nil, List.append_nil] at hq
    have HQ3 := Lib.hid hq
    have a4 : wr.cell? ⟨w.heap.size, 4, none⟩ = some (.slice A1 k c1) := by rw [cell_of_row _ w.heap.size 4 _ _ _ HT.out]; rfl
    clear hq
    go_wp2_with fail
    rw [← HX.out, ← HQ3.out]
    exact ⟨B', d', rfl, HLW.out, HGR.out⟩
end Go.Proofs.YtmfibedcloknlaaGreatDoor

namespace Go.Proofs.YtmfibedcloknlaaGreatDoor
open Go.Joins Go.ChangeShapes Go.WideShapes Go.ChangeAt Go.RowKit Go.Deep
set_option linter.unusedVariables false
set_option linter.unusedSimpArgs false

set_option maxRecDepth 100000 in
set_option maxHeartbeats 8000000 in
theorem sFindAll_any (t : Tr) (x : Ru) (hsm : SmT t) : ∀ (A0 A1 : Option Addr) (c0 c1 : Nat) (w : World), PrL w A0 t.ps → TrL w 0 A1 t.ks →
  Calls Tryz.prog 17 #[.agg #[.int .i64 t.tag, .int .i64 t.key, .string t.text, .slice A0 t.ps.length c0, .slice A1 t.ks.length c1], .agg #[.int .i64 x.t, .int .i64 x.a, .int .i64 x.nm, .int .i64 x.v.k, .int .i64 x.v.n, .string x.v.s, .int .i64 x.l, .int .i64 x.g]] w (LkX ((faV x t).map natI) w) := by
 intro A0 A1 c0 c1 w hp hk
 have k1 := fun w hp hk => svalidTree_any t hsm A0 A1 c0 c1 w hp hk
 have hb1 : Below w.heap.size w ((w.alloc (.cells #[.int .i64 t.tag, .int .i64 t.key, .string t.text, .slice A0 t.ps.length c0, .slice A1 t.ks.length c1] 26)).alloc (.cells #[.int .i64 x.t, .int .i64 x.a, .int .i64 x.nm, .int .i64 x.v.k, .int .i64 x.v.n, .string x.v.s, .int .i64 x.l, .int .i64 x.g] 42)) := (Below.alloc (Below.refl _ w) (Nat.le_refl _) _).alloc (by simp) _
 have a0 : ((w.alloc (.cells #[.int .i64 t.tag, .int .i64 t.key, .string t.text, .slice A0 t.ps.length c0, .slice A1 t.ks.length c1] 26)).alloc (.cells #[.int .i64 x.t, .int .i64 x.a, .int .i64 x.nm, .int .i64 x.v.k, .int .i64 x.v.n, .string x.v.s, .int .i64 x.l, .int .i64 x.g] 42)).cell? ⟨w.heap.size, 0, none⟩ = some (.int .i64 t.tag) := by rw [Below.cell (Below.alloc (Below.refl (w.alloc (.cells #[.int .i64 t.tag, .int .i64 t.key, .string t.text, .slice A0 t.ps.length c0, .slice A1 t.ks.length c1] 26)).heap.size _) (Nat.le_refl _) _) (p := ⟨w.heap.size, 0, none⟩) (by simp), World.cell?_alloc_new]; rfl
 have a1 : ((w.alloc (.cells #[.int .i64 t.tag, .int .i64 t.key, .string t.text, .slice A0 t.ps.length c0, .slice A1 t.ks.length c1] 26)).alloc (.cells #[.int .i64 x.t, .int .i64 x.a, .int .i64 x.nm, .int .i64 x.v.k, .int .i64 x.v.n, .string x.v.s, .int .i64 x.l, .int .i64 x.g] 42)).cell? ⟨w.heap.size, 1, none⟩ = some (.int .i64 t.key) := by rw [Below.cell (Below.alloc (Below.refl (w.alloc (.cells #[.int .i64 t.tag, .int .i64 t.key, .string t.text, .slice A0 t.ps.length c0, .slice A1 t.ks.length c1] 26)).heap.size _) (Nat.le_refl _) _) (p := ⟨w.heap.size, 1, none⟩) (by simp), World.cell?_alloc_new]; rfl
 have a2 : ((w.alloc (.cells #[.int .i64 t.tag, .int .i64 t.key, .string t.text, .slice A0 t.ps.length c0, .slice A1 t.ks.length c1] 26)).alloc (.cells #[.int .i64 x.t, .int .i64 x.a, .int .i64 x.nm, .int .i64 x.v.k, .int .i64 x.v.n, .string x.v.s, .int .i64 x.l, .int .i64 x.g] 42)).cell? ⟨w.heap.size, 2, none⟩ = some (.string t.text) := by rw [Below.cell (Below.alloc (Below.refl (w.alloc (.cells #[.int .i64 t.tag, .int .i64 t.key, .string t.text, .slice A0 t.ps.length c0, .slice A1 t.ks.length c1] 26)).heap.size _) (Nat.le_refl _) _) (p := ⟨w.heap.size, 2, none⟩) (by simp), World.cell?_alloc_new]; rfl
 have a3 : ((w.alloc (.cells #[.int .i64 t.tag, .int .i64 t.key, .string t.text, .slice A0 t.ps.length c0, .slice A1 t.ks.length c1] 26)).alloc (.cells #[.int .i64 x.t, .int .i64 x.a, .int .i64 x.nm, .int .i64 x.v.k, .int .i64 x.v.n, .string x.v.s, .int .i64 x.l, .int .i64 x.g] 42)).cell? ⟨w.heap.size, 3, none⟩ = some (.slice A0 t.ps.length c0) := by rw [Below.cell (Below.alloc (Below.refl (w.alloc (.cells #[.int .i64 t.tag, .int .i64 t.key, .string t.text, .slice A0 t.ps.length c0, .slice A1 t.ks.length c1] 26)).heap.size _) (Nat.le_refl _) _) (p := ⟨w.heap.size, 3, none⟩) (by simp), World.cell?_alloc_new]; rfl
 have a4 : ((w.alloc (.cells #[.int .i64 t.tag, .int .i64 t.key, .string t.text, .slice A0 t.ps.length c0, .slice A1 t.ks.length c1] 26)).alloc (.cells #[.int .i64 x.t, .int .i64 x.a, .int .i64 x.nm, .int .i64 x.v.k, .int .i64 x.v.n, .string x.v.s, .int .i64 x.l, .int .i64 x.g] 42)).cell? ⟨w.heap.size, 4, none⟩ = some (.slice A1 t.ks.length c1) := by rw [Below.cell (Below.alloc (Below.refl (w.alloc (.cells #[.int .i64 t.tag, .int .i64 t.key, .string t.text, .slice A0 t.ps.length c0, .slice A1 t.ks.length c1] 26)).heap.size _) (Nat.le_refl _) _) (p := ⟨w.heap.size, 4, none⟩) (by simp), World.cell?_alloc_new]; rfl
 have r0 : ((w.alloc (.cells #[.int .i64 t.tag, .int .i64 t.key, .string t.text, .slice A0 t.ps.length c0, .slice A1 t.ks.length c1] 26)).alloc (.cells #[.int .i64 x.t, .int .i64 x.a, .int .i64 x.nm, .int .i64 x.v.k, .int .i64 x.v.n, .string x.v.s, .int .i64 x.l, .int .i64 x.g] 42)).cell? ⟨w.heap.size + 1, 0, none⟩ = some (.int .i64 x.t) := by have h : ((w.alloc (.cells #[.int .i64 t.tag, .int .i64 t.key, .string t.text, .slice A0 t.ps.length c0, .slice A1 t.ks.length c1] 26)).alloc (.cells #[.int .i64 x.t, .int .i64 x.a, .int .i64 x.nm, .int .i64 x.v.k, .int .i64 x.v.n, .string x.v.s, .int .i64 x.l, .int .i64 x.g] 42)).cell? ⟨(w.alloc (.cells #[.int .i64 t.tag, .int .i64 t.key, .string t.text, .slice A0 t.ps.length c0, .slice A1 t.ks.length c1] 26)).heap.size, 0, none⟩ = some (.int .i64 x.t) := (by rw [World.cell?_alloc_new]; rfl); rw [World.size_alloc] at h; exact h
 have r1 : ((w.alloc (.cells #[.int .i64 t.tag, .int .i64 t.key, .string t.text, .slice A0 t.ps.length c0, .slice A1 t.ks.length c1] 26)).alloc (.cells #[.int .i64 x.t, .int .i64 x.a, .int .i64 x.nm, .int .i64 x.v.k, .int .i64 x.v.n, .string x.v.s, .int .i64 x.l, .int .i64 x.g] 42)).cell? ⟨w.heap.size + 1, 1, none⟩ = some (.int .i64 x.a) := by have h : ((w.alloc (.cells #[.int .i64 t.tag, .int .i64 t.key, .string t.text, .slice A0 t.ps.length c0, .slice A1 t.ks.length c1] 26)).alloc (.cells #[.int .i64 x.t, .int .i64 x.a, .int .i64 x.nm, .int .i64 x.v.k, .int .i64 x.v.n, .string x.v.s, .int .i64 x.l, .int .i64 x.g] 42)).cell? ⟨(w.alloc (.cells #[.int .i64 t.tag, .int .i64 t.key, .string t.text, .slice A0 t.ps.length c0, .slice A1 t.ks.length c1] 26)).heap.size, 1, none⟩ = some (.int .i64 x.a) := (by rw [World.cell?_alloc_new]; rfl); rw [World.size_alloc] at h; exact h
 have r2 : ((w.alloc (.cells #[.int .i64 t.tag, .int .i64 t.key, .string t.text, .slice A0 t.ps.length c0, .slice A1 t.ks.length c1] 26)).alloc (.cells #[.int .i64 x.t, .int .i64 x.a, .int .i64 x.nm, .int .i64 x.v.k, .int .i64 x.v.n, .string x.v.s, .int .i64 x.l, .int .i64 x.g] 42)).cell? ⟨w.heap.size + 1, 2, none⟩ = some (.int .i64 x.nm) := by have h : ((w.alloc (.cells #[.int .i64 t.tag, .int .i64 t.key, .string t.text, .slice A0 t.ps.length c0, .slice A1 t.ks.length c1] 26)).alloc (.cells #[.int .i64 x.t, .int .i64 x.a, .int .i64 x.nm, .int .i64 x.v.k, .int .i64 x.v.n, .string x.v.s, .int .i64 x.l, .int .i64 x.g] 42)).cell? ⟨(w.alloc (.cells #[.int .i64 t.tag, .int .i64 t.key, .string t.text, .slice A0 t.ps.length c0, .slice A1 t.ks.length c1] 26)).heap.size, 2, none⟩ = some (.int .i64 x.nm) := (by rw [World.cell?_alloc_new]; rfl); rw [World.size_alloc] at h; exact h
 have r3 : ((w.alloc (.cells #[.int .i64 t.tag, .int .i64 t.key, .string t.text, .slice A0 t.ps.length c0, .slice A1 t.ks.length c1] 26)).alloc (.cells #[.int .i64 x.t, .int .i64 x.a, .int .i64 x.nm, .int .i64 x.v.k, .int .i64 x.v.n, .string x.v.s, .int .i64 x.l, .int .i64 x.g] 42)).cell? ⟨w.heap.size + 1, 3, none⟩ = some (.int .i64 x.v.k) := by have h : ((w.alloc (.cells #[.int .i64 t.tag, .int .i64 t.key, .string t.text, .slice A0 t.ps.length c0, .slice A1 t.ks.length c1] 26)).alloc (.cells #[.int .i64 x.t, .int .i64 x.a, .int .i64 x.nm, .int .i64 x.v.k, .int .i64 x.v.n, .string x.v.s, .int .i64 x.l, .int .i64 x.g] 42)).cell? ⟨(w.alloc (.cells #[.int .i64 t.tag, .int .i64 t.key, .string t.text, .slice A0 t.ps.length c0, .slice A1 t.ks.length c1] 26)).heap.size, 3, none⟩ = some (.int .i64 x.v.k) := (by rw [World.cell?_alloc_new]; rfl); rw [World.size_alloc] at h; exact h
 have r4 : ((w.alloc (.cells #[.int .i64 t.tag, .int .i64 t.key, .string t.text, .slice A0 t.ps.length c0, .slice A1 t.ks.length c1] 26)).alloc (.cells #[.int .i64 x.t, .int .i64 x.a, .int .i64 x.nm, .int .i64 x.v.k, .int .i64 x.v.n, .string x.v.s, .int .i64 x.l, .int .i64 x.g] 42)).cell? ⟨w.heap.size + 1, 4, none⟩ = some (.int .i64 x.v.n) := by have h : ((w.alloc (.cells #[.int .i64 t.tag, .int .i64 t.key, .string t.text, .slice A0 t.ps.length c0, .slice A1 t.ks.length c1] 26)).alloc (.cells #[.int .i64 x.t, .int .i64 x.a, .int .i64 x.nm, .int .i64 x.v.k, .int .i64 x.v.n, .string x.v.s, .int .i64 x.l, .int .i64 x.g] 42)).cell? ⟨(w.alloc (.cells #[.int .i64 t.tag, .int .i64 t.key, .string t.text, .slice A0 t.ps.length c0, .slice A1 t.ks.length c1] 26)).heap.size, 4, none⟩ = some (.int .i64 x.v.n) := (by rw [World.cell?_alloc_new]; rfl); rw [World.size_alloc] at h; exact h
 have r5 : ((w.alloc (.cells #[.int .i64 t.tag, .int .i64 t.key, .string t.text, .slice A0 t.ps.length c0, .slice A1 t.ks.length c1] 26)).alloc (.cells #[.int .i64 x.t, .int .i64 x.a, .int .i64 x.nm, .int .i64 x.v.k, .int .i64 x.v.n, .string x.v.s, .int .i64 x.l, .int .i64 x.g] 42)).cell? ⟨w.heap.size + 1, 5, none⟩ = some (.string x.v.s) := by have h : ((w.alloc (.cells #[.int .i64 t.tag, .int .i64 t.key, .string t.text, .slice A0 t.ps.length c0, .slice A1 t.ks.length c1] 26)).alloc (.cells #[.int .i64 x.t, .int .i64 x.a, .int .i64 x.nm, .int .i64 x.v.k, .int .i64 x.v.n, .string x.v.s, .int .i64 x.l, .int .i64 x.g] 42)).cell? ⟨(w.alloc (.cells #[.int .i64 t.tag, .int .i64 t.key, .string t.text, .slice A0 t.ps.length c0, .slice A1 t.ks.length c1] 26)).heap.size, 5, none⟩ = some (.string x.v.s) := (by rw [World.cell?_alloc_new]; rfl); rw [World.size_alloc] at h; exact h
 have r6 : ((w.alloc (.cells #[.int .i64 t.tag, .int .i64 t.key, .string t.text, .slice A0 t.ps.length c0, .slice A1 t.ks.length c1] 26)).alloc (.cells #[.int .i64 x.t, .int .i64 x.a, .int .i64 x.nm, .int .i64 x.v.k, .int .i64 x.v.n, .string x.v.s, .int .i64 x.l, .int .i64 x.g] 42)).cell? ⟨w.heap.size + 1, 6, none⟩ = some (.int .i64 x.l) := by have h : ((w.alloc (.cells #[.int .i64 t.tag, .int .i64 t.key, .string t.text, .slice A0 t.ps.length c0, .slice A1 t.ks.length c1] 26)).alloc (.cells #[.int .i64 x.t, .int .i64 x.a, .int .i64 x.nm, .int .i64 x.v.k, .int .i64 x.v.n, .string x.v.s, .int .i64 x.l, .int .i64 x.g] 42)).cell? ⟨(w.alloc (.cells #[.int .i64 t.tag, .int .i64 t.key, .string t.text, .slice A0 t.ps.length c0, .slice A1 t.ks.length c1] 26)).heap.size, 6, none⟩ = some (.int .i64 x.l) := (by rw [World.cell?_alloc_new]; rfl); rw [World.size_alloc] at h; exact h
 have r7 : ((w.alloc (.cells #[.int .i64 t.tag, .int .i64 t.key, .string t.text, .slice A0 t.ps.length c0, .slice A1 t.ks.length c1] 26)).alloc (.cells #[.int .i64 x.t, .int .i64 x.a, .int .i64 x.nm, .int .i64 x.v.k, .int .i64 x.v.n, .string x.v.s, .int .i64 x.l, .int .i64 x.g] 42)).cell? ⟨w.heap.size + 1, 7, none⟩ = some (.int .i64 x.g) := by have h : ((w.alloc (.cells #[.int .i64 t.tag, .int .i64 t.key, .string t.text, .slice A0 t.ps.length c0, .slice A1 t.ks.length c1] 26)).alloc (.cells #[.int .i64 x.t, .int .i64 x.a, .int .i64 x.nm, .int .i64 x.v.k, .int .i64 x.v.n, .string x.v.s, .int .i64 x.l, .int .i64 x.g] 42)).cell? ⟨(w.alloc (.cells #[.int .i64 t.tag, .int .i64 t.key, .string t.text, .slice A0 t.ps.length c0, .slice A1 t.ks.length c1] 26)).heap.size, 7, none⟩ = some (.int .i64 x.g) := (by rw [World.cell?_alloc_new]; rfl); rw [World.size_alloc] at h; exact h
 have hz1 : w.heap.size + 1 < ((w.alloc (.cells #[.int .i64 t.tag, .int .i64 t.key, .string t.text, .slice A0 t.ps.length c0, .slice A1 t.ks.length c1] 26)).alloc (.cells #[.int .i64 x.t, .int .i64 x.a, .int .i64 x.nm, .int .i64 x.v.k, .int .i64 x.v.n, .string x.v.s, .int .i64 x.l, .int .i64 x.g] 42)).heap.size := by simp
 obtain ⟨X, hX⟩ : ∃ X, LkX ((faV x t).map natI) w = X := ⟨_, rfl⟩
 have HX := Lib.hid hX
 rw [hX]
 obtain ⟨w1, hw1⟩ : ∃ q, (w.alloc (.cells #[.int .i64 t.tag, .int .i64 t.key, .string t.text, .slice A0 t.ps.length c0, .slice A1 t.ks.length c1] 26)).alloc (.cells #[.int .i64 x.t, .int .i64 x.a, .int .i64 x.nm, .int .i64 x.v.k, .int .i64 x.v.n, .string x.v.s, .int .i64 x.l, .int .i64 x.g] 42) = q := ⟨_, rfl⟩
 rw [hw1] at hb1 a0 a1 a2 a3 a4 r0 r1 r2 r3 r4 r5 r6 r7 hz1
 have K1 := Lib.hid (k1 w1 (hp.below hb1) (hk.below hb1))
 have K2 := Lib.hid (fun w => vrule_any x w)
 have HB1 := Lib.hid hb1
 have HP := Lib.hid hp
 have HK := Lib.hid hk
 have HSM := Lib.hid hsm
 have HW1 := Lib.hid hw1
 obtain ⟨ok, hok⟩ : ∃ v, treeOkB t = v := ⟨_, rfl⟩
 obtain ⟨ok2, hok2⟩ : ∃ v, ruleB x = v := ⟨_, rfl⟩
 rw [hok] at K1
 rw [hok2] at K2
 have HOK := Lib.hid hok
 have HOK2 := Lib.hid hok2
 clear hw1 k1 hb1 hp hk hsm hX hok hok2
 go_enter Tryz.func17, Tryz.ntmps17
 go_wp2_with fail
 rw [HW1.out]
 refine K1.out.mono ?_
 rintro e w2 ⟨rfl, hb⟩
 replace a0 := (hb.cell (p := ⟨w.heap.size, 0, none⟩) (show w.heap.size < w1.heap.size by omega)).trans a0
 replace a1 := (hb.cell (p := ⟨w.heap.size, 1, none⟩) (show w.heap.size < w1.heap.size by omega)).trans a1
 replace a2 := (hb.cell (p := ⟨w.heap.size, 2, none⟩) (show w.heap.size < w1.heap.size by omega)).trans a2
 replace a3 := (hb.cell (p := ⟨w.heap.size, 3, none⟩) (show w.heap.size < w1.heap.size by omega)).trans a3
 replace a4 := (hb.cell (p := ⟨w.heap.size, 4, none⟩) (show w.heap.size < w1.heap.size by omega)).trans a4
 replace r0 := (hb.cell (p := ⟨w.heap.size + 1, 0, none⟩) (show w.heap.size + 1 < w1.heap.size by omega)).trans r0
 replace r1 := (hb.cell (p := ⟨w.heap.size + 1, 1, none⟩) (show w.heap.size + 1 < w1.heap.size by omega)).trans r1
 replace r2 := (hb.cell (p := ⟨w.heap.size + 1, 2, none⟩) (show w.heap.size + 1 < w1.heap.size by omega)).trans r2
 replace r3 := (hb.cell (p := ⟨w.heap.size + 1, 3, none⟩) (show w.heap.size + 1 < w1.heap.size by omega)).trans r3
 replace r4 := (hb.cell (p := ⟨w.heap.size + 1, 4, none⟩) (show w.heap.size + 1 < w1.heap.size by omega)).trans r4
 replace r5 := (hb.cell (p := ⟨w.heap.size + 1, 5, none⟩) (show w.heap.size + 1 < w1.heap.size by omega)).trans r5
 replace r6 := (hb.cell (p := ⟨w.heap.size + 1, 6, none⟩) (show w.heap.size + 1 < w1.heap.size by omega)).trans r6
 replace r7 := (hb.cell (p := ⟨w.heap.size + 1, 7, none⟩) (show w.heap.size + 1 < w1.heap.size by omega)).trans r7

 have HB2 := Lib.hid (more HB1.out (Nat.le_refl _) hb)
 have hz2 := Nat.lt_of_lt_of_le hz1 hb.size
 clear hb K1 hz1 HW1 HB1
 cases ok
 ·have HVV := Lib.hid (show faV x t = [] by unfold faV; rw [HOK.out]; rfl)
  go_wp2_with fail
  rw [← HX.out, HVV.out]
  exact lkx_nil HB2.out
 go_wp2_with fail
 refine (K2.out _).mono ?_
 rintro e w3 ⟨rfl, hb⟩
 replace a0 := (hb.cell (p := ⟨w.heap.size, 0, none⟩) (show w.heap.size < w2.heap.size by omega)).trans a0
 replace a1 := (hb.cell (p := ⟨w.heap.size, 1, none⟩) (show w.heap.size < w2.heap.size by omega)).trans a1
 replace a2 := (hb.cell (p := ⟨w.heap.size, 2, none⟩) (show w.heap.size < w2.heap.size by omega)).trans a2
 replace a3 := (hb.cell (p := ⟨w.heap.size, 3, none⟩) (show w.heap.size < w2.heap.size by omega)).trans a3
 replace a4 := (hb.cell (p := ⟨w.heap.size, 4, none⟩) (show w.heap.size < w2.heap.size by omega)).trans a4
 replace r0 := (hb.cell (p := ⟨w.heap.size + 1, 0, none⟩) (show w.heap.size + 1 < w2.heap.size by omega)).trans r0
 replace r1 := (hb.cell (p := ⟨w.heap.size + 1, 1, none⟩) (show w.heap.size + 1 < w2.heap.size by omega)).trans r1
 replace r2 := (hb.cell (p := ⟨w.heap.size + 1, 2, none⟩) (show w.heap.size + 1 < w2.heap.size by omega)).trans r2
 replace r3 := (hb.cell (p := ⟨w.heap.size + 1, 3, none⟩) (show w.heap.size + 1 < w2.heap.size by omega)).trans r3
 replace r4 := (hb.cell (p := ⟨w.heap.size + 1, 4, none⟩) (show w.heap.size + 1 < w2.heap.size by omega)).trans r4
 replace r5 := (hb.cell (p := ⟨w.heap.size + 1, 5, none⟩) (show w.heap.size + 1 < w2.heap.size by omega)).trans r5
 replace r6 := (hb.cell (p := ⟨w.heap.size + 1, 6, none⟩) (show w.heap.size + 1 < w2.heap.size by omega)).trans r6
 replace r7 := (hb.cell (p := ⟨w.heap.size + 1, 7, none⟩) (show w.heap.size + 1 < w2.heap.size by omega)).trans r7

 have HB3 := Lib.hid (more HB2.out (Nat.le_refl _) hb)
 have hz3 := Nat.lt_of_lt_of_le hz2 hb.size
 clear hb K2 hz2 HB2
 cases ok2
 ·have HVV := Lib.hid (show faV x t = [] by unfold faV; rw [HOK.out, HOK2.out]; rfl)
  go_wp2_with fail
  rw [← HX.out, HVV.out]
  exact lkx_nil HB3.out
 have HVP := Lib.hid (vp_of_ok HOK.out)
 have HSZ := Lib.hid (size_small9 HOK.out)
 have HVV := Lib.hid (show faV x t = fndT x [] [] t by unfold faV; rw [HOK.out, HOK2.out]; exact findA_same x t HVP.out)
 have hz30 : w.heap.size < w3.heap.size := by omega
 have hw3 := HB3.out.size
 go_wp2_with fail
 obtain ⟨u3, hu3⟩ : ∃ q, ((w3.alloc (.cells #[] 3)).alloc (.cells #[] 3)).alloc (.cells #[] 36) = q := ⟨_, rfl⟩
 have hb31 : Below w3.heap.size w3 (w3.alloc (.cells #[] 3)) := Below.alloc (Below.refl _ _) (Nat.le_refl _) _
 have hb32 : Below w3.heap.size w3 ((w3.alloc (.cells #[] 3)).alloc (.cells #[] 3)) := hb31.alloc (by simp) _
 have hb3 : Below w3.heap.size w3 u3 := by rw [← hu3]; exact hb32.alloc (by simp only [World.size_alloc]; omega) _
 have hwa : WayR w3.heap.size u3 (some ⟨w3.heap.size, 0, none⟩) 0 [] := ⟨rfl, .inr ⟨w3.heap.size, 0, #[], rfl, Nat.le_refl _, by rw [← hu3]; exact (Below.heap_alloc _ _ _ (by simp only [World.size_alloc]; omega)).trans ((Below.heap_alloc _ _ _ (by simp)).trans (World.alloc_heap_new w3 _)), Nat.le_refl _, by decide, rfl, rfl⟩⟩
 have hwb : WayR w3.heap.size u3 (some ⟨w3.heap.size + 1, 0, none⟩) 0 [] := ⟨rfl, .inr ⟨w3.heap.size + 1, 0, #[], rfl, Nat.le_succ _, by rw [← hu3]; exact (Below.heap_alloc _ _ _ (by simp)).trans (by have h := World.alloc_heap_new (w3.alloc (.cells #[] 3)) (.cells #[] 3); rw [World.size_alloc] at h; exact h), Nat.le_refl _, by decide, rfl, rfl⟩⟩
 have hlw : LkW [] w3.heap.size (some ⟨w3.heap.size + 1 + 1, 0, none⟩) 0 u3 := ⟨[], rfl, ⟨rfl, .inr ⟨w3.heap.size + 1 + 1, 0, #[], rfl, by omega, by rw [← hu3]; have h := World.alloc_heap_new ((w3.alloc (.cells #[] 3)).alloc (.cells #[] 3)) (.cells #[] 36); rw [World.size_alloc, World.size_alloc] at h; exact h, Nat.le_refl _, by decide, rfl, rfl⟩⟩, by simp, List.Pairwise.nil⟩
 rw [hu3]
 have K5 := sfound_any shownB x w3 w3.heap.size (Nat.le_refl _) t HVP.out HSM.out [] [] w3.heap.size 0 (w3.heap.size + 1) 0 A0 A1 c0 c1 [] (some ⟨w3.heap.size + 1 + 1, 0, none⟩) 0 u3 hb3.size hb3 hwa hwb (HP.out.below HB3.out) (HK.out.below HB3.out) hlw (by have := HSZ.out; simp only [List.length_nil]; omega) (by have := HSZ.out; simp only [List.length_nil]; omega) (by have := HSZ.out; simp only [List.length_nil]; omega)
 rw [List.nil_append, show natI [] = [] from rfl, ← HVV.out] at K5
 have HB5 := Lib.hid (HB3.out.trans (hb3.mono HB3.out.size))
 clear hu3 hb31 hb32 hb3 hwa hwb hlw
 refine K5.mono ?_
 rintro e w5 ⟨B5, d5, rfl, h5, hg5⟩
 have HR := Lib.hid (show LkX ((faV x t).map natI) w (.returned (.slice B5 ((faV x t).map natI).length d5)) w5 by
  obtain ⟨rs, q1, q2, q3, q4⟩ := h5
  exact ⟨B5, d5, rfl, ⟨rs, q1, row_mono q2 hw3, fun r hr => (q3 r hr).mono hw3, q4⟩, HB5.out.trans (hg5.below HB5.out.size (fun g e => by have e2 : w3.heap.size + 1 + 1 = g := (by simpa [Value.ownBlock] using e); omega))⟩)
 clear h5 hg5 K5
 go_wp2_with fail
 rw [← HX.out]
 have h := HR.out
 rw [List.length_map] at h
 exact h
end Go.Proofs.YtmfibedcloknlaaGreatDoor
