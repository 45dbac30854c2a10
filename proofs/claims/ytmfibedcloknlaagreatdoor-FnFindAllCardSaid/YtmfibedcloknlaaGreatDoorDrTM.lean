/- DrwT3, DrwT4, DrwT5, DrwT6 in one text. -/
import Derived.Test.YtmfibedcloknlaaGreatDoorDrwT2
import Derived.Deep.RegionHeld3
import Derived.Deep.RegionLaw
namespace Go.Proofs.YtmfibedcloknlaaGreatDoor
open Go.Joins Go.ChangeShapes Go.WideShapes Go.ChangeAt Go.RowKit Go.Deep
set_option linter.unusedVariables false
set_option linter.unusedSimpArgs false

theorem infoTr : (Tryz.prog.info? 26).map (fun i => (i.zero, i.size, i.bytes)) = some (some (.agg #[.int .i64 0, .int .i64 0, .string ⟨#[]⟩, .slice none 0 0, .slice none 0 0]), 5, 80) := by kernel_rfl
theorem step_append_own {w : World} {ops : Array Oper} {o : Oper} {a : Act} {K : Act → World → Prop} {Q : Exit → Act → World → Prop} {E : Prop} (hgd : o.guard = none) (s x : Operand) (t e : TypeId) (i : TypeInfo) (z : Value) (size bytes : Nat)
  (ho : o.op = .call { callee := .builtin .append, args := #[s, x], argTypes := #[t, t] }) (ht : Tryz.prog.underlying t = some (.slice e)) (hi : Tryz.prog.info? e = some i) (hz : i.zero = some z) (hsize : i.size = size) (hby : i.bytes = bytes) (hzs : z.cells.size = size) (hsz : 0 < size)
  (base : Nat) (v : Value) (n : Nat) (xs : List Value) (hs : a.eval s = v) (hown : w.ownsRow base e size v n xs)
  (ad : Addr) (c2 : Nat) (news : List Value) (hx : a.eval x = .slice (some ad) 1 c2) (hl : news.length = size) (hcells : ∀ j u, news[j]? = some u → w.cell? (ad.add j) = some u) (h1 : ∀ u ∈ news, u.oneCell' = true)
  (hn : n ≤ 1000) (hb : bytes ≤ 1000) (hbase : base ≤ w.heap.size)
  (h : ∀ v' w', w'.ownsRow base e size v' (n + 1) (xs ++ news) → w.grownBy w' v.ownBlock → (v'.ownBlock = v.ownBlock ∨ v'.ownBlock = some w.heap.size) → K (a.put o.dst v') w') :
  if Region.wanted o (yielded ops a.tmps) = true then Oper.wp Tryz.prog o a w K Q else E := by
 have hw : Region.wanted o (yielded ops a.tmps) = true := by simp [Region.wanted, hgd]
 rw [if_pos hw]
 have hbm : (n + 1) * bytes ≤ 1001 * 1000 := Nat.mul_le_mul (by omega) hb
 obtain ⟨v', w', hr, hown', hg, _, hat⟩ := run_append_own_at (P := Tryz.prog) w base t o.type e i z size bytes ht hi hz hsize hby hzs hsz v n xs hown ad 1 c2 news (by rw [hl, Nat.one_mul]) hcells h1 (by simp only [maxLen]; omega) (by omega) hbase
 unfold Oper.wp execOp
 simp only [ho, resolve, invoke, builtin, Sem.run_bind, Sem.run_pure, Result.andThen_ok, List.map_toArray, List.map_cons, List.map_nil, hs, hx, hr]
 exact h v' w' hown' hg hat
/-- Rows of different elements are different blocks. -/
theorem row_apart {w : World} {b1 b2 s1 s2 n1 n2 : Nat} {e1 e2 : TypeId} {v1 v2 : Value} {L1 L2 : List Value} (h1 : w.ownsRow b1 e1 s1 v1 n1 L1) (h2 : w.ownsRow b2 e2 s2 v2 n2 L2) (he : e1 ≠ e2) : ∀ b, v1.ownBlock = some b → v2.ownBlock ≠ some b := by
 intro b hb1 hb2
 rcases h1.2 with ⟨rfl, _⟩ | ⟨g, cap, cur, rfl, _, hh, _⟩
 ·simp [Value.ownBlock] at hb1
 ·rcases h2.2 with ⟨rfl, _⟩ | ⟨g', cap', cur', rfl, _, hh', _⟩
  ·simp [Value.ownBlock] at hb2
  ·simp [Value.ownBlock] at hb1 hb2
   subst hb1
   subst hb2
   rw [hh] at hh'
   simp at hh'
   exact he hh'.2
theorem str4 (w : World) (r : Int) (h0 : 0 ≤ r) (h4 : r < 4) : ∃ t : ByteArray, t.size ≤ 100 ∧ (w.alloc (.cells #[.string ⟨#[]⟩, .string ⟨#[97]⟩, .string ⟨#[98, 32, 99]⟩, .string ⟨#[108, 111, 110, 103, 32, 116, 101, 120, 116, 32, 49, 50]⟩] 9)).cell? ⟨w.heap.size, r.toNat, none⟩ = some (.string t) := by
 rcases (by omega : r = 0 ∨ r = 1 ∨ r = 2 ∨ r = 3) with rfl | rfl | rfl | rfl
 all_goals exact ⟨_, by decide, cell_of_row _ _ _ _ _ _ (heap_alloc_new w _)⟩
theorem keys7 (w : World) : Small (w.alloc (.cells #[.int .i64 (-1), .int .i64 (-1), .int .i64 0, .int .i64 1, .int .i64 2, .int .i64 50, .int .i64 99] 3)) w.heap.size 7 (-1) 99 := by
 intro i hi
 rcases (by omega : i = 0 ∨ i = 1 ∨ i = 2 ∨ i = 3 ∨ i = 4 ∨ i = 5 ∨ i = 6) with rfl | rfl | rfl | rfl | rfl | rfl | rfl
 all_goals exact ⟨_, by decide, by decide, cell_of_row _ _ _ _ _ _ (heap_alloc_new w _)⟩
theorem TrD.text (w : World) (lo hi : Nat) (s : ByteArray) : TrD w lo hi [.int .i64 (-1), .int .i64 (-1), .string s, .slice none 0 0, .slice none 0 0] (.mk (-1) (-1) s [] []) :=
 TrD.mk (tag := -1) (key := -1) (text := s) (ps := []) (ks := []) none 0 none 0 (fun _ => []) (fun h => absurd h (by simp)) (fun h => absurd h (by simp)) (fun i x h => by simp at h) (fun _ => .inl rfl)
theorem GdD.text {d : Nat} {s : ByteArray} (h : s.size ≤ 100) : GdD (d + 1) (.mk (-1) (-1) s [] []) := .mk h (by simp) (by simp) (by simp) (by simp) (by omega)
theorem keyless_none (w : World) : Calls Tryz.prog 91 #[.slice none 0 0] w fun e w' => e = .returned (.slice none 0 0) ∧ w' = w := by
 go_enter Tryz.func91, Tryz.ntmps91
 go_wp2_with fail
 go_loopw [3] (fun i wr => i = .int .i64 0 ∧ wr = w) (fun _ _ => 0)
 case atStart => exact ⟨rfl, rfl⟩
 case round =>
  obtain ⟨rfl, rfl⟩ := hrel
  go_wp2_with fail
  go_ret
  exact ⟨rfl, rfl⟩
end Go.Proofs.YtmfibedcloknlaaGreatDoor

namespace Go.Proofs.YtmfibedcloknlaaGreatDoor
open Go.Joins Go.ChangeShapes Go.WideShapes Go.ChangeAt Go.RowKit Go.Deep
set_option linter.unusedVariables false
set_option linter.unusedSimpArgs false

/-- An element while it is drawn: the result's block at R, its own at bo, its props and Kids in rows of its own. -/
structure TS (d : Nat) (w0 : World) (g : Nat) (A : Option Addr) (len cap R bo : Nat) (tag key : Int) (ps : List Pr) (ks : List Tr) (v1 v2 : Value) (w : World) : Prop where
 r0 : w.cell? ⟨R, 0, none⟩ = some (.int .i64 0)
 r1 : w.cell? ⟨R, 1, none⟩ = some (.int .i64 0)
 r2 : w.cell? ⟨R, 2, none⟩ = some (.string ⟨#[]⟩)
 r3 : w.cell? ⟨R, 3, none⟩ = some (.slice none 0 0)
 r4 : w.cell? ⟨R, 4, none⟩ = some (.slice none 0 0)
 rf : ∀ o, w.frozen? ⟨R, o, none⟩ = false
 o0 : w.cell? ⟨bo, 0, none⟩ = some (.int .i64 tag)
 o1 : w.cell? ⟨bo, 1, none⟩ = some (.int .i64 key)
 o2 : w.cell? ⟨bo, 2, none⟩ = some (.string ⟨#[]⟩)
 o3 : w.cell? ⟨bo, 3, none⟩ = some v1
 o4 : w.cell? ⟨bo, 4, none⟩ = some v2
 of_ : ∀ o, w.frozen? ⟨bo, o, none⟩ = false
 hg : g < R
 hR : R < bo
 hz : bo < w.heap.size
 p : w.ownsRow (bo + 1) 130 4 v1 ps.length (ps.flatMap Pr.cells)
 k : KidsOwn w (bo + 1) v2 ks
 pg : ∀ x ∈ ps, x.v.s.size ≤ 1000
 kg : ∀ x ∈ ks, GdD d x
 s : St g A len cap w
 kp : Keep g R w0 w
variable {d : Nat} {w0 : World} {g : Nat} {A : Option Addr} {len cap R bo : Nat} {tag key : Int} {ps : List Pr} {ks : List Tr} {v1 v2 : Value} {w w' : World}
/-- Behind a draw. -/
theorem TS.keep (h : TS d w0 g A len cap R bo tag key ps ks v1 v2 w) (hk : Keep g w.heap.size w w') (hs : St g A len cap w') : TS d w0 g A len cap R bo tag key ps ks v1 v2 w' := by
 have a := h.hg; have b := h.hR; have c := h.hz
 have e := fun q => hk.cell.1 R q (by omega) (by omega)
 have f := fun q => hk.cell.1 bo q (by omega) (by omega)
 exact ⟨(e 0).trans h.r0, (e 1).trans h.r1, (e 2).trans h.r2, (e 3).trans h.r3, (e 4).trans h.r4, fun o => (hk.cell.2 R o (by omega) (by omega)).trans (h.rf o), (f 0).trans h.o0, (f 1).trans h.o1, (f 2).trans h.o2, (f 3).trans h.o3, (f 4).trans h.o4,
  fun o => (hk.cell.2 bo o (by omega) (by omega)).trans (h.of_ o), a, b, Nat.lt_of_lt_of_le c hk.size, rowv_kept h.p hk (by omega), h.k.keep hk (by omega), h.pg, h.kg, hs, h.kp.trans (hk.mono (by omega))⟩
theorem TS.drewN (h : TS d w0 g A len cap R bo tag key ps ks v1 v2 w) (n : Nat) : TS d w0 g A len cap R bo tag key ps ks v1 v2 (w.drewN n) := h.keep ⟨rfl, rfl, rfl, Nat.le_refl _, fun _ _ _ => rfl⟩ (h.s.drewN n)
theorem TS.drew (h : TS d w0 g A len cap R bo tag key ps ks v1 v2 w) : TS d w0 g A len cap R bo tag key ps ks v1 v2 w.drew := h.keep ⟨rfl, rfl, rfl, Nat.le_refl _, fun _ _ _ => rfl⟩ h.s.drew
theorem TS.alloc (h : TS d w0 g A len cap R bo tag key ps ks v1 v2 w) (o : Obj) : TS d w0 g A len cap R bo tag key ps ks v1 v2 (w.alloc o) := h.keep ((Keep.refl g w.heap.size w).alloc (Nat.le_refl _) o) (h.s.alloc o)
/-- A row of its own has grown: everything else stands. -/
theorem TS.grown_cells (h : TS d w0 g A len cap R bo tag key ps ks v1 v2 w) {v : Value} {e : TypeId} {s n : Nat} {L : List Value} (ho : w.ownsRow (bo + 1) e s v n L) (hg : w.grownBy w' v.ownBlock) :
  (∀ b q, b ≤ bo → w'.cell? ⟨b, q, none⟩ = w.cell? ⟨b, q, none⟩) ∧ (∀ b q, b ≤ bo → w'.frozen? ⟨b, q, none⟩ = w.frozen? ⟨b, q, none⟩) ∧ St g A len cap w' ∧ Keep g R w0 w' := by
 have a := h.hg; have b := h.hR; have c := h.hz
 have hb : ∀ k, k ≤ bo → w'.heap[k]? = w.heap[k]? := fun k hk => hg.block k (by omega) (by
  intro e
  have := World.ownsRow.lt ho k e.symm
  omega)
 exact ⟨fun k q hk => World.cell?_of_block (a := ⟨k, q, none⟩) (hb k hk), fun k q hk => World.frozen?_of_block (a := ⟨k, q, none⟩) (hb k hk), h.s.of_block (fun k hk => hb k (by omega)),
  h.kp.trans ⟨hg.os, hg.tape, hg.output, hg.size, fun k hk _ => hb k (by omega)⟩⟩
theorem row_unique {b1 b2 s n : Nat} {e : TypeId} {v : Value} {L1 L2 : List Value} (h1 : w.ownsRow b1 e s v n L1) (h2 : w.ownsRow b2 e s v n L2) : L1 = L2 := by
 rcases h1.2 with ⟨rfl, rfl⟩ | ⟨g, cap, cur, rfl, _, hh, _, _, _, ht⟩
 ·have := h1.1; have := h2.1
  rw [List.eq_nil_of_length_eq_zero (l := L1) (by omega), List.eq_nil_of_length_eq_zero (l := L2) (by omega)]
 ·rcases h2.2 with ⟨h, _⟩ | ⟨g', cap', cur', h, _, hh', _, _, _, ht'⟩
  ·simp at h
  ·simp only [Value.slice.injEq, Option.some.injEq, Addr.mk.injEq, and_true, true_and] at h
   obtain ⟨rfl, rfl⟩ := h
   rw [hh] at hh'
   simp at hh'
   rw [← ht, ← ht', hh']
/-- Behind a store into its own block. -/
theorem TS.mk_set {u : Value} {q0 : Nat} {cs : Nat → Value} (hg : g < R) (hR : R < bo) (hz : bo < w.heap.size) (r0 : w.cell? ⟨R, 0, none⟩ = some (.int .i64 0)) (r1 : w.cell? ⟨R, 1, none⟩ = some (.int .i64 0)) (r2 : w.cell? ⟨R, 2, none⟩ = some (.string ⟨#[]⟩)) (r3 : w.cell? ⟨R, 3, none⟩ = some (.slice none 0 0)) (r4 : w.cell? ⟨R, 4, none⟩ = some (.slice none 0 0)) (rf : ∀ o, w.frozen? ⟨R, o, none⟩ = false)
  (c : ∀ q, q < 5 → w.cell? ⟨bo, q, none⟩ = some (cs q)) (of_ : ∀ o, w.frozen? ⟨bo, o, none⟩ = false) (hq0 : q0 < 5)
  (h0 : (if 0 = q0 then u else cs 0) = .int .i64 tag) (h1 : (if 1 = q0 then u else cs 1) = .int .i64 key) (h2 : (if 2 = q0 then u else cs 2) = .string ⟨#[]⟩) (h3 : (if 3 = q0 then u else cs 3) = v1) (h4 : (if 4 = q0 then u else cs 4) = v2)
  (p : w.ownsRow (bo + 1) 130 4 v1 ps.length (ps.flatMap Pr.cells)) (k : KidsOwn w (bo + 1) v2 ks) (pg : ∀ x ∈ ps, x.v.s.size ≤ 1000) (kg : ∀ x ∈ ks, GdD d x) (s : St g A len cap w) (kp : Keep g R w0 w) :
  TS d w0 g A len cap R bo tag key ps ks v1 v2 (w.setCell ⟨bo, q0, none⟩ u) := by
 have oth : ∀ b q, b ≠ bo ∨ q ≠ q0 → (w.setCell ⟨bo, q0, none⟩ u).cell? ⟨b, q, none⟩ = w.cell? ⟨b, q, none⟩ := fun b q h => World.cell?_setCell_other _ _ _ _ (by intro e; injection e with e1 e2; omega)
 have own : ∀ q, q < 5 → (w.setCell ⟨bo, q0, none⟩ u).cell? ⟨bo, q, none⟩ = some (if q = q0 then u else cs q) := fun q hq => by
  by_cases e : q = q0
  ·subst e; rw [if_pos rfl]; exact World.cell?_setCell_same' _ _ _ (by rw [c q hq]; rfl)
  ·rw [if_neg e, oth bo q (.inr e)]; exact c q hq
 have hgr : w.grownBy (w.setCell ⟨bo, q0, none⟩ u) (some bo) := ⟨rfl, rfl, rfl, by simp [World.setCell], fun k _ hk => heap_setCell_other w _ k u (fun e => hk (by simp [e]))⟩
 refine ⟨(oth _ _ (.inl (by omega))).trans r0, (oth _ _ (.inl (by omega))).trans r1, (oth _ _ (.inl (by omega))).trans r2, (oth _ _ (.inl (by omega))).trans r3, (oth _ _ (.inl (by omega))).trans r4, fun o => by rw [World.frozen?_setCell]; exact rf o,
  by rw [own 0 (by omega), h0], by rw [own 1 (by omega), h1], by rw [own 2 (by omega), h2], by rw [own 3 (by omega), h3], by rw [own 4 (by omega), h4], fun o => by rw [World.frozen?_setCell]; exact of_ o, hg, hR, by simpa [World.setCell] using hz,
  rowv_grown p hgr (fun b hb e => by injection e with e; have := World.ownsRow.lt p b hb; omega), k.other (by show bo < bo + 1; omega) u, pg, kg, s.set_ (by show g < bo; omega) u, kp.set_ (.inr (by show R ≤ bo; omega)) u⟩
def csOf (tag key : Int) (v1 v2 : Value) : Nat → Value
 | 0 => .int .i64 tag
 | 1 => .int .i64 key
 | 2 => .string ⟨#[]⟩
 | 3 => v1
 | _ => v2
theorem TS.cs (h : TS d w0 g A len cap R bo tag key ps ks v1 v2 w) : ∀ q, q < 5 → w.cell? ⟨bo, q, none⟩ = some (csOf tag key v1 v2 q) := fun q hq => by
 rcases (by omega : q = 0 ∨ q = 1 ∨ q = 2 ∨ q = 3 ∨ q = 4) with rfl | rfl | rfl | rfl | rfl
 ·exact h.o0
 ·exact h.o1
 ·exact h.o2
 ·exact h.o3
 ·exact h.o4
/-- One prop more: behind the append and the store; there are no Kids yet. -/
theorem TS.prop (h : TS d w0 g A len cap R bo tag key ps [] v1 (.slice none 0 0) w) {x : Pr} {v : Value} (hx : x.v.s.size ≤ 1000) (ho : w'.ownsRow (bo + 1) 130 4 v (ps.length + 1) (ps.flatMap Pr.cells ++ x.cells)) (hg : w.grownBy w' v1.ownBlock) :
  TS d w0 g A len cap R bo tag key (ps ++ [x]) [] v (.slice none 0 0) (w'.setCell ⟨bo, 3, none⟩ v) := by
 obtain ⟨e1, e2, e3, e4⟩ := h.grown_cells h.p hg
 have b := h.hR
 exact TS.mk_set (cs := csOf tag key v1 (.slice none 0 0)) h.hg h.hR (Nat.lt_of_lt_of_le h.hz hg.size) ((e1 R 0 (by omega)).trans h.r0) ((e1 R 1 (by omega)).trans h.r1) ((e1 R 2 (by omega)).trans h.r2) ((e1 R 3 (by omega)).trans h.r3) ((e1 R 4 (by omega)).trans h.r4) (fun o => (e2 R o (by omega)).trans (h.rf o))
  (fun q hq => (e1 bo q (by omega)).trans (h.cs q hq)) (fun o => (e2 bo o (by omega)).trans (h.of_ o)) (by omega) rfl rfl rfl rfl rfl (by simpa using ho) (KidsOwn.nil _ _)
  (fun y hy => by rcases List.mem_append.1 hy with hy | hy; exact h.pg y hy; simp at hy; subst hy; exact hx) h.kg e3 e4
/-- One Kid more. -/
theorem TS.kid (h : TS d w0 g A len cap R bo tag key ps ks v1 v2 w) {lo hi : Nat} {x : Tr} {cs : List Value} {v : Value} (hx : TrD w lo hi cs x) (hx0 : bo + 1 ≤ lo) (hx1 : hi ≤ w.heap.size) (hv : ∀ b, v2.ownBlock = some b → b < lo ∨ hi ≤ b) (hgd : GdD d x)
  {L : List Value} (hL : w.ownsRow (bo + 1) 26 5 v2 ks.length L) (ho : w'.ownsRow (bo + 1) 26 5 v (ks.length + 1) (L ++ cs)) (hg : w.grownBy w' v2.ownBlock) (hb : v.ownBlock = v2.ownBlock ∨ v.ownBlock = some w.heap.size) :
  TS d w0 g A len cap R bo tag key ps (ks ++ [x]) v1 v (w'.setCell ⟨bo, 4, none⟩ v) := by
 obtain ⟨e1, e2, e3, e4⟩ := h.grown_cells hL hg
 have b := h.hR
 exact TS.mk_set (cs := csOf tag key v1 v2) h.hg h.hR (Nat.lt_of_lt_of_le h.hz hg.size) ((e1 R 0 (by omega)).trans h.r0) ((e1 R 1 (by omega)).trans h.r1) ((e1 R 2 (by omega)).trans h.r2) ((e1 R 3 (by omega)).trans h.r3) ((e1 R 4 (by omega)).trans h.r4) (fun o => (e2 R o (by omega)).trans (h.rf o))
  (fun q hq => (e1 bo q (by omega)).trans (h.cs q hq)) (fun o => (e2 bo o (by omega)).trans (h.of_ o)) (by omega) rfl rfl rfl rfl rfl (rowv_grown h.p hg (fun q hq e => row_apart h.p hL (by decide) q hq e)) (h.k.snoc hx hx0 hx1 hv hg hb (fun L' h' => by rw [row_unique h' hL]; exact ho))
  h.pg (fun y hy => by rcases List.mem_append.1 hy with hy | hy; exact h.kg y hy; simp at hy; subst hy; exact hgd) e3 e4
/-- Kids whose keys were taken away. -/
theorem TS.rekid {b c : Nat} {ks' : List Tr} (h : TS d w0 g A len cap R bo tag key ps ks v1 (.slice (some ⟨b, 0, none⟩) ks.length c) w) (hk : KidsOwn w' (bo + 1) (.slice (some ⟨b, 0, none⟩) ks.length c) ks') (hg : ∀ x ∈ ks', GdD d x) (ho : OnlyB b w w') :
  TS d w0 g A len cap R bo tag key ps ks' v1 (.slice (some ⟨b, 0, none⟩) ks.length c) w' := by
 obtain ⟨L, hdr, g1, g2, g3⟩ := h.k
 have hgr : w.grownBy w' (some b) := ⟨ho.os, ho.tape, ho.output, by rw [ho.size]; exact Nat.le_refl _, fun k _ hk => ho.block k (fun e => hk (by rw [e]))⟩
 obtain ⟨e1, e2, e3, e4⟩ := h.grown_cells g1 hgr
 have a := h.hR
 exact ⟨(e1 R 0 (by omega)).trans h.r0, (e1 R 1 (by omega)).trans h.r1, (e1 R 2 (by omega)).trans h.r2, (e1 R 3 (by omega)).trans h.r3, (e1 R 4 (by omega)).trans h.r4, fun o => (e2 R o (by omega)).trans (h.rf o), (e1 bo 0 (by omega)).trans h.o0, (e1 bo 1 (by omega)).trans h.o1, (e1 bo 2 (by omega)).trans h.o2, (e1 bo 3 (by omega)).trans h.o3, (e1 bo 4 (by omega)).trans h.o4,
  fun o => (e2 bo o (by omega)).trans (h.of_ o), h.hg, h.hR, by rw [ho.size]; exact h.hz, rowv_grown h.p hgr (fun q hq e => row_apart h.p g1 (by decide) q hq (by rw [← e]; rfl)), hk, h.pg, hg, e3, e4⟩
/-- The key is set. -/
theorem TS.setKey (h : TS d w0 g A len cap R bo tag key ps ks v1 v2 w) (z : Int) : TS d w0 g A len cap R bo tag z ps ks v1 v2 (w.setCell ⟨bo, 1, none⟩ (.int .i64 z)) :=
 TS.mk_set (cs := csOf tag key v1 v2) h.hg h.hR h.hz h.r0 h.r1 h.r2 h.r3 h.r4 h.rf h.cs h.of_ (by omega) rfl rfl rfl rfl rfl h.p h.k h.pg h.kg h.s h.kp
/-- The Kids are stored again. -/
theorem TS.same4 (h : TS d w0 g A len cap R bo tag key ps ks v1 v2 w) : TS d w0 g A len cap R bo tag key ps ks v1 v2 (w.setCell ⟨bo, 4, none⟩ v2) :=
 TS.mk_set (cs := csOf tag key v1 v2) h.hg h.hR h.hz h.r0 h.r1 h.r2 h.r3 h.r4 h.rf h.cs h.of_ (by omega) rfl rfl rfl rfl rfl h.p h.k h.pg h.kg h.s h.kp
/-- What is drawn then. -/
theorem TS.tree (h : TS d w0 g A len cap R bo tag key ps ks v1 v2 w) (h1 : ps.length ≤ 10) (h3 : ks.length ≤ 10) (h5 : -1000 ≤ key ∧ key ≤ 1000) :
  ∃ A0 c0 A1 c1, v1 = .slice A0 ps.length c0 ∧ v2 = .slice A1 ks.length c1 ∧ TrD w (bo + 1) w.heap.size [.int .i64 tag, .int .i64 key, .string ⟨#[]⟩, .slice A0 ps.length c0, .slice A1 ks.length c1] (.mk tag key ⟨#[]⟩ ps ks) ∧ GdD (d + 1) (.mk tag key ⟨#[]⟩ ps ks) := by
 obtain ⟨A0, c0, rfl, hA0⟩ := rowv_form h.p
 obtain ⟨A1, c1, rfl, hdr, hk, hks⟩ := h.k.lies
 have b := h.hR
 refine ⟨A0, c0, A1, c1, rfl, rfl, .mk A0 c0 A1 c1 hdr (fun h0 => ?_) (fun h0 => ?_) (fun i x hx => (hks i x hx).mono (by omega) (Nat.le_refl _)) (fun _ => ?_), .mk (by decide) h1 h.pg h3 h.kg h5⟩
 ·rcases hA0 with ⟨_, _, h⟩ | ⟨q, rfl, hb1, hb2, hc⟩
  ·omega
  ·refine ⟨q, 0, rfl, by omega, hb2, fun i x hx j u hu => ?_⟩
   rw [Nat.zero_add]
   exact hc _ _ (flat_at Pr.cells_len hu ps i hx)
 ·obtain ⟨q, off, e, hb1, hb2, hc⟩ := hk h0
  exact ⟨q, off, e, by omega, hb2, hc⟩
 ·rcases hA0 with ⟨h, _, _⟩ | ⟨q, rfl, _⟩
  ·exact .inl h
  ·exact .inr ⟨q, 0, rfl⟩
theorem TS.set_kid {b c N q : Nat} {x : Tr} (h : TS d w0 g A len cap R bo tag key ps ks v1 (.slice (some ⟨b, 0, none⟩) N c) w) (hl : ks.length = N) (hx : ks[q]? = some x) (z : Int) (hz : -1000 ≤ z ∧ z ≤ 1000) :
  TS d w0 g A len cap R bo tag key ps (ks.set q (x.withKey z)) v1 (.slice (some ⟨b, 0, none⟩) N c) (w.setCell ⟨b, q * 5 + 1, none⟩ (.int .i64 z)) := by
 subst hl
 exact h.rekid (h.k.setKey hx z).1 (fun y hy => by
  rcases List.mem_or_eq_of_mem_set hy with hy | rfl
  ·exact h.kg y hy
  ·exact (h.kg x (List.mem_of_getElem? hx)).withKey hz) ((OnlyB.refl b w).set_ _)
theorem tree_one (tag key : Int) (s : ByteArray) (A0 A1 : Option Addr) (n0 n1 c0 c1 : Nat) : ∀ u ∈ ([.int .i64 tag, .int .i64 key, .string s, .slice A0 n0 c0, .slice A1 n1 c1] : List Value), u.oneCell' = true := by
 intro u hu
 simp at hu
 rcases hu with rfl | rfl | rfl | rfl | rfl <;> rfl
theorem TrD.stored {lo hi : Nat} {cs : List Value} {t : Tr} (h : TrD w lo hi cs t) {p : Addr} (hp : p.block < lo) (u : Value) : TrD (w.setCell p u) lo hi cs t := h.kept fun b h1 h2 => heap_setCell_other w p b u (by omega)
theorem TrD.alloc {lo hi : Nat} {cs : List Value} {t : Tr} (h : TrD w lo hi cs t) (hh : hi ≤ w.heap.size) (o : Obj) : TrD (w.alloc o) lo hi cs t := h.kept fun b h1 h2 => Below.heap_alloc _ _ _ (by omega)
theorem kids_lt {base : Nat} {v : Value} {ks : List Tr} (h : KidsOwn w base v ks) : ∀ b, v.ownBlock = some b → base ≤ b ∧ b < w.heap.size := by
 obtain ⟨L, hdr, g1, _, _⟩ := h
 exact World.ownsRow.lt g1
theorem kids_form {base : Nat} {v : Value} {ks : List Tr} (h : KidsOwn w base v ks) : ∃ A c, v = .slice A ks.length c ∧ (A = none ∧ c = 0 ∧ ks = [] ∨ ∃ b, A = some ⟨b, 0, none⟩) := by
 obtain ⟨L, hdr, g1, _, _⟩ := h
 obtain ⟨A, c, e, hA⟩ := rowv_form g1
 refine ⟨A, c, e, ?_⟩
 rcases hA with ⟨h1, h2, h3⟩ | ⟨b, hb, _⟩
 ·exact .inl ⟨h1, h2, List.eq_nil_of_length_eq_zero h3⟩
 ·exact .inr ⟨b, hb⟩
end Go.Proofs.YtmfibedcloknlaaGreatDoor

namespace Go.Proofs.YtmfibedcloknlaaGreatDoor
open Go.Joins Go.ChangeShapes Go.WideShapes Go.ChangeAt Go.RowKit Go.Deep
set_option linter.unusedVariables false
set_option linter.unusedSimpArgs false

/-- A tree that was drawn. -/
def TreeX (g : Nat) (A : Option Addr) (len cap : Nat) (w : World) (e : Ending) (w' : World) : Prop :=
 ∃ (A0 : Option Addr) (c0 : Nat) (A1 : Option Addr) (c1 : Nat) (t : Tr), e = .returned (.agg #[.int .i64 t.tag, .int .i64 t.key, .string t.text, .slice A0 t.ps.length c0, .slice A1 t.ks.length c1]) ∧
  TrD w' w.heap.size w'.heap.size [.int .i64 t.tag, .int .i64 t.key, .string t.text, .slice A0 t.ps.length c0, .slice A1 t.ks.length c1] t ∧ GdT t ∧ St g A len cap w' ∧ Keep g w.heap.size w w'
/-- A tree that was drawn, of so many rows of parts. -/
def TreeN (d g : Nat) (A : Option Addr) (len cap : Nat) (w : World) (e : Ending) (w' : World) : Prop :=
 ∃ (A0 : Option Addr) (c0 : Nat) (A1 : Option Addr) (c1 : Nat) (t : Tr), e = .returned (.agg #[.int .i64 t.tag, .int .i64 t.key, .string t.text, .slice A0 t.ps.length c0, .slice A1 t.ks.length c1]) ∧
  TrD w' w.heap.size w'.heap.size [.int .i64 t.tag, .int .i64 t.key, .string t.text, .slice A0 t.ps.length c0, .slice A1 t.ks.length c1] t ∧ GdD d t ∧ St g A len cap w' ∧ Keep g w.heap.size w w'
theorem valid_small {k n : Int} {s : ByteArray} (h : validB k n s = true) : s.size ≤ 1000 := by
 unfold validB at h
 simp only [Bool.or_eq_true, Bool.and_eq_true] at h
 rcases h with (⟨_, h⟩ | ⟨_, h⟩) | ⟨_, h⟩
 ·have e : s.data.toList = [] := by rw [← Lib.toList_data]; exact List.isEmpty_iff.1 h
  have : s.data.size = 0 := by rw [← Array.length_toList, e]; rfl
  show s.data.size ≤ 1000
  omega
 ·have e : s.data.toList = [] := by rw [← Lib.toList_data]; exact List.isEmpty_iff.1 h
  have : s.data.size = 0 := by rw [← Array.length_toList, e]; rfl
  show s.data.size ≤ 1000
  omega
 ·unfold wordB at h
  simp only [Bool.and_eq_true, decide_eq_true_eq] at h
  omega
theorem lit_cells (w : World) (x : List Value) (t : TypeId) : ∀ j u, x[j]? = some u → (w.alloc (.cells x.toArray t)).cell? ((⟨w.heap.size, 0, none⟩ : Addr).add j) = some u := by
 intro j u hu
 rw [add_plain, Nat.zero_add]
 exact cell_of_row _ _ _ _ _ _ (heap_alloc_new w _) |>.trans (by simpa using hu)
theorem prop_one (x : Pr) : ∀ u ∈ x.cells, u.oneCell' = true := by
 intro u hu
 simp [Pr.cells] at hu
 rcases hu with rfl | rfl | rfl | rfl <;> rfl
set_option maxHeartbeats 8000000 in
set_option maxRecDepth 100000 in
theorem tree_any : ∀ (n : Nat) (deep : Int) (g : Nat) (A : Option Addr) (len cap : Nat) (w : World), n ≤ 100 → -1 ≤ deep → deep ≤ n → St g A len cap w →
  Calls Tryz.prog 64 #[.pointer (some ⟨g, 0, none⟩), .int .i64 deep] w (TreeN (n + 1) g A len cap w) := by
 intro n
 induction n with
 | zero =>
  intro deep g A len cap w hn100 hd0 hdn hs
  have hdd : decide (deep ≤ 0) = true := by simp; omega
  have HG := Lib.hid hs.lt
  have hgw := hs.lt
  have HS0 := Lib.hid (hs.alloc (.cells #[.int .i64 0, .int .i64 0, .string ⟨#[]⟩, .slice none 0 0, .slice none 0 0] 26))
  have HK0 := Lib.hid ((Keep.refl g w.heap.size w).alloc (Nat.le_refl _) (.cells #[.int .i64 0, .int .i64 0, .string ⟨#[]⟩, .slice none 0 0, .slice none 0 0] 26))
  have r0 : (w.alloc (.cells #[.int .i64 0, .int .i64 0, .string ⟨#[]⟩, .slice none 0 0, .slice none 0 0] 26)).cell? ⟨w.heap.size, 0, none⟩ = some (.int .i64 0) := by go_simp
  have r1 : (w.alloc (.cells #[.int .i64 0, .int .i64 0, .string ⟨#[]⟩, .slice none 0 0, .slice none 0 0] 26)).cell? ⟨w.heap.size, 1, none⟩ = some (.int .i64 0) := by go_simp
  have r2 : (w.alloc (.cells #[.int .i64 0, .int .i64 0, .string ⟨#[]⟩, .slice none 0 0, .slice none 0 0] 26)).cell? ⟨w.heap.size, 2, none⟩ = some (.string ⟨#[]⟩) := by go_simp
  have r3 : (w.alloc (.cells #[.int .i64 0, .int .i64 0, .string ⟨#[]⟩, .slice none 0 0, .slice none 0 0] 26)).cell? ⟨w.heap.size, 3, none⟩ = some (.slice none 0 0) := by go_simp
  have r4 : (w.alloc (.cells #[.int .i64 0, .int .i64 0, .string ⟨#[]⟩, .slice none 0 0, .slice none 0 0] 26)).cell? ⟨w.heap.size, 4, none⟩ = some (.slice none 0 0) := by go_simp
  have rf : ∀ o, (w.alloc (.cells #[.int .i64 0, .int .i64 0, .string ⟨#[]⟩, .slice none 0 0, .slice none 0 0] 26)).frozen? ⟨w.heap.size, o, none⟩ = false := fun o => by go_simp
  have hz : w.heap.size < (w.alloc (.cells #[.int .i64 0, .int .i64 0, .string ⟨#[]⟩, .slice none 0 0, .slice none 0 0] 26)).heap.size := by simp
  obtain ⟨wc, hwc⟩ : ∃ wc, w.alloc (.cells #[.int .i64 0, .int .i64 0, .string ⟨#[]⟩, .slice none 0 0, .slice none 0 0] 26) = wc := ⟨_, rfl⟩
  rw [hwc] at HS0 HK0 r0 r1 r2 r3 r4 rf hz
  clear hs
  go_enter Tryz.func64, Tryz.ntmps64
  have hA := HS0.out.alloc (.cells #[.string ⟨#[]⟩, .string ⟨#[97]⟩, .string ⟨#[98, 32, 99]⟩, .string ⟨#[108, 111, 110, 103, 32, 116, 101, 120, 116, 32, 49, 50]⟩] 9)
  have hB := HK0.out.alloc (by omega) (.cells #[.string ⟨#[]⟩, .string ⟨#[97]⟩, .string ⟨#[98, 32, 99]⟩, .string ⟨#[108, 111, 110, 103, 32, 116, 101, 120, 116, 32, 49, 50]⟩] 9)
  have HA := Lib.hid hA
  have HB := Lib.hid hB
  have hN : ¬ wc.heap.size = g := by omega
  replace r0 : (wc.alloc (.cells #[.string ⟨#[]⟩, .string ⟨#[97]⟩, .string ⟨#[98, 32, 99]⟩, .string ⟨#[108, 111, 110, 103, 32, 116, 101, 120, 116, 32, 49, 50]⟩] 9)).cell? ⟨w.heap.size, 0, none⟩ = some (.int .i64 0) := (Below.cell (Below.alloc (Below.refl wc.heap.size wc) (Nat.le_refl _) (.cells #[.string ⟨#[]⟩, .string ⟨#[97]⟩, .string ⟨#[98, 32, 99]⟩, .string ⟨#[108, 111, 110, 103, 32, 116, 101, 120, 116, 32, 49, 50]⟩] 9)) (p := ⟨w.heap.size, 0, none⟩) (by first | omega | (simp; done) | (simp; omega))).trans r0
  replace r1 : (wc.alloc (.cells #[.string ⟨#[]⟩, .string ⟨#[97]⟩, .string ⟨#[98, 32, 99]⟩, .string ⟨#[108, 111, 110, 103, 32, 116, 101, 120, 116, 32, 49, 50]⟩] 9)).cell? ⟨w.heap.size, 1, none⟩ = some (.int .i64 0) := (Below.cell (Below.alloc (Below.refl wc.heap.size wc) (Nat.le_refl _) (.cells #[.string ⟨#[]⟩, .string ⟨#[97]⟩, .string ⟨#[98, 32, 99]⟩, .string ⟨#[108, 111, 110, 103, 32, 116, 101, 120, 116, 32, 49, 50]⟩] 9)) (p := ⟨w.heap.size, 1, none⟩) (by first | omega | (simp; done) | (simp; omega))).trans r1
  replace r2 : (wc.alloc (.cells #[.string ⟨#[]⟩, .string ⟨#[97]⟩, .string ⟨#[98, 32, 99]⟩, .string ⟨#[108, 111, 110, 103, 32, 116, 101, 120, 116, 32, 49, 50]⟩] 9)).cell? ⟨w.heap.size, 2, none⟩ = some (.string ⟨#[]⟩) := (Below.cell (Below.alloc (Below.refl wc.heap.size wc) (Nat.le_refl _) (.cells #[.string ⟨#[]⟩, .string ⟨#[97]⟩, .string ⟨#[98, 32, 99]⟩, .string ⟨#[108, 111, 110, 103, 32, 116, 101, 120, 116, 32, 49, 50]⟩] 9)) (p := ⟨w.heap.size, 2, none⟩) (by first | omega | (simp; done) | (simp; omega))).trans r2
  replace r3 : (wc.alloc (.cells #[.string ⟨#[]⟩, .string ⟨#[97]⟩, .string ⟨#[98, 32, 99]⟩, .string ⟨#[108, 111, 110, 103, 32, 116, 101, 120, 116, 32, 49, 50]⟩] 9)).cell? ⟨w.heap.size, 3, none⟩ = some (.slice none 0 0) := (Below.cell (Below.alloc (Below.refl wc.heap.size wc) (Nat.le_refl _) (.cells #[.string ⟨#[]⟩, .string ⟨#[97]⟩, .string ⟨#[98, 32, 99]⟩, .string ⟨#[108, 111, 110, 103, 32, 116, 101, 120, 116, 32, 49, 50]⟩] 9)) (p := ⟨w.heap.size, 3, none⟩) (by first | omega | (simp; done) | (simp; omega))).trans r3
  replace r4 : (wc.alloc (.cells #[.string ⟨#[]⟩, .string ⟨#[97]⟩, .string ⟨#[98, 32, 99]⟩, .string ⟨#[108, 111, 110, 103, 32, 116, 101, 120, 116, 32, 49, 50]⟩] 9)).cell? ⟨w.heap.size, 4, none⟩ = some (.slice none 0 0) := (Below.cell (Below.alloc (Below.refl wc.heap.size wc) (Nat.le_refl _) (.cells #[.string ⟨#[]⟩, .string ⟨#[97]⟩, .string ⟨#[98, 32, 99]⟩, .string ⟨#[108, 111, 110, 103, 32, 116, 101, 120, 116, 32, 49, 50]⟩] 9)) (p := ⟨w.heap.size, 4, none⟩) (by first | omega | (simp; done) | (simp; omega))).trans r4
  replace rf : ∀ o, (wc.alloc (.cells #[.string ⟨#[]⟩, .string ⟨#[97]⟩, .string ⟨#[98, 32, 99]⟩, .string ⟨#[108, 111, 110, 103, 32, 116, 101, 120, 116, 32, 49, 50]⟩] 9)).frozen? ⟨w.heap.size, o, none⟩ = false := fun o => (Below.frozen (Below.alloc (Below.refl wc.heap.size wc) (Nat.le_refl _) (.cells #[.string ⟨#[]⟩, .string ⟨#[97]⟩, .string ⟨#[98, 32, 99]⟩, .string ⟨#[108, 111, 110, 103, 32, 116, 101, 120, 116, 32, 49, 50]⟩] 9)) (p := ⟨w.heap.size, o, none⟩) (by first | omega | (simp; done) | (simp; omega))).trans (rf o)
  clear hA hB
  go_wp2_with fail
  refine (pick_any g A len cap 4 _ HA.out (by omega)).mono ?_
  rintro e wp ⟨r, rfl, p, q, hs, hk⟩
  have hr4 : r < 4 := by omega
  obtain ⟨tt, ht1, ht0⟩ := str4 wc r p hr4
  have ht := (hk.cell.1 wc.heap.size r.toNat (by simp) hN).trans ht0
  replace r0 := (hk.cell.1 w.heap.size 0 (by first | omega | (simp; done) | (simp; omega)) (by first | omega | (simp; done) | (simp; omega))).trans r0
  replace r1 := (hk.cell.1 w.heap.size 1 (by first | omega | (simp; done) | (simp; omega)) (by first | omega | (simp; done) | (simp; omega))).trans r1
  replace r2 := (hk.cell.1 w.heap.size 2 (by first | omega | (simp; done) | (simp; omega)) (by first | omega | (simp; done) | (simp; omega))).trans r2
  replace r3 := (hk.cell.1 w.heap.size 3 (by first | omega | (simp; done) | (simp; omega)) (by first | omega | (simp; done) | (simp; omega))).trans r3
  replace r4 := (hk.cell.1 w.heap.size 4 (by first | omega | (simp; done) | (simp; omega)) (by first | omega | (simp; done) | (simp; omega))).trans r4
  replace rf := fun o => (hk.cell.2 w.heap.size o (by first | omega | (simp; done) | (simp; omega)) (by first | omega | (simp; done) | (simp; omega))).trans (rf o)
  have HS9 := Lib.hid hs
  have HK9 := Lib.hid (HB.out.more (Nat.le_refl _) hk)
  clear hs hk ht0 q
  go_wp2_with fail
  refine bodyPost_ret (v := .agg #[.int .i64 (-1), .int .i64 (-1), .string tt, .slice none 0 0, .slice none 0 0]) (by simp [results, Tryz.results64, go_sem, *]) rfl ⟨none, 0, none, 0, .mk (-1) (-1) tt [] [], rfl, TrD.text _ _ _ _, GdD.text ht1, ?_, ?_⟩
  ·exact ((((HS9.out.set_ HG.out _).set_ HG.out _).set_ HG.out _).set_ HG.out _).set_ HG.out _
  ·exact ((((HK9.out.set_ (.inr (Nat.le_refl _)) _).set_ (.inr (Nat.le_refl _)) _).set_ (.inr (Nat.le_refl _)) _).set_ (.inr (Nat.le_refl _)) _).set_ (.inr (Nat.le_refl _)) _
 | succ n ih =>
  intro deep g A len cap w hn100 hd0 hdn hs
  have IH := Lib.hid (fun deep w h0 h1 hs => ih deep g A len cap w (by omega) h0 h1 hs)
  clear ih
  have HG := Lib.hid hs.lt
  have hgw := hs.lt
  have HS0 := Lib.hid (hs.alloc (.cells #[.int .i64 0, .int .i64 0, .string ⟨#[]⟩, .slice none 0 0, .slice none 0 0] 26))
  have HK0 := Lib.hid ((Keep.refl g w.heap.size w).alloc (Nat.le_refl _) (.cells #[.int .i64 0, .int .i64 0, .string ⟨#[]⟩, .slice none 0 0, .slice none 0 0] 26))
  have r0 : (w.alloc (.cells #[.int .i64 0, .int .i64 0, .string ⟨#[]⟩, .slice none 0 0, .slice none 0 0] 26)).cell? ⟨w.heap.size, 0, none⟩ = some (.int .i64 0) := by go_simp
  have r1 : (w.alloc (.cells #[.int .i64 0, .int .i64 0, .string ⟨#[]⟩, .slice none 0 0, .slice none 0 0] 26)).cell? ⟨w.heap.size, 1, none⟩ = some (.int .i64 0) := by go_simp
  have r2 : (w.alloc (.cells #[.int .i64 0, .int .i64 0, .string ⟨#[]⟩, .slice none 0 0, .slice none 0 0] 26)).cell? ⟨w.heap.size, 2, none⟩ = some (.string ⟨#[]⟩) := by go_simp
  have r3 : (w.alloc (.cells #[.int .i64 0, .int .i64 0, .string ⟨#[]⟩, .slice none 0 0, .slice none 0 0] 26)).cell? ⟨w.heap.size, 3, none⟩ = some (.slice none 0 0) := by go_simp
  have r4 : (w.alloc (.cells #[.int .i64 0, .int .i64 0, .string ⟨#[]⟩, .slice none 0 0, .slice none 0 0] 26)).cell? ⟨w.heap.size, 4, none⟩ = some (.slice none 0 0) := by go_simp
  have rf : ∀ o, (w.alloc (.cells #[.int .i64 0, .int .i64 0, .string ⟨#[]⟩, .slice none 0 0, .slice none 0 0] 26)).frozen? ⟨w.heap.size, o, none⟩ = false := fun o => by go_simp
  have hz : w.heap.size < (w.alloc (.cells #[.int .i64 0, .int .i64 0, .string ⟨#[]⟩, .slice none 0 0, .slice none 0 0] 26)).heap.size := by simp
  obtain ⟨wc, hwc⟩ : ∃ wc, w.alloc (.cells #[.int .i64 0, .int .i64 0, .string ⟨#[]⟩, .slice none 0 0, .slice none 0 0] 26) = wc := ⟨_, rfl⟩
  rw [hwc] at HS0 HK0 r0 r1 r2 r3 r4 rf hz
  clear hs
  by_cases hle : deep ≤ 0
  ·have hdd : decide (deep ≤ 0) = true := by simpa using hle
   go_enter Tryz.func64, Tryz.ntmps64
   have hA := HS0.out.alloc (.cells #[.string ⟨#[]⟩, .string ⟨#[97]⟩, .string ⟨#[98, 32, 99]⟩, .string ⟨#[108, 111, 110, 103, 32, 116, 101, 120, 116, 32, 49, 50]⟩] 9)
   have hB := HK0.out.alloc (by omega) (.cells #[.string ⟨#[]⟩, .string ⟨#[97]⟩, .string ⟨#[98, 32, 99]⟩, .string ⟨#[108, 111, 110, 103, 32, 116, 101, 120, 116, 32, 49, 50]⟩] 9)
   have HA := Lib.hid hA
   have HB := Lib.hid hB
   have hN : ¬ wc.heap.size = g := by omega
   replace r0 : (wc.alloc (.cells #[.string ⟨#[]⟩, .string ⟨#[97]⟩, .string ⟨#[98, 32, 99]⟩, .string ⟨#[108, 111, 110, 103, 32, 116, 101, 120, 116, 32, 49, 50]⟩] 9)).cell? ⟨w.heap.size, 0, none⟩ = some (.int .i64 0) := (Below.cell (Below.alloc (Below.refl wc.heap.size wc) (Nat.le_refl _) (.cells #[.string ⟨#[]⟩, .string ⟨#[97]⟩, .string ⟨#[98, 32, 99]⟩, .string ⟨#[108, 111, 110, 103, 32, 116, 101, 120, 116, 32, 49, 50]⟩] 9)) (p := ⟨w.heap.size, 0, none⟩) (by first | omega | (simp; done) | (simp; omega))).trans r0
   replace r1 : (wc.alloc (.cells #[.string ⟨#[]⟩, .string ⟨#[97]⟩, .string ⟨#[98, 32, 99]⟩, .string ⟨#[108, 111, 110, 103, 32, 116, 101, 120, 116, 32, 49, 50]⟩] 9)).cell? ⟨w.heap.size, 1, none⟩ = some (.int .i64 0) := (Below.cell (Below.alloc (Below.refl wc.heap.size wc) (Nat.le_refl _) (.cells #[.string ⟨#[]⟩, .string ⟨#[97]⟩, .string ⟨#[98, 32, 99]⟩, .string ⟨#[108, 111, 110, 103, 32, 116, 101, 120, 116, 32, 49, 50]⟩] 9)) (p := ⟨w.heap.size, 1, none⟩) (by first | omega | (simp; done) | (simp; omega))).trans r1
   replace r2 : (wc.alloc (.cells #[.string ⟨#[]⟩, .string ⟨#[97]⟩, .string ⟨#[98, 32, 99]⟩, .string ⟨#[108, 111, 110, 103, 32, 116, 101, 120, 116, 32, 49, 50]⟩] 9)).cell? ⟨w.heap.size, 2, none⟩ = some (.string ⟨#[]⟩) := (Below.cell (Below.alloc (Below.refl wc.heap.size wc) (Nat.le_refl _) (.cells #[.string ⟨#[]⟩, .string ⟨#[97]⟩, .string ⟨#[98, 32, 99]⟩, .string ⟨#[108, 111, 110, 103, 32, 116, 101, 120, 116, 32, 49, 50]⟩] 9)) (p := ⟨w.heap.size, 2, none⟩) (by first | omega | (simp; done) | (simp; omega))).trans r2
   replace r3 : (wc.alloc (.cells #[.string ⟨#[]⟩, .string ⟨#[97]⟩, .string ⟨#[98, 32, 99]⟩, .string ⟨#[108, 111, 110, 103, 32, 116, 101, 120, 116, 32, 49, 50]⟩] 9)).cell? ⟨w.heap.size, 3, none⟩ = some (.slice none 0 0) := (Below.cell (Below.alloc (Below.refl wc.heap.size wc) (Nat.le_refl _) (.cells #[.string ⟨#[]⟩, .string ⟨#[97]⟩, .string ⟨#[98, 32, 99]⟩, .string ⟨#[108, 111, 110, 103, 32, 116, 101, 120, 116, 32, 49, 50]⟩] 9)) (p := ⟨w.heap.size, 3, none⟩) (by first | omega | (simp; done) | (simp; omega))).trans r3
   replace r4 : (wc.alloc (.cells #[.string ⟨#[]⟩, .string ⟨#[97]⟩, .string ⟨#[98, 32, 99]⟩, .string ⟨#[108, 111, 110, 103, 32, 116, 101, 120, 116, 32, 49, 50]⟩] 9)).cell? ⟨w.heap.size, 4, none⟩ = some (.slice none 0 0) := (Below.cell (Below.alloc (Below.refl wc.heap.size wc) (Nat.le_refl _) (.cells #[.string ⟨#[]⟩, .string ⟨#[97]⟩, .string ⟨#[98, 32, 99]⟩, .string ⟨#[108, 111, 110, 103, 32, 116, 101, 120, 116, 32, 49, 50]⟩] 9)) (p := ⟨w.heap.size, 4, none⟩) (by first | omega | (simp; done) | (simp; omega))).trans r4
   replace rf : ∀ o, (wc.alloc (.cells #[.string ⟨#[]⟩, .string ⟨#[97]⟩, .string ⟨#[98, 32, 99]⟩, .string ⟨#[108, 111, 110, 103, 32, 116, 101, 120, 116, 32, 49, 50]⟩] 9)).frozen? ⟨w.heap.size, o, none⟩ = false := fun o => (Below.frozen (Below.alloc (Below.refl wc.heap.size wc) (Nat.le_refl _) (.cells #[.string ⟨#[]⟩, .string ⟨#[97]⟩, .string ⟨#[98, 32, 99]⟩, .string ⟨#[108, 111, 110, 103, 32, 116, 101, 120, 116, 32, 49, 50]⟩] 9)) (p := ⟨w.heap.size, o, none⟩) (by first | omega | (simp; done) | (simp; omega))).trans (rf o)
   clear hA hB
   go_wp2_with fail
   refine (pick_any g A len cap 4 _ HA.out (by omega)).mono ?_
   rintro e wp ⟨r, rfl, p, q, hs, hk⟩
   have hr4 : r < 4 := by omega
   obtain ⟨tt, ht1, ht0⟩ := str4 wc r p hr4
   have ht := (hk.cell.1 wc.heap.size r.toNat (by simp) hN).trans ht0
   replace r0 := (hk.cell.1 w.heap.size 0 (by first | omega | (simp; done) | (simp; omega)) (by first | omega | (simp; done) | (simp; omega))).trans r0
   replace r1 := (hk.cell.1 w.heap.size 1 (by first | omega | (simp; done) | (simp; omega)) (by first | omega | (simp; done) | (simp; omega))).trans r1
   replace r2 := (hk.cell.1 w.heap.size 2 (by first | omega | (simp; done) | (simp; omega)) (by first | omega | (simp; done) | (simp; omega))).trans r2
   replace r3 := (hk.cell.1 w.heap.size 3 (by first | omega | (simp; done) | (simp; omega)) (by first | omega | (simp; done) | (simp; omega))).trans r3
   replace r4 := (hk.cell.1 w.heap.size 4 (by first | omega | (simp; done) | (simp; omega)) (by first | omega | (simp; done) | (simp; omega))).trans r4
   replace rf := fun o => (hk.cell.2 w.heap.size o (by first | omega | (simp; done) | (simp; omega)) (by first | omega | (simp; done) | (simp; omega))).trans (rf o)
   have HS9 := Lib.hid hs
   have HK9 := Lib.hid (HB.out.more (Nat.le_refl _) hk)
   clear hs hk ht0 q
   go_wp2_with fail
   refine bodyPost_ret (v := .agg #[.int .i64 (-1), .int .i64 (-1), .string tt, .slice none 0 0, .slice none 0 0]) (by simp [results, Tryz.results64, go_sem, *]) rfl ⟨none, 0, none, 0, .mk (-1) (-1) tt [] [], rfl, TrD.text _ _ _ _, GdD.text ht1, ?_, ?_⟩
   ·exact ((((HS9.out.set_ HG.out _).set_ HG.out _).set_ HG.out _).set_ HG.out _).set_ HG.out _
   ·exact ((((HK9.out.set_ (.inr (Nat.le_refl _)) _).set_ (.inr (Nat.le_refl _)) _).set_ (.inr (Nat.le_refl _)) _).set_ (.inr (Nat.le_refl _)) _).set_ (.inr (Nat.le_refl _)) _
  have hdd : decide (deep ≤ 0) = false := by simpa using hle
  go_enter Tryz.func64, Tryz.ntmps64
  go_wp2_with fail
  refine (pick_any g A len cap 4 _ HS0.out (by omega)).mono ?_
  rintro e w1 ⟨ra, rfl, ra0, ra1, hs, hk⟩
  replace r0 := (hk.cell.1 w.heap.size 0 (by first | omega | (simp; done) | (simp; omega)) (by first | omega | (simp; done) | (simp; omega))).trans r0
  replace r1 := (hk.cell.1 w.heap.size 1 (by first | omega | (simp; done) | (simp; omega)) (by first | omega | (simp; done) | (simp; omega))).trans r1
  replace r2 := (hk.cell.1 w.heap.size 2 (by first | omega | (simp; done) | (simp; omega)) (by first | omega | (simp; done) | (simp; omega))).trans r2
  replace r3 := (hk.cell.1 w.heap.size 3 (by first | omega | (simp; done) | (simp; omega)) (by first | omega | (simp; done) | (simp; omega))).trans r3
  replace r4 := (hk.cell.1 w.heap.size 4 (by first | omega | (simp; done) | (simp; omega)) (by first | omega | (simp; done) | (simp; omega))).trans r4
  replace rf := fun o => (hk.cell.2 w.heap.size o (by first | omega | (simp; done) | (simp; omega)) (by first | omega | (simp; done) | (simp; omega))).trans (rf o)
  have HS1 := Lib.hid hs
  have HK1 := Lib.hid (HK0.out.more (Nat.le_refl _) hk)
  have hz1 : w.heap.size < w1.heap.size := by have := hk.size; omega
  clear hs hk
  by_cases hra : ra = 0
  ·subst hra
   have hA := HS1.out.alloc (.cells #[.string ⟨#[]⟩, .string ⟨#[97]⟩, .string ⟨#[98, 32, 99]⟩, .string ⟨#[108, 111, 110, 103, 32, 116, 101, 120, 116, 32, 49, 50]⟩] 9)
   have hB := HK1.out.alloc (by omega) (.cells #[.string ⟨#[]⟩, .string ⟨#[97]⟩, .string ⟨#[98, 32, 99]⟩, .string ⟨#[108, 111, 110, 103, 32, 116, 101, 120, 116, 32, 49, 50]⟩] 9)
   have HA := Lib.hid hA
   have HB := Lib.hid hB
   have hN : ¬ w1.heap.size = g := by omega
   replace r0 : (w1.alloc (.cells #[.string ⟨#[]⟩, .string ⟨#[97]⟩, .string ⟨#[98, 32, 99]⟩, .string ⟨#[108, 111, 110, 103, 32, 116, 101, 120, 116, 32, 49, 50]⟩] 9)).cell? ⟨w.heap.size, 0, none⟩ = some (.int .i64 0) := (Below.cell (Below.alloc (Below.refl w1.heap.size w1) (Nat.le_refl _) (.cells #[.string ⟨#[]⟩, .string ⟨#[97]⟩, .string ⟨#[98, 32, 99]⟩, .string ⟨#[108, 111, 110, 103, 32, 116, 101, 120, 116, 32, 49, 50]⟩] 9)) (p := ⟨w.heap.size, 0, none⟩) (by first | omega | (simp; done) | (simp; omega))).trans r0
   replace r1 : (w1.alloc (.cells #[.string ⟨#[]⟩, .string ⟨#[97]⟩, .string ⟨#[98, 32, 99]⟩, .string ⟨#[108, 111, 110, 103, 32, 116, 101, 120, 116, 32, 49, 50]⟩] 9)).cell? ⟨w.heap.size, 1, none⟩ = some (.int .i64 0) := (Below.cell (Below.alloc (Below.refl w1.heap.size w1) (Nat.le_refl _) (.cells #[.string ⟨#[]⟩, .string ⟨#[97]⟩, .string ⟨#[98, 32, 99]⟩, .string ⟨#[108, 111, 110, 103, 32, 116, 101, 120, 116, 32, 49, 50]⟩] 9)) (p := ⟨w.heap.size, 1, none⟩) (by first | omega | (simp; done) | (simp; omega))).trans r1
   replace r2 : (w1.alloc (.cells #[.string ⟨#[]⟩, .string ⟨#[97]⟩, .string ⟨#[98, 32, 99]⟩, .string ⟨#[108, 111, 110, 103, 32, 116, 101, 120, 116, 32, 49, 50]⟩] 9)).cell? ⟨w.heap.size, 2, none⟩ = some (.string ⟨#[]⟩) := (Below.cell (Below.alloc (Below.refl w1.heap.size w1) (Nat.le_refl _) (.cells #[.string ⟨#[]⟩, .string ⟨#[97]⟩, .string ⟨#[98, 32, 99]⟩, .string ⟨#[108, 111, 110, 103, 32, 116, 101, 120, 116, 32, 49, 50]⟩] 9)) (p := ⟨w.heap.size, 2, none⟩) (by first | omega | (simp; done) | (simp; omega))).trans r2
   replace r3 : (w1.alloc (.cells #[.string ⟨#[]⟩, .string ⟨#[97]⟩, .string ⟨#[98, 32, 99]⟩, .string ⟨#[108, 111, 110, 103, 32, 116, 101, 120, 116, 32, 49, 50]⟩] 9)).cell? ⟨w.heap.size, 3, none⟩ = some (.slice none 0 0) := (Below.cell (Below.alloc (Below.refl w1.heap.size w1) (Nat.le_refl _) (.cells #[.string ⟨#[]⟩, .string ⟨#[97]⟩, .string ⟨#[98, 32, 99]⟩, .string ⟨#[108, 111, 110, 103, 32, 116, 101, 120, 116, 32, 49, 50]⟩] 9)) (p := ⟨w.heap.size, 3, none⟩) (by first | omega | (simp; done) | (simp; omega))).trans r3
   replace r4 : (w1.alloc (.cells #[.string ⟨#[]⟩, .string ⟨#[97]⟩, .string ⟨#[98, 32, 99]⟩, .string ⟨#[108, 111, 110, 103, 32, 116, 101, 120, 116, 32, 49, 50]⟩] 9)).cell? ⟨w.heap.size, 4, none⟩ = some (.slice none 0 0) := (Below.cell (Below.alloc (Below.refl w1.heap.size w1) (Nat.le_refl _) (.cells #[.string ⟨#[]⟩, .string ⟨#[97]⟩, .string ⟨#[98, 32, 99]⟩, .string ⟨#[108, 111, 110, 103, 32, 116, 101, 120, 116, 32, 49, 50]⟩] 9)) (p := ⟨w.heap.size, 4, none⟩) (by first | omega | (simp; done) | (simp; omega))).trans r4
   replace rf : ∀ o, (w1.alloc (.cells #[.string ⟨#[]⟩, .string ⟨#[97]⟩, .string ⟨#[98, 32, 99]⟩, .string ⟨#[108, 111, 110, 103, 32, 116, 101, 120, 116, 32, 49, 50]⟩] 9)).frozen? ⟨w.heap.size, o, none⟩ = false := fun o => (Below.frozen (Below.alloc (Below.refl w1.heap.size w1) (Nat.le_refl _) (.cells #[.string ⟨#[]⟩, .string ⟨#[97]⟩, .string ⟨#[98, 32, 99]⟩, .string ⟨#[108, 111, 110, 103, 32, 116, 101, 120, 116, 32, 49, 50]⟩] 9)) (p := ⟨w.heap.size, o, none⟩) (by first | omega | (simp; done) | (simp; omega))).trans (rf o)
   clear hA hB
   go_wp2_with fail
   refine (pick_any g A len cap 4 _ HA.out (by omega)).mono ?_
   rintro e wp ⟨r, rfl, p, q, hs, hk⟩
   have hr4 : r < 4 := by omega
   obtain ⟨tt, ht1, ht0⟩ := str4 w1 r p hr4
   have ht := (hk.cell.1 w1.heap.size r.toNat (by simp) hN).trans ht0
   replace r0 := (hk.cell.1 w.heap.size 0 (by first | omega | (simp; done) | (simp; omega)) (by first | omega | (simp; done) | (simp; omega))).trans r0
   replace r1 := (hk.cell.1 w.heap.size 1 (by first | omega | (simp; done) | (simp; omega)) (by first | omega | (simp; done) | (simp; omega))).trans r1
   replace r2 := (hk.cell.1 w.heap.size 2 (by first | omega | (simp; done) | (simp; omega)) (by first | omega | (simp; done) | (simp; omega))).trans r2
   replace r3 := (hk.cell.1 w.heap.size 3 (by first | omega | (simp; done) | (simp; omega)) (by first | omega | (simp; done) | (simp; omega))).trans r3
   replace r4 := (hk.cell.1 w.heap.size 4 (by first | omega | (simp; done) | (simp; omega)) (by first | omega | (simp; done) | (simp; omega))).trans r4
   replace rf := fun o => (hk.cell.2 w.heap.size o (by first | omega | (simp; done) | (simp; omega)) (by first | omega | (simp; done) | (simp; omega))).trans (rf o)
   have HS9 := Lib.hid hs
   have HK9 := Lib.hid (HB.out.more (Nat.le_refl _) hk)
   clear hs hk ht0 q
   go_wp2_with fail
   refine bodyPost_ret (v := .agg #[.int .i64 (-1), .int .i64 (-1), .string tt, .slice none 0 0, .slice none 0 0]) (by simp [results, Tryz.results64, go_sem, *]) rfl ⟨none, 0, none, 0, .mk (-1) (-1) tt [] [], rfl, TrD.text _ _ _ _, GdD.text ht1, ?_, ?_⟩
   ·exact ((((HS9.out.set_ HG.out _).set_ HG.out _).set_ HG.out _).set_ HG.out _).set_ HG.out _
   ·exact ((((HK9.out.set_ (.inr (Nat.le_refl _)) _).set_ (.inr (Nat.le_refl _)) _).set_ (.inr (Nat.le_refl _)) _).set_ (.inr (Nat.le_refl _)) _).set_ (.inr (Nat.le_refl _)) _
  have hrb : (ra == 0) = false := by simp; omega
  go_wp2_with fail
  refine (pick_any g A len cap 5 _ HS1.out (by omega)).mono ?_
  rintro e w2 ⟨tag, rfl, tg0, tg1, hs, hk⟩
  replace r0 := (hk.cell.1 w.heap.size 0 (by first | omega | (simp; done) | (simp; omega)) (by first | omega | (simp; done) | (simp; omega))).trans r0
  replace r1 := (hk.cell.1 w.heap.size 1 (by first | omega | (simp; done) | (simp; omega)) (by first | omega | (simp; done) | (simp; omega))).trans r1
  replace r2 := (hk.cell.1 w.heap.size 2 (by first | omega | (simp; done) | (simp; omega)) (by first | omega | (simp; done) | (simp; omega))).trans r2
  replace r3 := (hk.cell.1 w.heap.size 3 (by first | omega | (simp; done) | (simp; omega)) (by first | omega | (simp; done) | (simp; omega))).trans r3
  replace r4 := (hk.cell.1 w.heap.size 4 (by first | omega | (simp; done) | (simp; omega)) (by first | omega | (simp; done) | (simp; omega))).trans r4
  replace rf := fun o => (hk.cell.2 w.heap.size o (by first | omega | (simp; done) | (simp; omega)) (by first | omega | (simp; done) | (simp; omega))).trans (rf o)
  have HS2 := Lib.hid hs
  have HK2 := Lib.hid (HK1.out.more (Nat.le_refl _) hk)
  have hz2 : w.heap.size < w2.heap.size := by have := hk.size; omega
  clear hs hk
  have HL := Lib.hid (keys7 w2)
  have HA2 := Lib.hid (HS2.out.alloc (.cells #[.int .i64 (-1), .int .i64 (-1), .int .i64 0, .int .i64 1, .int .i64 2, .int .i64 50, .int .i64 99] 3))
  have HB2 := Lib.hid (HK2.out.alloc (by omega) (.cells #[.int .i64 (-1), .int .i64 (-1), .int .i64 0, .int .i64 1, .int .i64 2, .int .i64 50, .int .i64 99] 3))
  have hN2 : ¬ w2.heap.size = g := by omega
  replace r0 : (w2.alloc (.cells #[.int .i64 (-1), .int .i64 (-1), .int .i64 0, .int .i64 1, .int .i64 2, .int .i64 50, .int .i64 99] 3)).cell? ⟨w.heap.size, 0, none⟩ = some (.int .i64 0) := (Below.cell (Below.alloc (Below.refl w2.heap.size w2) (Nat.le_refl _) (.cells #[.int .i64 (-1), .int .i64 (-1), .int .i64 0, .int .i64 1, .int .i64 2, .int .i64 50, .int .i64 99] 3)) (p := ⟨w.heap.size, 0, none⟩) (by first | omega | (simp; done) | (simp; omega))).trans r0
  replace r1 : (w2.alloc (.cells #[.int .i64 (-1), .int .i64 (-1), .int .i64 0, .int .i64 1, .int .i64 2, .int .i64 50, .int .i64 99] 3)).cell? ⟨w.heap.size, 1, none⟩ = some (.int .i64 0) := (Below.cell (Below.alloc (Below.refl w2.heap.size w2) (Nat.le_refl _) (.cells #[.int .i64 (-1), .int .i64 (-1), .int .i64 0, .int .i64 1, .int .i64 2, .int .i64 50, .int .i64 99] 3)) (p := ⟨w.heap.size, 1, none⟩) (by first | omega | (simp; done) | (simp; omega))).trans r1
  replace r2 : (w2.alloc (.cells #[.int .i64 (-1), .int .i64 (-1), .int .i64 0, .int .i64 1, .int .i64 2, .int .i64 50, .int .i64 99] 3)).cell? ⟨w.heap.size, 2, none⟩ = some (.string ⟨#[]⟩) := (Below.cell (Below.alloc (Below.refl w2.heap.size w2) (Nat.le_refl _) (.cells #[.int .i64 (-1), .int .i64 (-1), .int .i64 0, .int .i64 1, .int .i64 2, .int .i64 50, .int .i64 99] 3)) (p := ⟨w.heap.size, 2, none⟩) (by first | omega | (simp; done) | (simp; omega))).trans r2
  replace r3 : (w2.alloc (.cells #[.int .i64 (-1), .int .i64 (-1), .int .i64 0, .int .i64 1, .int .i64 2, .int .i64 50, .int .i64 99] 3)).cell? ⟨w.heap.size, 3, none⟩ = some (.slice none 0 0) := (Below.cell (Below.alloc (Below.refl w2.heap.size w2) (Nat.le_refl _) (.cells #[.int .i64 (-1), .int .i64 (-1), .int .i64 0, .int .i64 1, .int .i64 2, .int .i64 50, .int .i64 99] 3)) (p := ⟨w.heap.size, 3, none⟩) (by first | omega | (simp; done) | (simp; omega))).trans r3
  replace r4 : (w2.alloc (.cells #[.int .i64 (-1), .int .i64 (-1), .int .i64 0, .int .i64 1, .int .i64 2, .int .i64 50, .int .i64 99] 3)).cell? ⟨w.heap.size, 4, none⟩ = some (.slice none 0 0) := (Below.cell (Below.alloc (Below.refl w2.heap.size w2) (Nat.le_refl _) (.cells #[.int .i64 (-1), .int .i64 (-1), .int .i64 0, .int .i64 1, .int .i64 2, .int .i64 50, .int .i64 99] 3)) (p := ⟨w.heap.size, 4, none⟩) (by first | omega | (simp; done) | (simp; omega))).trans r4
  replace rf : ∀ o, (w2.alloc (.cells #[.int .i64 (-1), .int .i64 (-1), .int .i64 0, .int .i64 1, .int .i64 2, .int .i64 50, .int .i64 99] 3)).frozen? ⟨w.heap.size, o, none⟩ = false := fun o => (Below.frozen (Below.alloc (Below.refl w2.heap.size w2) (Nat.le_refl _) (.cells #[.int .i64 (-1), .int .i64 (-1), .int .i64 0, .int .i64 1, .int .i64 2, .int .i64 50, .int .i64 99] 3)) (p := ⟨w.heap.size, o, none⟩) (by first | omega | (simp; done) | (simp; omega))).trans (rf o)
  go_wp2_with fail
  refine (one_any g A len cap w2.heap.size 7 7 (-1) 99 _ HA2.out (by simp) hN2 HL.out (by omega) (by omega)).mono ?_
  rintro e w3 ⟨key, rfl, ky0, ky1, hs, hk⟩
  replace r0 := (hk.cell.1 w.heap.size 0 (by first | omega | (simp; done) | (simp; omega)) (by first | omega | (simp; done) | (simp; omega))).trans r0
  replace r1 := (hk.cell.1 w.heap.size 1 (by first | omega | (simp; done) | (simp; omega)) (by first | omega | (simp; done) | (simp; omega))).trans r1
  replace r2 := (hk.cell.1 w.heap.size 2 (by first | omega | (simp; done) | (simp; omega)) (by first | omega | (simp; done) | (simp; omega))).trans r2
  replace r3 := (hk.cell.1 w.heap.size 3 (by first | omega | (simp; done) | (simp; omega)) (by first | omega | (simp; done) | (simp; omega))).trans r3
  replace r4 := (hk.cell.1 w.heap.size 4 (by first | omega | (simp; done) | (simp; omega)) (by first | omega | (simp; done) | (simp; omega))).trans r4
  replace rf := fun o => (hk.cell.2 w.heap.size o (by first | omega | (simp; done) | (simp; omega)) (by first | omega | (simp; done) | (simp; omega))).trans (rf o)
  have HS3 := Lib.hid hs
  have HK3 := Lib.hid (HB2.out.more (Nat.le_refl _) hk)
  have hz3 : w.heap.size < w3.heap.size := by have := hk.size; simp at this; omega
  clear hs hk HL HA2 HB2 hN2 HS2 HK2 HS1 HK1
  replace r0 : (w3.alloc (.cells #[.int .i64 tag, .int .i64 key, .string ⟨#[]⟩, .slice none 0 0, .slice none 0 0] 26)).cell? ⟨w.heap.size, 0, none⟩ = some (.int .i64 0) := (Below.cell (Below.alloc (Below.refl w3.heap.size w3) (Nat.le_refl _) (.cells #[.int .i64 tag, .int .i64 key, .string ⟨#[]⟩, .slice none 0 0, .slice none 0 0] 26)) (p := ⟨w.heap.size, 0, none⟩) (by first | omega | (simp; done) | (simp; omega))).trans r0
  replace r1 : (w3.alloc (.cells #[.int .i64 tag, .int .i64 key, .string ⟨#[]⟩, .slice none 0 0, .slice none 0 0] 26)).cell? ⟨w.heap.size, 1, none⟩ = some (.int .i64 0) := (Below.cell (Below.alloc (Below.refl w3.heap.size w3) (Nat.le_refl _) (.cells #[.int .i64 tag, .int .i64 key, .string ⟨#[]⟩, .slice none 0 0, .slice none 0 0] 26)) (p := ⟨w.heap.size, 1, none⟩) (by first | omega | (simp; done) | (simp; omega))).trans r1
  replace r2 : (w3.alloc (.cells #[.int .i64 tag, .int .i64 key, .string ⟨#[]⟩, .slice none 0 0, .slice none 0 0] 26)).cell? ⟨w.heap.size, 2, none⟩ = some (.string ⟨#[]⟩) := (Below.cell (Below.alloc (Below.refl w3.heap.size w3) (Nat.le_refl _) (.cells #[.int .i64 tag, .int .i64 key, .string ⟨#[]⟩, .slice none 0 0, .slice none 0 0] 26)) (p := ⟨w.heap.size, 2, none⟩) (by first | omega | (simp; done) | (simp; omega))).trans r2
  replace r3 : (w3.alloc (.cells #[.int .i64 tag, .int .i64 key, .string ⟨#[]⟩, .slice none 0 0, .slice none 0 0] 26)).cell? ⟨w.heap.size, 3, none⟩ = some (.slice none 0 0) := (Below.cell (Below.alloc (Below.refl w3.heap.size w3) (Nat.le_refl _) (.cells #[.int .i64 tag, .int .i64 key, .string ⟨#[]⟩, .slice none 0 0, .slice none 0 0] 26)) (p := ⟨w.heap.size, 3, none⟩) (by first | omega | (simp; done) | (simp; omega))).trans r3
  replace r4 : (w3.alloc (.cells #[.int .i64 tag, .int .i64 key, .string ⟨#[]⟩, .slice none 0 0, .slice none 0 0] 26)).cell? ⟨w.heap.size, 4, none⟩ = some (.slice none 0 0) := (Below.cell (Below.alloc (Below.refl w3.heap.size w3) (Nat.le_refl _) (.cells #[.int .i64 tag, .int .i64 key, .string ⟨#[]⟩, .slice none 0 0, .slice none 0 0] 26)) (p := ⟨w.heap.size, 4, none⟩) (by first | omega | (simp; done) | (simp; omega))).trans r4
  replace rf : ∀ o, (w3.alloc (.cells #[.int .i64 tag, .int .i64 key, .string ⟨#[]⟩, .slice none 0 0, .slice none 0 0] 26)).frozen? ⟨w.heap.size, o, none⟩ = false := fun o => (Below.frozen (Below.alloc (Below.refl w3.heap.size w3) (Nat.le_refl _) (.cells #[.int .i64 tag, .int .i64 key, .string ⟨#[]⟩, .slice none 0 0, .slice none 0 0] 26)) (p := ⟨w.heap.size, o, none⟩) (by first | omega | (simp; done) | (simp; omega))).trans (rf o)
  have HT0 : Hid (TS (n + 1) w g A len cap w.heap.size w3.heap.size tag key [] [] (.slice none 0 0) (.slice none 0 0) (w3.alloc (.cells #[.int .i64 tag, .int .i64 key, .string ⟨#[]⟩, .slice none 0 0, .slice none 0 0] 26))) := Lib.hid ⟨r0, r1, r2, r3, r4, rf, by go_simp, by go_simp, by go_simp, by go_simp, by go_simp, fun o => by go_simp, hgw, hz3, by simp, ⟨rfl, .inl ⟨rfl, rfl⟩⟩, KidsOwn.nil _ _, by simp, by simp, HS3.out.alloc _, HK3.out.alloc (by omega) _⟩
  clear r0 r1 r2 r3 r4 rf HS3 HK3
  obtain ⟨i0, hi, hj0, hj1, hj2⟩ := info_parts infoPr
  have I0 := Lib.hid (And.intro hi (And.intro hj0 (And.intro hj1 hj2)))
  clear hi hj0 hj1 hj2
  obtain ⟨i1, hi, hj0, hj1, hj2⟩ := info_parts infoTr
  have I1 := Lib.hid (And.intro hi (And.intro hj0 (And.intro hj1 hj2)))
  clear hi hj0 hj1 hj2
  go_wp2_with fail
  go_loopw [6] (fun i wr => ∃ (k : Nat) (ps : List Pr) (v : Value), k ≤ 4 ∧ i = .int .i64 k ∧ ps.length ≤ k ∧ Hid (TS (n + 1) w g A len cap w.heap.size w3.heap.size tag key ps [] v (.slice none 0 0) wr)) (fun i _ => 4 - (intOf i).toNat)
  case atStart => exact ⟨0, [], .slice none 0 0, by omega, rfl, by simp, HT0⟩
  case round =>
   clear HT0
   obtain ⟨k, ps, v, hk4, rfl, hpl, HT⟩ := hrel
   by_cases hlt : k < 4
   ·go_wp2_with fail
    refine (pick_any g A len cap 3 _ HT.out.s (by omega)).mono ?_
    rintro e wp ⟨rq, rfl, p3, q3, hs, hk⟩
    replace HT := Lib.hid (HT.out.keep hk hs)
    clear hs hk
    by_cases hr3 : rq = 0
    ·subst hr3
     have o3 := HT.out.o3
     have of_ := HT.out.of_
     have hzb := HT.out.hz
     go_wp2_with fail
     go_region_law (first
      | (refine step_append_own (by rfl) (.tmp 36) (.tmp 41) 23 130 i0 _ 4 40 (by rfl) Tryz.underlying23 I0.out.1 I0.out.2.1 I0.out.2.2.1 I0.out.2.2.2 (by rfl) (by omega) (w3.heap.size + 1) v ps.length (ps.flatMap Pr.cells) (by rfl) (HT.out.alloc _).p ⟨wg.heap.size, 0, none⟩ 1 (Pr.cells ⟨k, ⟨vk, vn, vs⟩⟩) (by rfl) (by rfl) (by intro j u hu; exact lit_cells _ _ _ j u hu) (by intro u hu; exact prop_one _ u hu) (by omega) (by omega) (by simp; omega) ?_; intro v' wx hox hgx hatx; obtain ⟨A9, c9, rfl, _⟩ := rowv_form hox; have HT9 := Lib.hid (TS.prop (x := ⟨k, ⟨vk, vn, vs⟩⟩) (HT.out.alloc _) HV.out hox hgx); have o3x : wx.cell? ⟨w3.heap.size, 3, none⟩ = some v := (((HT.out.alloc _).grown_cells (HT.out.alloc _).p hgx).1 _ _ (Nat.le_refl _)).trans (HT.out.alloc _).o3; have ofx : ∀ o, wx.frozen? ⟨w3.heap.size, o, none⟩ = false := fun o => (((HT.out.alloc _).grown_cells (HT.out.alloc _).p hgx).2.1 _ _ (Nat.le_refl _)).trans ((HT.out.alloc _).of_ o))
      | (go_simp; go_at_call 66; refine (good_any g A len cap _ (by first | exact HT.out.s | exact HT.out.drew.s | exact (HT.out.drewN _).s)).mono ?_; rintro e wg ⟨vk, vn, vs, rfl, hv, hs, hk⟩; replace HT := Lib.hid (TS.keep (by first | exact HT.out | exact HT.out.drew | exact HT.out.drewN _) hk hs); have HV := Lib.hid (valid_small hv); have o3g := HT.out.o3; have hzg := HT.out.hz; clear hs hk hv))
     all_goals
      go_wp2_with fail
      go_roundw
      case rel => exact ⟨k + 1, _, _, by omega, by go_num, by simp; omega, HT9⟩
      case measure => simp [intOf]; omega
    ·have hr3b : (rq == 0) = false := by simp; omega
     go_wp2_with fail
     go_roundw
     case rel => exact ⟨k + 1, ps, v, by omega, by go_num, by omega, HT⟩
     case measure => simp [intOf]; omega
   ·obtain rfl : k = 4 := by omega
    go_wp2_with fail
    refine (pick_any g A len cap 5 _ HT.out.s (by omega)).mono ?_
    rintro e wm ⟨m, rfl, m0, m1, hs, hk⟩
    have HTm := Lib.hid (HT.out.keep hk hs)
    clear hs hk HT
    go_wp2_with fail
    go_loopw [7] (fun i wr => ∃ (j : Nat) (ks : List Tr) (v2 : Value), i = .int .i64 j ∧ ks.length + j ≤ 4 ∧ Hid (TS (n + 1) w g A len cap w.heap.size w3.heap.size tag key ps ks v v2 wr)) (fun i _ => (intOf i).toNat)
    case atStart => exact ⟨m.toNat, [], .slice none 0 0, by rw [show (m.toNat : Int) = m by omega], by simp; omega, HTm⟩
    case round =>
     clear HTm
     obtain ⟨j, ks, v2, rfl, hkl, HT⟩ := hrel
     by_cases hj : j = 0
     ·subst hj
      have o4 := HT.out.o4
      have of_ := HT.out.of_
      have hzb := HT.out.hz
      obtain ⟨A2, c2, hv2, hA2⟩ := kids_form HT.out.k
      rcases hA2 with ⟨rfl, rfl, rfl⟩ | ⟨b2, rfl⟩
      ·subst hv2
       go_wp2_with fail
       refine (keyless_none _).mono ?_
       rintro e w' ⟨rfl, rfl⟩
       replace HT := Lib.hid HT.out.same4
       go_wp2_with fail
       go_loopw [8] (fun i wr => i = .int .i64 0 ∧ Hid (TS (n + 1) w g A len cap w.heap.size w3.heap.size tag key ps [] v (.slice none 0 0) wr)) (fun _ _ => 0)
       case atStart => exact ⟨rfl, HT⟩
       case round =>
        clear HT o4 of_ hzb
        obtain ⟨rfl, HT⟩ := hrel
        have o4 := HT.out.o4
        have hkl9 : ([] : List Tr).length ≤ 4 := by simp
        go_wp2_with fail
        refine (rarely_any g A len cap _ HT.out.s).mono ?_
        rintro e wy ⟨bb, rfl, hs, hk⟩
        replace HT := Lib.hid (HT.out.keep hk hs)
        clear hs hk
        have hzb := HT.out.hz
        cases bb
        ·have hq0 : True := trivial
         obtain ⟨B0, e0, B1, e1, hv1, hv2, hTD, hGD⟩ := HT.out.tree (by omega) (by omega) (by omega)
         have HGD := Lib.hid hGD
         have HTD := Lib.hid hTD
         have HS9 := Lib.hid HT.out.s
         have HK9 := Lib.hid HT.out.kp
         obtain ⟨r0, r1, r2, r3, r4, rf, o0, o1, o2, o3, o4, of_, _, hRb, hzb, _, _, _, _, _, _⟩ := HT.out
         rw [hv1] at o3
         rw [hv2] at o4
         clear hTD hGD HT hv1 hv2
         go_wp2_with fail
         refine bodyPost_ret (v := .agg #[.int .i64 _, .int .i64 _, .string ⟨#[]⟩, .slice B0 _ e0, .slice B1 _ e1]) (by simp [results, Tryz.results64, go_sem, *]; refine ⟨?_, ?_, ?_, ?_⟩ <;> first | rfl | exact hl3.symm | exact hl3 | omega) rfl ⟨B0, e0, B1, e1, .mk _ _ ⟨#[]⟩ _ _, rfl, ?_, HGD.out, ?_, ?_⟩
         ·refine TrD.mono (lo := w3.heap.size + 1) (by omega) ?_ (TrD.stored (TrD.stored (TrD.stored (TrD.stored (TrD.stored HTD.out ?_ _) ?_ _) ?_ _) ?_ _) ?_ _)
          all_goals first | omega | (simp; done) | (simp; omega) | (simp [World.setCell])
         ·exact ((((HS9.out.set_ HG.out _).set_ HG.out _).set_ HG.out _).set_ HG.out _).set_ HG.out _
         ·exact ((((HK9.out.set_ (.inr (Nat.le_refl _)) _).set_ (.inr (Nat.le_refl _)) _).set_ (.inr (Nat.le_refl _)) _).set_ (.inr (Nat.le_refl _)) _).set_ (.inr (Nat.le_refl _)) _
        ·have o1 := HT.out.o1
         have of_ := HT.out.of_
         replace HT := Lib.hid (HT.out.setKey 100)
         have r0 := HT.out.r0
         obtain ⟨B0, e0, B1, e1, hv1, hv2, hTD, hGD⟩ := HT.out.tree (by omega) (by omega) (by omega)
         have HGD := Lib.hid hGD
         have HTD := Lib.hid hTD
         have HS9 := Lib.hid HT.out.s
         have HK9 := Lib.hid HT.out.kp
         obtain ⟨r0, r1, r2, r3, r4, rf, o0, o1, o2, o3, o4, of_, _, hRb, hzb, _, _, _, _, _, _⟩ := HT.out
         rw [hv1] at o3
         rw [hv2] at o4
         clear hTD hGD HT hv1 hv2
         go_wp2_with fail
         refine bodyPost_ret (v := .agg #[.int .i64 _, .int .i64 _, .string ⟨#[]⟩, .slice B0 _ e0, .slice B1 _ e1]) (by simp [results, Tryz.results64, go_sem, *]; refine ⟨?_, ?_, ?_, ?_⟩ <;> first | rfl | exact hl3.symm | exact hl3 | omega) rfl ⟨B0, e0, B1, e1, .mk _ _ ⟨#[]⟩ _ _, rfl, ?_, HGD.out, ?_, ?_⟩
         ·refine TrD.mono (lo := w3.heap.size + 1) (by omega) ?_ (TrD.stored (TrD.stored (TrD.stored (TrD.stored (TrD.stored HTD.out ?_ _) ?_ _) ?_ _) ?_ _) ?_ _)
          all_goals first | omega | (simp; done) | (simp; omega) | (simp [World.setCell])
         ·exact ((((HS9.out.set_ HG.out _).set_ HG.out _).set_ HG.out _).set_ HG.out _).set_ HG.out _
         ·exact ((((HK9.out.set_ (.inr (Nat.le_refl _)) _).set_ (.inr (Nat.le_refl _)) _).set_ (.inr (Nat.le_refl _)) _).set_ (.inr (Nat.le_refl _)) _).set_ (.inr (Nat.le_refl _)) _
      ·subst hv2
       go_wp2_with fail
       refine (keyless_any (n + 1) b2 c2 ks.length (w3.heap.size + 1) ks _ rfl (by omega) HT.out.k HT.out.kg).mono ?_
       rintro e w' ⟨rfl, ks2, hl2, hk2, hg2, ho2⟩
       replace HT := Lib.hid (HT.out.rekid hk2 hg2 ho2)
       obtain ⟨N, hN⟩ : ∃ N, ks.length = N := ⟨_, rfl⟩
       rw [hN] at HT hl2 hkl
       have o4x := HT.out.o4
       have ofx := HT.out.of_
       have hzx := HT.out.hz
       clear hk2 hg2 ho2 o4 of_ hzb
       (try rw [hN])
       replace HT := Lib.hid HT.out.same4
       go_wp2_with fail
       go_loopw [8] (fun i wr => ∃ (q : Nat) (ks3 : List Tr), q ≤ N ∧ i = .int .i64 q ∧ ks3.length = N ∧ Hid (TS (n + 1) w g A len cap w.heap.size w3.heap.size tag key ps ks3 v (.slice (some ⟨b2, 0, none⟩) N c2) wr)) (fun i _ => N - (intOf i).toNat)
       case atStart => exact ⟨0, ks2, by omega, rfl, hl2, HT⟩
       case round =>
        clear HT o4x ofx hzx
        obtain ⟨q, ks3, hqN, rfl, hl3, HT⟩ := hrel
        have o4 := HT.out.o4
        by_cases hq : q < N
        ·have hi1 : (0 : Int) ≤ (q : Int) := by omega
         have hi2 : (q : Int) < (N : Int) := by omega
         obtain ⟨x, hx⟩ := at_some (show q < ks3.length by omega)
         have hko := HT.out.k
         rw [← hl3] at hko
         obtain ⟨a0, a1, a2⟩ := hko.at_ hx
         obtain ⟨tg, htg⟩ : ∃ z, x.tag = z := ⟨_, rfl⟩
         rw [htg] at a0
         have HX9 := Lib.hid hx
         clear htg hko hx
         by_cases ht : tg = -1
         ·subst ht
          go_wp2_with fail
          go_roundw
          case rel => exact ⟨q + 1, ks3.set q (x.withKey (-1)), by omega, by go_num, by simpa using hl3, Lib.hid (HT.out.set_kid hl3 HX9.out (-1) (by omega))⟩
          case measure => simp [intOf]; omega
         ·have htb : (tg == -1) = false := by simpa using ht
          go_wp2_with fail
          go_roundw
          case rel => exact ⟨q + 1, ks3, by omega, by go_num, hl3, HT⟩
          case measure => simp [intOf]; omega
        ·have hkl9 : ks3.length ≤ 4 := by omega
         obtain rfl : q = N := by omega
         go_wp2_with fail
         refine (rarely_any g A len cap _ HT.out.s).mono ?_
         rintro e wy ⟨bb, rfl, hs, hk⟩
         replace HT := Lib.hid (HT.out.keep hk hs)
         clear hs hk
         have hzb := HT.out.hz
         cases bb
         ·have hq0 : True := trivial
          obtain ⟨B0, e0, B1, e1, hv1, hv2, hTD, hGD⟩ := HT.out.tree (by omega) (by omega) (by omega)
          have HGD := Lib.hid hGD
          have HTD := Lib.hid hTD
          have HS9 := Lib.hid HT.out.s
          have HK9 := Lib.hid HT.out.kp
          obtain ⟨r0, r1, r2, r3, r4, rf, o0, o1, o2, o3, o4, of_, _, hRb, hzb, _, _, _, _, _, _⟩ := HT.out
          rw [hv1] at o3
          rw [hv2] at o4
          clear hTD hGD HT hv1 hv2
          go_wp2_with fail
          refine bodyPost_ret (v := .agg #[.int .i64 _, .int .i64 _, .string ⟨#[]⟩, .slice B0 _ e0, .slice B1 _ e1]) (by simp [results, Tryz.results64, go_sem, *]; refine ⟨?_, ?_, ?_, ?_⟩ <;> first | rfl | exact hl3.symm | exact hl3 | omega) rfl ⟨B0, e0, B1, e1, .mk _ _ ⟨#[]⟩ _ _, rfl, ?_, HGD.out, ?_, ?_⟩
          ·refine TrD.mono (lo := w3.heap.size + 1) (by omega) ?_ (TrD.stored (TrD.stored (TrD.stored (TrD.stored (TrD.stored HTD.out ?_ _) ?_ _) ?_ _) ?_ _) ?_ _)
           all_goals first | omega | (simp; done) | (simp; omega) | (simp [World.setCell])
          ·exact ((((HS9.out.set_ HG.out _).set_ HG.out _).set_ HG.out _).set_ HG.out _).set_ HG.out _
          ·exact ((((HK9.out.set_ (.inr (Nat.le_refl _)) _).set_ (.inr (Nat.le_refl _)) _).set_ (.inr (Nat.le_refl _)) _).set_ (.inr (Nat.le_refl _)) _).set_ (.inr (Nat.le_refl _)) _
         ·have o1 := HT.out.o1
          have of_ := HT.out.of_
          replace HT := Lib.hid (HT.out.setKey 100)
          have r0 := HT.out.r0
          obtain ⟨B0, e0, B1, e1, hv1, hv2, hTD, hGD⟩ := HT.out.tree (by omega) (by omega) (by omega)
          have HGD := Lib.hid hGD
          have HTD := Lib.hid hTD
          have HS9 := Lib.hid HT.out.s
          have HK9 := Lib.hid HT.out.kp
          obtain ⟨r0, r1, r2, r3, r4, rf, o0, o1, o2, o3, o4, of_, _, hRb, hzb, _, _, _, _, _, _⟩ := HT.out
          rw [hv1] at o3
          rw [hv2] at o4
          clear hTD hGD HT hv1 hv2
          go_wp2_with fail
          refine bodyPost_ret (v := .agg #[.int .i64 _, .int .i64 _, .string ⟨#[]⟩, .slice B0 _ e0, .slice B1 _ e1]) (by simp [results, Tryz.results64, go_sem, *]; refine ⟨?_, ?_, ?_, ?_⟩ <;> first | rfl | exact hl3.symm | exact hl3 | omega) rfl ⟨B0, e0, B1, e1, .mk _ _ ⟨#[]⟩ _ _, rfl, ?_, HGD.out, ?_, ?_⟩
          ·refine TrD.mono (lo := w3.heap.size + 1) (by omega) ?_ (TrD.stored (TrD.stored (TrD.stored (TrD.stored (TrD.stored HTD.out ?_ _) ?_ _) ?_ _) ?_ _) ?_ _)
           all_goals first | omega | (simp; done) | (simp; omega) | (simp [World.setCell])
          ·exact ((((HS9.out.set_ HG.out _).set_ HG.out _).set_ HG.out _).set_ HG.out _).set_ HG.out _
          ·exact ((((HK9.out.set_ (.inr (Nat.le_refl _)) _).set_ (.inr (Nat.le_refl _)) _).set_ (.inr (Nat.le_refl _)) _).set_ (.inr (Nat.le_refl _)) _).set_ (.inr (Nat.le_refl _)) _
     ·have kp : 0 < (j : Int) := by omega
      have o4 := HT.out.o4
      have of_ := HT.out.of_
      have hzb := HT.out.hz
      have ew := IntWalk.i64_in (deep - 1) (by omega)
      have hdp : 0 < deep := by omega
      go_wp2_with fail
      go_region_law (first
       | (obtain ⟨L, hdr, g1, g2, g3⟩ := (HT.out.alloc (.cells #[.int .i64 t.tag, .int .i64 t.key, .string t.text, .slice B0 t.ps.length e0, .slice B1 t.ks.length e1] 26)).k; refine step_append_own (by rfl) (.tmp 51) (.tmp 59) 24 26 i1 _ 5 80 (by rfl) Tryz.underlying24 I1.out.1 I1.out.2.1 I1.out.2.2.1 I1.out.2.2.2 (by rfl) (by omega) (w3.heap.size + 1) v2 ks.length L (by rfl) g1 ⟨wt.heap.size, 0, none⟩ 1 [.int .i64 t.tag, .int .i64 t.key, .string t.text, .slice B0 t.ps.length e0, .slice B1 t.ks.length e1] (by rfl) (by rfl) (by intro j u hu; exact lit_cells _ _ _ j u hu) (tree_one _ _ _ _ _ _ _ _ _) (by omega) (by omega) (by simp; omega) ?_; intro v' wx hox hgx hatx; obtain ⟨A9, c9, rfl, _⟩ := rowv_form hox; have HT9 := Lib.hid (TS.kid (HT.out.alloc (.cells #[.int .i64 t.tag, .int .i64 t.key, .string t.text, .slice B0 t.ps.length e0, .slice B1 t.ks.length e1] 26)) (HD.out.alloc (Nat.le_refl _) (.cells #[.int .i64 t.tag, .int .i64 t.key, .string t.text, .slice B0 t.ps.length e0, .slice B1 t.ks.length e1] 26)) (by omega) (by simp) (fun b hb => .inl (HV2.out b hb)) HGD2.out g1 hox hgx hatx); have o4y : wx.cell? ⟨w3.heap.size, 4, none⟩ = some v2 := (((HT.out.alloc (.cells #[.int .i64 t.tag, .int .i64 t.key, .string t.text, .slice B0 t.ps.length e0, .slice B1 t.ks.length e1] 26)).grown_cells g1 hgx).1 _ _ (Nat.le_refl _)).trans (HT.out.alloc (.cells #[.int .i64 t.tag, .int .i64 t.key, .string t.text, .slice B0 t.ps.length e0, .slice B1 t.ks.length e1] 26)).o4; have ofy : ∀ o, wx.frozen? ⟨w3.heap.size, o, none⟩ = false := fun o => (((HT.out.alloc (.cells #[.int .i64 t.tag, .int .i64 t.key, .string t.text, .slice B0 t.ps.length e0, .slice B1 t.ks.length e1] 26)).grown_cells g1 hgx).2.1 _ _ (Nat.le_refl _)).trans ((HT.out.alloc (.cells #[.int .i64 t.tag, .int .i64 t.key, .string t.text, .slice B0 t.ps.length e0, .slice B1 t.ks.length e1] 26)).of_ o))
       | (go_simp; go_at_call 45; refine (pick_any g A len cap 2 _ (by first | exact HT.out.s | exact HT.out.drew.s | exact (HT.out.drewN _).s) (by omega)).mono ?_; rintro e wg ⟨rz, rfl, z0, z1, hs, hk⟩; replace HT := Lib.hid (TS.keep (by first | exact HT.out | exact HT.out.drew | exact HT.out.drewN _) hk hs); have o4g := HT.out.o4; have hzg := HT.out.hz; have HV2 := Lib.hid (fun b hb => (kids_lt HT.out.k b hb).2); have ew2 := IntWalk.i64_in (deep - 1 - rz) (by omega); clear hs hk)
       | (go_simp; go_at_call 64; refine (IH.out (deep - 1 - rz) _ (by omega) (by omega) (by first | exact HT.out.s | exact HT.out.drew.s | exact (HT.out.drewN _).s)).mono ?_; rintro e wt ⟨B0, e0, B1, e1, t, rfl, hd, hgd, hs, hk⟩; have HD := Lib.hid hd; have HGD2 := Lib.hid hgd; replace HT := Lib.hid (TS.keep (by first | exact HT.out | exact HT.out.drew | exact HT.out.drewN _) hk hs); have o4t := HT.out.o4; have hzt := HT.out.hz; clear hs hk hd hgd))
      all_goals
       go_wp2_with fail
       go_roundw
       case rel => exact ⟨j - 1, _, _, by first | go_num | (rw [Int.ofNat_sub (by omega)]; rfl) | (congr 1; omega), by simp; omega, HT9⟩
       case measure => simp [intOf]; omega
end Go.Proofs.YtmfibedcloknlaaGreatDoor

namespace Go.Proofs.YtmfibedcloknlaaGreatDoor
open Go.Joins Go.ChangeShapes Go.WideShapes Go.ChangeAt Go.RowKit Go.Deep
set_option linter.unusedVariables false
set_option linter.unusedSimpArgs false

theorem root_two {w5 : World} {lo l1 h1 l2 h2 z : Nat} {c1 c2 : List Value} {x y : Tr} {e : TypeId} (hx : TrD w5 l1 h1 c1 x) (hy : TrD w5 l2 h2 c2 y) (b1 : h1 ≤ w5.heap.size) (b2 : h2 ≤ w5.heap.size) (o1 : lo ≤ l1) (o2 : lo ≤ l2) (o3 : lo ≤ w5.heap.size) (hz : z = w5.heap.size) :
  TrD (w5.alloc (.cells (c1 ++ c2).toArray e)) lo (w5.alloc (.cells (c1 ++ c2).toArray e)).heap.size [.int .i64 0, .int .i64 (-1), .string ⟨#[]⟩, .slice none 0 0, .slice (some ⟨z, 0, none⟩) 2 2] (.mk 0 (-1) ⟨#[]⟩ [] [x, y]) := by
 subst hz
 have n1 := hx.len
 have n2 := hy.len
 have hsz : w5.heap.size < (w5.alloc (.cells (c1 ++ c2).toArray e)).heap.size := by simp
 have hx' := TrD.mono o1 (Nat.le_of_lt (Nat.lt_of_le_of_lt b1 hsz)) (hx.alloc b1 (.cells (c1 ++ c2).toArray e))
 have hy' := TrD.mono o2 (Nat.le_of_lt (Nat.lt_of_le_of_lt b2 hsz)) (hy.alloc b2 (.cells (c1 ++ c2).toArray e))
 refine TrD.mk (ps := []) (ks := [x, y]) none 0 _ 2 (fun i => if i = 0 then c1 else c2) (fun h => absurd h (by simp)) (fun _ => ⟨_, 0, rfl, o3, hsz, fun i hi j u hu => ?_⟩) (fun i t ht => ?_) (fun _ => .inl rfl)
 ·have hi2 : i < 2 := hi
  have hl := lit_cells w5 (c1 ++ c2) e (0 + i * 5 + j) u
  have ha : ((⟨w5.heap.size, 0, none⟩ : Addr).add ((0 + i * 5 + j : Nat) : Nat)) = ⟨w5.heap.size, 0 + i * 5 + j, none⟩ := by simp [Addr.add] <;> (intros; omega)
  rw [ha] at hl
  refine hl ?_
  rcases (by omega : i = 0 ∨ i = 1) with rfl | rfl
  ·simp only [if_pos] at hu
   have hj : j < c1.length := (List.getElem?_eq_some_iff.1 hu).1
   rw [List.getElem?_append_left (by omega), ← hu]
   congr 1
   omega
  ·simp only [Nat.one_ne_zero, if_false] at hu
   rw [List.getElem?_append_right (by omega), ← hu]
   congr 1
   omega
 ·match i, ht with
  | 0, ht => simp at ht; subst ht; exact hx'
  | 1, ht => simp at ht; subst ht; exact hy'
  | k + 2, ht => simp at ht
theorem past5 {w3 : World} {R b q : Nat} {u0 u1 u2 u3 u4 v : Value} {O : Obj} (hne : b ≠ R) (hlt : b < w3.heap.size) (h : w3.cell? ⟨b, q, none⟩ = some v) :
  ((((((w3.setCell ⟨R, 0, none⟩ u0).setCell ⟨R, 1, none⟩ u1).setCell ⟨R, 2, none⟩ u2).setCell ⟨R, 3, none⟩ u3).setCell ⟨R, 4, none⟩ u4).alloc O).cell? ⟨b, q, none⟩ = some v := by
 have k : ∀ (x : World) (j : Nat) (u : Value), (x.setCell ⟨R, j, none⟩ u).cell? ⟨b, q, none⟩ = x.cell? ⟨b, q, none⟩ := fun x j u => World.cell?_setCell_other _ _ _ _ (by intro e; injection e with e1 e2; omega)
 refine (Below.cell (Below.alloc (Below.refl _ _) (Nat.le_refl _) O) (p := ⟨b, q, none⟩) (by simpa [World.setCell] using hlt)).trans ?_
 rw [k, k, k, k, k]
 exact h
set_option maxHeartbeats 8000000 in
set_option maxRecDepth 100000 in
theorem whole_deep (g : Nat) (A : Option Addr) (len cap : Nat) (w : World) (hs : St g A len cap w) :
  Calls Tryz.prog 33 #[.pointer (some ⟨g, 0, none⟩)] w (TreeN 6 g A len cap w) := by
 have HG := Lib.hid hs.lt
 have hgw := hs.lt
 have HS0 := Lib.hid (hs.alloc (.cells #[.int .i64 0, .int .i64 0, .string ⟨#[]⟩, .slice none 0 0, .slice none 0 0] 26))
 have HK0 := Lib.hid ((Keep.refl g w.heap.size w).alloc (Nat.le_refl _) (.cells #[.int .i64 0, .int .i64 0, .string ⟨#[]⟩, .slice none 0 0, .slice none 0 0] 26))
 have r0 : (w.alloc (.cells #[.int .i64 0, .int .i64 0, .string ⟨#[]⟩, .slice none 0 0, .slice none 0 0] 26)).cell? ⟨w.heap.size, 0, none⟩ = some (.int .i64 0) := by go_simp
 have r1 : (w.alloc (.cells #[.int .i64 0, .int .i64 0, .string ⟨#[]⟩, .slice none 0 0, .slice none 0 0] 26)).cell? ⟨w.heap.size, 1, none⟩ = some (.int .i64 0) := by go_simp
 have r2 : (w.alloc (.cells #[.int .i64 0, .int .i64 0, .string ⟨#[]⟩, .slice none 0 0, .slice none 0 0] 26)).cell? ⟨w.heap.size, 2, none⟩ = some (.string ⟨#[]⟩) := by go_simp
 have r3 : (w.alloc (.cells #[.int .i64 0, .int .i64 0, .string ⟨#[]⟩, .slice none 0 0, .slice none 0 0] 26)).cell? ⟨w.heap.size, 3, none⟩ = some (.slice none 0 0) := by go_simp
 have r4 : (w.alloc (.cells #[.int .i64 0, .int .i64 0, .string ⟨#[]⟩, .slice none 0 0, .slice none 0 0] 26)).cell? ⟨w.heap.size, 4, none⟩ = some (.slice none 0 0) := by go_simp
 have rf : ∀ o, (w.alloc (.cells #[.int .i64 0, .int .i64 0, .string ⟨#[]⟩, .slice none 0 0, .slice none 0 0] 26)).frozen? ⟨w.heap.size, o, none⟩ = false := fun o => by go_simp
 have hz : w.heap.size < (w.alloc (.cells #[.int .i64 0, .int .i64 0, .string ⟨#[]⟩, .slice none 0 0, .slice none 0 0] 26)).heap.size := by simp
 obtain ⟨wc, hwc⟩ : ∃ wc, w.alloc (.cells #[.int .i64 0, .int .i64 0, .string ⟨#[]⟩, .slice none 0 0, .slice none 0 0] 26) = wc := ⟨_, rfl⟩
 rw [hwc] at HS0 HK0 r0 r1 r2 r3 r4 rf hz
 clear hs
 go_enter Tryz.func33, Tryz.ntmps33
 go_wp2_with fail
 refine (tree_any 4 4 g A len cap wc (by omega) (by omega) (by omega) HS0.out).mono ?_
 rintro e w2 ⟨A0, c0, A1, c1, ⟨tag, key, text, ps, ks⟩, rfl, hT, hGd, hs, hk⟩
 simp only [Tr.tag, Tr.key, Tr.text, Tr.ps, Tr.ks] at hT ⊢
 replace r0 := (hk.cell.1 w.heap.size 0 (by first | omega | (simp; done) | (simp; omega)) (by first | omega | (simp; done) | (simp; omega))).trans r0
 replace r1 := (hk.cell.1 w.heap.size 1 (by first | omega | (simp; done) | (simp; omega)) (by first | omega | (simp; done) | (simp; omega))).trans r1
 replace r2 := (hk.cell.1 w.heap.size 2 (by first | omega | (simp; done) | (simp; omega)) (by first | omega | (simp; done) | (simp; omega))).trans r2
 replace r3 := (hk.cell.1 w.heap.size 3 (by first | omega | (simp; done) | (simp; omega)) (by first | omega | (simp; done) | (simp; omega))).trans r3
 replace r4 := (hk.cell.1 w.heap.size 4 (by first | omega | (simp; done) | (simp; omega)) (by first | omega | (simp; done) | (simp; omega))).trans r4
 replace rf := fun o => (hk.cell.2 w.heap.size o (by first | omega | (simp; done) | (simp; omega)) (by first | omega | (simp; done) | (simp; omega))).trans (rf o)
 have hz2 : w.heap.size < w2.heap.size := Nat.lt_of_lt_of_le hz hk.size
 have HK2 := Lib.hid (HK0.out.more (Nat.le_refl _) hk)
 have HS2 := Lib.hid hs
 have HT := Lib.hid hT
 have HGd := Lib.hid hGd
 have hg2 : g < w2.heap.size := hs.lt
 clear hT hGd hs hk HS0 HK0
 replace r0 : (w2.alloc (.cells #[.int .i64 tag, .int .i64 key, .string text, .slice A0 ps.length c0, .slice A1 ks.length c1] 26)).cell? ⟨w.heap.size, 0, none⟩ = some (.int .i64 0) := (Below.cell (Below.alloc (Below.refl w2.heap.size w2) (Nat.le_refl _) (.cells #[.int .i64 tag, .int .i64 key, .string text, .slice A0 ps.length c0, .slice A1 ks.length c1] 26)) (p := ⟨w.heap.size, 0, none⟩) (by first | omega | (simp; done) | (simp; omega))).trans r0
 replace r1 : (w2.alloc (.cells #[.int .i64 tag, .int .i64 key, .string text, .slice A0 ps.length c0, .slice A1 ks.length c1] 26)).cell? ⟨w.heap.size, 1, none⟩ = some (.int .i64 0) := (Below.cell (Below.alloc (Below.refl w2.heap.size w2) (Nat.le_refl _) (.cells #[.int .i64 tag, .int .i64 key, .string text, .slice A0 ps.length c0, .slice A1 ks.length c1] 26)) (p := ⟨w.heap.size, 1, none⟩) (by first | omega | (simp; done) | (simp; omega))).trans r1
 replace r2 : (w2.alloc (.cells #[.int .i64 tag, .int .i64 key, .string text, .slice A0 ps.length c0, .slice A1 ks.length c1] 26)).cell? ⟨w.heap.size, 2, none⟩ = some (.string ⟨#[]⟩) := (Below.cell (Below.alloc (Below.refl w2.heap.size w2) (Nat.le_refl _) (.cells #[.int .i64 tag, .int .i64 key, .string text, .slice A0 ps.length c0, .slice A1 ks.length c1] 26)) (p := ⟨w.heap.size, 2, none⟩) (by first | omega | (simp; done) | (simp; omega))).trans r2
 replace r3 : (w2.alloc (.cells #[.int .i64 tag, .int .i64 key, .string text, .slice A0 ps.length c0, .slice A1 ks.length c1] 26)).cell? ⟨w.heap.size, 3, none⟩ = some (.slice none 0 0) := (Below.cell (Below.alloc (Below.refl w2.heap.size w2) (Nat.le_refl _) (.cells #[.int .i64 tag, .int .i64 key, .string text, .slice A0 ps.length c0, .slice A1 ks.length c1] 26)) (p := ⟨w.heap.size, 3, none⟩) (by first | omega | (simp; done) | (simp; omega))).trans r3
 replace r4 : (w2.alloc (.cells #[.int .i64 tag, .int .i64 key, .string text, .slice A0 ps.length c0, .slice A1 ks.length c1] 26)).cell? ⟨w.heap.size, 4, none⟩ = some (.slice none 0 0) := (Below.cell (Below.alloc (Below.refl w2.heap.size w2) (Nat.le_refl _) (.cells #[.int .i64 tag, .int .i64 key, .string text, .slice A0 ps.length c0, .slice A1 ks.length c1] 26)) (p := ⟨w.heap.size, 4, none⟩) (by first | omega | (simp; done) | (simp; omega))).trans r4
 replace rf : ∀ o, (w2.alloc (.cells #[.int .i64 tag, .int .i64 key, .string text, .slice A0 ps.length c0, .slice A1 ks.length c1] 26)).frozen? ⟨w.heap.size, o, none⟩ = false := fun o => (Below.frozen (Below.alloc (Below.refl w2.heap.size w2) (Nat.le_refl _) (.cells #[.int .i64 tag, .int .i64 key, .string text, .slice A0 ps.length c0, .slice A1 ks.length c1] 26)) (p := ⟨w.heap.size, o, none⟩) (by first | omega | (simp; done) | (simp; omega))).trans (rf o)
 have o0 : (w2.alloc (.cells #[.int .i64 tag, .int .i64 key, .string text, .slice A0 ps.length c0, .slice A1 ks.length c1] 26)).cell? ⟨w2.heap.size, 0, none⟩ = some (.int .i64 tag) := by go_simp
 have o1 : (w2.alloc (.cells #[.int .i64 tag, .int .i64 key, .string text, .slice A0 ps.length c0, .slice A1 ks.length c1] 26)).cell? ⟨w2.heap.size, 1, none⟩ = some (.int .i64 key) := by go_simp
 have o2 : (w2.alloc (.cells #[.int .i64 tag, .int .i64 key, .string text, .slice A0 ps.length c0, .slice A1 ks.length c1] 26)).cell? ⟨w2.heap.size, 2, none⟩ = some (.string text) := by go_simp
 have o3 : (w2.alloc (.cells #[.int .i64 tag, .int .i64 key, .string text, .slice A0 ps.length c0, .slice A1 ks.length c1] 26)).cell? ⟨w2.heap.size, 3, none⟩ = some (.slice A0 ps.length c0) := by go_simp
 have o4 : (w2.alloc (.cells #[.int .i64 tag, .int .i64 key, .string text, .slice A0 ps.length c0, .slice A1 ks.length c1] 26)).cell? ⟨w2.heap.size, 4, none⟩ = some (.slice A1 ks.length c1) := by go_simp
 have of_ : ∀ o, (w2.alloc (.cells #[.int .i64 tag, .int .i64 key, .string text, .slice A0 ps.length c0, .slice A1 ks.length c1] 26)).frozen? ⟨w2.heap.size, o, none⟩ = false := fun o => by go_simp
 obtain ⟨wd, hwd⟩ : ∃ wd, w2.alloc (.cells #[.int .i64 tag, .int .i64 key, .string text, .slice A0 ps.length c0, .slice A1 ks.length c1] 26) = wd := ⟨_, rfl⟩
 have HKd := Lib.hid (HK2.out.alloc (Nat.le_of_lt hz2) (.cells #[.int .i64 tag, .int .i64 key, .string text, .slice A0 ps.length c0, .slice A1 ks.length c1] 26))
 have HSd := Lib.hid (HS2.out.alloc (.cells #[.int .i64 tag, .int .i64 key, .string text, .slice A0 ps.length c0, .slice A1 ks.length c1] 26))
 have HTd := Lib.hid (HT.out.alloc (Nat.le_refl _) (.cells #[.int .i64 tag, .int .i64 key, .string text, .slice A0 ps.length c0, .slice A1 ks.length c1] 26))
 have hz3 : w2.heap.size < (w2.alloc (.cells #[.int .i64 tag, .int .i64 key, .string text, .slice A0 ps.length c0, .slice A1 ks.length c1] 26)).heap.size := by simp
 rw [hwd] at r0 r1 r2 r3 r4 rf o0 o1 o2 o3 o4 of_ HKd HSd HTd hz3
 clear HK2 HS2 HT
 by_cases htag : tag = -1
 ·subst htag
  go_wp2_with fail
  refine (pick_any g A len cap 5 _ HSd.out (by omega)).mono ?_
  rintro e wp ⟨r, rfl, p, q, hs, hk⟩
  have hwz := hk.size
  replace r0 := (hk.cell.1 w.heap.size 0 (by first | omega | (simp; done) | (simp; omega)) (by first | omega | (simp; done) | (simp; omega))).trans r0
  replace r1 := (hk.cell.1 w.heap.size 1 (by first | omega | (simp; done) | (simp; omega)) (by first | omega | (simp; done) | (simp; omega))).trans r1
  replace r2 := (hk.cell.1 w.heap.size 2 (by first | omega | (simp; done) | (simp; omega)) (by first | omega | (simp; done) | (simp; omega))).trans r2
  replace r3 := (hk.cell.1 w.heap.size 3 (by first | omega | (simp; done) | (simp; omega)) (by first | omega | (simp; done) | (simp; omega))).trans r3
  replace r4 := (hk.cell.1 w.heap.size 4 (by first | omega | (simp; done) | (simp; omega)) (by first | omega | (simp; done) | (simp; omega))).trans r4
  replace rf := fun o => (hk.cell.2 w.heap.size o (by first | omega | (simp; done) | (simp; omega)) (by first | omega | (simp; done) | (simp; omega))).trans (rf o)
  replace o0 := (hk.cell.1 w2.heap.size 0 (by first | omega | (simp; done) | (simp; omega)) (by first | omega | (simp; done) | (simp; omega))).trans o0
  replace o1 := (hk.cell.1 w2.heap.size 1 (by first | omega | (simp; done) | (simp; omega)) (by first | omega | (simp; done) | (simp; omega))).trans o1
  replace o2 := (hk.cell.1 w2.heap.size 2 (by first | omega | (simp; done) | (simp; omega)) (by first | omega | (simp; done) | (simp; omega))).trans o2
  replace o3 := (hk.cell.1 w2.heap.size 3 (by first | omega | (simp; done) | (simp; omega)) (by first | omega | (simp; done) | (simp; omega))).trans o3
  replace o4 := (hk.cell.1 w2.heap.size 4 (by first | omega | (simp; done) | (simp; omega)) (by first | omega | (simp; done) | (simp; omega))).trans o4
  replace of_ := fun o => (hk.cell.2 w2.heap.size o (by first | omega | (simp; done) | (simp; omega)) (by first | omega | (simp; done) | (simp; omega))).trans (of_ o)
  have HKp := Lib.hid (HKd.out.more (by omega) hk)
  have HTp := Lib.hid (HTd.out.kept fun b h1 h2 => hk.block b (by omega) (by omega))
  have HSp := Lib.hid hs
  clear HKd HSd HTd hs hk hwd q
  by_cases hr : 0 < r
  ·have hr1 : decide (r > 0) = true := by simpa using hr
   go_wp2_with fail
   go_region_held3 (fun w' => w'.cell? ⟨w2.heap.size, 0, none⟩ = some (.int .i64 (-1)) ∧ w'.cell? ⟨w2.heap.size, 1, none⟩ = some (.int .i64 key) ∧ w'.cell? ⟨w2.heap.size, 2, none⟩ = some (.string text) ∧ w'.cell? ⟨w2.heap.size, 3, none⟩ = some (.slice A0 ps.length c0) ∧ w'.cell? ⟨w2.heap.size, 4, none⟩ = some (.slice A1 ks.length c1)) (first | go_keep | exact ⟨past5 (by omega) (by omega) o0, past5 (by omega) (by omega) o1, past5 (by omega) (by omega) o2, past5 (by omega) (by omega) o3, past5 (by omega) (by omega) o4⟩) (first | (go_at_call 64; (with_reducible refine (tree_any 2 2 g A len cap _ (by omega) (by omega) (by omega) (by first | exact HSp.out | exact HSp.out.drew | exact HSp.out.drewN _)).mono ?_); rintro e w3 ⟨B0, d0, B1, d1, ⟨tag2, key2, text2, ps2, ks2⟩, rfl, hT2, hG2, hs2, hk2⟩; simp only [Tr.tag, Tr.key, Tr.text, Tr.ps, Tr.ks] at hT2 ⊢; have hb2 : Keep g wp.heap.size wp w3 := ⟨hk2.os, hk2.tape, hk2.output, hk2.size, hk2.block⟩; have hT2' : TrD w3 wp.heap.size w3.heap.size [.int .i64 tag2, .int .i64 key2, .string text2, .slice B0 ps2.length d0, .slice B1 ks2.length d1] (.mk tag2 key2 text2 ps2 ks2) := hT2; have hsz3 : wp.heap.size ≤ w3.heap.size := hb2.size; have hsz2 : w2.heap.size < w3.heap.size := (by omega); have hszw : w.heap.size < w3.heap.size := (by omega); replace o0 := (hb2.cell.1 w2.heap.size 0 (by first | omega | (simp; done) | (simp; omega)) (by first | omega | (simp; done) | (simp; omega))).trans o0; replace o1 := (hb2.cell.1 w2.heap.size 1 (by first | omega | (simp; done) | (simp; omega)) (by first | omega | (simp; done) | (simp; omega))).trans o1; replace o2 := (hb2.cell.1 w2.heap.size 2 (by first | omega | (simp; done) | (simp; omega)) (by first | omega | (simp; done) | (simp; omega))).trans o2; replace o3 := (hb2.cell.1 w2.heap.size 3 (by first | omega | (simp; done) | (simp; omega)) (by first | omega | (simp; done) | (simp; omega))).trans o3; replace o4 := (hb2.cell.1 w2.heap.size 4 (by first | omega | (simp; done) | (simp; omega)) (by first | omega | (simp; done) | (simp; omega))).trans o4; replace r0 := (hb2.cell.1 w.heap.size 0 (by first | omega | (simp; done) | (simp; omega)) (by first | omega | (simp; done) | (simp; omega))).trans r0; replace r1 := (hb2.cell.1 w.heap.size 1 (by first | omega | (simp; done) | (simp; omega)) (by first | omega | (simp; done) | (simp; omega))).trans r1; replace r2 := (hb2.cell.1 w.heap.size 2 (by first | omega | (simp; done) | (simp; omega)) (by first | omega | (simp; done) | (simp; omega))).trans r2; replace r3 := (hb2.cell.1 w.heap.size 3 (by first | omega | (simp; done) | (simp; omega)) (by first | omega | (simp; done) | (simp; omega))).trans r3; replace r4 := (hb2.cell.1 w.heap.size 4 (by first | omega | (simp; done) | (simp; omega)) (by first | omega | (simp; done) | (simp; omega))).trans r4; replace rf := fun o => (hb2.cell.2 w.heap.size o (by first | omega | (simp; done) | (simp; omega)) (by first | omega | (simp; done) | (simp; omega))).trans (rf o); have HT2 := Lib.hid hT2'; have HG2 := Lib.hid hG2; have HS2 := Lib.hid hs2; have HB2 := Lib.hid hb2; clear hT2 hT2' hG2 hs2 hk2 hb2))
   go_wp2_with fail
   have hsz5 : ((((((w3.setCell ⟨w.heap.size, 0, none⟩ (.int .i64 0)).setCell ⟨w.heap.size, 1, none⟩ (.int .i64 (-1))).setCell ⟨w.heap.size, 2, none⟩ (.string ⟨#[]⟩)).setCell ⟨w.heap.size, 3, none⟩ (.slice none 0 0)).setCell ⟨w.heap.size, 4, none⟩ (.slice (some ⟨w3.heap.size, 0, none⟩) 2 2))).heap.size = w3.heap.size := by simp [World.setCell]
   have HT3 := Lib.hid (HTp.out.kept fun b h1 h2 => HB2.out.block b (by omega) (by omega))
   have HK3 := Lib.hid (HKp.out.more (Nat.le_refl _) HB2.out)
   refine bodyPost_ret (v := .agg #[.int .i64 0, .int .i64 (-1), .string ⟨#[]⟩, .slice none 0 0, .slice (some ⟨w3.heap.size, 0, none⟩) 2 2]) (by simp [results, Tryz.results33, go_sem, *]) rfl ⟨none, 0, some ⟨w3.heap.size, 0, none⟩, 2, .mk 0 (-1) ⟨#[]⟩ [] [.mk (-1) key text ps ks, .mk tag2 key2 text2 ps2 ks2], rfl, ?_, ?_, ?_, ?_⟩
   ·refine root_two (c1 := [.int .i64 (-1), .int .i64 key, .string text, .slice A0 ps.length c0, .slice A1 ks.length c1]) (c2 := [.int .i64 tag2, .int .i64 key2, .string text2, .slice B0 ps2.length d0, .slice B1 ks2.length d1]) (l1 := wc.heap.size) (h1 := w2.heap.size) (l2 := wp.heap.size) (h2 := w3.heap.size) ?_ ?_ (by omega) (by omega) (by omega) (by omega) (by omega) hsz5.symm
    ·refine TrD.stored (TrD.stored (TrD.stored (TrD.stored (TrD.stored HT3.out ?_ _) ?_ _) ?_ _) ?_ _) ?_ _
     all_goals first | omega | (simp; done) | (simp; omega)
    ·refine TrD.stored (TrD.stored (TrD.stored (TrD.stored (TrD.stored HT2.out ?_ _) ?_ _) ?_ _) ?_ _) ?_ _
     all_goals first | omega | (simp; done) | (simp; omega)
   ·refine .mk (by decide) (by simp) (by simp) (by simp) ?_ (by omega)
    intro x hx
    simp only [List.mem_cons, List.not_mem_nil, or_false] at hx
    rcases hx with rfl | rfl
    ·exact HGd.out
    ·exact HG2.out.up.up
   ·exact (((((HS2.out.set_ HG.out _).set_ HG.out _).set_ HG.out _).set_ HG.out _).set_ HG.out _).alloc _
   ·exact (((((HK3.out.set_ (.inr (Nat.le_refl _)) _).set_ (.inr (Nat.le_refl _)) _).set_ (.inr (Nat.le_refl _)) _).set_ (.inr (Nat.le_refl _)) _).set_ (.inr (Nat.le_refl _)) _).alloc (by rw [hsz5]; omega) _
  ·have hr1 : decide (r > 0) = false := by simpa using hr
   go_wp2_with fail
   refine bodyPost_ret (v := .agg #[.int .i64 (-1), .int .i64 key, .string text, .slice A0 ps.length c0, .slice A1 ks.length c1]) (by simp [results, Tryz.results33, go_sem, *]) rfl ⟨A0, c0, A1, c1, .mk (-1) key text ps ks, rfl, ?_, HGd.out.up, ?_, ?_⟩
   ·refine TrD.mono (lo := wc.heap.size) (by omega) ?_ (TrD.stored (TrD.stored (TrD.stored (TrD.stored (TrD.stored HTp.out ?_ _) ?_ _) ?_ _) ?_ _) ?_ _)
    all_goals first | omega | (simp; done) | (simp; omega) | (simp [World.setCell]; omega)
   ·exact ((((HSp.out.set_ HG.out _).set_ HG.out _).set_ HG.out _).set_ HG.out _).set_ HG.out _
   ·exact ((((HKp.out.set_ (.inr (Nat.le_refl _)) _).set_ (.inr (Nat.le_refl _)) _).set_ (.inr (Nat.le_refl _)) _).set_ (.inr (Nat.le_refl _)) _).set_ (.inr (Nat.le_refl _)) _
 ·go_wp2_with fail
  refine bodyPost_ret (v := .agg #[.int .i64 tag, .int .i64 key, .string text, .slice A0 ps.length c0, .slice A1 ks.length c1]) (by simp [results, Tryz.results33, go_sem, *]) rfl ⟨A0, c0, A1, c1, .mk tag key text ps ks, rfl, ?_, HGd.out.up, ?_, ?_⟩
  ·refine TrD.mono (lo := wc.heap.size) (by omega) ?_ (TrD.stored (TrD.stored (TrD.stored (TrD.stored (TrD.stored HTd.out ?_ _) ?_ _) ?_ _) ?_ _) ?_ _)
   all_goals first | omega | (simp; done) | (simp; omega) | (simp [World.setCell]; omega)
  ·exact ((((HSd.out.set_ HG.out _).set_ HG.out _).set_ HG.out _).set_ HG.out _).set_ HG.out _
  ·exact ((((HKd.out.set_ (.inr (Nat.le_refl _)) _).set_ (.inr (Nat.le_refl _)) _).set_ (.inr (Nat.le_refl _)) _).set_ (.inr (Nat.le_refl _)) _).set_ (.inr (Nat.le_refl _)) _
theorem whole_any (g : Nat) (A : Option Addr) (len cap : Nat) (w : World) (hs : St g A len cap w) :
  Calls Tryz.prog 33 #[.pointer (some ⟨g, 0, none⟩)] w (TreeX g A len cap w) :=
 (whole_deep g A len cap w hs).mono (by
  rintro e w2 ⟨A0, c0, A1, c1, t, rfl, hT, hG, hs, hk⟩
  exact ⟨A0, c0, A1, c1, t, rfl, hT, hG.gd, hs, hk⟩)
theorem Code.next {w w' : World} {A : Option Addr} {len : Nat} (h : Code w w.heap.size A len) (hb : Below w.heap.size w w') : Code w' w'.heap.size A len := fun h0 => by
 obtain ⟨b, off, rfl, hbg, hc⟩ := h h0
 refine ⟨b, off, rfl, Nat.lt_of_lt_of_le hbg hb.size, fun i hi => ?_⟩
 obtain ⟨c, h1, h2, h3⟩ := hc i hi
 exact ⟨c, h1, h2, (hb.cell (p := ⟨b, off + i, none⟩) hbg).trans h3⟩
def DrawTX (w : World) (e : Ending) (w' : World) : Prop :=
 ∃ (A0 : Option Addr) (c0 : Nat) (A1 : Option Addr) (c1 : Nat) (t : Tr), e = .returned (.agg #[.int .i64 t.tag, .int .i64 t.key, .string t.text, .slice A0 t.ps.length c0, .slice A1 t.ks.length c1]) ∧
  TrD w' w.heap.size w'.heap.size [.int .i64 t.tag, .int .i64 t.key, .string t.text, .slice A0 t.ps.length c0, .slice A1 t.ks.length c1] t ∧ GdT t ∧ Below w.heap.size w w'
end Go.Proofs.YtmfibedcloknlaaGreatDoor
