/- Trees drawn: the state of a drawing element. -/
import Derived.Test.YtpkhpaioddommaaDoorDrwT3
namespace Go.Proofs.YtpkhpaioddommaaDoor
open Go.Joins Go.ChangeShapes Go.WideShapes Go.ChangeAt Go.RowKit Go.Deep
set_option linter.unusedVariables false
set_option linter.unusedSimpArgs false

/-- An element while it is drawn: the result's block at R, its own at bo, its props and Kids in rows of its own. -/
structure TS (w0 : World) (g : Nat) (A : Option Addr) (len cap R bo : Nat) (tag key : Int) (ps : List Pr) (ks : List Tr) (v1 v2 : Value) (w : World) : Prop where
  r0 : w.cell? ⟨R, 0, none⟩ = some (.int .i64 0)
  r1 : w.cell? ⟨R, 1, none⟩ = some (.int .i64 0)
  r2 : w.cell? ⟨R, 2, none⟩ = some (.string ⟨#[]⟩)
  r3 : w.cell? ⟨R, 3, none⟩ = some (.slice none 0 0)
  r4 : w.cell? ⟨R, 4, none⟩ = some (.slice none 0 0)
  rf : ∀ o, w.frozen? ⟨R, o, none⟩ = false
  o0 : w.cell? ⟨bo, 0, none⟩ = some (.int .i64 tag)
  o1 : w.cell? ⟨bo, 1, none⟩ = some (.int .i64 key)
  o2 : w.cell? ⟨bo, 2, none⟩ = some (.string ⟨#[]⟩)
  o3 : w.cell? ⟨bo, 3, none⟩ = some v1
  o4 : w.cell? ⟨bo, 4, none⟩ = some v2
  of_ : ∀ o, w.frozen? ⟨bo, o, none⟩ = false
  hg : g < R
  hR : R < bo
  hz : bo < w.heap.size
  p : w.ownsRow (bo + 1) 95 4 v1 ps.length (ps.flatMap Pr.cells)
  k : KidsOwn w (bo + 1) v2 ks
  pg : ∀ x ∈ ps, x.v.s.size ≤ 1000
  kg : ∀ x ∈ ks, GdT x
  s : St g A len cap w
  kp : Keep g R w0 w
variable {w0 : World} {g : Nat} {A : Option Addr} {len cap R bo : Nat} {tag key : Int} {ps : List Pr} {ks : List Tr} {v1 v2 : Value} {w w' : World}
/-- Behind a draw. -/
theorem TS.keep (h : TS w0 g A len cap R bo tag key ps ks v1 v2 w) (hk : Keep g w.heap.size w w') (hs : St g A len cap w') : TS w0 g A len cap R bo tag key ps ks v1 v2 w' := by
  have a := h.hg; have b := h.hR; have c := h.hz
  have e := fun q => hk.cell.1 R q (by omega) (by omega)
  have f := fun q => hk.cell.1 bo q (by omega) (by omega)
  exact ⟨(e 0).trans h.r0, (e 1).trans h.r1, (e 2).trans h.r2, (e 3).trans h.r3, (e 4).trans h.r4, fun o => (hk.cell.2 R o (by omega) (by omega)).trans (h.rf o), (f 0).trans h.o0, (f 1).trans h.o1, (f 2).trans h.o2, (f 3).trans h.o3, (f 4).trans h.o4,
    fun o => (hk.cell.2 bo o (by omega) (by omega)).trans (h.of_ o), a, b, Nat.lt_of_lt_of_le c hk.size, rowv_kept h.p hk (by omega), h.k.keep hk (by omega), h.pg, h.kg, hs, h.kp.trans (hk.mono (by omega))⟩
theorem TS.drewN (h : TS w0 g A len cap R bo tag key ps ks v1 v2 w) (n : Nat) : TS w0 g A len cap R bo tag key ps ks v1 v2 (w.drewN n) := h.keep ⟨rfl, rfl, rfl, Nat.le_refl _, fun _ _ _ => rfl⟩ (h.s.drewN n)
theorem TS.drew (h : TS w0 g A len cap R bo tag key ps ks v1 v2 w) : TS w0 g A len cap R bo tag key ps ks v1 v2 w.drew := h.keep ⟨rfl, rfl, rfl, Nat.le_refl _, fun _ _ _ => rfl⟩ h.s.drew
theorem TS.alloc (h : TS w0 g A len cap R bo tag key ps ks v1 v2 w) (o : Obj) : TS w0 g A len cap R bo tag key ps ks v1 v2 (w.alloc o) := h.keep ((Keep.refl g w.heap.size w).alloc (Nat.le_refl _) o) (h.s.alloc o)
/-- A row of its own has grown: everything else stands. -/
theorem TS.grown_cells (h : TS w0 g A len cap R bo tag key ps ks v1 v2 w) {v : Value} {e : TypeId} {s n : Nat} {L : List Value} (ho : w.ownsRow (bo + 1) e s v n L) (hg : w.grownBy w' v.ownBlock) :
    (∀ b q, b ≤ bo → w'.cell? ⟨b, q, none⟩ = w.cell? ⟨b, q, none⟩) ∧ (∀ b q, b ≤ bo → w'.frozen? ⟨b, q, none⟩ = w.frozen? ⟨b, q, none⟩) ∧ St g A len cap w' ∧ Keep g R w0 w' := by
  have a := h.hg; have b := h.hR; have c := h.hz
  have hb : ∀ k, k ≤ bo → w'.heap[k]? = w.heap[k]? := fun k hk => hg.block k (by omega) (by
    intro e
    have := World.ownsRow.lt ho k e.symm
    omega)
  exact ⟨fun k q hk => World.cell?_of_block (a := ⟨k, q, none⟩) (hb k hk), fun k q hk => World.frozen?_of_block (a := ⟨k, q, none⟩) (hb k hk), h.s.of_block (fun k hk => hb k (by omega)),
    h.kp.trans ⟨hg.os, hg.tape, hg.output, hg.size, fun k hk _ => hb k (by omega)⟩⟩
theorem row_unique {b1 b2 s n : Nat} {e : TypeId} {v : Value} {L1 L2 : List Value} (h1 : w.ownsRow b1 e s v n L1) (h2 : w.ownsRow b2 e s v n L2) : L1 = L2 := by
  rcases h1.2 with ⟨rfl, rfl⟩ | ⟨g, cap, cur, rfl, _, hh, _, _, _, ht⟩
  · have := h1.1; have := h2.1
    rw [List.eq_nil_of_length_eq_zero (l := L1) (by omega), List.eq_nil_of_length_eq_zero (l := L2) (by omega)]
  · rcases h2.2 with ⟨h, _⟩ | ⟨g', cap', cur', h, _, hh', _, _, _, ht'⟩
    · simp at h
    · simp only [Value.slice.injEq, Option.some.injEq, Addr.mk.injEq, and_true, true_and] at h
      obtain ⟨rfl, rfl⟩ := h
      rw [hh] at hh'
      simp at hh'
      rw [← ht, ← ht', hh']
/-- Behind a store into its own block. -/
theorem TS.mk_set {u : Value} {q0 : Nat} {cs : Nat → Value} (hg : g < R) (hR : R < bo) (hz : bo < w.heap.size) (r0 : w.cell? ⟨R, 0, none⟩ = some (.int .i64 0)) (r1 : w.cell? ⟨R, 1, none⟩ = some (.int .i64 0)) (r2 : w.cell? ⟨R, 2, none⟩ = some (.string ⟨#[]⟩)) (r3 : w.cell? ⟨R, 3, none⟩ = some (.slice none 0 0)) (r4 : w.cell? ⟨R, 4, none⟩ = some (.slice none 0 0)) (rf : ∀ o, w.frozen? ⟨R, o, none⟩ = false)
    (c : ∀ q, q < 5 → w.cell? ⟨bo, q, none⟩ = some (cs q)) (of_ : ∀ o, w.frozen? ⟨bo, o, none⟩ = false) (hq0 : q0 < 5)
    (h0 : (if 0 = q0 then u else cs 0) = .int .i64 tag) (h1 : (if 1 = q0 then u else cs 1) = .int .i64 key) (h2 : (if 2 = q0 then u else cs 2) = .string ⟨#[]⟩) (h3 : (if 3 = q0 then u else cs 3) = v1) (h4 : (if 4 = q0 then u else cs 4) = v2)
    (p : w.ownsRow (bo + 1) 95 4 v1 ps.length (ps.flatMap Pr.cells)) (k : KidsOwn w (bo + 1) v2 ks) (pg : ∀ x ∈ ps, x.v.s.size ≤ 1000) (kg : ∀ x ∈ ks, GdT x) (s : St g A len cap w) (kp : Keep g R w0 w) :
    TS w0 g A len cap R bo tag key ps ks v1 v2 (w.setCell ⟨bo, q0, none⟩ u) := by
  have oth : ∀ b q, b ≠ bo ∨ q ≠ q0 → (w.setCell ⟨bo, q0, none⟩ u).cell? ⟨b, q, none⟩ = w.cell? ⟨b, q, none⟩ := fun b q h => World.cell?_setCell_other _ _ _ _ (by intro e; injection e with e1 e2; omega)
  have own : ∀ q, q < 5 → (w.setCell ⟨bo, q0, none⟩ u).cell? ⟨bo, q, none⟩ = some (if q = q0 then u else cs q) := fun q hq => by
    by_cases e : q = q0
    · subst e; rw [if_pos rfl]; exact World.cell?_setCell_same' _ _ _ (by rw [c q hq]; rfl)
    · rw [if_neg e, oth bo q (.inr e)]; exact c q hq
  have hgr : w.grownBy (w.setCell ⟨bo, q0, none⟩ u) (some bo) := ⟨rfl, rfl, rfl, by simp [World.setCell], fun k _ hk => heap_setCell_other w _ k u (fun e => hk (by simp [e]))⟩
  refine ⟨(oth _ _ (.inl (by omega))).trans r0, (oth _ _ (.inl (by omega))).trans r1, (oth _ _ (.inl (by omega))).trans r2, (oth _ _ (.inl (by omega))).trans r3, (oth _ _ (.inl (by omega))).trans r4, fun o => by rw [World.frozen?_setCell]; exact rf o,
    by rw [own 0 (by omega), h0], by rw [own 1 (by omega), h1], by rw [own 2 (by omega), h2], by rw [own 3 (by omega), h3], by rw [own 4 (by omega), h4], fun o => by rw [World.frozen?_setCell]; exact of_ o, hg, hR, by simpa [World.setCell] using hz,
    rowv_grown p hgr (fun b hb e => by injection e with e; have := World.ownsRow.lt p b hb; omega), k.other (by show bo < bo + 1; omega) u, pg, kg, s.set_ (by show g < bo; omega) u, kp.set_ (.inr (by show R ≤ bo; omega)) u⟩
def csOf (tag key : Int) (v1 v2 : Value) : Nat → Value
  | 0 => .int .i64 tag
  | 1 => .int .i64 key
  | 2 => .string ⟨#[]⟩
  | 3 => v1
  | _ => v2
theorem TS.cs (h : TS w0 g A len cap R bo tag key ps ks v1 v2 w) : ∀ q, q < 5 → w.cell? ⟨bo, q, none⟩ = some (csOf tag key v1 v2 q) := fun q hq => by
  rcases (by omega : q = 0 ∨ q = 1 ∨ q = 2 ∨ q = 3 ∨ q = 4) with rfl | rfl | rfl | rfl | rfl
  · exact h.o0
  · exact h.o1
  · exact h.o2
  · exact h.o3
  · exact h.o4
/-- One prop more: behind the append and the store; there are no Kids yet. -/
theorem TS.prop (h : TS w0 g A len cap R bo tag key ps [] v1 (.slice none 0 0) w) {x : Pr} {v : Value} (hx : x.v.s.size ≤ 1000) (ho : w'.ownsRow (bo + 1) 95 4 v (ps.length + 1) (ps.flatMap Pr.cells ++ x.cells)) (hg : w.grownBy w' v1.ownBlock) :
    TS w0 g A len cap R bo tag key (ps ++ [x]) [] v (.slice none 0 0) (w'.setCell ⟨bo, 3, none⟩ v) := by
  obtain ⟨e1, e2, e3, e4⟩ := h.grown_cells h.p hg
  have b := h.hR
  exact TS.mk_set (cs := csOf tag key v1 (.slice none 0 0)) h.hg h.hR (Nat.lt_of_lt_of_le h.hz hg.size) ((e1 R 0 (by omega)).trans h.r0) ((e1 R 1 (by omega)).trans h.r1) ((e1 R 2 (by omega)).trans h.r2) ((e1 R 3 (by omega)).trans h.r3) ((e1 R 4 (by omega)).trans h.r4) (fun o => (e2 R o (by omega)).trans (h.rf o))
    (fun q hq => (e1 bo q (by omega)).trans (h.cs q hq)) (fun o => (e2 bo o (by omega)).trans (h.of_ o)) (by omega) rfl rfl rfl rfl rfl (by simpa using ho) (KidsOwn.nil _ _)
    (fun y hy => by rcases List.mem_append.1 hy with hy | hy; exact h.pg y hy; simp at hy; subst hy; exact hx) h.kg e3 e4
/-- One Kid more. -/
theorem TS.kid (h : TS w0 g A len cap R bo tag key ps ks v1 v2 w) {lo hi : Nat} {x : Tr} {cs : List Value} {v : Value} (hx : TrD w lo hi cs x) (hx0 : bo + 1 ≤ lo) (hx1 : hi ≤ w.heap.size) (hv : ∀ b, v2.ownBlock = some b → b < lo ∨ hi ≤ b) (hgd : GdT x)
    {L : List Value} (hL : w.ownsRow (bo + 1) 26 5 v2 ks.length L) (ho : w'.ownsRow (bo + 1) 26 5 v (ks.length + 1) (L ++ cs)) (hg : w.grownBy w' v2.ownBlock) (hb : v.ownBlock = v2.ownBlock ∨ v.ownBlock = some w.heap.size) :
    TS w0 g A len cap R bo tag key ps (ks ++ [x]) v1 v (w'.setCell ⟨bo, 4, none⟩ v) := by
  obtain ⟨e1, e2, e3, e4⟩ := h.grown_cells hL hg
  have b := h.hR
  exact TS.mk_set (cs := csOf tag key v1 v2) h.hg h.hR (Nat.lt_of_lt_of_le h.hz hg.size) ((e1 R 0 (by omega)).trans h.r0) ((e1 R 1 (by omega)).trans h.r1) ((e1 R 2 (by omega)).trans h.r2) ((e1 R 3 (by omega)).trans h.r3) ((e1 R 4 (by omega)).trans h.r4) (fun o => (e2 R o (by omega)).trans (h.rf o))
    (fun q hq => (e1 bo q (by omega)).trans (h.cs q hq)) (fun o => (e2 bo o (by omega)).trans (h.of_ o)) (by omega) rfl rfl rfl rfl rfl (rowv_grown h.p hg (fun q hq e => row_apart h.p hL (by decide) q hq e)) (h.k.snoc hx hx0 hx1 hv hg hb (fun L' h' => by rw [row_unique h' hL]; exact ho))
    h.pg (fun y hy => by rcases List.mem_append.1 hy with hy | hy; exact h.kg y hy; simp at hy; subst hy; exact hgd) e3 e4
/-- Kids whose keys were taken away. -/
theorem TS.rekid {b c : Nat} {ks' : List Tr} (h : TS w0 g A len cap R bo tag key ps ks v1 (.slice (some ⟨b, 0, none⟩) ks.length c) w) (hk : KidsOwn w' (bo + 1) (.slice (some ⟨b, 0, none⟩) ks.length c) ks') (hg : ∀ x ∈ ks', GdT x) (ho : OnlyB b w w') :
    TS w0 g A len cap R bo tag key ps ks' v1 (.slice (some ⟨b, 0, none⟩) ks.length c) w' := by
  obtain ⟨L, hdr, g1, g2, g3⟩ := h.k
  have hgr : w.grownBy w' (some b) := ⟨ho.os, ho.tape, ho.output, by rw [ho.size]; exact Nat.le_refl _, fun k _ hk => ho.block k (fun e => hk (by rw [e]))⟩
  obtain ⟨e1, e2, e3, e4⟩ := h.grown_cells g1 hgr
  have a := h.hR
  exact ⟨(e1 R 0 (by omega)).trans h.r0, (e1 R 1 (by omega)).trans h.r1, (e1 R 2 (by omega)).trans h.r2, (e1 R 3 (by omega)).trans h.r3, (e1 R 4 (by omega)).trans h.r4, fun o => (e2 R o (by omega)).trans (h.rf o), (e1 bo 0 (by omega)).trans h.o0, (e1 bo 1 (by omega)).trans h.o1, (e1 bo 2 (by omega)).trans h.o2, (e1 bo 3 (by omega)).trans h.o3, (e1 bo 4 (by omega)).trans h.o4,
    fun o => (e2 bo o (by omega)).trans (h.of_ o), h.hg, h.hR, by rw [ho.size]; exact h.hz, rowv_grown h.p hgr (fun q hq e => row_apart h.p g1 (by decide) q hq (by rw [← e]; rfl)), hk, h.pg, hg, e3, e4⟩
/-- The key is set. -/
theorem TS.setKey (h : TS w0 g A len cap R bo tag key ps ks v1 v2 w) (z : Int) : TS w0 g A len cap R bo tag z ps ks v1 v2 (w.setCell ⟨bo, 1, none⟩ (.int .i64 z)) :=
  TS.mk_set (cs := csOf tag key v1 v2) h.hg h.hR h.hz h.r0 h.r1 h.r2 h.r3 h.r4 h.rf h.cs h.of_ (by omega) rfl rfl rfl rfl rfl h.p h.k h.pg h.kg h.s h.kp
/-- The Kids are stored again. -/
theorem TS.same4 (h : TS w0 g A len cap R bo tag key ps ks v1 v2 w) : TS w0 g A len cap R bo tag key ps ks v1 v2 (w.setCell ⟨bo, 4, none⟩ v2) :=
  TS.mk_set (cs := csOf tag key v1 v2) h.hg h.hR h.hz h.r0 h.r1 h.r2 h.r3 h.r4 h.rf h.cs h.of_ (by omega) rfl rfl rfl rfl rfl h.p h.k h.pg h.kg h.s h.kp
/-- What is drawn then. -/
theorem TS.tree (h : TS w0 g A len cap R bo tag key ps ks v1 v2 w) (h1 : ps.length ≤ 10) (h3 : ks.length ≤ 10) (h5 : -1000 ≤ key ∧ key ≤ 1000) :
    ∃ A0 c0 A1 c1, v1 = .slice A0 ps.length c0 ∧ v2 = .slice A1 ks.length c1 ∧ TrD w (bo + 1) w.heap.size [.int .i64 tag, .int .i64 key, .string ⟨#[]⟩, .slice A0 ps.length c0, .slice A1 ks.length c1] (.mk tag key ⟨#[]⟩ ps ks) ∧ GdT (.mk tag key ⟨#[]⟩ ps ks) := by
  obtain ⟨A0, c0, rfl, hA0⟩ := rowv_form h.p
  obtain ⟨A1, c1, rfl, hdr, hk, hks⟩ := h.k.lies
  have b := h.hR
  refine ⟨A0, c0, A1, c1, rfl, rfl, .mk A0 c0 A1 c1 hdr (fun h0 => ?_) (fun h0 => ?_) (fun i x hx => (hks i x hx).mono (by omega) (Nat.le_refl _)) (fun _ => ?_), .mk (by decide) h1 h.pg h3 h.kg h5⟩
  · rcases hA0 with ⟨_, _, h⟩ | ⟨q, rfl, hb1, hb2, hc⟩
    · omega
    · refine ⟨q, 0, rfl, by omega, hb2, fun i x hx j u hu => ?_⟩
      rw [Nat.zero_add]
      exact hc _ _ (flat_at Pr.cells_len hu ps i hx)
  · obtain ⟨q, off, e, hb1, hb2, hc⟩ := hk h0
    exact ⟨q, off, e, by omega, hb2, hc⟩
  · rcases hA0 with ⟨h, _, _⟩ | ⟨q, rfl, _⟩
    · exact .inl h
    · exact .inr ⟨q, 0, rfl⟩
theorem TS.set_kid {b c N q : Nat} {x : Tr} (h : TS w0 g A len cap R bo tag key ps ks v1 (.slice (some ⟨b, 0, none⟩) N c) w) (hl : ks.length = N) (hx : ks[q]? = some x) (z : Int) (hz : -1000 ≤ z ∧ z ≤ 1000) :
    TS w0 g A len cap R bo tag key ps (ks.set q (x.withKey z)) v1 (.slice (some ⟨b, 0, none⟩) N c) (w.setCell ⟨b, q * 5 + 1, none⟩ (.int .i64 z)) := by
  subst hl
  exact h.rekid (h.k.setKey hx z).1 (fun y hy => by
    rcases List.mem_or_eq_of_mem_set hy with hy | rfl
    · exact h.kg y hy
    · exact (h.kg x (List.mem_of_getElem? hx)).withKey hz) ((OnlyB.refl b w).set_ _)
theorem tree_one (tag key : Int) (s : ByteArray) (A0 A1 : Option Addr) (n0 n1 c0 c1 : Nat) : ∀ u ∈ ([.int .i64 tag, .int .i64 key, .string s, .slice A0 n0 c0, .slice A1 n1 c1] : List Value), u.oneCell' = true := by
  intro u hu
  simp at hu
  rcases hu with rfl | rfl | rfl | rfl | rfl <;> rfl
theorem TrD.stored {lo hi : Nat} {cs : List Value} {t : Tr} (h : TrD w lo hi cs t) {p : Addr} (hp : p.block < lo) (u : Value) : TrD (w.setCell p u) lo hi cs t := h.kept fun b h1 h2 => heap_setCell_other w p b u (by omega)
theorem TrD.alloc {lo hi : Nat} {cs : List Value} {t : Tr} (h : TrD w lo hi cs t) (hh : hi ≤ w.heap.size) (o : Obj) : TrD (w.alloc o) lo hi cs t := h.kept fun b h1 h2 => Below.heap_alloc _ _ _ (by omega)
theorem kids_lt {base : Nat} {v : Value} {ks : List Tr} (h : KidsOwn w base v ks) : ∀ b, v.ownBlock = some b → base ≤ b ∧ b < w.heap.size := by
  obtain ⟨L, hdr, g1, _, _⟩ := h
  exact World.ownsRow.lt g1
theorem kids_form {base : Nat} {v : Value} {ks : List Tr} (h : KidsOwn w base v ks) : ∃ A c, v = .slice A ks.length c ∧ (A = none ∧ c = 0 ∧ ks = [] ∨ ∃ b, A = some ⟨b, 0, none⟩) := by
  obtain ⟨L, hdr, g1, _, _⟩ := h
  obtain ⟨A, c, e, hA⟩ := rowv_form g1
  refine ⟨A, c, e, ?_⟩
  rcases hA with ⟨h1, h2, h3⟩ | ⟨b, hb, _⟩
  · exact .inl ⟨h1, h2, List.eq_nil_of_length_eq_zero h3⟩
  · exact .inr ⟨b, hb⟩
end Go.Proofs.YtpkhpaioddommaaDoor
