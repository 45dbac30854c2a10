/- Trees drawn: how they lie in memory while they are drawn. -/
import Derived.Test.YtcpfjlbicofkeaaDoorTre1
import Derived.Test.YtcpfjlbicofkeaaDoorDrwV
import Derived.Maps.AppendAt
namespace Go.Proofs.YtcpfjlbicofkeaaDoor
open Go.Joins Go.ChangeShapes Go.WideShapes Go.ChangeAt Go.RowKit Go.Deep
set_option linter.unusedVariables false
set_option linter.unusedSimpArgs false

/-- Five cells read as a tree, what they lead to lying in blocks from lo up to hi. -/
inductive TrD (w : World) (lo hi : Nat) : List Value → Tr → Prop
  | mk {tag key : Int} {text : ByteArray} {ps : List Pr} {ks : List Tr} (A0 : Option Addr) (c0 : Nat) (A1 : Option Addr) (c1 : Nat) (hdr : Nat → List Value)
      (hp : 0 < ps.length → ∃ b off, A0 = some ⟨b, off, none⟩ ∧ lo ≤ b ∧ b < hi ∧ ∀ i (x : Pr), ps[i]? = some x → ∀ j u, x.cells[j]? = some u → w.cell? ⟨b, off + i * 4 + j, none⟩ = some u)
      (hk : 0 < ks.length → ∃ b off, A1 = some ⟨b, off, none⟩ ∧ lo ≤ b ∧ b < hi ∧ ∀ i, i < ks.length → ∀ j u, (hdr i)[j]? = some u → w.cell? ⟨b, off + i * 5 + j, none⟩ = some u)
      (hks : ∀ i x, ks[i]? = some x → TrD w lo hi (hdr i) x)
      (hA0 : ps = [] → A0 = none ∨ ∃ b off, A0 = some ⟨b, off, none⟩) : TrD w lo hi [.int .i64 tag, .int .i64 key, .string text, .slice A0 ps.length c0, .slice A1 ks.length c1] (.mk tag key text ps ks)
/-- Where the blocks between stay, so do trees there. -/
theorem TrD.kept {w w' : World} {lo hi : Nat} (hb : ∀ b, lo ≤ b → b < hi → w'.heap[b]? = w.heap[b]?) {cs : List Value} {t : Tr} (h : TrD w lo hi cs t) : TrD w' lo hi cs t := by
  induction h with
  | mk A0 c0 A1 c1 hdr hp hk hks hA0 ih =>
    refine .mk A0 c0 A1 c1 hdr (fun h0 => ?_) (fun h0 => ?_) ih hA0
    · obtain ⟨b, off, rfl, hlo, hhi, hc⟩ := hp h0
      exact ⟨b, off, rfl, hlo, hhi, fun i x hx j u hu => (World.cell?_of_block (a := ⟨b, _, none⟩) (hb b hlo hhi)).trans (hc i x hx j u hu)⟩
    · obtain ⟨b, off, rfl, hlo, hhi, hc⟩ := hk h0
      exact ⟨b, off, rfl, hlo, hhi, fun i hi j u hu => (World.cell?_of_block (a := ⟨b, _, none⟩) (hb b hlo hhi)).trans (hc i hi j u hu)⟩
theorem TrD.mono {w : World} {lo hi lo' hi' : Nat} (h1 : lo' ≤ lo) (h2 : hi ≤ hi') {cs : List Value} {t : Tr} (h : TrD w lo hi cs t) : TrD w lo' hi' cs t := by
  induction h with
  | mk A0 c0 A1 c1 hdr hp hk hks hA0 ih =>
    refine .mk A0 c0 A1 c1 hdr (fun h0 => ?_) (fun h0 => ?_) ih hA0
    · obtain ⟨b, off, rfl, hlo, hhi, hc⟩ := hp h0
      exact ⟨b, off, rfl, by omega, by omega, hc⟩
    · obtain ⟨b, off, rfl, hlo, hhi, hc⟩ := hk h0
      exact ⟨b, off, rfl, by omega, by omega, hc⟩
theorem TrD.open_ {w : World} {lo hi : Nat} {cs : List Value} {t : Tr} (h : TrD w lo hi cs t) : ∃ A0 c0 A1 c1, cs = [.int .i64 t.tag, .int .i64 t.key, .string t.text, .slice A0 t.ps.length c0, .slice A1 t.ks.length c1] := by
  cases h with
  | mk A0 c0 A1 c1 hdr hp hk hks hA0 => exact ⟨A0, c0, A1, c1, rfl⟩
theorem TrD.len {w : World} {lo hi : Nat} {cs : List Value} {t : Tr} (h : TrD w lo hi cs t) : cs.length = 5 := by
  obtain ⟨_, _, _, _, rfl⟩ := h.open_
  rfl
/-- A tree with another key. -/
def Tr.withKey (t : Tr) (k : Int) : Tr := .mk t.tag k t.text t.ps t.ks
theorem TrD.setKey {w : World} {lo hi : Nat} {cs : List Value} {t : Tr} (h : TrD w lo hi cs t) (k : Int) : TrD w lo hi (cs.set 1 (.int .i64 k)) (t.withKey k) := by
  cases h with
  | mk A0 c0 A1 c1 hdr hp hk hks hA0 => exact .mk A0 c0 A1 c1 hdr hp hk hks hA0
/-- To the relation of the laws' own texts. -/
theorem TrD.lies {w : World} {lo hi : Nat} (hw : hi ≤ w.heap.size) {cs : List Value} {t : Tr} (h : TrD w lo hi cs t) : ∃ A0 c0 A1 c1, cs = [.int .i64 t.tag, .int .i64 t.key, .string t.text, .slice A0 t.ps.length c0, .slice A1 t.ks.length c1] ∧ PrL w A0 t.ps ∧ TrL w 0 A1 t.ks ∧ TrC w 0 cs t := by
  induction h with
  | mk A0 c0 A1 c1 hdr hp hk hks hA0 ih =>
    have hP : PrL w A0 _ := fun h0 => by
      obtain ⟨b, off, rfl, hlo, hhi, hc⟩ := hp h0
      exact ⟨b, off, rfl, by omega, hc⟩
    have hT : TrL w 0 A1 _ := ⟨hdr, fun h0 => by
      obtain ⟨b, off, rfl, hlo, hhi, hc⟩ := hk h0
      exact ⟨b, off, rfl, by omega, by omega, hc⟩, fun i x hx => by
      obtain ⟨_, _, _, _, _, _, _, h⟩ := ih i x hx
      exact h⟩
    exact ⟨A0, c0, A1, c1, rfl, hP, hT, TrC.shut (t := .mk _ _ _ _ _) hP (fun b o e => by omega) hT⟩

theorem rowv_kept {w w' : World} {base s n g : Nat} {e : TypeId} {v : Value} {L : List Value} (h : w.ownsRow base e s v n L) (hk : Keep g w.heap.size w w') (hg : g < base) : w'.ownsRow base e s v n L :=
  World.ownsRow.kept h (row := some g) ⟨hk.os, hk.tape, hk.output, hk.size, fun k hk' hn => hk.block k hk' (fun e => hn (by rw [e]))⟩ (.inr (fun e => by have := World.ownsRow.lt h g e; omega))
theorem rowv_grown {w w' : World} {base s n : Nat} {row : Option Nat} {e : TypeId} {v : Value} {L : List Value} (h : w.ownsRow base e s v n L) (hg : w.grownBy w' row) (hn : ∀ b, v.ownBlock = some b → row ≠ some b) : w'.ownsRow base e s v n L :=
  World.ownsRow.kept h hg (by
    cases hv : v.ownBlock with
    | none => exact .inl rfl
    | some b => exact .inr (fun e => hn b hv e.symm))
theorem rowv_form {w : World} {base s n : Nat} {e : TypeId} {v : Value} {L : List Value} (h : w.ownsRow base e s v n L) : ∃ A c, v = .slice A n c ∧ (A = none ∧ c = 0 ∧ n = 0 ∨ ∃ b, A = some ⟨b, 0, none⟩ ∧ base ≤ b ∧ b < w.heap.size ∧ ∀ i u, L[i]? = some u → w.cell? ⟨b, i, none⟩ = some u) := by
  have hb := World.ownsRow.lt h
  rcases h.2 with ⟨rfl, rfl⟩ | ⟨g, cap, cur, rfl, hg, hh, h1⟩
  · exact ⟨none, 0, rfl, .inl ⟨rfl, rfl, rfl⟩⟩
  · refine ⟨some ⟨g, 0, none⟩, cap, rfl, .inr ⟨g, rfl, hg, (hb g (by simp [Value.ownBlock])).2, fun i u hu => ?_⟩⟩
    rw [h.cellAt i (by have := (List.getElem?_eq_some_iff.1 hu).1; have := h.1; omega)]
    exact hu
/-- Kids in a row of the call's own, each apart from the row. -/
def KidsOwn (w : World) (base : Nat) (v : Value) (ks : List Tr) : Prop :=
  ∃ (L : List Value) (hdr : Nat → List Value), w.ownsRow base 33 5 v ks.length L ∧ (∀ i, i < ks.length → ∀ j u, (hdr i)[j]? = some u → L[i * 5 + j]? = some u) ∧
    ∀ i x, ks[i]? = some x → ∃ lo hi, base ≤ lo ∧ hi ≤ w.heap.size ∧ (∀ b, v.ownBlock = some b → b < lo ∨ hi ≤ b) ∧ TrD w lo hi (hdr i) x
theorem KidsOwn.nil (w : World) (base : Nat) : KidsOwn w base (.slice none 0 0) [] :=
  ⟨[], fun _ => [], ⟨rfl, .inl ⟨rfl, rfl⟩⟩, fun i h => by simp at h, fun i x h => by simp at h⟩
theorem KidsOwn.keep {w w' : World} {base g : Nat} {v : Value} {ks : List Tr} (h : KidsOwn w base v ks) (hk : Keep g w.heap.size w w') (hg : g < base) : KidsOwn w' base v ks := by
  obtain ⟨L, hdr, h1, h2, h3⟩ := h
  refine ⟨L, hdr, rowv_kept h1 hk hg, h2, fun i x hx => ?_⟩
  obtain ⟨lo, hi, a, b, c, d⟩ := h3 i x hx
  exact ⟨lo, hi, a, Nat.le_trans b hk.size, c, d.kept fun k hk1 hk2 => hk.block k (by omega) (by omega)⟩
theorem KidsOwn.below {w w' : World} {base : Nat} {v : Value} {ks : List Tr} (h : KidsOwn w base v ks) (hb : Below w.heap.size w w') : KidsOwn w' base v ks := by
  obtain ⟨L, hdr, h1, h2, h3⟩ := h
  refine ⟨L, hdr, rowv_grown h1 ⟨hb.os, hb.tape, hb.output, hb.size, fun k hk _ => hb.block k hk⟩ (row := none) (fun b _ => by simp), h2, fun i x hx => ?_⟩
  obtain ⟨lo, hi, a, b, c, d⟩ := h3 i x hx
  exact ⟨lo, hi, a, Nat.le_trans b hb.size, c, d.kept fun k hk1 hk2 => hb.block k (by omega)⟩
/-- A store elsewhere: into a block below all of them. -/
theorem KidsOwn.other {w : World} {base : Nat} {v : Value} {ks : List Tr} (h : KidsOwn w base v ks) {p : Addr} (hp : p.block < base) (u : Value) : KidsOwn (w.setCell p u) base v ks := by
  obtain ⟨L, hdr, h1, h2, h3⟩ := h
  have hg : w.grownBy (w.setCell p u) (some p.block) := ⟨rfl, rfl, rfl, by simp [World.setCell], fun k _ hk => heap_setCell_other w p k u (fun e => hk (by simp [e]))⟩
  refine ⟨L, hdr, rowv_grown h1 hg (fun b hb e => by have := World.ownsRow.lt h1 b hb; simp at e; omega), h2, fun i x hx => ?_⟩
  obtain ⟨lo, hi, a, b, c, d⟩ := h3 i x hx
  exact ⟨lo, hi, a, by simpa [World.setCell] using b, c, d.kept fun k hk1 hk2 => heap_setCell_other w p k u (by omega)⟩
theorem KidsOwn.lies {w : World} {base : Nat} {v : Value} {ks : List Tr} (h : KidsOwn w base v ks) : ∃ A c, v = .slice A ks.length c ∧ ∃ hdr : Nat → List Value,
    (0 < ks.length → ∃ b off, A = some ⟨b, off, none⟩ ∧ base ≤ b ∧ b < w.heap.size ∧ ∀ i, i < ks.length → ∀ j u, (hdr i)[j]? = some u → w.cell? ⟨b, off + i * 5 + j, none⟩ = some u) ∧ ∀ i x, ks[i]? = some x → TrD w base w.heap.size (hdr i) x := by
  obtain ⟨L, hdr, h1, h2, h3⟩ := h
  obtain ⟨A, c, rfl, hA⟩ := rowv_form h1
  refine ⟨A, c, rfl, hdr, fun h0 => ?_, fun i x hx => ?_⟩
  · rcases hA with ⟨_, _, h⟩ | ⟨b, rfl, hb1, hb2, hc⟩
    · omega
    · exact ⟨b, 0, rfl, hb1, hb2, fun i hi j u hu => by rw [Nat.zero_add]; exact hc _ _ (h2 i hi j u hu)⟩
  · obtain ⟨lo, hi, a, b, _, d⟩ := h3 i x hx
    exact d.mono a b
/-- One Kid's key is set. -/
theorem KidsOwn.setKey {w : World} {base b c k : Nat} {ks : List Tr} {x : Tr} (h : KidsOwn w base (.slice (some ⟨b, 0, none⟩) ks.length c) ks) (hx : ks[k]? = some x) (z : Int) :
    KidsOwn (w.setCell ⟨b, k * 5 + 1, none⟩ (.int .i64 z)) base (.slice (some ⟨b, 0, none⟩) ks.length c) (ks.set k (x.withKey z)) ∧ w.grownBy (w.setCell ⟨b, k * 5 + 1, none⟩ (.int .i64 z)) (some b) := by
  obtain ⟨L, hdr, h1, h2, h3⟩ := h
  obtain ⟨s1, s2⟩ := World.ownsRow.stored h1 (k * 5 + 1) (.int .i64 z)
  have hk : k < ks.length := (List.getElem?_eq_some_iff.1 hx).1
  refine ⟨⟨L.set (k * 5 + 1) (.int .i64 z), fun i => if i = k then (hdr i).set 1 (.int .i64 z) else hdr i, by simpa using s1, fun i hi j u hu => ?_, fun i y hy => ?_⟩, s2⟩
  · have hi' : i < ks.length := by simpa using hi
    obtain ⟨y, hy⟩ := at_some hi'
    obtain ⟨_, _, _, _, _, d⟩ := h3 i y hy
    have hl := d.len
    by_cases hik : i = k
    · subst hik
      dsimp only at hu
      rw [if_pos rfl] at hu
      by_cases hj : j = 1
      · subst hj
        rw [List.getElem?_set_self (by omega)] at hu
        have hL := h2 i hi' 1 ((hdr i)[1]'(by omega)) (List.getElem?_eq_getElem (by omega))
        rw [List.getElem?_set_self (by exact (List.getElem?_eq_some_iff.1 hL).1)]
        exact hu
      · rw [List.getElem?_set_ne (by omega)] at hu
        rw [List.getElem?_set_ne (by omega)]
        exact h2 i hi' j u hu
    · dsimp only at hu
      rw [if_neg hik] at hu
      have hj5 : j < 5 := by rw [← hl]; exact (List.getElem?_eq_some_iff.1 hu).1
      rw [List.getElem?_set_ne (by omega)]
      exact h2 i hi' j u hu
  · have sc : ∀ q, q ≠ b → (w.setCell ⟨b, k * 5 + 1, none⟩ (.int .i64 z)).heap[q]? = w.heap[q]? := fun q hq => heap_setCell_other w _ q _ hq
    by_cases hik : i = k
    · subst hik
      obtain ⟨lo, hi, a, b', cc, d⟩ := h3 i x hx
      rw [List.getElem?_set_self hk] at hy
      injection hy with hy
      subst hy
      dsimp only
      rw [if_pos rfl]
      exact ⟨lo, hi, a, by simpa [World.setCell] using b', cc, (d.kept fun q q1 q2 => sc q (by have := cc b rfl; omega)).setKey z⟩
    · rw [List.getElem?_set_ne (by omega)] at hy
      obtain ⟨lo, hi, a, b', cc, d⟩ := h3 i y hy
      dsimp only
      rw [if_neg hik]
      exact ⟨lo, hi, a, by simpa [World.setCell] using b', cc, d.kept fun q q1 q2 => sc q (by have := cc b rfl; omega)⟩
/-- One Kid more, behind an append. -/
theorem KidsOwn.snoc {w w' : World} {base lo hi : Nat} {v v' : Value} {ks : List Tr} {x : Tr} {cs : List Value} (h : KidsOwn w base v ks) (hx : TrD w lo hi cs x) (h0 : base ≤ lo) (h1 : hi ≤ w.heap.size) (hv : ∀ b, v.ownBlock = some b → b < lo ∨ hi ≤ b)
    (hg : w.grownBy w' v.ownBlock) (hb : v'.ownBlock = v.ownBlock ∨ v'.ownBlock = some w.heap.size)
    (ho : ∀ L : List Value, w.ownsRow base 33 5 v ks.length L → w'.ownsRow base 33 5 v' (ks.length + 1) (L ++ cs)) : KidsOwn w' base v' (ks ++ [x]) := by
  obtain ⟨L, hdr, g1, g2, g3⟩ := h
  have hL : L.length = ks.length * 5 := g1.1
  have hcs := hx.len
  have kp : ∀ lo' hi', hi' ≤ w.heap.size → (∀ b, v.ownBlock = some b → b < lo' ∨ hi' ≤ b) → ∀ b, lo' ≤ b → b < hi' → w'.heap[b]? = w.heap[b]? := fun lo' hi' a c b b1 b2 => hg.block b (by omega) (by
    intro e
    have := c b e.symm
    omega)
  refine ⟨L ++ cs, fun i => if i = ks.length then cs else hdr i, by simpa using ho L g1, fun i hi j u hu => ?_, fun i y hy => ?_⟩
  · by_cases hik : i = ks.length
    · subst hik
      dsimp only at hu
      rw [if_pos rfl] at hu
      rw [List.getElem?_append_right (by omega), hL]
      simpa using hu
    · dsimp only at hu
      rw [if_neg hik] at hu
      have hi' : i < ks.length := by simp at hi; omega
      have := g2 i hi' j u hu
      rw [List.getElem?_append_left (List.getElem?_eq_some_iff.1 this).1]
      exact this
  · by_cases hik : i = ks.length
    · subst hik
      simp at hy
      subst hy
      dsimp only
      rw [if_pos rfl]
      refine ⟨lo, hi, h0, Nat.le_trans h1 hg.size, fun b e => ?_, hx.kept (kp lo hi h1 hv)⟩
      rcases hb with hb | hb
      · exact hv b (by rw [← hb]; exact e)
      · rw [hb] at e; injection e with e; omega
    · have hi' : i < ks.length := by
        have := (List.getElem?_eq_some_iff.1 hy).1
        simp at this; omega
      rw [List.getElem?_append_left hi'] at hy
      obtain ⟨lo', hi', a, b', cc, d⟩ := g3 i y hy
      dsimp only
      rw [if_neg hik]
      refine ⟨lo', hi', a, Nat.le_trans b' hg.size, fun b e => ?_, d.kept (kp lo' hi' b' cc)⟩
      rcases hb with hb | hb
      · exact cc b (by rw [← hb]; exact e)
      · rw [hb] at e; injection e with e; omega
end Go.Proofs.YtcpfjlbicofkeaaDoor
