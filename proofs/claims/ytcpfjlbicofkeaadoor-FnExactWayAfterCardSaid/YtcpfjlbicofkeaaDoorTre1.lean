/- Trees: what they are, and how they lie in memory. -/
import Derived.Test.YtcpfjlbicofkeaaDoorPrp2
namespace Go.Proofs.YtcpfjlbicofkeaaDoor
open Go.Joins Go.ChangeShapes Go.WideShapes Go.ChangeAt Go.RowKit Go.Deep
set_option linter.unusedVariables false
set_option linter.unusedSimpArgs false

/-- A tree. -/
inductive Tr where
  | mk (tag key : Int) (text : ByteArray) (ps : List Pr) (ks : List Tr)
def Tr.tag : Tr → Int | .mk t _ _ _ _ => t
def Tr.key : Tr → Int | .mk _ k _ _ _ => k
def Tr.text : Tr → ByteArray | .mk _ _ s _ _ => s
def Tr.ps : Tr → List Pr | .mk _ _ _ p _ => p
def Tr.ks : Tr → List Tr | .mk _ _ _ _ k => k
mutual
  /-- How many parts. -/
  def sizeT : Tr → Nat
    | .mk _ _ _ _ ks => 1 + sizeL ks
  def sizeL : List Tr → Nat
    | [] => 0
    | x :: xs => sizeT x + sizeL xs
end
theorem sizeT_pos : ∀ t, 0 < sizeT t
  | .mk _ _ _ _ ks => by simp only [sizeT]; omega
theorem sizeL_mem : ∀ {ks : List Tr} {x : Tr}, x ∈ ks → sizeT x ≤ sizeL ks
  | [], x, h => by cases h
  | y :: ys, x, h => by
    rcases List.mem_cons.1 h with rfl | h
    · simp only [sizeL]; omega
    · have := sizeL_mem h; simp only [sizeL]; omega
theorem sizeT_kid {t : Tr} {x : Tr} (h : x ∈ t.ks) : sizeT x < sizeT t := by
  obtain ⟨_, _, _, _, ks⟩ := t
  have := sizeL_mem (show x ∈ ks from h)
  simp only [sizeT]; omega
/-- To prove something of all trees: of one whose Kids have it. -/
theorem Tr.by_kids {P : Tr → Prop} (h : ∀ t, (∀ x ∈ t.ks, P x) → P t) : ∀ t, P t := by
  have H : ∀ n t, sizeT t ≤ n → P t := by
    intro n
    induction n with
    | zero => intro t ht; have := sizeT_pos t; omega
    | succ n ih => exact fun t ht => h t fun x hx => ih x (by have := sizeT_kid hx; omega)
  exact fun t => H _ t (Nat.le_refl _)

/-- Five cells read as a tree, what they lead to lying from block lo on. -/
inductive TrC (w : World) (lo : Nat) : List Value → Tr → Prop
  | mk {tag key : Int} {text : ByteArray} {ps : List Pr} {ks : List Tr} (A0 : Option Addr) (c0 : Nat) (A1 : Option Addr) (c1 : Nat) (hdr : Nat → List Value)
      (hp : PrL w A0 ps) (hpl : ∀ b o, A0 = some ⟨b, o, none⟩ → lo ≤ b) (hk : 0 < ks.length → ∃ b off, A1 = some ⟨b, off, none⟩ ∧ lo ≤ b ∧ b < w.heap.size ∧ ∀ i, i < ks.length → ∀ j u, (hdr i)[j]? = some u → w.cell? ⟨b, off + i * 5 + j, none⟩ = some u)
      (hks : ∀ i x, ks[i]? = some x → TrC w lo (hdr i) x) : TrC w lo [.int .i64 tag, .int .i64 key, .string text, .slice A0 ps.length c0, .slice A1 ks.length c1] (.mk tag key text ps ks)
/-- Trees in a row, in memory. -/
def TrL (w : World) (lo : Nat) (A : Option Addr) (ks : List Tr) : Prop :=
  ∃ hdr : Nat → List Value, (0 < ks.length → ∃ b off, A = some ⟨b, off, none⟩ ∧ lo ≤ b ∧ b < w.heap.size ∧ ∀ i, i < ks.length → ∀ j u, (hdr i)[j]? = some u → w.cell? ⟨b, off + i * 5 + j, none⟩ = some u) ∧ ∀ i x, ks[i]? = some x → TrC w lo (hdr i) x
theorem TrC.open_ {w : World} {lo : Nat} {cs : List Value} {t : Tr} (h : TrC w lo cs t) : ∃ A0 c0 A1 c1, cs = [.int .i64 t.tag, .int .i64 t.key, .string t.text, .slice A0 t.ps.length c0, .slice A1 t.ks.length c1] ∧ PrL w A0 t.ps ∧ (∀ b o, A0 = some ⟨b, o, none⟩ → lo ≤ b) ∧ TrL w lo A1 t.ks := by
  cases h with
  | mk A0 c0 A1 c1 hdr hp hpl hk hks => exact ⟨A0, c0, A1, c1, rfl, hp, hpl, hdr, hk, hks⟩
theorem TrC.shut {w : World} {lo : Nat} {t : Tr} {A0 : Option Addr} {c0 : Nat} {A1 : Option Addr} {c1 : Nat} (hp : PrL w A0 t.ps) (hpl : ∀ b o, A0 = some ⟨b, o, none⟩ → lo ≤ b) (hk : TrL w lo A1 t.ks) :
    TrC w lo [.int .i64 t.tag, .int .i64 t.key, .string t.text, .slice A0 t.ps.length c0, .slice A1 t.ks.length c1] t := by
  obtain ⟨_, _, _, _, _⟩ := t
  obtain ⟨hdr, h0, h1⟩ := hk
  exact .mk A0 c0 A1 c1 hdr hp hpl h0 h1
theorem TrL.nil {w : World} {lo : Nat} {A : Option Addr} : TrL w lo A [] := ⟨fun _ => [], fun h => absurd h (by simp), fun i x h => by simp at h⟩
theorem PrL.kept {w w' : World} {lo : Nat} {A : Option Addr} {ps : List Pr} (hs : w.heap.size ≤ w'.heap.size) (hb : ∀ b, lo ≤ b → b < w.heap.size → w'.heap[b]? = w.heap[b]?) (h : PrL w A ps) (hl : ∀ b o, A = some ⟨b, o, none⟩ → lo ≤ b) : PrL w' A ps := fun h0 => by
  obtain ⟨b, off, rfl, hlt, hc⟩ := h h0
  exact ⟨b, off, rfl, Nat.lt_of_lt_of_le hlt hs, fun i x hx j u hu => (World.cell?_of_block (a := ⟨b, _, none⟩) (hb b (hl b off rfl) hlt)).trans (hc i x hx j u hu)⟩
/-- Blocks from lo on stay: so do trees there. -/
theorem TrC.kept {w w' : World} {lo : Nat} (hs : w.heap.size ≤ w'.heap.size) (hb : ∀ b, lo ≤ b → b < w.heap.size → w'.heap[b]? = w.heap[b]?) {cs : List Value} {t : Tr} (h : TrC w lo cs t) : TrC w' lo cs t := by
  induction h with
  | mk A0 c0 A1 c1 hdr hp hpl hk hks ih =>
    refine .mk A0 c0 A1 c1 hdr (hp.kept hs hb hpl) hpl (fun h0 => ?_) ih
    obtain ⟨b, off, rfl, hlo, hlt, hc⟩ := hk h0
    exact ⟨b, off, rfl, hlo, Nat.lt_of_lt_of_le hlt hs, fun i hi j u hu => (World.cell?_of_block (a := ⟨b, _, none⟩) (hb b hlo hlt)).trans (hc i hi j u hu)⟩
theorem TrL.kept {w w' : World} {lo : Nat} (hs : w.heap.size ≤ w'.heap.size) (hb : ∀ b, lo ≤ b → b < w.heap.size → w'.heap[b]? = w.heap[b]?) {A : Option Addr} {ks : List Tr} (h : TrL w lo A ks) : TrL w' lo A ks := by
  obtain ⟨hdr, h0, h1⟩ := h
  refine ⟨hdr, fun hl => ?_, fun i x hx => (h1 i x hx).kept hs hb⟩
  obtain ⟨b, off, rfl, hlo, hlt, hc⟩ := h0 hl
  exact ⟨b, off, rfl, hlo, Nat.lt_of_lt_of_le hlt hs, fun i hi j u hu => (World.cell?_of_block (a := ⟨b, _, none⟩) (hb b hlo hlt)).trans (hc i hi j u hu)⟩
theorem TrC.later {w w' : World} {lo : Nat} {cs : List Value} {t : Tr} (h : TrC w lo cs t) (hb : Below w.heap.size w w') : TrC w' lo cs t := h.kept hb.size (fun b _ hlt => hb.block b hlt)
theorem TrL.below {w w' : World} {lo : Nat} {A : Option Addr} {ks : List Tr} (h : TrL w lo A ks) (hb : Below w.heap.size w w') : TrL w' lo A ks := h.kept hb.size (fun b _ hlt => hb.block b hlt)
theorem TrC.mono {w : World} {lo lo' : Nat} (hl : lo' ≤ lo) {cs : List Value} {t : Tr} (h : TrC w lo cs t) : TrC w lo' cs t := by
  induction h with
  | mk A0 c0 A1 c1 hdr hp hpl hk hks ih =>
    refine .mk A0 c0 A1 c1 hdr hp (fun b o e => Nat.le_trans hl (hpl b o e)) (fun h0 => ?_) ih
    obtain ⟨b, off, rfl, hlo, rest⟩ := hk h0
    exact ⟨b, off, rfl, Nat.le_trans hl hlo, rest⟩
theorem TrL.mono {w : World} {lo lo' : Nat} (hl : lo' ≤ lo) {A : Option Addr} {ks : List Tr} (h : TrL w lo A ks) : TrL w lo' A ks := by
  obtain ⟨hdr, h0, h1⟩ := h
  refine ⟨hdr, fun h => ?_, fun i x hx => (h1 i x hx).mono hl⟩
  obtain ⟨b, off, rfl, hlo, rest⟩ := h0 h
  exact ⟨b, off, rfl, Nat.le_trans hl hlo, rest⟩
/-- One of trees in a row. -/
theorem TrL.at_ {w : World} {lo : Nat} {A : Option Addr} {ks : List Tr} (h : TrL w lo A ks) {k : Nat} {x : Tr} (hx : ks[k]? = some x) : ∃ b off A0 d0 A1 d1, A = some ⟨b, off, none⟩ ∧ b < w.heap.size ∧ lo ≤ b ∧
    w.cell? ⟨b, off + k * 5, none⟩ = some (.int .i64 x.tag) ∧ w.cell? ⟨b, off + k * 5 + 1, none⟩ = some (.int .i64 x.key) ∧ w.cell? ⟨b, off + k * 5 + 2, none⟩ = some (.string x.text) ∧ w.cell? ⟨b, off + k * 5 + 3, none⟩ = some (.slice A0 x.ps.length d0) ∧ w.cell? ⟨b, off + k * 5 + 4, none⟩ = some (.slice A1 x.ks.length d1) ∧
    PrL w A0 x.ps ∧ (∀ b o, A0 = some ⟨b, o, none⟩ → lo ≤ b) ∧ TrL w lo A1 x.ks := by
  obtain ⟨hdr, h0, h1⟩ := h
  have hk : k < ks.length := (List.getElem?_eq_some_iff.1 hx).1
  obtain ⟨b, off, rfl, hlo, hlt, hc⟩ := h0 (by omega)
  obtain ⟨A0, d0, A1, d1, e, hp, hpl, hks⟩ := (h1 k x hx).open_
  have hc := hc k hk
  rw [e] at hc
  exact ⟨b, off, A0, d0, A1, d1, rfl, hlt, hlo, hc 0 _ rfl, hc 1 _ rfl, hc 2 _ rfl, hc 3 _ rfl, hc 4 _ rfl, hp, hpl, hks⟩
/-- Texts and rows are no longer than can be. -/
inductive SmT : Tr → Prop
  | mk {tag key : Int} {text : ByteArray} {ps : List Pr} {ks : List Tr} (h0 : text.size ≤ maxLen) (h1 : ps.length ≤ maxLen) (h2 : ∀ x ∈ ps, x.v.s.size ≤ maxLen) (h3 : ks.length ≤ maxLen) (h4 : ∀ x ∈ ks, SmT x) : SmT (.mk tag key text ps ks)
theorem SmT.open_ {t : Tr} (h : SmT t) : t.text.size ≤ maxLen ∧ t.ps.length ≤ maxLen ∧ (∀ x ∈ t.ps, x.v.s.size ≤ maxLen) ∧ t.ks.length ≤ maxLen ∧ ∀ x ∈ t.ks, SmT x := by
  cases h with
  | mk h0 h1 h2 h3 h4 => exact ⟨h0, h1, h2, h3, h4⟩
end Go.Proofs.YtcpfjlbicofkeaaDoor
