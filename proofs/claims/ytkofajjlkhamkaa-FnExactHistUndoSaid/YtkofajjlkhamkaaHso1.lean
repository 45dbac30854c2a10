/- Rows of things, each in blocks of its own: cells, stores, rows of stores. -/
import Derived.Test.YtkofajjlkhamkaaMrk5
import Derived.Test.YtkofajjlkhamkaaHst5
namespace Go.Proofs.Ytkofajjlkhamkaa
open Go.Joins Go.ChangeShapes Go.WideShapes Go.ChangeAt Go.RowKit Go.Deep
set_option linter.unusedVariables false
set_option linter.unusedSimpArgs false

/-- What a thing has stands as long as its blocks do. -/
def TurnOk {α : Type} (own : World → Nat → Nat → List Value → α → Prop) : Prop :=
  ∀ (w w' : World) (lo hi l2 h2 : Nat) (cs : List Value) (x : α), own w lo hi cs x → Turn l2 h2 w w' → (hi ≤ l2 ∨ h2 ≤ lo) → own w' lo hi cs x
/-- Things in a row, each in blocks of its own. -/
structure ApD {α : Type} (own : World → Nat → Nat → List Value → α → Prop) (m : Nat) (w : World) (lo hi g : Nat) (L : List Value) (P Q : Nat → Nat) (xs : List α) : Prop where
  row : ∀ i x, xs[i]? = some x → ∃ cs : List Value, cs.length = m ∧ (∀ j u, cs[j]? = some u → L[i * m + j]? = some u) ∧ own w (P i) (Q i) cs x
  inn : ∀ i, i < xs.length → lo ≤ P i ∧ P i ≤ Q i ∧ Q i ≤ hi ∧ (g < P i ∨ Q i ≤ g)
  apart : ∀ i j, i < xs.length → j < xs.length → i ≠ j → Q i ≤ P j ∨ Q j ≤ P i
def ApR {α : Type} (own : World → Nat → Nat → List Value → α → Prop) (m : Nat) (e : TypeId) (w : World) (lo hi : Nat) (A : Option Addr) (c : Nat) (xs : List α) : Prop :=
  0 < xs.length → ∃ g L P Q, A = some ⟨g, 0, none⟩ ∧ lo ≤ g ∧ g < hi ∧ w.ownsRow 0 e m (.slice (some ⟨g, 0, none⟩) xs.length c) xs.length L ∧ ApD own m w lo hi g L P Q xs
variable {α : Type} {own : World → Nat → Nat → List Value → α → Prop}
theorem ApD.turn (ho : TurnOk own) {m lo hi g l2 h2 : Nat} {w w' : World} {L : List Value} {P Q : Nat → Nat} {xs : List α} (h : ApD own m w lo hi g L P Q xs) (ht : Turn l2 h2 w w') (hr : hi ≤ l2 ∨ h2 ≤ lo) : ApD own m w' lo hi g L P Q xs :=
  ⟨fun i x hx => by
    obtain ⟨cs, a, b, c⟩ := h.row i x hx
    obtain ⟨q1, q2, q3, _⟩ := h.inn i (List.getElem?_eq_some_iff.1 hx).1
    exact ⟨cs, a, b, ho _ _ _ _ _ _ _ _ c ht (by omega)⟩, h.inn, h.apart⟩
theorem ApD.step (ho : TurnOk own) {m lo hi g j : Nat} {w w5 : World} {L cs : List Value} {P Q : Nat → Nat} {xs : List α} {x y : α} (h : ApD own m w lo hi g L P Q xs) (hj : xs[j]? = some x) (hcs : cs.length = m) (hL : ∀ i u, cs[i]? = some u → L[j * m + i]? = some u) (hy : own w5 (P j) (Q j) cs y) (ht : Turn (P j) (Q j) w w5) : ApD own m w5 lo hi g L P Q (xs.set j y) := by
  have hjl := (List.getElem?_eq_some_iff.1 hj).1
  refine ⟨fun i z hz => ?_, fun i hi => h.inn i (by simpa using hi), fun i k hi hk2 => h.apart i k (by simpa using hi) (by simpa using hk2)⟩
  by_cases hij : i = j
  · subst hij
    rw [List.getElem?_set_self hjl] at hz
    injection hz with hz
    subst hz
    exact ⟨cs, hcs, hL, hy⟩
  · rw [List.getElem?_set_ne (fun e => hij e.symm)] at hz
    obtain ⟨c2, a, b, c⟩ := h.row i z hz
    exact ⟨c2, a, b, ho _ _ _ _ _ _ _ _ c ht (h.apart i j (List.getElem?_eq_some_iff.1 hz).1 hjl hij)⟩
/-- One more at the end: its blocks are behind all others. -/
theorem ApD.more (ho : TurnOk own) {m lo g k h5 : Nat} {w w5 : World} {L L' cs : List Value} {P Q : Nat → Nat} {xs : List α} {x : α} (h : ApD own m w lo w.heap.size g L P Q (xs.take k)) (hx : xs[k]? = some x) (hcs : cs.length = m) (hL1 : ∀ i, i < k * m → L'[i]? = L[i]?) (hL2 : ∀ i u, cs[i]? = some u → L'[k * m + i]? = some u) (hg : g < w.heap.size) (hlo : lo ≤ w.heap.size) (ht : Turn g (g + 1) w w5) (hy : own w5 w.heap.size h5 cs x) (h5s : w.heap.size ≤ h5) (h5e : h5 ≤ w5.heap.size) :
    ApD own m w5 lo w5.heap.size g L' (fun i => if i = k then w.heap.size else P i) (fun i => if i = k then h5 else Q i) (xs.take (k + 1)) := by
  have hk := (List.getElem?_eq_some_iff.1 hx).1
  have hlt : (xs.take k).length = k := by rw [List.length_take]; omega
  have hl2 : (xs.take (k + 1)).length = k + 1 := by rw [List.length_take]; omega
  refine ⟨fun i z hz => ?_, fun i hi => ?_, fun i j hi hj hij => ?_⟩
  · rw [List.getElem?_take] at hz
    split at hz
    · rename_i hik
      by_cases hie : i = k
      · subst hie
        rw [hx] at hz
        injection hz with hz
        subst hz
        simp only [if_pos]
        exact ⟨cs, hcs, hL2, hy⟩
      · simp only [if_neg hie]
        obtain ⟨c2, a, b, c⟩ := h.row i z (by rw [List.getElem?_take, if_pos (by omega)]; exact hz)
        obtain ⟨q1, q2, q3, q4⟩ := h.inn i (by omega)
        refine ⟨c2, a, fun j u hu => ?_, ho _ _ _ _ _ _ _ _ c ht (by omega)⟩
        have hj : j < m := by rw [← a]; exact (List.getElem?_eq_some_iff.1 hu).1
        have : i * m + j < k * m := by
          have h1 : (i + 1) * m ≤ k * m := Nat.mul_le_mul_right m (by omega)
          rw [Nat.add_mul] at h1
          omega
        rw [hL1 _ this]
        exact b j u hu
    · cases hz
  · rw [hl2] at hi
    have hs := ht.size
    by_cases hie : i = k
    · subst hie
      simp only [if_pos]
      omega
    · simp only [if_neg hie]
      obtain ⟨q1, q2, q3, q4⟩ := h.inn i (by omega)
      omega
  · rw [hl2] at hi hj
    by_cases hie : i = k
    · subst hie
      obtain ⟨q1, q2, q3, q4⟩ := h.inn j (by omega)
      simp only [if_pos, if_neg (fun e => hij e.symm : ¬ j = i)]
      omega
    · by_cases hje : j = k
      · subst hje
        obtain ⟨q1, q2, q3, q4⟩ := h.inn i (by omega)
        simp only [if_pos, if_neg hie]
        omega
      · simp only [if_neg hie, if_neg hje]
        exact h.apart i j (by omega) (by omega) hij
theorem ApD.zero {m lo hi g : Nat} {w : World} {L : List Value} {xs : List α} : ApD own m w lo hi g L (fun _ => 0) (fun _ => 0) (xs.take 0) := ⟨fun i x h => by simp at h, fun i h => by simp at h, fun i j h => by simp at h⟩
theorem ApR.turn (ho : TurnOk own) {m lo hi c l2 h2 : Nat} {e : TypeId} {w w' : World} {A : Option Addr} {xs : List α} (h : ApR own m e w lo hi A c xs) (ht : Turn l2 h2 w w') (hr : hi ≤ l2 ∨ h2 ≤ lo) : ApR own m e w' lo hi A c xs := fun h0 => by
  obtain ⟨g, L, P, Q, rfl, a, b, hown, hd⟩ := h h0
  exact ⟨g, L, P, Q, rfl, a, b, ht.own hown (by omega), hd.turn ho ht hr⟩
theorem ApR.below (ho : TurnOk own) {m lo hi c : Nat} {e : TypeId} {w w' : World} {A : Option Addr} {xs : List α} (h : ApR own m e w lo hi A c xs) (hb : Below w.heap.size w w') : ApR own m e w' lo hi A c xs :=
  h.turn ho (Turn.of_below (lo := hi) (hi := hi) hb) (.inl (Nat.le_refl _))
theorem ApR.mono {m lo hi lo' hi' c : Nat} {e : TypeId} {w : World} {A : Option Addr} {xs : List α} (h : ApR own m e w lo hi A c xs) (h1 : lo' ≤ lo) (h2 : hi ≤ hi') : ApR own m e w lo' hi' A c xs := fun h0 => by
  obtain ⟨g, L, P, Q, rfl, a, b, hown, hd⟩ := h h0
  exact ⟨g, L, P, Q, rfl, by omega, by omega, hown, ⟨hd.row, fun i hi => by have := hd.inn i hi; omega, hd.apart⟩⟩
/-- A row of plain things, in a block of its own. -/
def FlR (c : α → List Value) (m : Nat) (e : TypeId) (w : World) (lo hi : Nat) (A : Option Addr) (cap : Nat) (xs : List α) : Prop :=
  0 < xs.length → ∃ g, A = some ⟨g, 0, none⟩ ∧ lo ≤ g ∧ g < hi ∧ w.ownsRow 0 e m (.slice (some ⟨g, 0, none⟩) xs.length cap) xs.length (xs.flatMap c)
theorem FlR.turn {c : α → List Value} {m : Nat} {e : TypeId} {w w' : World} {lo hi cap l2 h2 : Nat} {A : Option Addr} {xs : List α} (h : FlR c m e w lo hi A cap xs) (ht : Turn l2 h2 w w') (hr : hi ≤ l2 ∨ h2 ≤ lo) : FlR c m e w' lo hi A cap xs := fun h0 => by
  obtain ⟨g, rfl, a, b, hown⟩ := h h0
  exact ⟨g, rfl, a, b, ht.own hown (by omega)⟩
theorem FlR.lies {c : α → List Value} {m : Nat} {e : TypeId} {w : World} {lo hi cap : Nat} {A : Option Addr} {xs : List α} (hc : ∀ x, (c x).length = m) (h : FlR c m e w lo hi A cap xs) : Lie c m w A xs := fun h0 => by
  obtain ⟨g, rfl, a, b, hown⟩ := h h0
  exact Lie.of_own hc hown h0
theorem row_capG {w : World} {base n c g : Nat} {e : TypeId} {sz : Nat} {L : List Value} (h : w.ownsRow base e sz (.slice (some ⟨g, 0, none⟩) n c) n L) : n ≤ c := by
  rcases h.2 with ⟨h, _⟩ | ⟨g', cap, cur, h, _, _, hc, _⟩
  · simp at h
  · simp only [Value.slice.injEq, Option.some.injEq, Addr.mk.injEq, and_true, true_and] at h
    obtain ⟨_, rfl⟩ := h
    exact hc
theorem FlR.cap {c : α → List Value} {m : Nat} {e : TypeId} {w : World} {lo hi cap : Nat} {A : Option Addr} {xs : List α} (h : FlR c m e w lo hi A cap xs) : xs.length ≤ cap := by
  rcases Nat.eq_zero_or_pos xs.length with h0 | h0
  · omega
  · obtain ⟨g, rfl, a, b, hown⟩ := h h0
    exact row_capG hown
/-- A cell of a store. -/
def CeO (w : World) (lo hi : Nat) (cs : List Value) (x : Ce) : Prop :=
  ∃ A0 c0 A1 c1 m, cs = [.slice A0 x.pl.length c0, .slice A1 x.st.length c1] ∧ lo ≤ m ∧ m ≤ hi ∧ FlR Sl.cells 2 80 w lo m A0 c0 x.pl ∧ FlR Va.cells 3 82 w m hi A1 c1 x.st
theorem CeO.turn : TurnOk CeO := fun w w' lo hi l2 h2 cs x h ht hr => by
  obtain ⟨A0, c0, A1, c1, m, e, h1, h2', h3, h4⟩ := h
  exact ⟨A0, c0, A1, c1, m, e, h1, h2', h3.turn ht (by omega), h4.turn ht (by omega)⟩
/-- A store. -/
def StO (w : World) (lo hi : Nat) (A : Option Addr) (c : Nat) (xs : List Ce) : Prop := ApR CeO 2 60 w lo hi A c xs
def StV (w : World) (lo hi : Nat) (cs : List Value) (xs : List Ce) : Prop := ∃ A c, cs = [.slice A xs.length c] ∧ xs.length ≤ c ∧ StO w lo hi A c xs
theorem StV.turn : TurnOk StV := fun w w' lo hi l2 h2 cs x h ht hr => by
  obtain ⟨A, c, e, hc, h⟩ := h
  exact ⟨A, c, e, hc, ApR.turn CeO.turn h ht hr⟩
/-- A row of stores. -/
def SsO (w : World) (lo hi : Nat) (A : Option Addr) (c : Nat) (xss : List (List Ce)) : Prop := ApR StV 1 27 w lo hi A c xss
theorem vcells_len (x : Va) : x.cells.length = 3 := rfl
theorem scells_len (x : Sl) : x.cells.length = 2 := rfl
theorem StO.lies {w : World} {lo hi c : Nat} {A : Option Addr} {xs : List Ce} (h : StO w lo hi A c xs) (hs : Sm2 xs) : CeL w A xs := fun h0 => by
  obtain ⟨g, L, P, Q, rfl, _, _, ho, hd⟩ := h h0
  refine ⟨g, 0, rfl, (ho.lt g rfl).2, fun i x hx => ?_⟩
  obtain ⟨cs, _, hcs, A0, c0, A1, c1, m, rfl, _, _, h3, h4⟩ := hd.row i x hx
  have hi := (List.getElem?_eq_some_iff.1 hx).1
  have hL := ho.1
  obtain ⟨s0, s1⟩ := hs.2 x (List.mem_of_getElem? hx)
  refine ⟨A0, c0, A1, c1, ⟨?_, ?_, h3.lies scells_len, h4.lies vcells_len, h3.cap, h4.cap, by unfold maxLen; omega, by unfold maxLen; omega⟩⟩
  · rw [Nat.zero_add, ho.cellAt (i * 2) (by omega)]
    exact hcs 0 _ rfl
  · rw [Nat.zero_add, ho.cellAt (i * 2 + 1) (by omega)]
    exact hcs 1 _ rfl
theorem SsO.lies {w : World} {lo hi c : Nat} {A : Option Addr} {xss : List (List Ce)} (h : SsO w lo hi A c xss) (hs : ∀ xs ∈ xss, Sm2 xs) : StL w A xss := fun h0 => by
  obtain ⟨g, L, P, Q, rfl, _, _, ho, hd⟩ := h h0
  refine ⟨g, 0, rfl, (ho.lt g rfl).2, fun i xs hx => ?_⟩
  obtain ⟨cs, _, hcs, A0, c0, rfl, hc, h3⟩ := hd.row i xs hx
  have hi := (List.getElem?_eq_some_iff.1 hx).1
  have hL := ho.1
  have hsm := hs xs (List.mem_of_getElem? hx)
  refine ⟨A0, c0, ?_, StO.lies h3 hsm, by unfold maxLen; have := hsm.1; omega, hc⟩
  rw [Nat.zero_add, ho.cellAt i (by omega)]
  exact (by rw [← Nat.mul_one i]; exact hcs 0 _ rfl)
/-- What the laws' copy of cells answers lies so. -/
theorem CellsX.sto {n : Nat} {xs : List Ce} {w w' : World} {e : Ending} (h : CellsX n xs w e w') (hn : xs.length = n) : ∃ A, e = .returned (.slice A n n) ∧ StO w' w.heap.size w'.heap.size A n xs ∧ Below w.heap.size w w' := by
  obtain ⟨G, L, rfl, ho, hc, hb⟩ := h
  refine ⟨_, rfl, fun h0 => ⟨w.heap.size, L, fun i => G (2 * i), fun i => G (2 * i + 1) + 1, rfl, Nat.le_refl _, (ho.lt _ rfl).2, ?_, ⟨fun i x hx => ?_, fun i hi => ?_, fun i j hi hj hij => ?_⟩⟩, hb⟩
  · rw [hn]; exact World.ownsRow.mono ho (Nat.zero_le _)
  · have hi := (List.getElem?_eq_some_iff.1 hx).1
    obtain ⟨a, b, c⟩ := hc.at_ i x (by omega) hx
    refine ⟨_, rfl, fun j u hu => ?_, ⟨some ⟨G (2 * i), 0, none⟩, x.pl.length, some ⟨G (2 * i + 1), 0, none⟩, x.st.length, G (2 * i + 1), rfl, Nat.le_of_lt (hc.asc _ _ (by omega) (by omega)), by omega, fun _ => ⟨_, rfl, Nat.le_refl _, hc.asc _ _ (by omega) (by omega), World.ownsRow.mono c.pl (Nat.zero_le _)⟩, fun _ => ⟨_, rfl, Nat.le_refl _, Nat.lt_succ_self _, World.ownsRow.mono c.st (Nat.zero_le _)⟩⟩⟩
    match j, hu with
    | 0, hu => simp at hu; subst hu; exact a
    | 1, hu => simp at hu; subst hu; exact b
    | j + 2, hu => simp at hu
  · have h1 := hc.lt (by omega) (show 2 * i < 2 * n by omega)
    have h2 := hc.lt (by omega) (show 2 * i + 1 < 2 * n by omega)
    have h3 := hc.asc (2 * i) (2 * i + 1) (by omega) (by omega)
    show w.heap.size ≤ G (2 * i) ∧ G (2 * i) ≤ G (2 * i + 1) + 1 ∧ G (2 * i + 1) + 1 ≤ w'.heap.size ∧ (w.heap.size < G (2 * i) ∨ G (2 * i + 1) + 1 ≤ w.heap.size)
    omega
  · show G (2 * i + 1) + 1 ≤ G (2 * j) ∨ G (2 * j + 1) + 1 ≤ G (2 * i)
    rcases (by omega : i < j ∨ j < i) with h | h
    · have := hc.asc (2 * i + 1) (2 * j) (by omega) (by omega); omega
    · have := hc.asc (2 * j + 1) (2 * i) (by omega) (by omega); omega
end Go.Proofs.Ytkofajjlkhamkaa
