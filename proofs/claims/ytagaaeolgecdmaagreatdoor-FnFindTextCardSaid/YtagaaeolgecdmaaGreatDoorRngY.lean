/- A range over a function, as in RngX; a round may write the box of its own variable: what is kept is told from the world ahead of that. -/
import Derived.Test.YtagaaeolgecdmaaGreatDoorPrtM
namespace Go.Proofs.YtagaaeolgecdmaaGreatDoor
open Go.RowKit

/-- How a round may be left. -/
def roundY {α : Type} (B : Nat) (Kp : World → World → Prop) (I : List α → World → Prop) (Ix : Go.Code → List α → World → Prop) (xs : List α) (W0 W : World) : Exit → Act → World → Prop
  | .normal, _, W' => KeepsFrom B W W' ∧ Kp W0 W' ∧ I xs W'
  | .ret, _, W' => KeepsFrom B W W' ∧ Kp W0 W' ∧ Ix .ret xs W'
  | .exit id, _, W' => KeepsFrom B W W' ∧ Kp W0 W' ∧ Ix (.exit id) xs W'
  | .goto t, _, W' => KeepsFrom B W W' ∧ Kp W0 W' ∧ Ix (.goto t) xs W'
  | .panic _, _, _ => False
  | .outgrown, _, _ => False

variable {F : Fence} {n : Nat} {P : Program}

theorem wpIn_rangeY {α : Type} {g : Operand} {ps : Array Tmp} {assign body : Go.Code} {Q : Exit → Act → World → Prop} {a : Act} {w : World}
    (hro : F.round = none) (h1 : 1 ≤ n) {gf : Nat} {lb : Array Value} (hg : a.eval g = .func (.func gf) #[] lb) (hFg : F.fn gf) (eg : ∀ args w, (callFunc gf args).run P w = .ok (.enter gf args) w)
    {encs : α → Array Value} {X : α → World → Prop} {Kp : World → World → Prop} {S Sp : List α → Prop} {N : Nat} (hseq : SeqX F (n - 1) P gf lb encs X Kp S Sp N w)
    (hX : Spares w.heap.size X) (hX' : Stays X) (hKl : ∀ W W' : World, w.heap.size ≤ W.heap.size → Below W.heap.size W W' → Kp W W') (hKt : ∀ A B C : World, Kp A B → Kp B C → Kp A C) (hKb : ∀ (W : World) (l : Nat) (o o' : Obj), w.heap.size ≤ l → W.heap[l]? = some o → o.isCells = false → o'.isCells = false → Kp W (W.putObj l o')) (hps : ∀ x, (encs x).size = ps.size)
    (I : List α → World → Prop) (Ix : Go.Code → List α → World → Prop) (hI : Spares w.heap.size I) (hI' : Stays I) (hIx : ∀ c, Spares w.heap.size (Ix c)) (hIx' : ∀ c, Stays (Ix c)) (h0 : I [] w) (Ax : α → World → Act → World → Prop) (hAx : ∀ x W0 a', Spares w.heap.size (fun (_ : Unit) W => Ax x W0 a' W))
    (hassign : ∀ (l : Nat) (x : α) (W : World) (K : Act → World → Prop), (∀ a' W', Below W.heap.size W W' → Ax x W a' W' → K a' W') →
      assign.wpIn (F.inRound l) (n - 1 - 1) P (Exit.then K (fun _ _ _ => False)) { tmps := (ps.zip (encs x)).foldl (fun t (p, v) => t.setIfInBounds p v) a.tmps, defers := [] } W)
    (hbody : ∀ (l : Nat) (pre : List α) (x : α) (a' : Act) (W0 W : World), Kp W0 W → w.heap.size ≤ W0.heap.size → W0.heap.size ≤ W.heap.size → I pre W → X x W → Ax x W0 a' W → pre.length < N → body.wpIn (F.inRound l) (n - 1 - 1) P (roundY w.heap.size Kp I Ix (pre ++ [x]) W0 W) a' W)
    (hdone : ∀ (D : Nat) (xs : List α) (W : World), w.heap.size ≤ D → S xs → I xs W → W.heap[D]? = some (.deferred (some [])) → Q .normal { a with defers := { target := .collected D, args := #[] } :: a.defers } W)
    (hstop : ∀ (D : Nat) (c : Go.Code) (pre : List α) (W : World), w.heap.size ≤ D → Sp pre → Ix c pre W → W.heap[D]? = some (.deferred (some [])) → c.wpIn F n P Q { a with defers := { target := .collected D, args := #[] } :: a.defers } W) :
    (Go.Code.rangeFunc g ps assign body).wpIn F n P Q a w := by
  refine wpIn_rangeFunc fun fn hfn => ?_
  rw [hro]
  generalize hD : w.heap.size = D at *
  let R : LoopState → Option Go.Code → Loop := fun st pe => { state := st, pending := pe, fn, tmps := a.tmps, params := ps, assign, body, defers := D }
  obtain ⟨Ws, hWs⟩ : ∃ Ws, (w.alloc (.deferred (some []))).alloc (.loop (R .ready none)) = Ws := ⟨_, rfl⟩
  have hbs : Below w.heap.size w Ws := hWs ▸ ((Below.refl _ w).alloc (Nat.le_refl _) _).alloc (by simp) _
  have hsz : Ws.heap.size = D + 2 := by rw [← hWs]; simp [hD]
  have hLs : LoopAt D (R .ready none) Ws := by
    rw [← hWs]
    constructor
    · have := World.alloc_heap_new (w.alloc (.deferred (some []))) (.loop (R .ready none))
      rwa [World.size_alloc, hD] at this
    · have := World.alloc_heap_new w (.deferred (some []))
      rw [hD] at this
      exact (Below.heap_alloc _ _ _ (by simp [hD])).trans this
  refine ⟨D + 1, [{ target := .collected D, args := #[] }], Ws, { target := .fn (.func gf) lb, args := #[.func (.yield (D + 1)) #[] #[]] }, Ws, gf, #[.func (.yield (D + 1)) #[] #[]] ++ lb, Ws, ?_, ?_, ?_, ?_, fun _ => h1, ?_⟩
  · have := run_enterLoop_outer (P := P) (w := w) fn a.tmps ps assign body
    rw [hD, ← hD] at this
    rw [← hWs]
    simpa [R, hD] using this
  · simp only [resolve, hg]
    simp [go_sem]
  · intro f' hf'; simp [Target.leads] at hf'; subst hf'; exact hFg
  · simp [invoke, go_sem, eg]
  refine (hseq (D + 1) (fun pre W => I pre W ∧ LoopAt D (R .ready none) W) (fun pre W => ∃ c, Ix c pre W ∧ LoopAt D (R .done (some c)) W) Ws hbs (by rw [hsz, hD])
    (fun s A B h hb => ⟨hI' s A B h.1 hb, h.2.later hb⟩) (fun s A B h hb => h.elim fun c h => ⟨c, hIx' c s A B h.1 hb, h.2.later hb⟩) ?_ ⟨hI' _ _ _ h0 hbs, hLs⟩).mono ?_
  · rintro pre x W ⟨hi, hl⟩ hx hlen
    refine ⟨fn, _, assign, body, run_yield hl.lp (by rw [hps]), roundIn_of_wpIn hfn (hassign _ x W _ (fun a' Wa hba hax => ⟨_, run_beginRound (hl.later hba).lp rfl, ?_⟩))⟩
    have hla := hl.later hba
    have hl2 := hla.turn (R .busy none)
    have hlt : D ≤ W.heap.size := by have := (Array.getElem?_eq_some_iff.1 hl.lp).1; omega
    have hk2 : Kp W (Wa.putObj (D + 1) (.loop (R .busy none))) := hKt _ _ _ (hKl _ _ hlt hba) (hKb _ _ _ _ (by omega) hla.lp rfl rfl)
    refine wpIn_mono (hbody (D + 1) pre x a' W _ hk2 hlt (by simp only [World.putObj_size]; exact hba.size) (hI _ _ _ _ _ (hI' _ _ _ hi hba) (by omega) hla.lp rfl) (hX _ _ _ _ _ (hX' _ _ _ hx hba) (by omega) hla.lp rfl) (hAx x W a' () _ _ _ _ hax (by omega) hla.lp rfl) hlen) ?_
    have jumped : ∀ (c : Go.Code) (W3 : World), KeepsFrom D (Wa.putObj (D + 1) (.loop (R .busy none))) W3 → Kp W W3 → Ix c (pre ++ [x]) W3 →
        ∃ v w', (Instr.endRound (D + 1) (some c)).run P W3 = .ok v w' ∧ Kp W w' ∧ ((Ending.returned v = .returned (.bool true) ∧ (I (pre ++ [x]) w' ∧ LoopAt D (R .ready none) w')) ∨ (Ending.returned v = .returned (.bool false) ∧ ∃ c, Ix c (pre ++ [x]) w' ∧ LoopAt D (R .done (some c)) w')) := fun c W3 hk3 hkp hi3 =>
      have hl3 := hl2.from_ hk3
      ⟨_, _, run_endRound (P := P) (some c) hl3.lp, hKt _ _ _ hkp (hKb _ _ _ _ (by omega) hl3.lp rfl rfl), .inr ⟨rfl, c, hIx c _ _ _ _ _ hi3 (by omega) hl3.lp rfl, hl3.turn (R .done (some c))⟩⟩
    rintro e a3 W3 hp
    cases e with
    | normal =>
      have hl3 := hl2.from_ hp.1
      exact ⟨_, _, run_endRound (P := P) none hl3.lp, hKt _ _ _ hp.2.1 (hKb _ _ _ _ (by omega) hl3.lp rfl rfl), .inl ⟨rfl, hI _ _ _ _ _ hp.2.2 (by omega) hl3.lp rfl, hl3.turn (R .ready none)⟩⟩
    | ret => exact jumped _ _ hp.1 hp.2.1 hp.2.2
    | exit id => exact jumped _ _ hp.1 hp.2.1 hp.2.2
    | goto t => exact jumped _ _ hp.1 hp.2.1 hp.2.2
    | panic ch => exact hp.elim
    | outgrown => exact hp.elim
  · rintro e W2 ⟨⟨v, rfl⟩, (⟨xs, hS, hi, hl⟩ | ⟨pre, hSp, c, hi, hl⟩)⟩
    · exact ⟨none, _, run_endLoop (P := P) hl.lp (by simp [R]), hdone D xs _ (Nat.le_refl _) hS (hI _ _ _ _ _ hi (by omega) hl.lp rfl) (hl.turn { R .ready none with state := .exhausted }).df⟩
    · exact ⟨some c, _, run_endLoop (P := P) hl.lp (by simp [R]), hstop D c pre _ (Nat.le_refl _) hSp (hIx c _ _ _ _ _ hi (by omega) hl.lp rfl) (hl.turn { R .done (some c) with state := .exhausted }).df⟩
end Go.Proofs.YtagaaeolgecdmaaGreatDoor
