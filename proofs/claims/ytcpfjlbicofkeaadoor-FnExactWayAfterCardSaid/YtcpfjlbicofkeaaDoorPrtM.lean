/- RngX, Prt1, Prt2, Prt3, Prt4 in one text. -/
import Derived.RangeFuncNested
import Derived.RangeFuncBound
import Derived.RangeFuncLeaves
import Derived.WalkKit
import Derived.Test.YtcpfjlbicofkeaaDoorTxt2
import Derived.ArgAppend
import Derived.Deep.AppendLies
import Derived.TacticsInMore
import Derived.OwnWalkIn
import Derived.LoopNIn
import Derived.LoopIn
import Derived.Shelf.Abstract
import Derived.Deep.RegionHeld3
namespace Go.Proofs.YtcpfjlbicofkeaaDoor
open Go.RowKit

/-- What stays where only new blocks come. -/
def Stays {β : Type} (J : β → World → Prop) : Prop := ∀ s W W', J s W → Below W.heap.size W W' → J s W'
/-- What stays where a block from B on that holds no cells is turned. -/
def Spares {β : Type} (B : Nat) (J : β → World → Prop) : Prop := ∀ s W l o o', J s W → B ≤ l → W.heap[l]? = some o → o.isCells = false → J s (W.putObj l o')

/-- The iterator's word: X x W is what holds of the element x in memory as its round begins. -/
def SeqX {α : Type} (F : Fence) (n : Nat) (P : Program) (g : Nat) (lb : Array Value) (encs : α → Array Value) (X : α → World → Prop) (Kp : World → World → Prop) (S Sp : List α → Prop) (N : Nat) (w : World) : Prop :=
  ∀ (l : Nat) (J Jx : List α → World → Prop) (W : World), Below w.heap.size w W → W.heap.size = w.heap.size + 2 → Stays J → Stays Jx →
    (∀ pre x W1, J pre W1 → X x W1 → pre.length < N → YieldAt F (n - 1) P l (encs x) W1 fun e W' =>
      Kp W1 W' ∧ ((e = .returned (.bool true) ∧ J (pre ++ [x]) W') ∨ (e = .returned (.bool false) ∧ Jx (pre ++ [x]) W'))) →
    J [] W →
    CallsIn F n P g (#[.func (.yield l) #[] #[]] ++ lb) W fun e W' => (∃ v, e = .returned v) ∧ ((∃ xs, S xs ∧ J xs W') ∨ (∃ pre, Sp pre ∧ Jx pre W'))

/-- The loop's record and the block of its rounds' deferred calls. -/
structure LoopAt (D : Nat) (r : Loop) (W : World) : Prop where
  lp : W.heap[D + 1]? = some (.loop r)
  df : W.heap[D]? = some (.deferred (some []))
theorem LoopAt.later {D : Nat} {r : Loop} {W W' : World} (h : LoopAt D r W) (hb : Below W.heap.size W W') : LoopAt D r W' :=
  ⟨(hb.block _ (Array.getElem?_eq_some_iff.1 h.lp).1).trans h.lp, (hb.block _ (Array.getElem?_eq_some_iff.1 h.df).1).trans h.df⟩
theorem LoopAt.turn {D : Nat} {r : Loop} {W : World} (h : LoopAt D r W) (r' : Loop) : LoopAt D r' (W.putObj (D + 1) (.loop r')) :=
  ⟨World.putObj_heap_same (Array.getElem?_eq_some_iff.1 h.lp).1, (World.putObj_heap_other (by omega)).trans h.df⟩
theorem LoopAt.from_ {D : Nat} {r : Loop} {W W' : World} (h : LoopAt D r W) (hk : KeepsFrom D W W') : LoopAt D r W' :=
  ⟨hk.same _ _ (by omega) h.lp rfl, hk.same _ _ (Nat.le_refl _) h.df rfl⟩

/-- How a round may be left. -/
def roundX {α : Type} (B : Nat) (Kp : World → World → Prop) (I : List α → World → Prop) (Ix : Go.Code → List α → World → Prop) (xs : List α) (W : World) : Exit → Act → World → Prop
  | .normal, _, W' => KeepsFrom B W W' ∧ Kp W W' ∧ I xs W'
  | .ret, _, W' => KeepsFrom B W W' ∧ Kp W W' ∧ Ix .ret xs W'
  | .exit id, _, W' => KeepsFrom B W W' ∧ Kp W W' ∧ Ix (.exit id) xs W'
  | .goto t, _, W' => KeepsFrom B W W' ∧ Kp W W' ∧ Ix (.goto t) xs W'
  | .panic _, _, _ => False
  | .outgrown, _, _ => False

variable {F : Fence} {n : Nat} {P : Program}

theorem wpIn_rangeX {α : Type} {g : Operand} {ps : Array Tmp} {assign body : Go.Code} {Q : Exit → Act → World → Prop} {a : Act} {w : World}
    (hro : F.round = none) (h1 : 1 ≤ n) {gf : Nat} {lb : Array Value} (hg : a.eval g = .func (.func gf) #[] lb) (hFg : F.fn gf) (eg : ∀ args w, (callFunc gf args).run P w = .ok (.enter gf args) w)
    {encs : α → Array Value} {X : α → World → Prop} {Kp : World → World → Prop} {S Sp : List α → Prop} {N : Nat} (hseq : SeqX F (n - 1) P gf lb encs X Kp S Sp N w)
    (hX : Spares w.heap.size X) (hX' : Stays X) (hKl : ∀ W W' : World, w.heap.size ≤ W.heap.size → Below W.heap.size W W' → Kp W W') (hKt : ∀ A B C : World, Kp A B → Kp B C → Kp A C) (hKb : ∀ (W : World) (l : Nat) (o o' : Obj), w.heap.size ≤ l → W.heap[l]? = some o → o.isCells = false → o'.isCells = false → Kp W (W.putObj l o')) (hps : ∀ x, (encs x).size = ps.size)
    (I : List α → World → Prop) (Ix : Go.Code → List α → World → Prop) (hI : Spares w.heap.size I) (hI' : Stays I) (hIx : ∀ c, Spares w.heap.size (Ix c)) (hIx' : ∀ c, Stays (Ix c)) (h0 : I [] w) (Ax : α → Act → World → Prop) (hAx : ∀ x a', Spares w.heap.size (fun (_ : Unit) W => Ax x a' W))
    (hassign : ∀ (l : Nat) (x : α) (W : World) (K : Act → World → Prop), (∀ a' W', Below W.heap.size W W' → Ax x a' W' → K a' W') →
      assign.wpIn (F.inRound l) (n - 1 - 1) P (Exit.then K (fun _ _ _ => False)) { tmps := (ps.zip (encs x)).foldl (fun t (p, v) => t.setIfInBounds p v) a.tmps, defers := [] } W)
    (hbody : ∀ (l : Nat) (pre : List α) (x : α) (a' : Act) (W : World), I pre W → X x W → Ax x a' W → pre.length < N → body.wpIn (F.inRound l) (n - 1 - 1) P (roundX w.heap.size Kp I Ix (pre ++ [x]) W) a' W)
    (hdone : ∀ (D : Nat) (xs : List α) (W : World), w.heap.size ≤ D → S xs → I xs W → W.heap[D]? = some (.deferred (some [])) → Q .normal { a with defers := { target := .collected D, args := #[] } :: a.defers } W)
    (hstop : ∀ (D : Nat) (c : Go.Code) (pre : List α) (W : World), w.heap.size ≤ D → Sp pre → Ix c pre W → W.heap[D]? = some (.deferred (some [])) → c.wpIn F n P Q { a with defers := { target := .collected D, args := #[] } :: a.defers } W) :
    (Go.Code.rangeFunc g ps assign body).wpIn F n P Q a w := by
  refine wpIn_rangeFunc fun fn hfn => ?_
  rw [hro]
  generalize hD : w.heap.size = D at *
  let R : LoopState → Option Go.Code → Loop := fun st pe => { state := st, pending := pe, fn, tmps := a.tmps, params := ps, assign, body, defers := D }
  obtain ⟨Ws, hWs⟩ : ∃ Ws, (w.alloc (.deferred (some []))).alloc (.loop (R .ready none)) = Ws := ⟨_, rfl⟩
  have hbs : Below w.heap.size w Ws := hWs ▸ ((Below.refl _ w).alloc (Nat.le_refl _) _).alloc (by simp) _
  have hsz : Ws.heap.size = D + 2 := by rw [← hWs]; simp [hD]
  have hLs : LoopAt D (R .ready none) Ws := by
    rw [← hWs]
    constructor
    · have := World.alloc_heap_new (w.alloc (.deferred (some []))) (.loop (R .ready none))
      rwa [World.size_alloc, hD] at this
    · have := World.alloc_heap_new w (.deferred (some []))
      rw [hD] at this
      exact (Below.heap_alloc _ _ _ (by simp [hD])).trans this
  refine ⟨D + 1, [{ target := .collected D, args := #[] }], Ws, { target := .fn (.func gf) lb, args := #[.func (.yield (D + 1)) #[] #[]] }, Ws, gf, #[.func (.yield (D + 1)) #[] #[]] ++ lb, Ws, ?_, ?_, ?_, ?_, fun _ => h1, ?_⟩
  · have := run_enterLoop_outer (P := P) (w := w) fn a.tmps ps assign body
    rw [hD, ← hD] at this
    rw [← hWs]
    simpa [R, hD] using this
  · simp only [resolve, hg]
    simp [go_sem]
  · intro f' hf'; simp [Target.leads] at hf'; subst hf'; exact hFg
  · simp [invoke, go_sem, eg]
  refine (hseq (D + 1) (fun pre W => I pre W ∧ LoopAt D (R .ready none) W) (fun pre W => ∃ c, Ix c pre W ∧ LoopAt D (R .done (some c)) W) Ws hbs (by rw [hsz, hD])
    (fun s A B h hb => ⟨hI' s A B h.1 hb, h.2.later hb⟩) (fun s A B h hb => h.elim fun c h => ⟨c, hIx' c s A B h.1 hb, h.2.later hb⟩) ?_ ⟨hI' _ _ _ h0 hbs, hLs⟩).mono ?_
  · rintro pre x W ⟨hi, hl⟩ hx hlen
    refine ⟨fn, _, assign, body, run_yield hl.lp (by rw [hps]), roundIn_of_wpIn hfn (hassign _ x W _ (fun a' Wa hba hax => ⟨_, run_beginRound (hl.later hba).lp rfl, ?_⟩))⟩
    have hla := hl.later hba
    have hl2 := hla.turn (R .busy none)
    have hlt : D ≤ W.heap.size := by have := (Array.getElem?_eq_some_iff.1 hl.lp).1; omega
    have hk2 : Kp W (Wa.putObj (D + 1) (.loop (R .busy none))) := hKt _ _ _ (hKl _ _ hlt hba) (hKb _ _ _ _ (by omega) hla.lp rfl rfl)
    refine wpIn_mono (hbody (D + 1) pre x a' _ (hI _ _ _ _ _ (hI' _ _ _ hi hba) (by omega) hla.lp rfl) (hX _ _ _ _ _ (hX' _ _ _ hx hba) (by omega) hla.lp rfl) (hAx x a' () _ _ _ _ hax (by omega) hla.lp rfl) hlen) ?_
    have jumped : ∀ (c : Go.Code) (W3 : World), KeepsFrom D (Wa.putObj (D + 1) (.loop (R .busy none))) W3 → Kp (Wa.putObj (D + 1) (.loop (R .busy none))) W3 → Ix c (pre ++ [x]) W3 →
        ∃ v w', (Instr.endRound (D + 1) (some c)).run P W3 = .ok v w' ∧ Kp W w' ∧ ((Ending.returned v = .returned (.bool true) ∧ (I (pre ++ [x]) w' ∧ LoopAt D (R .ready none) w')) ∨ (Ending.returned v = .returned (.bool false) ∧ ∃ c, Ix c (pre ++ [x]) w' ∧ LoopAt D (R .done (some c)) w')) := fun c W3 hk3 hkp hi3 =>
      have hl3 := hl2.from_ hk3
      ⟨_, _, run_endRound (P := P) (some c) hl3.lp, hKt _ _ _ (hKt _ _ _ hk2 hkp) (hKb _ _ _ _ (by omega) hl3.lp rfl rfl), .inr ⟨rfl, c, hIx c _ _ _ _ _ hi3 (by omega) hl3.lp rfl, hl3.turn (R .done (some c))⟩⟩
    rintro e a3 W3 hp
    cases e with
    | normal =>
      have hl3 := hl2.from_ hp.1
      exact ⟨_, _, run_endRound (P := P) none hl3.lp, hKt _ _ _ (hKt _ _ _ hk2 hp.2.1) (hKb _ _ _ _ (by omega) hl3.lp rfl rfl), .inl ⟨rfl, hI _ _ _ _ _ hp.2.2 (by omega) hl3.lp rfl, hl3.turn (R .ready none)⟩⟩
    | ret => exact jumped _ _ hp.1 hp.2.1 hp.2.2
    | exit id => exact jumped _ _ hp.1 hp.2.1 hp.2.2
    | goto t => exact jumped _ _ hp.1 hp.2.1 hp.2.2
    | panic ch => exact hp.elim
    | outgrown => exact hp.elim
  · rintro e W2 ⟨⟨v, rfl⟩, (⟨xs, hS, hi, hl⟩ | ⟨pre, hSp, c, hi, hl⟩)⟩
    · exact ⟨none, _, run_endLoop (P := P) hl.lp (by simp [R]), hdone D xs _ (Nat.le_refl _) hS (hI _ _ _ _ _ hi (by omega) hl.lp rfl) (hl.turn { R .ready none with state := .exhausted }).df⟩
    · exact ⟨some c, _, run_endLoop (P := P) hl.lp (by simp [R]), hstop D c pre _ (Nat.le_refl _) hSp (hIx c _ _ _ _ _ hi (by omega) hl.lp rfl) (hl.turn { R .done (some c) with state := .exhausted }).df⟩
end Go.Proofs.YtcpfjlbicofkeaaDoor

namespace Go.Proofs.YtcpfjlbicofkeaaDoor
open Go.Joins Go.ChangeShapes Go.WideShapes Go.ChangeAt Go.RowKit Go.Deep
set_option linter.unusedVariables false
set_option linter.unusedSimpArgs false

mutual
  /-- The parts, each ahead of those in it, with the ways to them. -/
  def partsT (way : List Nat) : Tr → List (List Nat × Tr)
    | .mk tag key text ps ks => (way, .mk tag key text ps ks) :: partsL way 0 ks
  def partsL (way : List Nat) (i : Nat) : List Tr → List (List Nat × Tr)
    | [] => []
    | x :: xs => partsT (way ++ [i]) x ++ partsL way (i + 1) xs
end
theorem partsT_eq (way : List Nat) (t : Tr) : partsT way t = (way, t) :: partsL way 0 t.ks := by
  obtain ⟨_, _, _, _, _⟩ := t
  simp only [partsT, Tr.ks]
theorem partsL_drop {way : List Nat} {ks : List Tr} {k : Nat} {x : Tr} (hx : ks[k]? = some x) : partsL way k (ks.drop k) = partsT (way ++ [k]) x ++ partsL way (k + 1) (ks.drop (k + 1)) := by
  obtain ⟨hk, he⟩ := List.getElem?_eq_some_iff.1 hx
  rw [List.drop_eq_getElem_cons hk, he]
  simp only [partsL]
theorem partsL_nil (way : List Nat) (i : Nat) : partsL way i [] = [] := by simp only [partsL]
theorem sizeL_drop {ks : List Tr} {k : Nat} {x : Tr} (hx : ks[k]? = some x) : sizeL (ks.drop k) = sizeT x + sizeL (ks.drop (k + 1)) := by
  obtain ⟨hk, he⟩ := List.getElem?_eq_some_iff.1 hx
  rw [List.drop_eq_getElem_cons hk, he]
  simp only [sizeL]
theorem partsL_length : ∀ (ks : List Tr) (way : List Nat) (i : Nat), (∀ x ∈ ks, ∀ way, (partsT way x).length = sizeT x) → (partsL way i ks).length = sizeL ks
  | [], way, i, _ => by simp only [partsL, sizeL, List.length_nil]
  | x :: xs, way, i, h => by
    simp only [partsL, sizeL, List.length_append]
    rw [h x (by simp), partsL_length xs way (i + 1) (fun y hy => h y (List.mem_cons_of_mem _ hy))]
theorem partsT_length : ∀ (t : Tr) (way : List Nat), (partsT way t).length = sizeT t := Tr.by_kids fun t ih way => by
  rw [partsT_eq, List.length_cons, partsL_length t.ks way 0 ih, sizeT_eq]
  omega
/-- All texts of parts. -/
def textsP : List (List Nat × Tr) → ByteArray
  | [] => ⟨#[]⟩
  | x :: xs => x.2.text ++ textsP xs
theorem ba_nil (a : ByteArray) : (⟨#[]⟩ : ByteArray) ++ a = a := ByteArray.empty_append
theorem ba_nil' (a : ByteArray) : a ++ (⟨#[]⟩ : ByteArray) = a := ByteArray.append_empty
theorem textsP_append : ∀ xs ys : List (List Nat × Tr), textsP (xs ++ ys) = textsP xs ++ textsP ys
  | [], ys => by simp only [List.nil_append, textsP]; rw [ba_nil]
  | x :: xs, ys => by simp only [List.cons_append, textsP]; rw [textsP_append xs ys, ByteArray.append_assoc]
theorem textsP_L : ∀ (ks : List Tr) (way : List Nat) (i : Nat), (∀ x ∈ ks, ∀ way, textsP (partsT way x) = textT x) → textsP (partsL way i ks) = textL ks
  | [], way, i, _ => by simp only [partsL, textL, textsP]
  | x :: xs, way, i, h => by
    simp only [partsL, textL]
    rw [textsP_append, h x (by simp), textsP_L xs way (i + 1) (fun y hy => h y (List.mem_cons_of_mem _ hy))]
theorem textsP_T : ∀ (t : Tr) (way : List Nat), textsP (partsT way t) = textT t := Tr.by_kids fun t ih way => by
  rw [partsT_eq, textT_eq]
  simp only [textsP]
  rw [textsP_L t.ks way 0 ih]
theorem textsP_le {B : Nat} : ∀ xs : List (List Nat × Tr), (∀ x ∈ xs, x.2.text.size ≤ B) → (textsP xs).size ≤ B * xs.length
  | [], _ => by simp only [textsP]; exact Nat.zero_le _
  | x :: xs, h => by
    have h1 := h x (by simp)
    have h2 := textsP_le xs (fun y hy => h y (List.mem_cons_of_mem _ hy))
    simp only [textsP, List.length_cons, ByteArray.size_append]
    rw [Nat.mul_add]
    omega
/-- What holds of a tree and, with a tree, of its Kids, holds of all parts. -/
theorem partsL_all {P : Tr → Prop} : ∀ (ks : List Tr) (way : List Nat) (i : Nat), (∀ x ∈ ks, ∀ way, ∀ y ∈ partsT way x, P y.2) → ∀ y ∈ partsL way i ks, P y.2
  | [], way, i, _, y, hy => by simp only [partsL] at hy; cases hy
  | x :: xs, way, i, h, y, hy => by
    simp only [partsL] at hy
    rcases List.mem_append.1 hy with hy | hy
    · exact h x (by simp) _ y hy
    · exact partsL_all xs way (i + 1) (fun z hz => h z (List.mem_cons_of_mem _ hz)) y hy
theorem partsT_all {P : Tr → Prop} (hP : ∀ t, P t → ∀ x ∈ t.ks, P x) : ∀ (t : Tr), P t → ∀ way, ∀ y ∈ partsT way t, P y.2 := Tr.by_kids fun t ih ht way y hy => by
  rw [partsT_eq] at hy
  rcases List.mem_cons.1 hy with rfl | hy
  · exact ht
  · exact partsL_all t.ks way 0 (fun x hx => ih x hx (hP t ht x hx)) y hy

/-- A part, as it is handed over: the way and the tree, and where they lie. -/
structure Pt where
  t : Tr
  A0 : Option Addr
  c0 : Nat
  A1 : Option Addr
  c1 : Nat
  way : List Nat
  Aw : Option Addr
  cw : Nat
def Pt.tree (x : Pt) : Value := .agg #[.int .i64 x.t.tag, .int .i64 x.t.key, .string x.t.text, .slice x.A0 x.t.ps.length x.c0, .slice x.A1 x.t.ks.length x.c1]
def Pt.encs (x : Pt) : Array Value := #[.slice x.Aw x.way.length x.cw, x.tree]
def Pt.key (x : Pt) : List Nat × Tr := (x.way, x.t)
def intV (ns : List Nat) : List Value := ns.map fun (n : Nat) => Value.int .i64 n
theorem intV_length (ns : List Nat) : (intV ns).length = ns.length * 1 := by simp [intV]
theorem intV_append (ns : List Nat) (k : Nat) : intV ns ++ [.int .i64 k] = intV (ns ++ [k]) := by simp [intV]
/-- A way, in a row from block lo on. -/
def WayR (lo : Nat) (W : World) (A : Option Addr) (c : Nat) (ns : List Nat) : Prop := W.ownsRow lo 3 1 (.slice A ns.length c) ns.length (intV ns)
/-- What holds of a part in memory as its round begins: w0 is the world in which the tree lies. -/
structure PtX (w0 : World) (lo : Nat) (L : List (List Nat × Tr)) (x : Pt) (W : World) : Prop where
  way : WayR lo W x.Aw x.cw x.way
  ps : PrL w0 x.A0 x.t.ps
  ks : TrL w0 0 x.A1 x.t.ks
  sm : SmT x.t
  mem : x.key ∈ L
  low : Below w0.heap.size w0 W
theorem WayR.block {lo : Nat} {W : World} {A : Option Addr} {c : Nat} {ns : List Nat} (h : WayR lo W A c ns) : A = none ∨ ∃ g cur, A = some ⟨g, 0, none⟩ ∧ lo ≤ g ∧ W.heap[g]? = some (.cells cur 3 (0, 0)) := by
  obtain ⟨_, ⟨e, _⟩ | ⟨g, cap, cur, e, hlo, hg, _⟩⟩ := h
  · injection e with e; exact .inl e
  · injection e with e; exact .inr ⟨g, cur, e, hlo, hg⟩
theorem WayR.moved {lo : Nat} {W W' : World} {A : Option Addr} {c : Nat} {ns : List Nat} (h : WayR lo W A c ns) (hb : ∀ g cur, A = some ⟨g, 0, none⟩ → W.heap[g]? = some (.cells cur 3 (0, 0)) → W'.heap[g]? = W.heap[g]?) : WayR lo W' A c ns := by
  obtain ⟨hl, ⟨e, hn⟩ | ⟨g, cap, cur, e, hlo, hg, r⟩⟩ := h
  · exact ⟨hl, .inl ⟨e, hn⟩⟩
  · have e' := e
    injection e' with e1
    exact ⟨hl, .inr ⟨g, cap, cur, e, hlo, (hb g cur e1 hg).trans hg, r⟩⟩
theorem WayR.later {lo : Nat} {W W' : World} {A : Option Addr} {c : Nat} {ns : List Nat} (h : WayR lo W A c ns) (hb : Below W.heap.size W W') : WayR lo W' A c ns :=
  h.moved fun g cur _ hg => hb.block g (Array.getElem?_eq_some_iff.1 hg).1
theorem WayR.put {lo : Nat} {W : World} {A : Option Addr} {c : Nat} {ns : List Nat} (h : WayR lo W A c ns) {l : Nat} {o : Obj} (o' : Obj) (hl : W.heap[l]? = some o) (ho : o.isCells = false) : WayR lo (W.putObj l o') A c ns :=
  h.moved fun g cur _ hg => World.putObj_heap_other fun e => by
    subst e
    rw [hg] at hl
    injection hl with hl
    rw [← hl] at ho
    cases ho
theorem WayR.nil (lo : Nat) (W : World) : WayR lo W none 0 [] := World.ownsRow_nil _ _ _ _
/-- What the iterator's own blocks hold: numbers, trees. -/
def OwnK (e : TypeId) : Prop := e = 3 ∨ e = 33
/-- What a round keeps: all below m, and whole numbers in rows and trees in boxes from lo on. -/
structure KpP (m lo : Nat) (W W' : World) : Prop where
  low : Below m W W'
  row : ∀ g cur e, lo ≤ g → OwnK e → W.heap[g]? = some (.cells cur e (0, 0)) → W'.heap[g]? = W.heap[g]?
theorem KpP.refl (m lo : Nat) (W : World) : KpP m lo W W := ⟨Below.refl _ _, fun _ _ _ _ _ _ => rfl⟩
theorem KpP.trans {m lo : Nat} (A B C : World) (h : KpP m lo A B) (k : KpP m lo B C) : KpP m lo A C :=
  ⟨h.low.trans k.low, fun g cur e hg he hc => (k.row g cur e hg he ((h.row g cur e hg he hc).trans hc)).trans (h.row g cur e hg he hc)⟩
theorem KpP.later {m lo : Nat} {W W' : World} (h : Below W.heap.size W W') (hm : m ≤ W.heap.size) : KpP m lo W W' :=
  ⟨h.mono hm, fun g cur _ _ _ hc => h.block g (Array.getElem?_eq_some_iff.1 hc).1⟩
/-- A round that writes below lo and makes blocks. -/
theorem KpP.of_below {m lo : Nat} {W W' : World} (h : Below m W W') (h2 : ∀ g, lo ≤ g → g < W.heap.size → W'.heap[g]? = W.heap[g]?) : KpP m lo W W' :=
  ⟨h, fun g cur _ hg _ hc => h2 g hg (Array.getElem?_eq_some_iff.1 hc).1⟩
theorem KpP.put {m lo : Nat} {w : World} (hm : m ≤ w.heap.size) (W : World) (l : Nat) (o o' : Obj) (hl : w.heap.size ≤ l) (h : W.heap[l]? = some o) (ho : o.isCells = false) : KpP m lo W (W.putObj l o') :=
  ⟨(Below.refl m W).grown (grownBy_putObj' W l o') (by have := (Array.getElem?_eq_some_iff.1 h).1; omega) (fun k e => by cases e; omega), fun g cur _ hg _ hc => World.putObj_heap_other fun e => by
    subst e
    rw [hc] at h
    injection h with h
    rw [← h] at ho
    cases ho⟩
theorem WayR.kept {m lo : Nat} {W W' : World} {A : Option Addr} {c : Nat} {ns : List Nat} (h : WayR lo W A c ns) (hk : KpP m lo W W') : WayR lo W' A c ns := by
  rcases h.block with e | ⟨g, cur, e, hlo, hg⟩
  · exact h.moved fun g cur e' _ => by rw [e] at e'; cases e'
  · exact h.moved fun g' cur' e' hg' => hk.row g' cur' _ (by rw [e] at e'; injection e' with e'; injection e' with e'; omega) (.inl rfl) hg'
theorem PtX.spares {w0 : World} {lo : Nat} {L : List (List Nat × Tr)} {B : Nat} (hB : w0.heap.size ≤ B) : Spares B (PtX w0 lo L) := fun x W l o o' h hl ho hc =>
  ⟨h.way.put o' ho hc, h.ps, h.ks, h.sm, h.mem, (h.low).grown (grownBy_putObj' W l o') h.low.size (fun k e => by cases e; omega)⟩
theorem PtX.stays {w0 : World} {lo : Nat} {L : List (List Nat × Tr)} : Stays (PtX w0 lo L) := fun x W W' h hb =>
  ⟨h.way.later hb, h.ps, h.ks, h.sm, h.mem, h.low.trans (hb.mono h.low.size)⟩
theorem KpP.cell {m lo g off : Nat} {W W' : World} {cur : Array Value} {e : TypeId} {v : Value} (h : KpP m lo W W') (hg : lo ≤ g) (he : OwnK e) (hb : W.heap[g]? = some (.cells cur e (0, 0))) (hc : W.cell? ⟨g, off, none⟩ = some v) : W'.cell? ⟨g, off, none⟩ = some v :=
  (World.cell?_of_block (a := ⟨g, off, none⟩) (h.row g cur e hg he hb)).trans hc
end Go.Proofs.YtcpfjlbicofkeaaDoor

namespace Go.Proofs.YtcpfjlbicofkeaaDoor
open Go.Joins Go.ChangeShapes Go.WideShapes Go.ChangeAt Go.RowKit Go.Deep
set_option linter.unusedVariables false
set_option linter.unusedSimpArgs false

theorem infoInt : (Tryd.prog.info? 3).map (fun i => (i.zero, i.size, i.bytes)) = some (some (.int .i64 0), 1, 8) := by kernel_rfl
theorem row_mono {w : World} {lo lo' : Nat} {e : TypeId} {sz : Nat} {v : Value} {n : Nat} {xs : List Value} (h : w.ownsRow lo e sz v n xs) (hl : lo' ≤ lo) : w.ownsRow lo' e sz v n xs := by
  obtain ⟨a, b | ⟨g, cap, cur, e1, e2, r⟩⟩ := h
  · exact ⟨a, .inl b⟩
  · exact ⟨a, .inr ⟨g, cap, cur, e1, Nat.le_trans hl e2, r⟩⟩
end Go.Proofs.YtcpfjlbicofkeaaDoor

namespace Go.Proofs.YtcpfjlbicofkeaaDoor
open Go.Joins Go.ChangeShapes Go.WideShapes Go.ChangeAt Go.RowKit Go.Deep
set_option linter.unusedVariables false
set_option linter.unusedSimpArgs false

theorem YieldAt.wide {m m' : Nat} {P : Program} {l : Nat} {args : Array Value} {W : World} {R : Ending → World → Prop} (h : YieldAt Fence.wide m P l args W R) : YieldAt Fence.wide m' P l args W R := by
  obtain ⟨fn, tmps, assign, body, hy, hR⟩ := h
  exact ⟨fn, tmps, assign, body, hy, hR.1, fun c cs _ => hR.2 c cs (room_wide _)⟩
/-- What a round owes. -/
def RoundP (lo : Nat) (w0 : World) (J Jx : List Pt → World → Prop) (pre : List Pt) (x : Pt) (W : World) (e : Ending) (W' : World) : Prop :=
  KpP w0.heap.size lo W W' ∧ ((e = .returned (.bool true) ∧ J (pre ++ [x]) W') ∨ (e = .returned (.bool false) ∧ Jx (pre ++ [x]) W'))
def YieldsP (l lo N : Nat) (w0 : World) (L : List (List Nat × Tr)) (J Jx : List Pt → World → Prop) : Prop :=
  ∀ m pre x W, J pre W → PtX w0 lo L x W → pre.length < N → YieldAt Fence.wide m Tryd.prog l x.encs W (RoundP lo w0 J Jx pre x W)
/-- What the iterator owes for the parts xs. -/
def GivesP (lo : Nat) (w0 : World) (J Jx : List Pt → World → Prop) (pre : List Pt) (xs : List (List Nat × Tr)) (W : World) (e : Ending) (W' : World) : Prop :=
  KpP w0.heap.size lo W W' ∧ ((e = .returned (.bool true) ∧ ∃ ys, ys.map Pt.key = xs ∧ J (pre ++ ys) W') ∨ (e = .returned (.bool false) ∧ ∃ ys, ys.map Pt.key <+: xs ∧ Jx (pre ++ ys) W'))
theorem five_cells {w : World} {b : Nat} {v0 v1 v2 v3 v4 : Value} {t : TypeId} (h : w.heap[b]? = some (.cells #[v0, v1, v2, v3, v4] t (0, 0))) : w.cell? ⟨b, 0, none⟩ = some v0 ∧ w.cell? ⟨b, 1, none⟩ = some v1 ∧ w.cell? ⟨b, 2, none⟩ = some v2 ∧ w.cell? ⟨b, 3, none⟩ = some v3 ∧ w.cell? ⟨b, 4, none⟩ = some v4 := by
  simp [World.cell?, h]
attribute [local go_sem] Oper.semAt_some
end Go.Proofs.YtcpfjlbicofkeaaDoor

namespace Go.Proofs.YtcpfjlbicofkeaaDoor
open Go.Joins Go.ChangeShapes Go.WideShapes Go.ChangeAt Go.RowKit Go.Deep
set_option linter.unusedVariables false
set_option linter.unusedSimpArgs false

attribute [local go_sem] Oper.semAt_some
def TREEC (t : Tr) (A0 : Option Addr) (c0 : Nat) (A1 : Option Addr) (c1 : Nat) : Obj := .cells #[.int .i64 t.tag, .int .i64 t.key, .string t.text, .slice A0 t.ps.length c0, .slice A1 t.ks.length c1] 33
end Go.Proofs.YtcpfjlbicofkeaaDoor
