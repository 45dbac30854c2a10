/- Trees: their parts in order, each with the way to it; ways in memory. -/
import Derived.Test.YtpkhpaioddommaaDoorTxt2
import Derived.Test.YtpkhpaioddommaaDoorRngX
namespace Go.Proofs.YtpkhpaioddommaaDoor
open Go.Joins Go.ChangeShapes Go.WideShapes Go.ChangeAt Go.RowKit Go.Deep
set_option linter.unusedVariables false
set_option linter.unusedSimpArgs false

mutual
  /-- The parts, each ahead of those in it, with the ways to them. -/
  def partsT (way : List Nat) : Tr → List (List Nat × Tr)
    | .mk tag key text ps ks => (way, .mk tag key text ps ks) :: partsL way 0 ks
  def partsL (way : List Nat) (i : Nat) : List Tr → List (List Nat × Tr)
    | [] => []
    | x :: xs => partsT (way ++ [i]) x ++ partsL way (i + 1) xs
end
theorem partsT_eq (way : List Nat) (t : Tr) : partsT way t = (way, t) :: partsL way 0 t.ks := by
  obtain ⟨_, _, _, _, _⟩ := t
  simp only [partsT, Tr.ks]
theorem partsL_drop {way : List Nat} {ks : List Tr} {k : Nat} {x : Tr} (hx : ks[k]? = some x) : partsL way k (ks.drop k) = partsT (way ++ [k]) x ++ partsL way (k + 1) (ks.drop (k + 1)) := by
  obtain ⟨hk, he⟩ := List.getElem?_eq_some_iff.1 hx
  rw [List.drop_eq_getElem_cons hk, he]
  simp only [partsL]
theorem partsL_nil (way : List Nat) (i : Nat) : partsL way i [] = [] := by simp only [partsL]
theorem sizeL_drop {ks : List Tr} {k : Nat} {x : Tr} (hx : ks[k]? = some x) : sizeL (ks.drop k) = sizeT x + sizeL (ks.drop (k + 1)) := by
  obtain ⟨hk, he⟩ := List.getElem?_eq_some_iff.1 hx
  rw [List.drop_eq_getElem_cons hk, he]
  simp only [sizeL]
theorem partsL_length : ∀ (ks : List Tr) (way : List Nat) (i : Nat), (∀ x ∈ ks, ∀ way, (partsT way x).length = sizeT x) → (partsL way i ks).length = sizeL ks
  | [], way, i, _ => by simp only [partsL, sizeL, List.length_nil]
  | x :: xs, way, i, h => by
    simp only [partsL, sizeL, List.length_append]
    rw [h x (by simp), partsL_length xs way (i + 1) (fun y hy => h y (List.mem_cons_of_mem _ hy))]
theorem partsT_length : ∀ (t : Tr) (way : List Nat), (partsT way t).length = sizeT t := Tr.by_kids fun t ih way => by
  rw [partsT_eq, List.length_cons, partsL_length t.ks way 0 ih, sizeT_eq]
  omega
/-- All texts of parts. -/
def textsP : List (List Nat × Tr) → ByteArray
  | [] => ⟨#[]⟩
  | x :: xs => x.2.text ++ textsP xs
theorem ba_nil (a : ByteArray) : (⟨#[]⟩ : ByteArray) ++ a = a := ByteArray.empty_append
theorem ba_nil' (a : ByteArray) : a ++ (⟨#[]⟩ : ByteArray) = a := ByteArray.append_empty
theorem textsP_append : ∀ xs ys : List (List Nat × Tr), textsP (xs ++ ys) = textsP xs ++ textsP ys
  | [], ys => by simp only [List.nil_append, textsP]; rw [ba_nil]
  | x :: xs, ys => by simp only [List.cons_append, textsP]; rw [textsP_append xs ys, ByteArray.append_assoc]
theorem textsP_L : ∀ (ks : List Tr) (way : List Nat) (i : Nat), (∀ x ∈ ks, ∀ way, textsP (partsT way x) = textT x) → textsP (partsL way i ks) = textL ks
  | [], way, i, _ => by simp only [partsL, textL, textsP]
  | x :: xs, way, i, h => by
    simp only [partsL, textL]
    rw [textsP_append, h x (by simp), textsP_L xs way (i + 1) (fun y hy => h y (List.mem_cons_of_mem _ hy))]
theorem textsP_T : ∀ (t : Tr) (way : List Nat), textsP (partsT way t) = textT t := Tr.by_kids fun t ih way => by
  rw [partsT_eq, textT_eq]
  simp only [textsP]
  rw [textsP_L t.ks way 0 ih]
theorem textsP_le {B : Nat} : ∀ xs : List (List Nat × Tr), (∀ x ∈ xs, x.2.text.size ≤ B) → (textsP xs).size ≤ B * xs.length
  | [], _ => by simp only [textsP]; exact Nat.zero_le _
  | x :: xs, h => by
    have h1 := h x (by simp)
    have h2 := textsP_le xs (fun y hy => h y (List.mem_cons_of_mem _ hy))
    simp only [textsP, List.length_cons, ByteArray.size_append]
    rw [Nat.mul_add]
    omega
/-- What holds of a tree and, with a tree, of its Kids, holds of all parts. -/
theorem partsL_all {P : Tr → Prop} : ∀ (ks : List Tr) (way : List Nat) (i : Nat), (∀ x ∈ ks, ∀ way, ∀ y ∈ partsT way x, P y.2) → ∀ y ∈ partsL way i ks, P y.2
  | [], way, i, _, y, hy => by simp only [partsL] at hy; cases hy
  | x :: xs, way, i, h, y, hy => by
    simp only [partsL] at hy
    rcases List.mem_append.1 hy with hy | hy
    · exact h x (by simp) _ y hy
    · exact partsL_all xs way (i + 1) (fun z hz => h z (List.mem_cons_of_mem _ hz)) y hy
theorem partsT_all {P : Tr → Prop} (hP : ∀ t, P t → ∀ x ∈ t.ks, P x) : ∀ (t : Tr), P t → ∀ way, ∀ y ∈ partsT way t, P y.2 := Tr.by_kids fun t ih ht way y hy => by
  rw [partsT_eq] at hy
  rcases List.mem_cons.1 hy with rfl | hy
  · exact ht
  · exact partsL_all t.ks way 0 (fun x hx => ih x hx (hP t ht x hx)) y hy

/-- A part, as it is handed over: the way and the tree, and where they lie. -/
structure Pt where
  t : Tr
  A0 : Option Addr
  c0 : Nat
  A1 : Option Addr
  c1 : Nat
  way : List Nat
  Aw : Option Addr
  cw : Nat
def Pt.tree (x : Pt) : Value := .agg #[.int .i64 x.t.tag, .int .i64 x.t.key, .string x.t.text, .slice x.A0 x.t.ps.length x.c0, .slice x.A1 x.t.ks.length x.c1]
def Pt.encs (x : Pt) : Array Value := #[.slice x.Aw x.way.length x.cw, x.tree]
def Pt.key (x : Pt) : List Nat × Tr := (x.way, x.t)
def intV (ns : List Nat) : List Value := ns.map fun (n : Nat) => Value.int .i64 n
theorem intV_length (ns : List Nat) : (intV ns).length = ns.length * 1 := by simp [intV]
theorem intV_append (ns : List Nat) (k : Nat) : intV ns ++ [.int .i64 k] = intV (ns ++ [k]) := by simp [intV]
/-- A way, in a row from block lo on. -/
def WayR (lo : Nat) (W : World) (A : Option Addr) (c : Nat) (ns : List Nat) : Prop := W.ownsRow lo 3 1 (.slice A ns.length c) ns.length (intV ns)
/-- What holds of a part in memory as its round begins: w0 is the world in which the tree lies. -/
structure PtX (w0 : World) (lo : Nat) (L : List (List Nat × Tr)) (x : Pt) (W : World) : Prop where
  way : WayR lo W x.Aw x.cw x.way
  ps : PrL w0 x.A0 x.t.ps
  ks : TrL w0 0 x.A1 x.t.ks
  sm : SmT x.t
  mem : x.key ∈ L
  low : Below w0.heap.size w0 W
theorem WayR.block {lo : Nat} {W : World} {A : Option Addr} {c : Nat} {ns : List Nat} (h : WayR lo W A c ns) : A = none ∨ ∃ g cur, A = some ⟨g, 0, none⟩ ∧ lo ≤ g ∧ W.heap[g]? = some (.cells cur 3 (0, 0)) := by
  obtain ⟨_, ⟨e, _⟩ | ⟨g, cap, cur, e, hlo, hg, _⟩⟩ := h
  · injection e with e; exact .inl e
  · injection e with e; exact .inr ⟨g, cur, e, hlo, hg⟩
theorem WayR.moved {lo : Nat} {W W' : World} {A : Option Addr} {c : Nat} {ns : List Nat} (h : WayR lo W A c ns) (hb : ∀ g cur, A = some ⟨g, 0, none⟩ → W.heap[g]? = some (.cells cur 3 (0, 0)) → W'.heap[g]? = W.heap[g]?) : WayR lo W' A c ns := by
  obtain ⟨hl, ⟨e, hn⟩ | ⟨g, cap, cur, e, hlo, hg, r⟩⟩ := h
  · exact ⟨hl, .inl ⟨e, hn⟩⟩
  · have e' := e
    injection e' with e1
    exact ⟨hl, .inr ⟨g, cap, cur, e, hlo, (hb g cur e1 hg).trans hg, r⟩⟩
theorem WayR.later {lo : Nat} {W W' : World} {A : Option Addr} {c : Nat} {ns : List Nat} (h : WayR lo W A c ns) (hb : Below W.heap.size W W') : WayR lo W' A c ns :=
  h.moved fun g cur _ hg => hb.block g (Array.getElem?_eq_some_iff.1 hg).1
theorem WayR.put {lo : Nat} {W : World} {A : Option Addr} {c : Nat} {ns : List Nat} (h : WayR lo W A c ns) {l : Nat} {o : Obj} (o' : Obj) (hl : W.heap[l]? = some o) (ho : o.isCells = false) : WayR lo (W.putObj l o') A c ns :=
  h.moved fun g cur _ hg => World.putObj_heap_other fun e => by
    subst e
    rw [hg] at hl
    injection hl with hl
    rw [← hl] at ho
    cases ho
theorem WayR.nil (lo : Nat) (W : World) : WayR lo W none 0 [] := World.ownsRow_nil _ _ _ _
/-- What the iterator's own blocks hold: numbers, trees. -/
def OwnK (e : TypeId) : Prop := e = 3 ∨ e = 26
/-- What a round keeps: all below m, and whole numbers in rows and trees in boxes from lo on. -/
structure KpP (m lo : Nat) (W W' : World) : Prop where
  low : Below m W W'
  row : ∀ g cur e, lo ≤ g → OwnK e → W.heap[g]? = some (.cells cur e (0, 0)) → W'.heap[g]? = W.heap[g]?
theorem KpP.refl (m lo : Nat) (W : World) : KpP m lo W W := ⟨Below.refl _ _, fun _ _ _ _ _ _ => rfl⟩
theorem KpP.trans {m lo : Nat} (A B C : World) (h : KpP m lo A B) (k : KpP m lo B C) : KpP m lo A C :=
  ⟨h.low.trans k.low, fun g cur e hg he hc => (k.row g cur e hg he ((h.row g cur e hg he hc).trans hc)).trans (h.row g cur e hg he hc)⟩
theorem KpP.later {m lo : Nat} {W W' : World} (h : Below W.heap.size W W') (hm : m ≤ W.heap.size) : KpP m lo W W' :=
  ⟨h.mono hm, fun g cur _ _ _ hc => h.block g (Array.getElem?_eq_some_iff.1 hc).1⟩
/-- A round that writes below lo and makes blocks. -/
theorem KpP.of_below {m lo : Nat} {W W' : World} (h : Below m W W') (h2 : ∀ g, lo ≤ g → g < W.heap.size → W'.heap[g]? = W.heap[g]?) : KpP m lo W W' :=
  ⟨h, fun g cur _ hg _ hc => h2 g hg (Array.getElem?_eq_some_iff.1 hc).1⟩
theorem KpP.put {m lo : Nat} {w : World} (hm : m ≤ w.heap.size) (W : World) (l : Nat) (o o' : Obj) (hl : w.heap.size ≤ l) (h : W.heap[l]? = some o) (ho : o.isCells = false) : KpP m lo W (W.putObj l o') :=
  ⟨(Below.refl m W).grown (grownBy_putObj' W l o') (by have := (Array.getElem?_eq_some_iff.1 h).1; omega) (fun k e => by cases e; omega), fun g cur _ hg _ hc => World.putObj_heap_other fun e => by
    subst e
    rw [hc] at h
    injection h with h
    rw [← h] at ho
    cases ho⟩
theorem WayR.kept {m lo : Nat} {W W' : World} {A : Option Addr} {c : Nat} {ns : List Nat} (h : WayR lo W A c ns) (hk : KpP m lo W W') : WayR lo W' A c ns := by
  rcases h.block with e | ⟨g, cur, e, hlo, hg⟩
  · exact h.moved fun g cur e' _ => by rw [e] at e'; cases e'
  · exact h.moved fun g' cur' e' hg' => hk.row g' cur' _ (by rw [e] at e'; injection e' with e'; injection e' with e'; omega) (.inl rfl) hg'
theorem PtX.spares {w0 : World} {lo : Nat} {L : List (List Nat × Tr)} {B : Nat} (hB : w0.heap.size ≤ B) : Spares B (PtX w0 lo L) := fun x W l o o' h hl ho hc =>
  ⟨h.way.put o' ho hc, h.ps, h.ks, h.sm, h.mem, (h.low).grown (grownBy_putObj' W l o') h.low.size (fun k e => by cases e; omega)⟩
theorem PtX.stays {w0 : World} {lo : Nat} {L : List (List Nat × Tr)} : Stays (PtX w0 lo L) := fun x W W' h hb =>
  ⟨h.way.later hb, h.ps, h.ks, h.sm, h.mem, h.low.trans (hb.mono h.low.size)⟩
theorem KpP.cell {m lo g off : Nat} {W W' : World} {cur : Array Value} {e : TypeId} {v : Value} (h : KpP m lo W W') (hg : lo ≤ g) (he : OwnK e) (hb : W.heap[g]? = some (.cells cur e (0, 0))) (hc : W.cell? ⟨g, off, none⟩ = some v) : W'.cell? ⟨g, off, none⟩ = some v :=
  (World.cell?_of_block (a := ⟨g, off, none⟩) (h.row g cur e hg he hb)).trans hc
end Go.Proofs.YtpkhpaioddommaaDoor
