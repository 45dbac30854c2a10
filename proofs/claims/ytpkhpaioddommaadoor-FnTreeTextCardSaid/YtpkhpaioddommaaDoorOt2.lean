/- A tree with a part more: another text. -/
import Derived.Test.YtpkhpaioddommaaDoorOt1
import Derived.Test.YtpkhpaioddommaaDoorGd1
namespace Go.Proofs.YtpkhpaioddommaaDoor
open Go.Joins Go.ChangeShapes Go.WideShapes Go.ChangeAt Go.RowKit Go.Deep
set_option linter.unusedVariables false
set_option linter.unusedSimpArgs false

theorem kidsW_snoc (x : Tr) : ∀ ks : List Tr, (kidsW (ks ++ [x])).size = (kidsW ks).size + 1 + (wordsT x).size
  | [] => by
    have e1 : kidsW [] = ⟨#[]⟩ := by simp only [kidsW]
    have e2 : kidsW [x] = (⟨#[32]⟩ ++ wordsT x) ++ ⟨#[]⟩ := by simp only [kidsW]
    have e3 : (⟨#[32]⟩ : ByteArray).size = 1 := rfl
    have e4 : (⟨#[]⟩ : ByteArray).size = 0 := rfl
    rw [List.nil_append, e1, e2]
    simp only [ByteArray.size_append]
    omega
  | y :: ys => by
    have e1 : kidsW (y :: (ys ++ [x])) = (⟨#[32]⟩ ++ wordsT y) ++ kidsW (ys ++ [x]) := by simp only [kidsW]
    have e2 : kidsW (y :: ys) = (⟨#[32]⟩ ++ wordsT y) ++ kidsW ys := by simp only [kidsW]
    have h := kidsW_snoc x ys
    rw [List.cons_append, e1, e2]
    simp only [ByteArray.size_append]
    rw [h]
    omega
/-- The tree with a part more. -/
def moreT (tag key : Int) (ps : List Pr) (ks : List Tr) : Tr := .mk tag key ⟨#[]⟩ ps (ks ++ [leafT])
theorem more_other {tag key : Int} {text : ByteArray} {ps : List Pr} {ks : List Tr} (h0 : ¬ tag = -1) (hok : treeOkB (.mk tag key text ps ks) = true) : (treeTextV (moreT tag key ps ks)).toList ≠ (treeTextV (.mk tag key text ps ks)).toList := by
  intro e
  have e1 := congrArg List.length e
  rw [Lib.toList_data, Lib.toList_data, Array.length_toList, Array.length_toList, ByteArray.size_data, ByteArray.size_data] at e1
  have e2 : treeTextV (.mk tag key text ps ks) = wordsT (.mk tag key text ps ks) := by unfold treeTextV; rw [if_pos hok]
  have e3 := wordsT_pos (.mk tag key text ps ks)
  rw [e2] at e1
  unfold treeTextV at e1
  by_cases hm : treeOkB (moreT tag key ps ks) = true
  · rw [if_pos hm] at e1
    have e4 : wordsT (moreT tag key ps ks) = ((headW tag key ++ prsW ps) ++ kidsW (ks ++ [leafT])) ++ ⟨#[41]⟩ := wordsT_elem (t := moreT tag key ps ks) h0
    have e5 : wordsT (.mk tag key text ps ks) = ((headW tag key ++ prsW ps) ++ kidsW ks) ++ ⟨#[41]⟩ := wordsT_elem (t := .mk tag key text ps ks) h0
    have e6 := kidsW_snoc leafT ks
    rw [e4, e5] at e1
    simp only [ByteArray.size_append] at e1
    rw [e6] at e1
    omega
  · rw [if_neg hm] at e1
    have e7 : (⟨#[]⟩ : ByteArray).size = 0 := rfl
    omega
theorem more_sm {tag key : Int} {text : ByteArray} {ps : List Pr} {ks : List Tr} (h : SmT (.mk tag key text ps ks)) (hl : ks.length ≤ 1000) : SmT (moreT tag key ps ks) := by
  obtain ⟨s0, s1, s2, s3, s4⟩ := h.open_
  refine .mk (Nat.zero_le _) s1 s2 (by rw [List.length_append]; simp only [List.length_cons, List.length_nil, maxLen]; omega) (fun x hx => ?_)
  rcases List.mem_append.1 hx with hx | hx
  · exact s4 x hx
  · simp only [List.mem_cons, List.not_mem_nil, or_false] at hx
    subst hx
    exact SmT.mk (ps := []) (ks := []) (Nat.zero_le _) (Nat.zero_le _) (fun x hx => by cases hx) (Nat.zero_le _) (fun x hx => by cases hx)
theorem more_kw {tag key : Int} {text : ByteArray} {ps : List Pr} {ks : List Tr} (h : KwT (.mk tag key text ps ks)) : KwT (moreT tag key ps ks) := by
  obtain ⟨s0, s1, s2⟩ := h.open_
  refine .mk (fun x hx => ?_) (fun x hx => ?_) (Nat.zero_le _)
  · rcases List.mem_append.1 hx with hx | hx
    · exact s0 x hx
    · simp only [List.mem_cons, List.not_mem_nil, or_false] at hx
      subst hx
      exact small_wf _ (by show -1000 ≤ (-1 : Int) ∧ (-1 : Int) ≤ 1000; omega)
  · rcases List.mem_append.1 hx with hx | hx
    · exact s1 x hx
    · simp only [List.mem_cons, List.not_mem_nil, or_false] at hx
      subst hx
      exact KwT.mk (ks := []) (fun x hx => by cases hx) (fun x hx => by cases hx) (Nat.zero_le _)
theorem cells5 {w : World} {b : Nat} {v0 v1 v2 v3 v4 : Value} {t : TypeId} (h : w.heap[b]? = some (.cells #[v0, v1, v2, v3, v4] t (0, 0))) : w.cell? ⟨b, 0, none⟩ = some v0 ∧ w.cell? ⟨b, 1, none⟩ = some v1 ∧ w.cell? ⟨b, 2, none⟩ = some v2 ∧ w.cell? ⟨b, 3, none⟩ = some v3 ∧ w.cell? ⟨b, 4, none⟩ = some v4 := by
  simp [World.cell?, h]
theorem heap_far (w : World) (p : Addr) (k : Nat) (u : Value) (h : k ≠ p.block) : (w.setCell p u).heap[k]? = w.heap[k]? := Below.heap_setCell _ _ _ _ h
theorem own_set {w : World} {base n m : Nat} {e : TypeId} {v : Value} {xs : List Value} (ho : w.ownsRow base e n v m xs) {p : Addr} (hp : v.ownBlock ≠ some p.block) (u : Value) : (w.setCell p u).ownsRow base e n v m xs :=
  ho.kept (row := some p.block) ⟨rfl, rfl, rfl, by simp [World.setCell], fun k _ hk => heap_far w p k u (fun e => hk (by simp [e]))⟩ (.inr hp)
/-- The tree's own block is filled. -/
theorem RG.filled {base : Nat} {w0 w : World} {v : Value} {n g : Nat} {L : List Value} {g3 : Option Nat} (h : RG base w0 w (some (v, n, L)) g3 (some g)) (u0 u1 u2 u3 u4 : Value) :
    Below base w0 (((((w.setCell ⟨g, 0, none⟩ u0).setCell ⟨g, 1, none⟩ u1).setCell ⟨g, 2, none⟩ u2).setCell ⟨g, 3, none⟩ u3).setCell ⟨g, 4, none⟩ u4) ∧ (((((w.setCell ⟨g, 0, none⟩ u0).setCell ⟨g, 1, none⟩ u1).setCell ⟨g, 2, none⟩ u2).setCell ⟨g, 3, none⟩ u3).setCell ⟨g, 4, none⟩ u4).ownsRow base 26 5 v n L := by
  obtain ⟨h1, h2, h3⟩ := h.box g rfl
  have h4 := h3 _ _ _ rfl
  exact ⟨((((h.below.setCell (p := ⟨g, 0, none⟩) h1 u0).setCell (p := ⟨g, 1, none⟩) h1 u1).setCell (p := ⟨g, 2, none⟩) h1 u2).setCell (p := ⟨g, 3, none⟩) h1 u3).setCell (p := ⟨g, 4, none⟩) h1 u4,
    own_set (own_set (own_set (own_set (own_set (h.own _ _ _ rfl) (p := ⟨g, 0, none⟩) h4 u0) (p := ⟨g, 1, none⟩) h4 u1) (p := ⟨g, 2, none⟩) h4 u2) (p := ⟨g, 3, none⟩) h4 u3) (p := ⟨g, 4, none⟩) h4 u4⟩
end Go.Proofs.YtpkhpaioddommaaDoor
