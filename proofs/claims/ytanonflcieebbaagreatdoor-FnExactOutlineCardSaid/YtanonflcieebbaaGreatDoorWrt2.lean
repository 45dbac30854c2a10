/- Trees: what they are as a text, and how long it is. -/
import Derived.Test.YtanonflcieebbaaGreatDoorWrt1
import Derived.Test.YtanonflcieebbaaGreatDoorTre8
import Derived.Test.YtanonflcieebbaaGreatDoorTxt2
import Derived.Test.YtanonflcieebbaaGreatDoorTreM
import Derived.Test.YtanonflcieebbaaGreatDoorTre17
namespace Go.Proofs.YtanonflcieebbaaGreatDoor
open Go.Joins Go.ChangeShapes Go.WideShapes Go.ChangeAt Go.RowKit Go.Deep
set_option linter.unusedVariables false
set_option linter.unusedSimpArgs false

def prW (p : Pr) : ByteArray := (((⟨#[32, 112]⟩ : ByteArray) ++ itoaB p.nm) ++ ⟨#[61]⟩) ++ valW p.v.k p.v.n p.v.s
def prsW : List Pr → ByteArray
  | [] => ⟨#[]⟩
  | p :: ps => prW p ++ prsW ps
def headW (tag key : Int) : ByteArray := if key = -1 then (⟨#[40, 116]⟩ : ByteArray) ++ itoaB tag else ((⟨#[40, 116]⟩ : ByteArray) ++ itoaB tag) ++ (⟨#[32, 107]⟩ ++ itoaB key)
mutual
  /-- A tree as a text. -/
  def wordsT : Tr → ByteArray
    | .mk tag key text ps ks => if tag = -1 then q39 text else ((headW tag key ++ prsW ps) ++ kidsW ks) ++ ⟨#[41]⟩
  def kidsW : List Tr → ByteArray
    | [] => ⟨#[]⟩
    | x :: xs => (⟨#[32]⟩ ++ wordsT x) ++ kidsW xs
end
theorem prsW_drop {ps : List Pr} {k : Nat} {x : Pr} (hx : ps[k]? = some x) : prsW (ps.drop k) = prW x ++ prsW (ps.drop (k + 1)) := by
  obtain ⟨hk, he⟩ := List.getElem?_eq_some_iff.1 hx
  rw [List.drop_eq_getElem_cons hk, he]
  simp only [prsW]
theorem kidsW_drop {ks : List Tr} {k : Nat} {x : Tr} (hx : ks[k]? = some x) : kidsW (ks.drop k) = (⟨#[32]⟩ ++ wordsT x) ++ kidsW (ks.drop (k + 1)) := by
  obtain ⟨hk, he⟩ := List.getElem?_eq_some_iff.1 hx
  rw [List.drop_eq_getElem_cons hk, he]
  simp only [kidsW]
theorem wordsT_eq (t : Tr) : wordsT t = if t.tag = -1 then q39 t.text else ((headW t.tag t.key ++ prsW t.ps) ++ kidsW t.ks) ++ ⟨#[41]⟩ := by
  obtain ⟨_, _, _, _, _⟩ := t
  simp only [wordsT, Tr.ks, Tr.text, Tr.tag, Tr.key, Tr.ps]
  rfl
theorem wordsT_text {t : Tr} (h : t.tag = -1) : wordsT t = q39 t.text := by rw [wordsT_eq, if_pos h]
theorem wordsT_elem {t : Tr} (h : ¬ t.tag = -1) : wordsT t = ((headW t.tag t.key ++ prsW t.ps) ++ kidsW t.ks) ++ ⟨#[41]⟩ := by rw [wordsT_eq, if_neg h]
theorem q39_size (s : ByteArray) : (q39 s).size = s.size + 2 := by
  unfold q39
  rw [ByteArray.size_append, ByteArray.size_append]
  have e : (⟨#[39]⟩ : ByteArray).size = 1 := rfl
  omega
theorem itoaB_size (n : Int) (h0 : -9223372036854775807 ≤ n) (h1 : n ≤ 9223372036854775807) : (itoaB n).size ≤ 21 := by
  have e : (itoaB n).size = (Lib.itoa n).length := by unfold itoaB; exact List.size_toArray
  rw [e]
  unfold Lib.itoa
  split
  · have := dec_len20 n.natAbs (by omega)
    simp only [List.length_cons]
    omega
  · have := dec_len20 n.toNat (by omega)
    omega
/-- A prop of a valid part. -/
def PrOk (x : Pr) : Prop := 0 ≤ x.nm ∧ x.nm ≤ 3 ∧ validB x.v.k x.v.n x.v.s = true
theorem runP_ok : ∀ (xs : List Pr) (q : Option Int), runP q xs = true → ∀ x ∈ xs, PrOk x
  | [], _, _, x, hx => by cases hx
  | y :: ys, q, h, x, hx => by
    simp only [runP, Bool.and_eq_true] at h
    obtain ⟨h1, h2⟩ := h
    rw [prB_is, Bool.and_eq_true, Bool.and_eq_true] at h1
    have h3 := of_decide_eq_true h1.1
    rcases List.mem_cons.1 hx with rfl | hx
    · exact ⟨h3.1, h3.2, h1.2.1⟩
    · exact runP_ok ys _ h2 x hx
theorem runP_len : ∀ (xs : List Pr) (q : Int), runP (some q) xs = true → -1 ≤ q → q ≤ 3 → xs.length ≤ (3 - q).toNat
  | [], _, _, _, _ => by simp
  | y :: ys, q, h, h0, hq => by
    simp only [runP, Bool.and_eq_true] at h
    obtain ⟨h1, h2⟩ := h
    rw [prB_is, Bool.and_eq_true, Bool.and_eq_true] at h1
    have h3 := of_decide_eq_true h1.1
    have h4 : q < y.nm := by have := h1.2.2; unfold nxtN at this; exact of_decide_eq_true this
    have := runP_len ys y.nm h2 (by omega) (by omega)
    simp only [List.length_cons]
    omega
theorem runP_len4 {xs : List Pr} (h : runP none xs = true) : xs.length ≤ 4 := by
  cases xs with
  | nil => simp
  | cons y ys =>
    simp only [runP, Bool.and_eq_true] at h
    obtain ⟨h1, h2⟩ := h
    rw [prB_is, Bool.and_eq_true, Bool.and_eq_true] at h1
    have h3 := of_decide_eq_true h1.1
    have := runP_len ys y.nm h2 (by omega) (by omega)
    simp only [List.length_cons]
    omega
theorem valW_size {k n : Int} {s : ByteArray} (h : validB k n s = true) : (valW k n s).size ≤ 30 := by
  rcases valid_ways h with ⟨rfl, rfl, he⟩ | ⟨rfl, g1, g2, he⟩ | ⟨rfl, rfl, he⟩
  · exact (by decide : (⟨#[45]⟩ : ByteArray).size ≤ 30)
  · have := itoaB_size n (by omega) (by omega)
    have e : valW 1 n s = itoaB n := rfl
    rw [e]; omega
  · have e : valW 2 0 s = q39 s := rfl
    rw [e, q39_size]
    unfold wordB at he
    rw [Bool.and_eq_true] at he
    have := of_decide_eq_true he.1
    omega
theorem prW_size {x : Pr} (h : PrOk x) : (prW x).size ≤ 60 := by
  have h1 := valW_size h.2.2
  have h2 := itoaB_size x.nm (by have := h.1; omega) (by have := h.2.1; omega)
  unfold prW
  rw [ByteArray.size_append, ByteArray.size_append, ByteArray.size_append]
  have e1 : (⟨#[32, 112]⟩ : ByteArray).size = 2 := rfl
  have e2 : (⟨#[61]⟩ : ByteArray).size = 1 := rfl
  omega
theorem prsW_size : ∀ xs : List Pr, (∀ x ∈ xs, PrOk x) → (prsW xs).size ≤ 60 * xs.length
  | [], _ => by
    have e : prsW [] = ⟨#[]⟩ := rfl
    rw [e]
    exact Nat.zero_le _
  | x :: xs, h => by
    have e : prsW (x :: xs) = prW x ++ prsW xs := rfl
    have h1 := prW_size (h x (by simp))
    have h2 := prsW_size xs (fun y hy => h y (List.mem_cons_of_mem _ hy))
    rw [e, ByteArray.size_append, List.length_cons]
    omega
/-- A part of a valid tree: a text, or an element. -/
theorem node_ok {t : Tr} (h : treeOkB t = true) : (t.tag = -1 ∧ t.text.size ≤ 1000) ∨ (¬ t.tag = -1 ∧ 0 ≤ t.tag ∧ t.tag ≤ 4 ∧ -1 ≤ t.key ∧ t.key ≤ 99 ∧ runP none t.ps = true) := by
  unfold treeOkB at h
  rw [Bool.and_eq_true, vpT_eq, Bool.and_eq_true] at h
  have h1 := h.2.1
  by_cases ht : t.tag = -1
  · rw [partB_text ht] at h1
    simp only [Bool.and_eq_true] at h1
    refine .inl ⟨ht, ?_⟩
    have h2 := h1.2.1
    unfold shownB at h2
    rw [Bool.or_eq_true] at h2
    rcases h2 with h2 | h2
    · unfold wordB at h2
      rw [Bool.and_eq_true] at h2
      have := of_decide_eq_true h2.1
      omega
    · obtain ⟨i, hi, he⟩ := List.any_eq_true.1 h2
      have hi := List.mem_range.1 hi
      have he := of_decide_eq_true he
      have hz := itoaB_size (-((i + 1 : Nat) : Int)) (by omega) (by omega)
      have e : negS (i + 1) = itoaB (-((i + 1 : Nat) : Int)) := rfl
      rw [he, e]
      omega
  · rw [partB_elem ht] at h1
    simp only [Bool.and_eq_true] at h1
    have a1 := of_decide_eq_true h1.1
    have a2 := of_decide_eq_true h1.2.1
    exact .inr ⟨ht, a1.1, a1.2, a2.1, a2.2, h1.2.2.2.1⟩
theorem headW_size {tag key : Int} (h0 : 0 ≤ tag) (h1 : tag ≤ 4) (h2 : -1 ≤ key) (h3 : key ≤ 99) : (headW tag key).size ≤ 50 := by
  have a1 := itoaB_size tag (by omega) (by omega)
  have a2 := itoaB_size key (by omega) (by omega)
  have e1 : (⟨#[40, 116]⟩ : ByteArray).size = 2 := rfl
  have e2 : (⟨#[32, 107]⟩ : ByteArray).size = 2 := rfl
  unfold headW
  split
  · rw [ByteArray.size_append]; omega
  · rw [ByteArray.size_append, ByteArray.size_append, ByteArray.size_append]; omega
theorem kidsW_size : ∀ ks : List Tr, (∀ x ∈ ks, (wordsT x).size + 1 ≤ 1100 * sizeT x) → (kidsW ks).size ≤ 1100 * sizeL ks
  | [], _ => by
    have e : kidsW [] = ⟨#[]⟩ := by simp only [kidsW]
    rw [e]
    exact Nat.zero_le _
  | x :: xs, h => by
    have e1 : kidsW (x :: xs) = (⟨#[32]⟩ ++ wordsT x) ++ kidsW xs := by simp only [kidsW]
    have e2 : sizeL (x :: xs) = sizeT x + sizeL xs := by simp only [sizeL]
    have h1 := h x (by simp)
    have h2 := kidsW_size xs (fun y hy => h y (List.mem_cons_of_mem _ hy))
    have e3 : (⟨#[32]⟩ : ByteArray).size = 1 := rfl
    rw [e1, e2, ByteArray.size_append, ByteArray.size_append]
    omega
theorem wordsT_size : ∀ t, treeOkB t = true → (wordsT t).size + 1 ≤ 1100 * sizeT t := Tr.by_kids fun t ih h => by
  have h2 := kidsW_size t.ks (fun x hx => ih x hx (kid_valid h hx))
  rw [sizeT_eq]
  rcases node_ok h with ⟨h0, h1⟩ | ⟨h0, a0, a1, a2, a3, a4⟩
  · rw [wordsT_text h0, q39_size]
    omega
  · have h3 := headW_size a0 a1 a2 a3
    have h4 := prsW_size t.ps (runP_ok _ _ a4)
    have h5 := runP_len4 a4
    have e : (⟨#[41]⟩ : ByteArray).size = 1 := rfl
    rw [wordsT_elem h0, ByteArray.size_append, ByteArray.size_append, ByteArray.size_append]
    omega
/-- A valid tree's text has no more than 220,000 bytes. -/
theorem wordsT_max {t : Tr} (h : treeOkB t = true) : (wordsT t).size ≤ 220000 := by
  have h1 := wordsT_size t h
  obtain ⟨_, _, h2⟩ := treeB_yes (show treeB shownB t = true from h)
  omega
theorem wordsT_pos (t : Tr) : 0 < (wordsT t).size := by
  rw [wordsT_eq]
  split
  · rw [q39_size]; omega
  · rw [ByteArray.size_append]
    have e : (⟨#[41]⟩ : ByteArray).size = 1 := rfl
    omega
end Go.Proofs.YtanonflcieebbaaGreatDoor
