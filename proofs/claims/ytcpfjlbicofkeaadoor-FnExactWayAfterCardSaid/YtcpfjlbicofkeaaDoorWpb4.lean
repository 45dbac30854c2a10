/- The program's partnersOf: its map of rows. -/
import Derived.Test.YtcpfjlbicofkeaaDoorWpb3
import Derived.Test.YtcpfjlbicofkeaaDoorWpa1
import Derived.Maps.OwnSet
namespace Go.Proofs.YtcpfjlbicofkeaaDoor
open Go.Maps
open Go.Joins Go.ChangeShapes Go.WideShapes Go.ChangeAt Go.RowKit Go.Deep
set_option linter.unusedVariables false
set_option linter.unusedSimpArgs false

theorem grown0 {w w' : World} (h : Below w.heap.size w w') : w.grownBy w' none := ⟨h.os, h.tape, h.output, h.size, fun i hi _ => h.block i hi⟩
theorem natI_snoc (xs : List Nat) (k : Nat) : natI (xs ++ [k]) = natI xs ++ [(k : Int)] := by unfold natI; rw [List.map_append]; rfl
theorem zV_natI_len (xs : List Nat) : (zV (natI xs)).length = xs.length := by rw [zV_len, natI_len]
theorem row_not_map {w : World} {mb n base m e2 : Nat} {D : DataW Value} {v : Value} {xs : List Value} (ho : w.ownsMap Tryd.prog 53 RVk mb n D) (hr : w.ownsRow base 3 m v e2 xs) : v.ownBlock ≠ some mb := fun e => by
  obtain ⟨es, clock, hb, _⟩ := ho
  obtain ⟨cur, hc⟩ := own_cells hr e
  rw [hb] at hc
  injection hc with hc
  cases hc
/-- The map while the rows grow: V p, the row under the key p, holds where those of the kind p stand in ks. -/
structure QsI (w : World) (mb base k : Nat) (D : DataW Value) (V : Int × Int → Value) (ks : List (Int × Int)) : Prop where
  own : w.ownsMap Tryd.prog 53 RVk mb k D
  at_ : ∀ p, kW p → D.atKey (kL p) (.held (.slice none 0 0)) = .held (V p)
  row : ∀ p, w.ownsRow base 3 1 (V p) (posF 0 ks p).length (zV (natI (posF 0 ks p)))
  ap : ∀ p q g, p ≠ q → (V p).ownBlock = some g → (V q).ownBlock ≠ some g
theorem QsI.made (w : World) : QsI (w.alloc (.map #[] 0)) w.heap.size w.heap.size 0 (.map []) (fun _ => .slice none 0 0) [] :=
  ⟨World.ownsMap_made w Tryd.prog 53 RVk, fun p _ => rfl, fun p => World.ownsRow_nil _ _ _ _, fun p q g _ h => by simp [Value.ownBlock] at h⟩
theorem QsI.below {w w' : World} {mb base k : Nat} {D : DataW Value} {V : Int × Int → Value} {ks : List (Int × Int)} (h : QsI w mb base k D V ks) (hb : Below w.heap.size w w') : QsI w' mb base k D V ks :=
  ⟨h.own.kept (grown0 hb) (by simp), h.at_, fun p => ownsRow_below (h.row p) hb, h.ap⟩
theorem QsI.form {w : World} {mb base k : Nat} {D : DataW Value} {V : Int × Int → Value} {ks : List (Int × Int)} (h : QsI w mb base k D V ks) (p : Int × Int) : ∃ R c, V p = .slice R (posF 0 ks p).length c := by
  rcases (h.row p).2 with ⟨e, hn⟩ | ⟨g, cap, cur, e, _⟩
  · exact ⟨none, 0, by rw [e, hn]⟩
  · exact ⟨some ⟨g, 0, none⟩, cap, e⟩
theorem row_kept {w w' : World} {base m n : Nat} {e : TypeId} {v : Value} {xs : List Value} {row : Option Nat} (h : w.ownsRow base e m v n xs) (hg : w.grownBy w' row) (hne : ∀ g, v.ownBlock = some g → some g ≠ row) : w'.ownsRow base e m v n xs :=
  own_at h (fun g cur e2 hc => hg.block g (Array.getElem?_eq_some_iff.1 hc).1 (hne g e2))
theorem QsI.add {w w1 w2 w3 : World} {mb base k : Nat} {D : DataW Value} {V : Int × Int → Value} {ks : List (Int × Int)} {p : Int × Int} {v' : Value} (h : QsI w mb base k D V ks) (hp : kW p) (hg1 : w.grownBy w1 (some mb)) (hsz : w1.heap.size = w.heap.size)
    (hown2 : w2.ownsRow base 3 1 v' (posF 0 ks p ++ [ks.length]).length (zV (natI (posF 0 ks p ++ [ks.length])))) (hg2 : w1.grownBy w2 (V p).ownBlock) (hat : v'.ownBlock = (V p).ownBlock ∨ v'.ownBlock = some w1.heap.size)
    (hown3 : w3.ownsMap Tryd.prog 53 RVk mb (k + 1) (D.put (kL p) (.held v'))) (hg3 : w2.grownBy w3 (some mb)) : QsI w3 mb base (k + 1) (D.put (kL p) (.held v')) (fun q => if q = p then v' else V q) (ks ++ [p]) := by
  have hmb := h.own.lt
  have hvm : v'.ownBlock ≠ some mb := by
    rcases hat with e | e
    · rw [e]; exact row_not_map h.own (h.row p)
    · rw [e, hsz]; intro e2; injection e2 with e2; omega
  have hnew : ∀ q g, q ≠ p → (V q).ownBlock = some g → v'.ownBlock ≠ some g := fun q g hq e => by
    rcases hat with e2 | e2
    · rw [e2]; exact h.ap q p g hq e
    · rw [e2, hsz]; intro e3; injection e3 with e3; have := ((h.row q).lt g e).2; omega
  refine ⟨hown3, fun q hq => ?_, fun q => ?_, fun q r g hqr e => ?_⟩
  · by_cases hqp : q = p
    · subst hqp
      simp only [if_pos]
      rw [atKey_put_same h.own.isMap (lawK.key (key_kd hp))]
    · simp only [if_neg hqp]
      rw [atKey_put_other (fun e => hqp (kL_inj hq hp (by first | exact e | exact e.symm)))]
      exact h.at_ q hq
  · rw [posF_snoc]
    by_cases hqp : q = p
    · subst hqp
      simp only [if_pos, Nat.zero_add]
      exact row_kept hown2 hg3 (fun g e => by rw [← e]; exact hvm)
    · simp only [if_neg hqp, if_neg (fun e => hqp e.symm : ¬ p = q), List.append_nil]
      have r1 := row_kept (h.row q) hg1 (fun g e => by rw [← e]; exact row_not_map h.own (h.row q))
      have r2 := row_kept r1 hg2 (fun g e e2 => h.ap q p g hqp e e2.symm)
      exact row_kept r2 hg3 (fun g e => by rw [← e]; exact row_not_map h.own (h.row q))
  · by_cases hqp : q = p
    · subst hqp
      simp only [if_pos] at e
      simp only [if_neg (fun e => hqr e.symm : ¬ r = q)]
      intro e2
      exact hnew r g (fun e => hqr e.symm) e2 e
    · simp only [if_neg hqp] at e
      by_cases hrp : r = p
      · subst hrp
        simp only [if_pos]
        exact hnew q g hqp e
      · simp only [if_neg hrp]
        exact h.ap q r g hqr e
/-- The map while partners are taken. -/
structure QsJ (w : World) (mb lim k : Nat) (D : DataW Value) (V : Int × Int → Value) (A : List (Int × Int)) (tk : List Nat) : Prop where
  low : mb < lim
  own : w.ownsMap Tryd.prog 53 RVk mb k D
  at_ : ∀ p, kW p → D.atKey (kL p) (.held (.slice none 0 0)) = .held (V p)
  lie : ∀ p, ∃ R c, V p = .slice R (freeQ A tk p).length c ∧ (freeQ A tk p).length ≤ c ∧ IntL w R (natI (freeQ A tk p)) ∧ ∀ g o, R = some ⟨g, o, none⟩ → g < lim ∧ g ≠ mb
theorem IntL.kept {w w' : World} {R : Option Addr} {zs : List Int} (h : IntL w R zs) (hs : w.heap.size ≤ w'.heap.size) (hb : ∀ g o, R = some ⟨g, o, none⟩ → w'.heap[g]? = w.heap[g]?) : IntL w' R zs := fun h0 => by
  obtain ⟨b, off, e, hlt, hc⟩ := h h0
  exact ⟨b, off, e, Nat.lt_of_lt_of_le hlt hs, fun k z hz => (World.cell?_of_block (a := ⟨b, off + k, none⟩) (hb b off e)).trans (hc k z hz)⟩
theorem map_kept {w w' : World} {mb n : Nat} {D : DataW Value} (h : w.ownsMap Tryd.prog 53 RVk mb n D) (hb : w'.heap[mb]? = w.heap[mb]?) : w'.ownsMap Tryd.prog 53 RVk mb n D := by
  obtain ⟨es, clock, h1, h2⟩ := h
  exact ⟨es, clock, hb.trans h1, h2⟩
theorem QsI.done {w : World} {mb base k : Nat} {D : DataW Value} {V : Int × Int → Value} {A : List (Int × Int)} (h : QsI w mb base k D V A) : QsJ w mb w.heap.size k D V A [] :=
  ⟨h.own.lt, h.own, h.at_, fun p => by
    rw [freeQ_nil]
    have hr := h.row p
    rcases hr.2 with ⟨e, hn⟩ | ⟨g, cap, cur, e, hbg, hgg, hle, rest⟩
    · exact ⟨none, 0, by rw [e, hn], by rw [hn]; exact Nat.le_refl _, fun h0 => by rw [natI_len, hn] at h0; exact absurd h0 (by simp), fun g o e => by cases e⟩
    · rw [e] at hr
      refine ⟨some ⟨g, 0, none⟩, cap, e, hle, IntL.of_own (by rw [natI_len]; exact hr), fun g2 o e2 => by injection e2 with e2; injection e2 with e2; rw [← e2]; exact ⟨(hr.lt g rfl).2, fun e3 => row_not_map h.own hr (by rw [← e3]; rfl)⟩⟩⟩
theorem QsJ.keep {w w' : World} {mb lim k : Nat} {D : DataW Value} {V : Int × Int → Value} {A : List (Int × Int)} {tk : List Nat} (h : QsJ w mb lim k D V A tk) (hs : w.heap.size ≤ w'.heap.size) (hb : ∀ g, g < lim → w'.heap[g]? = w.heap[g]?) : QsJ w' mb lim k D V A tk :=
  ⟨h.low, map_kept h.own (hb mb h.low), h.at_, fun p => by
    obtain ⟨R, c, h1, h2, h3, h4⟩ := h.lie p
    exact ⟨R, c, h1, h2, h3.kept hs (fun g o e => hb g (h4 g o e).1), h4⟩⟩
theorem QsJ.more {w : World} {mb lim k : Nat} {D : DataW Value} {V : Int × Int → Value} {A : List (Int × Int)} {tk : List Nat} (h : QsJ w mb lim k D V A tk) {k' : Nat} (hk : k ≤ k') : QsJ w mb lim k' D V A tk := ⟨h.low, h.own.mono hk, h.at_, h.lie⟩
theorem QsJ.take {w w' : World} {mb lim k : Nat} {D : DataW Value} {V : Int × Int → Value} {A : List (Int × Int)} {tk qs : List Nat} {p : Int × Int} {q b o c : Nat} {R' : Option Addr} (h : QsJ w mb lim k D V A tk) (hp : kW p) (hq : freeQ A tk p = q :: qs) (hV : V p = .slice (some ⟨b, o, none⟩) (qs.length + 1) c)
    (hs : w.heap.size ≤ w'.heap.size) (hb : ∀ g, g < lim → g ≠ mb → w'.heap[g]? = w.heap[g]?)
    (hR : R' = some ⟨b, o + 1, none⟩ ∨ qs = [] ∧ R' = some ⟨b, o, none⟩) (hown : w'.ownsMap Tryd.prog 53 RVk mb (k + 1) (D.put (kL p) (.held (.slice R' qs.length (c - 1))))) : QsJ w' mb lim (k + 1) (D.put (kL p) (.held (.slice R' qs.length (c - 1)))) (fun r => if r = p then .slice R' qs.length (c - 1) else V r) A (q :: tk) := by
  have hAq := (freeQ_mem (A := A) (tk := tk) (k := p) (p := q) (by rw [hq]; simp)).1
  refine ⟨h.low, hown, fun r hr => ?_, fun r => ?_⟩
  · by_cases hrp : r = p
    · subst hrp
      simp only [if_pos]
      rw [atKey_put_same h.own.isMap (lawK.key (key_kd hp))]
    · simp only [if_neg hrp]
      rw [atKey_put_other (fun e => hrp (kL_inj hr hp (by first | exact e | exact e.symm)))]
      exact h.at_ r hr
  · by_cases hrp : r = p
    · subst hrp
      simp only [if_pos]
      obtain ⟨R, c2, h1, h2, h3, h4⟩ := h.lie r
      rw [hV, hq] at h1
      simp only [Value.slice.injEq, List.length_cons] at h1
      obtain ⟨rfl, _, rfl⟩ := h1
      rw [hq, List.length_cons] at h2
      rw [freeQ_take hq]
      refine ⟨_, _, rfl, by omega, fun h0 => ?_, fun g o2 e => by
        rcases hR with rfl | ⟨_, rfl⟩
        all_goals
          injection e with e
          injection e with e
          rw [← e]
          exact h4 b o rfl⟩
      rcases hR with rfl | ⟨rfl, _⟩
      case inr => exact absurd h0 (by simp [natI])
      obtain ⟨b2, o2, e, hlt, hc⟩ := h3 (by rw [hq, natI_len]; simp)
      injection e with e
      injection e with e1 e2
      subst e1 e2
      refine ⟨b, o + 1, rfl, Nat.lt_of_lt_of_le hlt hs, fun i z hz => ?_⟩
      have h5 := hc (i + 1) z (by rw [hq]; simpa [natI] using hz)
      rw [show o + 1 + i = o + (i + 1) by omega]
      exact (World.cell?_of_block (a := ⟨b, o + (i + 1), none⟩) (hb b (h4 b o rfl).1 (h4 b o rfl).2)).trans h5
    · simp only [if_neg hrp]
      obtain ⟨R, c2, h1, h2, h3, h4⟩ := h.lie r
      rw [freeQ_other hAq hrp]
      exact ⟨R, c2, h1, h2, h3.kept hs (fun g o2 e => hb g (h4 g o2 e).1 (h4 g o2 e).2), h4⟩
theorem zeroV_made (n : Nat) : (madeCells (Value.int .i64 0).cells (n * 1)).toList = zV (List.replicate n 0) := by
  refine List.ext_getElem? (fun i => ?_)
  unfold madeCells zV
  rw [Nat.mul_one, List.map_replicate]
  by_cases hi : i < n
  · rw [List.getElem?_replicate, if_pos hi]
    simp [Value.cells, Nat.mod_one, hi]
  · rw [List.getElem?_replicate, if_neg hi]
    simp [hi]
theorem rep_set {zs : List Int} {k m : Nat} (v : Int) (hz : zs.length = k) (hk : k < m) : (zV (zs ++ List.replicate (m - k) 0)).set k (.int .i64 v) = zV ((zs ++ [v]) ++ List.replicate (m - (k + 1)) 0) := by
  subst hz
  obtain ⟨r, hr⟩ : ∃ r, m - zs.length = r + 1 := ⟨m - zs.length - 1, by omega⟩
  rw [hr, show m - (zs.length + 1) = r by omega, List.replicate_succ]
  unfold zV
  simp
end Go.Proofs.YtcpfjlbicofkeaaDoor
