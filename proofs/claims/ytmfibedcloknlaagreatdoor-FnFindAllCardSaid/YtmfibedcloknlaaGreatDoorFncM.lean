/- Fnc1, Fnc2 in one text. -/
import Derived.Test.YtmfibedcloknlaaGreatDoorFnaM
import Derived.Test.YtmfibedcloknlaaGreatDoorLkM4
import Derived.Test.YtmfibedcloknlaaGreatDoorDrTM
import Derived.Test.YtmfibedcloknlaaGreatDoorDrwR
import Derived.Deep.RegionHeld3
namespace Go.Proofs.YtmfibedcloknlaaGreatDoor
open Go.Joins Go.ChangeShapes Go.WideShapes Go.ChangeAt Go.RowKit Go.Deep
set_option linter.unusedVariables false
set_option linter.unusedSimpArgs false

set_option maxHeartbeats 1000000 in
theorem sameRows_any (A B : Option Addr) (c d n : Nat) (xss : List (List Int)) (w : World) (hx : RwL w A xss) (hy : RwL w B xss) (hn : xss.length = n) (hl : n ≤ maxLen) (hs : ∀ zs ∈ xss, zs.length ≤ maxLen) :
  Calls Tryz.prog 10 #[.slice A n c, .slice B n d] w fun e w' => e = .returned (.bool true) ∧ Below w.heap.size w w' := by
 unfold maxLen at hl
 have HX := Lib.hid hx
 have HY := Lib.hid hy
 have HN := Lib.hid hn
 have HS := Lib.hid hs
 clear hx hy hn hs
 go_enter Tryz.func10, Tryz.ntmps10
 go_wp2_with fail
 go_loopw [5] (fun i wr => ∃ k : Nat, k ≤ n ∧ i = .int .i64 k ∧ Hid (Below w.heap.size w wr)) (fun i _ => n - (intOf i).toNat)
 case atStart => exact ⟨0, by omega, rfl, Lib.hid (Below.refl _ _)⟩
 case round =>
  obtain ⟨k, hk, rfl, HB⟩ := hrel
  by_cases hlt : k < n
  ·obtain ⟨x, hx⟩ := at_some (show k < xss.length by rw [HN.out]; exact hlt)
   obtain ⟨b, off, B0, d0, rfl, hblt, e0, hi0⟩ := (HX.out.below HB.out).at_ hx
   obtain ⟨b', off', B1, d1, rfl, hblt', e1, hi1'⟩ := (HY.out.below HB.out).at_ hx
   have hi1 : (0 : Int) ≤ (k : Int) := by omega
   have hi2 : (k : Int) < (n : Int) := by omega
   have hk6 := fun w h1 h2 => eqM_any B0 B1 d0 d1 x x w h1 h2 (HS.out x (List.mem_of_getElem? hx)) (HS.out x (List.mem_of_getElem? hx))
   rw [decide_eq_true rfl] at hk6
   have K6 := Lib.hid hk6
   have HI0 := Lib.hid hi0
   have HI1 := Lib.hid hi1'
   have hB := HB.out
   clear hx hi0 hi1' hk6 HB
   go_wp2_with fail
   go_region_held3 (fun w' => w'.cell? ⟨b, off + k, none⟩ = some (.slice B0 x.length d0) ∧ w'.cell? ⟨b', off' + k, none⟩ = some (.slice B1 x.length d1)) (go_keep) (first | (go_at_call 40; ((with_reducible refine (K6.out _ (HI0.out.below (by go_grown)) (HI1.out.below (by go_grown))).mono ?_); rintro e w' ⟨rfl, hb⟩); replace e0 := (hb.cell (p := ⟨b, off + k, none⟩) (by first | omega | (simp; done) | (simp; omega))).trans e0; replace e1 := (hb.cell (p := ⟨b', off' + k, none⟩) (by first | omega | (simp; done) | (simp; omega))).trans e1; replace hB := more (W1 := _) (B := w.heap.size) (W0 := w) (by go_grown) (Nat.le_refl _) hb; clear hb))
   go_wp2_with fail
   go_roundw
   case rel => exact ⟨k + 1, by omega, by go_num, Lib.hid hB⟩
   case measure => simp [intOf]; omega
  ·obtain rfl : k = n := by omega
   go_wp2_with fail
   go_ret
   exact ⟨rfl, HB.out⟩
/-- Whole numbers within bounds. -/
def InZ (lo hi : Int) (r : List Int) : Prop := ∀ z ∈ r, lo ≤ z ∧ z ≤ hi
theorem stepS_in {M tag : Int} {ps : List Pr} {ab : List Int} {s : List Int × List Int} {x : Ru} (h : InZ 0 M s.1) (hx : 0 ≤ x.g ∧ x.g ≤ M) : InZ 0 M (stepS tag ps ab s x).1 := by
 unfold stepS
 split
 ·intro z hz
  rcases List.mem_or_eq_of_mem_set hz with hz | rfl
  ·exact h z hz
  ·exact hx
 ·exact h
theorem rowS_in {M tag mark : Int} {ps : List Pr} {ab : List Int} {list : List Ru} (hM : 0 ≤ M) (hm : 0 ≤ mark ∧ mark ≤ M) (hx : ∀ x ∈ list, 0 ≤ x.g ∧ x.g ≤ M) : InZ 0 M (ownS list tag ps ab mark) := by
 have h0 : InZ 0 M [0, 0, 0, 0, mark] := by
  intro z hz
  simp at hz
  rcases hz with rfl | rfl
  ·exact ⟨Int.le_refl _, hM⟩
  ·exact hm
 unfold ownS
 split
 ·exact h0
 ·unfold rowS
  have H : ∀ (gs : List Ru) (s : List Int × List Int), (∀ x ∈ gs, 0 ≤ x.g ∧ x.g ≤ M) → InZ 0 M s.1 → InZ 0 M (gs.foldl (stepS tag ps ab) s).1 := by
   intro gs
   induction gs with
   | nil => intro s _ hs; exact hs
   | cons x gs ih => intro s hg hs; exact ih _ (fun y hy => hg y (List.mem_cons_of_mem _ hy)) (stepS_in hs (hg x (by simp)))
  exact H list _ hx h0
theorem lksT_in {M : Int} {list : List Ru} (hM : 0 ≤ M) (hx : ∀ x ∈ list, 0 ≤ x.g ∧ x.g ≤ M) : ∀ (t : Tr) (ab : List Int) (mark : Int), 0 ≤ mark ∧ mark ≤ M → ∀ r ∈ lksT list ab mark t, InZ 0 M r := Tr.by_kids fun t ih ab mark hm r hr => by
 rw [lksT_eq] at hr
 have hown := rowS_in (tag := t.tag) (ps := t.ps) (ab := ab) hM hm hx
 rcases List.mem_cons.1 hr with rfl | hr
 ·exact hown
 ·have hmk : (0 : Int) ≤ (ownS list t.tag t.ps ab mark)[4]?.getD 0 ∧ (ownS list t.tag t.ps ab mark)[4]?.getD 0 ≤ M := by
   cases h4 : (ownS list t.tag t.ps ab mark)[4]? with
   | none => exact ⟨Int.le_refl _, hM⟩
   | some z => exact hown z (List.mem_of_getElem? h4)
  have H : ∀ (ks : List Tr), (∀ x ∈ ks, x ∈ t.ks) → ∀ (ab : List Int) (mark : Int), 0 ≤ mark ∧ mark ≤ M → ∀ r ∈ lksL list ab mark ks, InZ 0 M r := by
   intro ks
   induction ks with
   | nil => intro _ ab mark _ r hr; rw [lksL_nil] at hr; cases hr
   | cons x ks ih2 =>
    intro hk ab mark hm r hr
    rw [lksL_cons] at hr
    rcases List.mem_append.1 hr with hr | hr
    ·exact ih x (hk x (by simp)) ab mark hm r hr
    ·exact ih2 (fun y hy => hk y (List.mem_cons_of_mem _ hy)) ab mark hm r hr
  exact H t.ks (fun x hx => hx) _ _ hmk r hr
def wideB (r : List Int) : Bool := decide ((0 : Int) < r[0]?.getD 0)
theorem sel_count {α : Type} : ∀ (zs : List (List Int)) (ys : List α), zs.length = ys.length → (∀ r ∈ zs, InZ 0 1 r) → (selP zs ys).length = (zs.filter wideB).length
 | [], ys, _, _ => by cases ys <;> rfl
 | z :: zs, [], h, _ => by simp at h
 | z :: zs, y :: ys, h, hz => by
  have ih := sel_count zs ys (by simpa using h) (fun r hr => hz r (List.mem_cons_of_mem _ hr))
  have hb : (0 : Int) ≤ z[0]?.getD 0 ∧ z[0]?.getD 0 ≤ (1 : Int) := by
   cases h0 : z[0]? with
   | none => exact ⟨Int.le_refl _, by decide⟩
   | some v => exact hz z (by simp) v (List.mem_of_getElem? h0)
  simp only [selP]
  by_cases h1 : z[0]?.getD 0 = 1
  ·have hw : wideB z = true := by unfold wideB; rw [h1]; decide
   rw [if_pos h1, List.filter_cons, hw, List.length_cons, ih]
   rfl
  ·have hw : wideB z = false := by unfold wideB; exact decide_eq_false (by omega)
   rw [if_neg h1, List.filter_cons, hw, ih]
   rfl
theorem fa_count {x : Ru} {t : Tr} (h : treeOkB t = true) (h2 : ruleB x = true) : (faV x t).length = ((lookV [x.on] t).filter wideB).length := by
 have h3 : rulesB [x.on] = true := by
  unfold rulesB
  rw [Bool.and_eq_true]
  refine ⟨by simp, ?_⟩
  simp only [List.all_cons, List.all_nil, Bool.and_true]
  exact on_ok h2
 have e1 : faV x t = findA x t := by unfold faV; rw [h, h2]; rfl
 have e2 : lookV [x.on] t = lksT [x.on] [] 0 t := by unfold lookV; rw [h, h3]; rfl
 rw [e1, e2]
 unfold findA
 rw [List.length_map]
 exact sel_count _ _ (by rw [lksT_len, partsT_length]) (lksT_in (by decide) (fun y hy => by
  obtain rfl := List.mem_singleton.1 hy
  exact ⟨show (0 : Int) ≤ 1 by decide, show (1 : Int) ≤ 1 by decide⟩) t [] 0 (by decide))
theorem wide_take {xss : List (List Int)} {k : Nat} {r : List Int} (h : xss[k]? = some r) : ((xss.take (k + 1)).filter wideB).length = ((xss.take k).filter wideB).length + (if wideB r = true then 1 else 0) := by
 obtain ⟨hk, e⟩ := List.getElem?_eq_some_iff.1 h
 rw [List.take_succ_eq_append_getElem hk, e, List.filter_append, List.length_append]
 by_cases hr : wideB r = true
 ·rw [if_pos hr, List.filter_cons, if_pos hr]; rfl
 ·rw [if_neg hr, List.filter_cons, if_neg hr]; rfl
theorem wide_le (xss : List (List Int)) (k : Nat) : ((xss.take k).filter wideB).length ≤ k := Nat.le_trans (List.filter_sublist).length_le (List.length_take_le k xss)
set_option maxHeartbeats 1000000 in
theorem countWide_any (A : Option Addr) (c n : Nat) (xss : List (List Int)) (w : World) (hx : RwL w A xss) (hn : xss.length = n) (hl : n ≤ 1000000) (h5 : ∀ r ∈ xss, r.length = 5) :
  Calls Tryz.prog 18 #[.slice A n c] w fun e w' => e = .returned (.int .i64 ((xss.filter wideB).length : Nat)) ∧ w' = w := by
 have HN := Lib.hid hn
 have HX := Lib.hid hx
 have H5 := Lib.hid h5
 clear hx hn h5
 go_enter Tryz.func18, Tryz.ntmps18
 go_wp2_with fail
 go_loop [3, 4] (fun m i => ∃ k : Nat, k ≤ n ∧ i = .int .i64 k ∧ m = .int .i64 (((xss.take k).filter wideB).length : Nat)) (fun _ i => n - (intOf i).toNat)
 case atStart => exact ⟨0, by omega, rfl, rfl⟩
 case round =>
  obtain ⟨k, hk, rfl, rfl⟩ := hrel
  by_cases hlt : k < n
  ·obtain ⟨x, hx⟩ := at_some (show k < xss.length by rw [HN.out]; exact hlt)
   obtain ⟨b, off, B0, d0, rfl, hblt, e0, hi0⟩ := HX.out.at_ hx
   have hx5 := H5.out x (List.mem_of_getElem? hx)
   rw [hx5] at e0
   obtain ⟨z, hz⟩ := at_some (show 0 < x.length by rw [hx5]; decide)
   obtain ⟨b', off', rfl, hblt', c0⟩ := hi0.at_ hz
   simp only [Nat.add_zero] at c0
   have hw := wide_take hx
   have hwl := wide_le xss k
   have hzz : wideB x = decide (0 < z) := by unfold wideB; rw [hz]; rfl
   rw [hzz] at hw
   obtain ⟨m, hm⟩ : ∃ m, ((xss.take k).filter wideB).length = m := ⟨_, rfl⟩
   rw [hm] at hw hwl ⊢
   have HW := Lib.hid hw
   have hi1 : (0 : Int) ≤ (k : Int) := by omega
   have hi2 : (k : Int) < (n : Int) := by omega
   clear hx hi0 hx5 hz hw hm hzz
   by_cases hp : 0 < z
   ·have hp2 : decide (0 < z) = true := by simpa using hp
    rw [hp2, if_pos rfl] at HW
    go_wp2_with fail
    go_round
    case rel => exact ⟨k + 1, by omega, by go_num, by rw [HW.out]; go_num⟩
    case measure => simp [intOf]; omega
   ·have hp2 : decide (0 < z) = false := by simpa using hp
    rw [hp2, if_neg (by decide)] at HW
    go_wp2_with fail
    go_round
    case rel => exact ⟨k + 1, by omega, by go_num, by rw [HW.out]; rfl⟩
    case measure => simp [intOf]; omega
  ·obtain rfl : k = n := by omega
   have he : xss.take k = xss := List.take_of_length_le (by rw [HN.out]; exact Nat.le_refl _)
   rw [he]
   go_wp2_with fail
   go_ret
   exact ⟨rfl, rfl⟩
end Go.Proofs.YtmfibedcloknlaaGreatDoor

namespace Go.Proofs.YtmfibedcloknlaaGreatDoor
open Go.Joins Go.ChangeShapes Go.WideShapes Go.ChangeAt Go.RowKit Go.Deep
open List renaming getElem_toArray → qa, getElem_cons_zero → qb, getElem_cons_succ → qc, setIfInBounds_toArray → qd, set_cons_zero → qe, set_cons_succ → qf
set_option linter.unusedVariables false
set_option linter.unusedSimpArgs false

def DrawFA (w : World) (e : Ending) (w' : World) : Prop :=
 ∃ (A0 : Option Addr) (c0 : Nat) (A1 : Option Addr) (c1 : Nat) (t : Tr) (x : Ru), e = .returned (.tuple #[.agg #[.int .i64 t.tag, .int .i64 t.key, .string t.text, .slice A0 t.ps.length c0, .slice A1 t.ks.length c1], .agg #[.int .i64 x.t, .int .i64 x.a, .int .i64 x.nm, .int .i64 x.v.k, .int .i64 x.v.n, .string x.v.s, .int .i64 x.l, .int .i64 x.g]]) ∧ PrL w' A0 t.ps ∧ TrL w' 0 A1 t.ks ∧ GdT t ∧ Below w.heap.size w w'
theorem own_below {w w' : World} {base b c : Nat} {xs : List Ru} (h : OwnR w base b c xs) (hb : Below w.heap.size w w') : OwnR w' base b c xs := ownsRow_below h hb
theorem put5 {w w0 : World} {B lo : Nat} {u0 u1 u2 u3 u4 : Value} (h0 : w.cell? ⟨B, 0, none⟩ = some u0) (h1 : w.cell? ⟨B, 1, none⟩ = some u1) (h2 : w.cell? ⟨B, 2, none⟩ = some u2) (h3 : w.cell? ⟨B, 3, none⟩ = some u3) (h4 : w.cell? ⟨B, 4, none⟩ = some u4) (hf : ∀ o, w.frozen? ⟨B, o, none⟩ = false) (v0 v1 v2 v3 v4 : Value) (hb : Below lo w0 w) (hlo : lo ≤ B) :
  ∃ w', (((((w.setCell ⟨B, 0, none⟩ v0).setCell ⟨B, 1, none⟩ v1).setCell ⟨B, 2, none⟩ v2).setCell ⟨B, 3, none⟩ v3).setCell ⟨B, 4, none⟩ v4) = w' ∧ (∀ k, k ≠ B → w'.heap[k]? = w.heap[k]?) ∧ (∀ b o, b ≠ B → w'.frozen? ⟨b, o, none⟩ = w.frozen? ⟨b, o, none⟩) ∧ w'.heap.size = w.heap.size ∧ w'.cell? ⟨B, 0, none⟩ = some v0 ∧ w'.cell? ⟨B, 1, none⟩ = some v1 ∧ w'.cell? ⟨B, 2, none⟩ = some v2 ∧ w'.cell? ⟨B, 3, none⟩ = some v3 ∧ w'.cell? ⟨B, 4, none⟩ = some v4 ∧ (∀ o, w'.frozen? ⟨B, o, none⟩ = false) ∧ Below lo w0 w' := by
 have hh : ∀ k, k ≠ B → ((((((w.setCell ⟨B, 0, none⟩ v0).setCell ⟨B, 1, none⟩ v1).setCell ⟨B, 2, none⟩ v2).setCell ⟨B, 3, none⟩ v3).setCell ⟨B, 4, none⟩ v4)).heap[k]? = w.heap[k]? := fun k hk => by rw [Below.heap_setCell _ _ _ _ hk, Below.heap_setCell _ _ _ _ hk, Below.heap_setCell _ _ _ _ hk, Below.heap_setCell _ _ _ _ hk, Below.heap_setCell _ _ _ _ hk]
 exact ⟨_, rfl, hh, fun b o hk => by simp only [World.frozen?, hh b hk], by simp [World.setCell], (by go_simp), (by go_simp), (by go_simp), (by go_simp), (by go_simp), fun o => by go_simp, (((((hb.setCell (p := ⟨B, 0, none⟩) hlo v0).setCell (p := ⟨B, 1, none⟩) hlo v1).setCell (p := ⟨B, 2, none⟩) hlo v2).setCell (p := ⟨B, 3, none⟩) hlo v3).setCell (p := ⟨B, 4, none⟩) hlo v4)⟩
theorem put8 {w w0 : World} {B lo : Nat} {u0 u1 u2 u3 u4 u5 u6 u7 : Value} (h0 : w.cell? ⟨B, 0, none⟩ = some u0) (h1 : w.cell? ⟨B, 1, none⟩ = some u1) (h2 : w.cell? ⟨B, 2, none⟩ = some u2) (h3 : w.cell? ⟨B, 3, none⟩ = some u3) (h4 : w.cell? ⟨B, 4, none⟩ = some u4) (h5 : w.cell? ⟨B, 5, none⟩ = some u5) (h6 : w.cell? ⟨B, 6, none⟩ = some u6) (h7 : w.cell? ⟨B, 7, none⟩ = some u7) (hf : ∀ o, w.frozen? ⟨B, o, none⟩ = false) (v0 v1 v2 v3 v4 v5 v6 v7 : Value) (hb : Below lo w0 w) (hlo : lo ≤ B) :
  ∃ w', ((((((((w.setCell ⟨B, 0, none⟩ v0).setCell ⟨B, 1, none⟩ v1).setCell ⟨B, 2, none⟩ v2).setCell ⟨B, 3, none⟩ v3).setCell ⟨B, 4, none⟩ v4).setCell ⟨B, 5, none⟩ v5).setCell ⟨B, 6, none⟩ v6).setCell ⟨B, 7, none⟩ v7) = w' ∧ (∀ k, k ≠ B → w'.heap[k]? = w.heap[k]?) ∧ (∀ b o, b ≠ B → w'.frozen? ⟨b, o, none⟩ = w.frozen? ⟨b, o, none⟩) ∧ w'.heap.size = w.heap.size ∧ w'.cell? ⟨B, 0, none⟩ = some v0 ∧ w'.cell? ⟨B, 1, none⟩ = some v1 ∧ w'.cell? ⟨B, 2, none⟩ = some v2 ∧ w'.cell? ⟨B, 3, none⟩ = some v3 ∧ w'.cell? ⟨B, 4, none⟩ = some v4 ∧ w'.cell? ⟨B, 5, none⟩ = some v5 ∧ w'.cell? ⟨B, 6, none⟩ = some v6 ∧ w'.cell? ⟨B, 7, none⟩ = some v7 ∧ (∀ o, w'.frozen? ⟨B, o, none⟩ = false) ∧ Below lo w0 w' := by
 have hh : ∀ k, k ≠ B → (((((((((w.setCell ⟨B, 0, none⟩ v0).setCell ⟨B, 1, none⟩ v1).setCell ⟨B, 2, none⟩ v2).setCell ⟨B, 3, none⟩ v3).setCell ⟨B, 4, none⟩ v4).setCell ⟨B, 5, none⟩ v5).setCell ⟨B, 6, none⟩ v6).setCell ⟨B, 7, none⟩ v7)).heap[k]? = w.heap[k]? := fun k hk => by rw [Below.heap_setCell _ _ _ _ hk, Below.heap_setCell _ _ _ _ hk, Below.heap_setCell _ _ _ _ hk, Below.heap_setCell _ _ _ _ hk, Below.heap_setCell _ _ _ _ hk, Below.heap_setCell _ _ _ _ hk, Below.heap_setCell _ _ _ _ hk, Below.heap_setCell _ _ _ _ hk]
 exact ⟨_, rfl, hh, fun b o hk => by simp only [World.frozen?, hh b hk], by simp [World.setCell], (by go_simp), (by go_simp), (by go_simp), (by go_simp), (by go_simp), (by go_simp), (by go_simp), (by go_simp), fun o => by go_simp, ((((((((hb.setCell (p := ⟨B, 0, none⟩) hlo v0).setCell (p := ⟨B, 1, none⟩) hlo v1).setCell (p := ⟨B, 2, none⟩) hlo v2).setCell (p := ⟨B, 3, none⟩) hlo v3).setCell (p := ⟨B, 4, none⟩) hlo v4).setCell (p := ⟨B, 5, none⟩) hlo v5).setCell (p := ⟨B, 6, none⟩) hlo v6).setCell (p := ⟨B, 7, none⟩) hlo v7)⟩
set_option maxRecDepth 100000 in
set_option maxHeartbeats 8000000 in
theorem DrawFindAll_any (A : Option Addr) (len cap : Nat) (w : World) (hc : Code w w.heap.size A len) (hl : len ≤ maxLen) :
  Calls Tryz.prog 15 #[.slice A len cap] w (DrawFA w) := by
 have hb0 : Below w.heap.size w ((w.alloc (.cells #[.int .i64 0, .int .i64 0, .string ⟨#[]⟩, .slice none 0 0, .slice none 0 0] 26)).alloc (.cells #[.int .i64 0, .int .i64 0, .int .i64 0, .int .i64 0, .int .i64 0, .string ⟨#[]⟩, .int .i64 0, .int .i64 0] 42)) := (Below.alloc (Below.refl w.heap.size w) (Nat.le_refl _) _).alloc (by simp) _
 have HB0 := Lib.hid hb0
 have r0 : ((w.alloc (.cells #[.int .i64 0, .int .i64 0, .string ⟨#[]⟩, .slice none 0 0, .slice none 0 0] 26)).alloc (.cells #[.int .i64 0, .int .i64 0, .int .i64 0, .int .i64 0, .int .i64 0, .string ⟨#[]⟩, .int .i64 0, .int .i64 0] 42)).cell? ⟨w.heap.size, 0, none⟩ = some (.int .i64 0) := by rw [Below.cell (Below.alloc (Below.refl (w.alloc (.cells #[.int .i64 0, .int .i64 0, .string ⟨#[]⟩, .slice none 0 0, .slice none 0 0] 26)).heap.size _) (Nat.le_refl _) _) (p := ⟨w.heap.size, 0, none⟩) (by simp), World.cell?_alloc_new]; rfl
 have r1 : ((w.alloc (.cells #[.int .i64 0, .int .i64 0, .string ⟨#[]⟩, .slice none 0 0, .slice none 0 0] 26)).alloc (.cells #[.int .i64 0, .int .i64 0, .int .i64 0, .int .i64 0, .int .i64 0, .string ⟨#[]⟩, .int .i64 0, .int .i64 0] 42)).cell? ⟨w.heap.size, 1, none⟩ = some (.int .i64 0) := by rw [Below.cell (Below.alloc (Below.refl (w.alloc (.cells #[.int .i64 0, .int .i64 0, .string ⟨#[]⟩, .slice none 0 0, .slice none 0 0] 26)).heap.size _) (Nat.le_refl _) _) (p := ⟨w.heap.size, 1, none⟩) (by simp), World.cell?_alloc_new]; rfl
 have r2 : ((w.alloc (.cells #[.int .i64 0, .int .i64 0, .string ⟨#[]⟩, .slice none 0 0, .slice none 0 0] 26)).alloc (.cells #[.int .i64 0, .int .i64 0, .int .i64 0, .int .i64 0, .int .i64 0, .string ⟨#[]⟩, .int .i64 0, .int .i64 0] 42)).cell? ⟨w.heap.size, 2, none⟩ = some (.string ⟨#[]⟩) := by rw [Below.cell (Below.alloc (Below.refl (w.alloc (.cells #[.int .i64 0, .int .i64 0, .string ⟨#[]⟩, .slice none 0 0, .slice none 0 0] 26)).heap.size _) (Nat.le_refl _) _) (p := ⟨w.heap.size, 2, none⟩) (by simp), World.cell?_alloc_new]; rfl
 have r3 : ((w.alloc (.cells #[.int .i64 0, .int .i64 0, .string ⟨#[]⟩, .slice none 0 0, .slice none 0 0] 26)).alloc (.cells #[.int .i64 0, .int .i64 0, .int .i64 0, .int .i64 0, .int .i64 0, .string ⟨#[]⟩, .int .i64 0, .int .i64 0] 42)).cell? ⟨w.heap.size, 3, none⟩ = some (.slice none 0 0) := by rw [Below.cell (Below.alloc (Below.refl (w.alloc (.cells #[.int .i64 0, .int .i64 0, .string ⟨#[]⟩, .slice none 0 0, .slice none 0 0] 26)).heap.size _) (Nat.le_refl _) _) (p := ⟨w.heap.size, 3, none⟩) (by simp), World.cell?_alloc_new]; rfl
 have r4 : ((w.alloc (.cells #[.int .i64 0, .int .i64 0, .string ⟨#[]⟩, .slice none 0 0, .slice none 0 0] 26)).alloc (.cells #[.int .i64 0, .int .i64 0, .int .i64 0, .int .i64 0, .int .i64 0, .string ⟨#[]⟩, .int .i64 0, .int .i64 0] 42)).cell? ⟨w.heap.size, 4, none⟩ = some (.slice none 0 0) := by rw [Below.cell (Below.alloc (Below.refl (w.alloc (.cells #[.int .i64 0, .int .i64 0, .string ⟨#[]⟩, .slice none 0 0, .slice none 0 0] 26)).heap.size _) (Nat.le_refl _) _) (p := ⟨w.heap.size, 4, none⟩) (by simp), World.cell?_alloc_new]; rfl
 have y0 : ((w.alloc (.cells #[.int .i64 0, .int .i64 0, .string ⟨#[]⟩, .slice none 0 0, .slice none 0 0] 26)).alloc (.cells #[.int .i64 0, .int .i64 0, .int .i64 0, .int .i64 0, .int .i64 0, .string ⟨#[]⟩, .int .i64 0, .int .i64 0] 42)).cell? ⟨w.heap.size + 1, 0, none⟩ = some (.int .i64 0) := by have h : ((w.alloc (.cells #[.int .i64 0, .int .i64 0, .string ⟨#[]⟩, .slice none 0 0, .slice none 0 0] 26)).alloc (.cells #[.int .i64 0, .int .i64 0, .int .i64 0, .int .i64 0, .int .i64 0, .string ⟨#[]⟩, .int .i64 0, .int .i64 0] 42)).cell? ⟨(w.alloc (.cells #[.int .i64 0, .int .i64 0, .string ⟨#[]⟩, .slice none 0 0, .slice none 0 0] 26)).heap.size, 0, none⟩ = some (.int .i64 0) := (by rw [World.cell?_alloc_new]; rfl); rwa [World.size_alloc] at h
 have y1 : ((w.alloc (.cells #[.int .i64 0, .int .i64 0, .string ⟨#[]⟩, .slice none 0 0, .slice none 0 0] 26)).alloc (.cells #[.int .i64 0, .int .i64 0, .int .i64 0, .int .i64 0, .int .i64 0, .string ⟨#[]⟩, .int .i64 0, .int .i64 0] 42)).cell? ⟨w.heap.size + 1, 1, none⟩ = some (.int .i64 0) := by have h : ((w.alloc (.cells #[.int .i64 0, .int .i64 0, .string ⟨#[]⟩, .slice none 0 0, .slice none 0 0] 26)).alloc (.cells #[.int .i64 0, .int .i64 0, .int .i64 0, .int .i64 0, .int .i64 0, .string ⟨#[]⟩, .int .i64 0, .int .i64 0] 42)).cell? ⟨(w.alloc (.cells #[.int .i64 0, .int .i64 0, .string ⟨#[]⟩, .slice none 0 0, .slice none 0 0] 26)).heap.size, 1, none⟩ = some (.int .i64 0) := (by rw [World.cell?_alloc_new]; rfl); rwa [World.size_alloc] at h
 have y2 : ((w.alloc (.cells #[.int .i64 0, .int .i64 0, .string ⟨#[]⟩, .slice none 0 0, .slice none 0 0] 26)).alloc (.cells #[.int .i64 0, .int .i64 0, .int .i64 0, .int .i64 0, .int .i64 0, .string ⟨#[]⟩, .int .i64 0, .int .i64 0] 42)).cell? ⟨w.heap.size + 1, 2, none⟩ = some (.int .i64 0) := by have h : ((w.alloc (.cells #[.int .i64 0, .int .i64 0, .string ⟨#[]⟩, .slice none 0 0, .slice none 0 0] 26)).alloc (.cells #[.int .i64 0, .int .i64 0, .int .i64 0, .int .i64 0, .int .i64 0, .string ⟨#[]⟩, .int .i64 0, .int .i64 0] 42)).cell? ⟨(w.alloc (.cells #[.int .i64 0, .int .i64 0, .string ⟨#[]⟩, .slice none 0 0, .slice none 0 0] 26)).heap.size, 2, none⟩ = some (.int .i64 0) := (by rw [World.cell?_alloc_new]; rfl); rwa [World.size_alloc] at h
 have y3 : ((w.alloc (.cells #[.int .i64 0, .int .i64 0, .string ⟨#[]⟩, .slice none 0 0, .slice none 0 0] 26)).alloc (.cells #[.int .i64 0, .int .i64 0, .int .i64 0, .int .i64 0, .int .i64 0, .string ⟨#[]⟩, .int .i64 0, .int .i64 0] 42)).cell? ⟨w.heap.size + 1, 3, none⟩ = some (.int .i64 0) := by have h : ((w.alloc (.cells #[.int .i64 0, .int .i64 0, .string ⟨#[]⟩, .slice none 0 0, .slice none 0 0] 26)).alloc (.cells #[.int .i64 0, .int .i64 0, .int .i64 0, .int .i64 0, .int .i64 0, .string ⟨#[]⟩, .int .i64 0, .int .i64 0] 42)).cell? ⟨(w.alloc (.cells #[.int .i64 0, .int .i64 0, .string ⟨#[]⟩, .slice none 0 0, .slice none 0 0] 26)).heap.size, 3, none⟩ = some (.int .i64 0) := (by rw [World.cell?_alloc_new]; rfl); rwa [World.size_alloc] at h
 have y4 : ((w.alloc (.cells #[.int .i64 0, .int .i64 0, .string ⟨#[]⟩, .slice none 0 0, .slice none 0 0] 26)).alloc (.cells #[.int .i64 0, .int .i64 0, .int .i64 0, .int .i64 0, .int .i64 0, .string ⟨#[]⟩, .int .i64 0, .int .i64 0] 42)).cell? ⟨w.heap.size + 1, 4, none⟩ = some (.int .i64 0) := by have h : ((w.alloc (.cells #[.int .i64 0, .int .i64 0, .string ⟨#[]⟩, .slice none 0 0, .slice none 0 0] 26)).alloc (.cells #[.int .i64 0, .int .i64 0, .int .i64 0, .int .i64 0, .int .i64 0, .string ⟨#[]⟩, .int .i64 0, .int .i64 0] 42)).cell? ⟨(w.alloc (.cells #[.int .i64 0, .int .i64 0, .string ⟨#[]⟩, .slice none 0 0, .slice none 0 0] 26)).heap.size, 4, none⟩ = some (.int .i64 0) := (by rw [World.cell?_alloc_new]; rfl); rwa [World.size_alloc] at h
 have y5 : ((w.alloc (.cells #[.int .i64 0, .int .i64 0, .string ⟨#[]⟩, .slice none 0 0, .slice none 0 0] 26)).alloc (.cells #[.int .i64 0, .int .i64 0, .int .i64 0, .int .i64 0, .int .i64 0, .string ⟨#[]⟩, .int .i64 0, .int .i64 0] 42)).cell? ⟨w.heap.size + 1, 5, none⟩ = some (.string ⟨#[]⟩) := by have h : ((w.alloc (.cells #[.int .i64 0, .int .i64 0, .string ⟨#[]⟩, .slice none 0 0, .slice none 0 0] 26)).alloc (.cells #[.int .i64 0, .int .i64 0, .int .i64 0, .int .i64 0, .int .i64 0, .string ⟨#[]⟩, .int .i64 0, .int .i64 0] 42)).cell? ⟨(w.alloc (.cells #[.int .i64 0, .int .i64 0, .string ⟨#[]⟩, .slice none 0 0, .slice none 0 0] 26)).heap.size, 5, none⟩ = some (.string ⟨#[]⟩) := (by rw [World.cell?_alloc_new]; rfl); rwa [World.size_alloc] at h
 have y6 : ((w.alloc (.cells #[.int .i64 0, .int .i64 0, .string ⟨#[]⟩, .slice none 0 0, .slice none 0 0] 26)).alloc (.cells #[.int .i64 0, .int .i64 0, .int .i64 0, .int .i64 0, .int .i64 0, .string ⟨#[]⟩, .int .i64 0, .int .i64 0] 42)).cell? ⟨w.heap.size + 1, 6, none⟩ = some (.int .i64 0) := by have h : ((w.alloc (.cells #[.int .i64 0, .int .i64 0, .string ⟨#[]⟩, .slice none 0 0, .slice none 0 0] 26)).alloc (.cells #[.int .i64 0, .int .i64 0, .int .i64 0, .int .i64 0, .int .i64 0, .string ⟨#[]⟩, .int .i64 0, .int .i64 0] 42)).cell? ⟨(w.alloc (.cells #[.int .i64 0, .int .i64 0, .string ⟨#[]⟩, .slice none 0 0, .slice none 0 0] 26)).heap.size, 6, none⟩ = some (.int .i64 0) := (by rw [World.cell?_alloc_new]; rfl); rwa [World.size_alloc] at h
 have y7 : ((w.alloc (.cells #[.int .i64 0, .int .i64 0, .string ⟨#[]⟩, .slice none 0 0, .slice none 0 0] 26)).alloc (.cells #[.int .i64 0, .int .i64 0, .int .i64 0, .int .i64 0, .int .i64 0, .string ⟨#[]⟩, .int .i64 0, .int .i64 0] 42)).cell? ⟨w.heap.size + 1, 7, none⟩ = some (.int .i64 0) := by have h : ((w.alloc (.cells #[.int .i64 0, .int .i64 0, .string ⟨#[]⟩, .slice none 0 0, .slice none 0 0] 26)).alloc (.cells #[.int .i64 0, .int .i64 0, .int .i64 0, .int .i64 0, .int .i64 0, .string ⟨#[]⟩, .int .i64 0, .int .i64 0] 42)).cell? ⟨(w.alloc (.cells #[.int .i64 0, .int .i64 0, .string ⟨#[]⟩, .slice none 0 0, .slice none 0 0] 26)).heap.size, 7, none⟩ = some (.int .i64 0) := (by rw [World.cell?_alloc_new]; rfl); rwa [World.size_alloc] at h
 have rf : ∀ o, ((w.alloc (.cells #[.int .i64 0, .int .i64 0, .string ⟨#[]⟩, .slice none 0 0, .slice none 0 0] 26)).alloc (.cells #[.int .i64 0, .int .i64 0, .int .i64 0, .int .i64 0, .int .i64 0, .string ⟨#[]⟩, .int .i64 0, .int .i64 0] 42)).frozen? ⟨w.heap.size, o, none⟩ = false := fun o => by go_simp
 have yf : ∀ o, ((w.alloc (.cells #[.int .i64 0, .int .i64 0, .string ⟨#[]⟩, .slice none 0 0, .slice none 0 0] 26)).alloc (.cells #[.int .i64 0, .int .i64 0, .int .i64 0, .int .i64 0, .int .i64 0, .string ⟨#[]⟩, .int .i64 0, .int .i64 0] 42)).frozen? ⟨w.heap.size + 1, o, none⟩ = false := fun o => by go_simp
 have hz : w.heap.size + 1 < ((w.alloc (.cells #[.int .i64 0, .int .i64 0, .string ⟨#[]⟩, .slice none 0 0, .slice none 0 0] 26)).alloc (.cells #[.int .i64 0, .int .i64 0, .int .i64 0, .int .i64 0, .int .i64 0, .string ⟨#[]⟩, .int .i64 0, .int .i64 0] 42)).heap.size := by simp
 have HC := Lib.hid (Code.next hc hb0)
 obtain ⟨wc, hwc⟩ : ∃ wc, ((w.alloc (.cells #[.int .i64 0, .int .i64 0, .string ⟨#[]⟩, .slice none 0 0, .slice none 0 0] 26)).alloc (.cells #[.int .i64 0, .int .i64 0, .int .i64 0, .int .i64 0, .int .i64 0, .string ⟨#[]⟩, .int .i64 0, .int .i64 0] 42)) = wc := ⟨_, rfl⟩
 rw [hwc] at HC HB0 r0 r1 r2 r3 r4 y0 y1 y2 y3 y4 y5 y6 y7 rf yf hz
 clear hc hb0
 go_enter Tryz.func15, Tryz.ntmps15
 have HS := Lib.hid (St.new (cap := cap) HC.out hl)
 go_wp2_with fail
 refine (newSource_any A len cap wc).mono ?_
 rintro e w1 ⟨rfl, rfl⟩
 have hb1 := Below.alloc (Below.refl wc.heap.size wc) (Nat.le_refl _) (.cells #[.slice A len cap, .int .i64 0, .int .i64 4000] 105)
 have hz1 : wc.heap.size < (wc.alloc (.cells #[.slice A len cap, .int .i64 0, .int .i64 4000] 105)).heap.size := by simp
 replace r0 := (hb1.cell (p := ⟨w.heap.size, 0, none⟩) (by show w.heap.size < wc.heap.size; omega)).trans r0
 replace r1 := (hb1.cell (p := ⟨w.heap.size, 1, none⟩) (by show w.heap.size < wc.heap.size; omega)).trans r1
 replace r2 := (hb1.cell (p := ⟨w.heap.size, 2, none⟩) (by show w.heap.size < wc.heap.size; omega)).trans r2
 replace r3 := (hb1.cell (p := ⟨w.heap.size, 3, none⟩) (by show w.heap.size < wc.heap.size; omega)).trans r3
 replace r4 := (hb1.cell (p := ⟨w.heap.size, 4, none⟩) (by show w.heap.size < wc.heap.size; omega)).trans r4
 replace rf := fun o => (hb1.frozen (p := ⟨w.heap.size, o, none⟩) (by show w.heap.size < wc.heap.size; omega)).trans (rf o)
 replace y0 := (hb1.cell (p := ⟨w.heap.size + 1, 0, none⟩) (by show w.heap.size + 1 < wc.heap.size; omega)).trans y0
 replace y1 := (hb1.cell (p := ⟨w.heap.size + 1, 1, none⟩) (by show w.heap.size + 1 < wc.heap.size; omega)).trans y1
 replace y2 := (hb1.cell (p := ⟨w.heap.size + 1, 2, none⟩) (by show w.heap.size + 1 < wc.heap.size; omega)).trans y2
 replace y3 := (hb1.cell (p := ⟨w.heap.size + 1, 3, none⟩) (by show w.heap.size + 1 < wc.heap.size; omega)).trans y3
 replace y4 := (hb1.cell (p := ⟨w.heap.size + 1, 4, none⟩) (by show w.heap.size + 1 < wc.heap.size; omega)).trans y4
 replace y5 := (hb1.cell (p := ⟨w.heap.size + 1, 5, none⟩) (by show w.heap.size + 1 < wc.heap.size; omega)).trans y5
 replace y6 := (hb1.cell (p := ⟨w.heap.size + 1, 6, none⟩) (by show w.heap.size + 1 < wc.heap.size; omega)).trans y6
 replace y7 := (hb1.cell (p := ⟨w.heap.size + 1, 7, none⟩) (by show w.heap.size + 1 < wc.heap.size; omega)).trans y7
 replace yf := fun o => (hb1.frozen (p := ⟨w.heap.size + 1, o, none⟩) (by show w.heap.size + 1 < wc.heap.size; omega)).trans (yf o)
 have HB1 := Lib.hid (HB0.out.trans (hb1.mono HB0.out.size))
 clear hb1 HB0 HC
 obtain ⟨w1, hw1⟩ : ∃ w1, wc.alloc (.cells #[.slice A len cap, .int .i64 0, .int .i64 4000] 105) = w1 := ⟨_, rfl⟩
 rw [hw1] at HS HB1 r0 r1 r2 r3 r4 y0 y1 y2 y3 y4 y5 y6 y7 rf yf hz1 ⊢
 clear hw1
 go_wp2_with fail
 refine (rules_any wc.heap.size A len cap w1 HS.out).mono ?_
 rintro e w2 ⟨b3, c3, xs, rfl, ho, hn9, hs, hk⟩
 replace r0 := (hk.cell.1 (w.heap.size) (0) (by omega) (by omega)).trans r0
 replace r1 := (hk.cell.1 (w.heap.size) (1) (by omega) (by omega)).trans r1
 replace r2 := (hk.cell.1 (w.heap.size) (2) (by omega) (by omega)).trans r2
 replace r3 := (hk.cell.1 (w.heap.size) (3) (by omega) (by omega)).trans r3
 replace r4 := (hk.cell.1 (w.heap.size) (4) (by omega) (by omega)).trans r4
 replace rf := fun o => (hk.cell.2 (w.heap.size) o (by omega) (by omega)).trans (rf o)
 replace y0 := (hk.cell.1 (w.heap.size + 1) (0) (by omega) (by omega)).trans y0
 replace y1 := (hk.cell.1 (w.heap.size + 1) (1) (by omega) (by omega)).trans y1
 replace y2 := (hk.cell.1 (w.heap.size + 1) (2) (by omega) (by omega)).trans y2
 replace y3 := (hk.cell.1 (w.heap.size + 1) (3) (by omega) (by omega)).trans y3
 replace y4 := (hk.cell.1 (w.heap.size + 1) (4) (by omega) (by omega)).trans y4
 replace y5 := (hk.cell.1 (w.heap.size + 1) (5) (by omega) (by omega)).trans y5
 replace y6 := (hk.cell.1 (w.heap.size + 1) (6) (by omega) (by omega)).trans y6
 replace y7 := (hk.cell.1 (w.heap.size + 1) (7) (by omega) (by omega)).trans y7
 replace yf := fun o => (hk.cell.2 (w.heap.size + 1) o (by omega) (by omega)).trans (yf o)
 have HB2 := Lib.hid (HB1.out.trans ((hk.mono (show w.heap.size ≤ w1.heap.size by omega)).below (by omega)))
 have HO2 := Lib.hid ho
 have HS2 := Lib.hid hs
 have hz2 := hk.size
 obtain ⟨n, hn⟩ : ∃ n, xs.length = n := ⟨_, rfl⟩
 rw [hn] at hn9 ⊢
 have HN := Lib.hid hn
 clear ho hs hk HB1 HS hn
 go_wp2_with fail
 refine (whole_any wc.heap.size A len cap w2 HS2.out).mono ?_
 rintro e w3 ⟨A0, c0, A1, c1, ⟨tag, key, text, ps, ks⟩, rfl, hT, hGd, hs, hk⟩
 simp only [Tr.tag, Tr.key, Tr.text, Tr.ps, Tr.ks] at hT ⊢
 replace r0 := (hk.cell.1 (w.heap.size) (0) (by omega) (by omega)).trans r0
 replace r1 := (hk.cell.1 (w.heap.size) (1) (by omega) (by omega)).trans r1
 replace r2 := (hk.cell.1 (w.heap.size) (2) (by omega) (by omega)).trans r2
 replace r3 := (hk.cell.1 (w.heap.size) (3) (by omega) (by omega)).trans r3
 replace r4 := (hk.cell.1 (w.heap.size) (4) (by omega) (by omega)).trans r4
 replace rf := fun o => (hk.cell.2 (w.heap.size) o (by omega) (by omega)).trans (rf o)
 replace y0 := (hk.cell.1 (w.heap.size + 1) (0) (by omega) (by omega)).trans y0
 replace y1 := (hk.cell.1 (w.heap.size + 1) (1) (by omega) (by omega)).trans y1
 replace y2 := (hk.cell.1 (w.heap.size + 1) (2) (by omega) (by omega)).trans y2
 replace y3 := (hk.cell.1 (w.heap.size + 1) (3) (by omega) (by omega)).trans y3
 replace y4 := (hk.cell.1 (w.heap.size + 1) (4) (by omega) (by omega)).trans y4
 replace y5 := (hk.cell.1 (w.heap.size + 1) (5) (by omega) (by omega)).trans y5
 replace y6 := (hk.cell.1 (w.heap.size + 1) (6) (by omega) (by omega)).trans y6
 replace y7 := (hk.cell.1 (w.heap.size + 1) (7) (by omega) (by omega)).trans y7
 replace yf := fun o => (hk.cell.2 (w.heap.size + 1) o (by omega) (by omega)).trans (yf o)
 have HB3 := Lib.hid (HB2.out.trans ((hk.mono (show w.heap.size ≤ w2.heap.size by omega)).below (by omega)))
 have HO3 := Lib.hid (HO2.out.keep hk (by omega))
 have HGd := Lib.hid hGd
 have hz3 := hk.size
 have hb4 := Below.alloc (Below.refl w3.heap.size w3) (Nat.le_refl _) (.cells #[.int .i64 tag, .int .i64 key, .string text, .slice A0 ps.length c0, .slice A1 ks.length c1] 26)
 have o0 : (w3.alloc (.cells #[.int .i64 tag, .int .i64 key, .string text, .slice A0 ps.length c0, .slice A1 ks.length c1] 26)).cell? ⟨w3.heap.size, 0, none⟩ = some (.int .i64 tag) := by rw [World.cell?_alloc_new]; rfl
 have o1 : (w3.alloc (.cells #[.int .i64 tag, .int .i64 key, .string text, .slice A0 ps.length c0, .slice A1 ks.length c1] 26)).cell? ⟨w3.heap.size, 1, none⟩ = some (.int .i64 key) := by rw [World.cell?_alloc_new]; rfl
 have o2 : (w3.alloc (.cells #[.int .i64 tag, .int .i64 key, .string text, .slice A0 ps.length c0, .slice A1 ks.length c1] 26)).cell? ⟨w3.heap.size, 2, none⟩ = some (.string text) := by rw [World.cell?_alloc_new]; rfl
 have o3 : (w3.alloc (.cells #[.int .i64 tag, .int .i64 key, .string text, .slice A0 ps.length c0, .slice A1 ks.length c1] 26)).cell? ⟨w3.heap.size, 3, none⟩ = some (.slice A0 ps.length c0) := by rw [World.cell?_alloc_new]; rfl
 have o4 : (w3.alloc (.cells #[.int .i64 tag, .int .i64 key, .string text, .slice A0 ps.length c0, .slice A1 ks.length c1] 26)).cell? ⟨w3.heap.size, 4, none⟩ = some (.slice A1 ks.length c1) := by rw [World.cell?_alloc_new]; rfl
 replace r0 := (hb4.cell (p := ⟨w.heap.size, 0, none⟩) (by show w.heap.size < w3.heap.size; omega)).trans r0
 replace r1 := (hb4.cell (p := ⟨w.heap.size, 1, none⟩) (by show w.heap.size < w3.heap.size; omega)).trans r1
 replace r2 := (hb4.cell (p := ⟨w.heap.size, 2, none⟩) (by show w.heap.size < w3.heap.size; omega)).trans r2
 replace r3 := (hb4.cell (p := ⟨w.heap.size, 3, none⟩) (by show w.heap.size < w3.heap.size; omega)).trans r3
 replace r4 := (hb4.cell (p := ⟨w.heap.size, 4, none⟩) (by show w.heap.size < w3.heap.size; omega)).trans r4
 replace rf := fun o => (hb4.frozen (p := ⟨w.heap.size, o, none⟩) (by show w.heap.size < w3.heap.size; omega)).trans (rf o)
 replace y0 := (hb4.cell (p := ⟨w.heap.size + 1, 0, none⟩) (by show w.heap.size + 1 < w3.heap.size; omega)).trans y0
 replace y1 := (hb4.cell (p := ⟨w.heap.size + 1, 1, none⟩) (by show w.heap.size + 1 < w3.heap.size; omega)).trans y1
 replace y2 := (hb4.cell (p := ⟨w.heap.size + 1, 2, none⟩) (by show w.heap.size + 1 < w3.heap.size; omega)).trans y2
 replace y3 := (hb4.cell (p := ⟨w.heap.size + 1, 3, none⟩) (by show w.heap.size + 1 < w3.heap.size; omega)).trans y3
 replace y4 := (hb4.cell (p := ⟨w.heap.size + 1, 4, none⟩) (by show w.heap.size + 1 < w3.heap.size; omega)).trans y4
 replace y5 := (hb4.cell (p := ⟨w.heap.size + 1, 5, none⟩) (by show w.heap.size + 1 < w3.heap.size; omega)).trans y5
 replace y6 := (hb4.cell (p := ⟨w.heap.size + 1, 6, none⟩) (by show w.heap.size + 1 < w3.heap.size; omega)).trans y6
 replace y7 := (hb4.cell (p := ⟨w.heap.size + 1, 7, none⟩) (by show w.heap.size + 1 < w3.heap.size; omega)).trans y7
 replace yf := fun o => (hb4.frozen (p := ⟨w.heap.size + 1, o, none⟩) (by show w.heap.size + 1 < w3.heap.size; omega)).trans (yf o)
 have HB4 := Lib.hid (HB3.out.trans (hb4.mono (by omega)))
 have HO4 := Lib.hid (own_below HO3.out hb4)
 have HS4 := Lib.hid (hs.below hb4)
 have HT4 := Lib.hid (TrD.kept (fun b _ h2 => hb4.block b h2) hT)
 have hz4 : w3.heap.size < (w3.alloc (.cells #[.int .i64 tag, .int .i64 key, .string text, .slice A0 ps.length c0, .slice A1 ks.length c1] 26)).heap.size := by simp
 clear hT hGd hs hk HB2 HB3 HO2 HO3 HS2 hb4
 obtain ⟨w4, hw4⟩ : ∃ q, w3.alloc (.cells #[.int .i64 tag, .int .i64 key, .string text, .slice A0 ps.length c0, .slice A1 ks.length c1] 26) = q := ⟨_, rfl⟩
 rw [hw4] at o0 o1 o2 o3 o4 r0 r1 r2 r3 r4 y0 y1 y2 y3 y4 y5 y6 y7 rf yf HB4 HO4 HS4 HT4 hz4
 have HW4 := Lib.hid hw4
 clear hw4
 by_cases h0 : n = 0
 ·subst h0
  have HTc := HT4
  have HBc := HB4
  have hzc : w4.heap.size ≤ w4.heap.size := Nat.le_refl _
  clear HT4 HB4 HS4 HO4 HN
  obtain ⟨v1, hnewt, hb7, hf7, hsz7, s0, s1, s2, s3, s4, sf, hbs⟩ := put5 r0 r1 r2 r3 r4 rf (.int .i64 tag) (.int .i64 key) (.string text) (.slice A0 ps.length c0) (.slice A1 ks.length c1) HBc.out (by omega)
  replace y0 := (World.cell?_of_block (a := ⟨w.heap.size + 1, 0, none⟩) (hb7 (w.heap.size + 1) (by omega))).trans y0
  replace y1 := (World.cell?_of_block (a := ⟨w.heap.size + 1, 1, none⟩) (hb7 (w.heap.size + 1) (by omega))).trans y1
  replace y2 := (World.cell?_of_block (a := ⟨w.heap.size + 1, 2, none⟩) (hb7 (w.heap.size + 1) (by omega))).trans y2
  replace y3 := (World.cell?_of_block (a := ⟨w.heap.size + 1, 3, none⟩) (hb7 (w.heap.size + 1) (by omega))).trans y3
  replace y4 := (World.cell?_of_block (a := ⟨w.heap.size + 1, 4, none⟩) (hb7 (w.heap.size + 1) (by omega))).trans y4
  replace y5 := (World.cell?_of_block (a := ⟨w.heap.size + 1, 5, none⟩) (hb7 (w.heap.size + 1) (by omega))).trans y5
  replace y6 := (World.cell?_of_block (a := ⟨w.heap.size + 1, 6, none⟩) (hb7 (w.heap.size + 1) (by omega))).trans y6
  replace y7 := (World.cell?_of_block (a := ⟨w.heap.size + 1, 7, none⟩) (hb7 (w.heap.size + 1) (by omega))).trans y7
  replace yf := fun o => (hf7 (w.heap.size + 1) o (by omega)).trans (yf o)
  replace HTc := Lib.hid (TrD.kept (fun k h1 h2 => hb7 k (by omega)) HTc.out)
  replace HBc := Lib.hid hbs
  replace hzc := Nat.le_trans hzc (Nat.le_of_eq hsz7.symm)
  clear hb7 hf7 hbs hsz7
  obtain ⟨v2, hnewx, hb7, hf7, hsz7, z0, z1, z2, z3, z4, z5, z6, z7, zf, hbs⟩ := put8 y0 y1 y2 y3 y4 y5 y6 y7 yf (.int .i64 (-1)) (.int .i64 (-1)) (.int .i64 (-1)) (.int .i64 0) (.int .i64 0) (.string ⟨#[]⟩) (.int .i64 0) (.int .i64 0) HBc.out (by omega)
  replace s0 := (World.cell?_of_block (a := ⟨w.heap.size, 0, none⟩) (hb7 (w.heap.size) (by omega))).trans s0
  replace s1 := (World.cell?_of_block (a := ⟨w.heap.size, 1, none⟩) (hb7 (w.heap.size) (by omega))).trans s1
  replace s2 := (World.cell?_of_block (a := ⟨w.heap.size, 2, none⟩) (hb7 (w.heap.size) (by omega))).trans s2
  replace s3 := (World.cell?_of_block (a := ⟨w.heap.size, 3, none⟩) (hb7 (w.heap.size) (by omega))).trans s3
  replace s4 := (World.cell?_of_block (a := ⟨w.heap.size, 4, none⟩) (hb7 (w.heap.size) (by omega))).trans s4
  replace sf := fun o => (hf7 (w.heap.size) o (by omega)).trans (sf o)
  replace HTc := Lib.hid (TrD.kept (fun k h1 h2 => hb7 k (by omega)) HTc.out)
  replace HBc := Lib.hid hbs
  replace hzc := Nat.le_trans hzc (Nat.le_of_eq hsz7.symm)
  clear hb7 hf7 hbs hsz7
  obtain ⟨F0, f0, F1, f1, hfe, hp7, hk7, _⟩ := HTc.out.lies (by omega)
  simp only [Tr.tag, Tr.key, Tr.text, Tr.ps, Tr.ks, List.cons.injEq, Value.slice.injEq, true_and, and_true] at hfe hp7 hk7
  obtain ⟨⟨rfl, rfl⟩, rfl, rfl⟩ := hfe
  have HP7 := Lib.hid hp7
  have HK7b := Lib.hid hk7
  clear hp7 hk7
  have hw4 := HW4.out
  go_wp2_with fail
  (try rw [hnewt])
  (try rw [hnewx])
  refine bodyPost_ret (v := .tuple #[.agg #[.int .i64 tag, .int .i64 key, .string text, .slice A0 ps.length c0, .slice A1 ks.length c1], .agg #[.int .i64 (-1), .int .i64 (-1), .int .i64 (-1), .int .i64 0, .int .i64 0, .string ⟨#[]⟩, .int .i64 0, .int .i64 0]]) (by simp [results, Tryz.results15, go_sem, *]) rfl ⟨A0, c0, A1, c1, .mk tag key text ps ks, ⟨-1, -1, -1, ⟨0, 0, ⟨#[]⟩⟩, 0, 0⟩, rfl, HP7.out, HK7b.out, HGd.out, HBc.out⟩
 ·have hd0 : decide ((n : Int) = 0) = false := by simp; omega
  go_wp2_with fail
  try rw [HW4.out]
  clear HW4
  have hbd : Below w4.heap.size w4 w4.drew := Below.drew (Below.refl _ _)
  have hHeld0 : (fun w' : World => w'.cell? ⟨w3.heap.size, 0, none⟩ = some (.int .i64 tag) ∧ w'.cell? ⟨w3.heap.size, 1, none⟩ = some (.int .i64 key) ∧ w'.cell? ⟨w3.heap.size, 2, none⟩ = some (.string text) ∧ w'.cell? ⟨w3.heap.size, 3, none⟩ = some (.slice A0 ps.length c0) ∧ w'.cell? ⟨w3.heap.size, 4, none⟩ = some (.slice A1 ks.length c1)) w4.drew := ⟨o0, o1, o2, o3, o4⟩
  refine wp_region_held_drew (S := (fun w' : World => w'.cell? ⟨w3.heap.size, 0, none⟩ = some (.int .i64 tag) ∧ w'.cell? ⟨w3.heap.size, 1, none⟩ = some (.int .i64 key) ∧ w'.cell? ⟨w3.heap.size, 2, none⟩ = some (.string text) ∧ w'.cell? ⟨w3.heap.size, 3, none⟩ = some (.slice A0 ps.length c0) ∧ w'.cell? ⟨w3.heap.size, 4, none⟩ = some (.slice A1 ks.length c1))) (by kernel_rfl) hHeld0 (fun hHeld => ?_)
  clear hHeld0
  obtain ⟨wd, hwd⟩ : ∃ v, w4.drew = v := ⟨_, rfl⟩
  have HSc := Lib.hid HS4.out.drew
  rw [hwd] at hbd HSc hHeld ⊢
  replace o0 := (hbd.cell (p := ⟨w3.heap.size, 0, none⟩) (by show w3.heap.size < w4.heap.size; omega)).trans o0
  replace o1 := (hbd.cell (p := ⟨w3.heap.size, 1, none⟩) (by show w3.heap.size < w4.heap.size; omega)).trans o1
  replace o2 := (hbd.cell (p := ⟨w3.heap.size, 2, none⟩) (by show w3.heap.size < w4.heap.size; omega)).trans o2
  replace o3 := (hbd.cell (p := ⟨w3.heap.size, 3, none⟩) (by show w3.heap.size < w4.heap.size; omega)).trans o3
  replace o4 := (hbd.cell (p := ⟨w3.heap.size, 4, none⟩) (by show w3.heap.size < w4.heap.size; omega)).trans o4
  replace r0 := (hbd.cell (p := ⟨w.heap.size, 0, none⟩) (by show w.heap.size < w4.heap.size; omega)).trans r0
  replace r1 := (hbd.cell (p := ⟨w.heap.size, 1, none⟩) (by show w.heap.size < w4.heap.size; omega)).trans r1
  replace r2 := (hbd.cell (p := ⟨w.heap.size, 2, none⟩) (by show w.heap.size < w4.heap.size; omega)).trans r2
  replace r3 := (hbd.cell (p := ⟨w.heap.size, 3, none⟩) (by show w.heap.size < w4.heap.size; omega)).trans r3
  replace r4 := (hbd.cell (p := ⟨w.heap.size, 4, none⟩) (by show w.heap.size < w4.heap.size; omega)).trans r4
  replace rf := fun o => (hbd.frozen (p := ⟨w.heap.size, o, none⟩) (by show w.heap.size < w4.heap.size; omega)).trans (rf o)
  replace y0 := (hbd.cell (p := ⟨w.heap.size + 1, 0, none⟩) (by show w.heap.size + 1 < w4.heap.size; omega)).trans y0
  replace y1 := (hbd.cell (p := ⟨w.heap.size + 1, 1, none⟩) (by show w.heap.size + 1 < w4.heap.size; omega)).trans y1
  replace y2 := (hbd.cell (p := ⟨w.heap.size + 1, 2, none⟩) (by show w.heap.size + 1 < w4.heap.size; omega)).trans y2
  replace y3 := (hbd.cell (p := ⟨w.heap.size + 1, 3, none⟩) (by show w.heap.size + 1 < w4.heap.size; omega)).trans y3
  replace y4 := (hbd.cell (p := ⟨w.heap.size + 1, 4, none⟩) (by show w.heap.size + 1 < w4.heap.size; omega)).trans y4
  replace y5 := (hbd.cell (p := ⟨w.heap.size + 1, 5, none⟩) (by show w.heap.size + 1 < w4.heap.size; omega)).trans y5
  replace y6 := (hbd.cell (p := ⟨w.heap.size + 1, 6, none⟩) (by show w.heap.size + 1 < w4.heap.size; omega)).trans y6
  replace y7 := (hbd.cell (p := ⟨w.heap.size + 1, 7, none⟩) (by show w.heap.size + 1 < w4.heap.size; omega)).trans y7
  replace yf := fun o => (hbd.frozen (p := ⟨w.heap.size + 1, o, none⟩) (by show w.heap.size + 1 < w4.heap.size; omega)).trans (yf o)
  have HTc := Lib.hid (TrD.kept (fun b h1 h2 => hbd.block b (by omega)) HT4.out)
  have HBc := Lib.hid (HB4.out.trans (hbd.mono (by omega)))
  have HOc := Lib.hid (own_below HO4.out hbd)
  have hzc : w4.heap.size ≤ wd.heap.size := hbd.size
  clear hbd hwd HT4 HS4 HB4 HO4
  refine wpAnyH_take (i := 0) (oi := _) (v := ?_) rfl (by kernel_rfl) (by kernel_rfl) (by kernel_rfl) (fun _ _ _ h => h) (Or.inl ⟨by kernel_rfl, ?_⟩) (by assumption) ?_
  rotate_left
  ·(intro w hSw; (try dsimp only at hSw); go_simp)
   try with_reducible rfl
  (try simp only [Act.put, qa, qb, qc, qd, qe, qf])
  refine wpAnyH_take (i := 1) (oi := _) (v := ?_) rfl (by kernel_rfl) (by kernel_rfl) (by kernel_rfl) (fun _ _ _ h => h) (Or.inl ⟨by kernel_rfl, ?_⟩) (by assumption) ?_
  rotate_left
  ·(intro w hSw; (try dsimp only at hSw); go_simp)
   try with_reducible rfl
  (try simp only [Act.put, qa, qb, qc, qd, qe, qf])
  refine wpAnyH_take (i := 2) (oi := _) (v := ?_) rfl (by kernel_rfl) (by kernel_rfl) (by kernel_rfl) (fun _ _ _ h => h) (Or.inl ⟨by kernel_rfl, ?_⟩) (by assumption) ?_
  rotate_left
  ·(intro w hSw; (try dsimp only at hSw); go_simp)
   try with_reducible rfl
  (try simp only [Act.put, qa, qb, qc, qd, qe, qf])
  refine wpAnyH_take (i := 3) (oi := _) (v := ?_) rfl (by kernel_rfl) (by kernel_rfl) (by kernel_rfl) (fun _ _ _ h => h) (Or.inl ⟨by kernel_rfl, ?_⟩) (by assumption) ?_
  rotate_left
  ·(intro w hSw; (try dsimp only at hSw); go_simp)
   try with_reducible rfl
  (try simp only [Act.put, qa, qb, qc, qd, qe, qf])
  refine wpAnyH_take (i := 4) (oi := _) (v := ?_) rfl (by kernel_rfl) (by kernel_rfl) (by kernel_rfl) (fun _ _ _ h => h) (Or.inl ⟨by kernel_rfl, ?_⟩) (by assumption) ?_
  rotate_left
  ·(intro w hSw; (try dsimp only at hSw); go_simp)
   try with_reducible rfl
  (try simp only [Act.put, qa, qb, qc, qd, qe, qf])
  refine wpAnyH_ready (rs := [5]) (by kernel_rfl) (by simp) ?_
  refine AllReadyH.cons (o := _) rfl (fun K hK => ?_) AllReadyH.nil
  go_simp
  refine (pick_any wc.heap.size A len cap (n : Int) _ HSc.out (by omega)).mono ?_
  rintro e v0 ⟨r, rfl, hr0, hr1, hs, hk⟩
  obtain ⟨k, rfl⟩ : ∃ k : Nat, r = (k : Int) := ⟨r.toNat, by omega⟩
  have hkn : k < n := by omega
  clear hs HSc
  replace o0 := (hk.cell.1 (w3.heap.size) (0) (by omega) (by omega)).trans o0
  replace o1 := (hk.cell.1 (w3.heap.size) (1) (by omega) (by omega)).trans o1
  replace o2 := (hk.cell.1 (w3.heap.size) (2) (by omega) (by omega)).trans o2
  replace o3 := (hk.cell.1 (w3.heap.size) (3) (by omega) (by omega)).trans o3
  replace o4 := (hk.cell.1 (w3.heap.size) (4) (by omega) (by omega)).trans o4
  replace r0 := (hk.cell.1 (w.heap.size) (0) (by omega) (by omega)).trans r0
  replace r1 := (hk.cell.1 (w.heap.size) (1) (by omega) (by omega)).trans r1
  replace r2 := (hk.cell.1 (w.heap.size) (2) (by omega) (by omega)).trans r2
  replace r3 := (hk.cell.1 (w.heap.size) (3) (by omega) (by omega)).trans r3
  replace r4 := (hk.cell.1 (w.heap.size) (4) (by omega) (by omega)).trans r4
  replace rf := fun o => (hk.cell.2 (w.heap.size) o (by omega) (by omega)).trans (rf o)
  replace y0 := (hk.cell.1 (w.heap.size + 1) (0) (by omega) (by omega)).trans y0
  replace y1 := (hk.cell.1 (w.heap.size + 1) (1) (by omega) (by omega)).trans y1
  replace y2 := (hk.cell.1 (w.heap.size + 1) (2) (by omega) (by omega)).trans y2
  replace y3 := (hk.cell.1 (w.heap.size + 1) (3) (by omega) (by omega)).trans y3
  replace y4 := (hk.cell.1 (w.heap.size + 1) (4) (by omega) (by omega)).trans y4
  replace y5 := (hk.cell.1 (w.heap.size + 1) (5) (by omega) (by omega)).trans y5
  replace y6 := (hk.cell.1 (w.heap.size + 1) (6) (by omega) (by omega)).trans y6
  replace y7 := (hk.cell.1 (w.heap.size + 1) (7) (by omega) (by omega)).trans y7
  replace yf := fun o => (hk.cell.2 (w.heap.size + 1) o (by omega) (by omega)).trans (yf o)
  replace HTc := Lib.hid (TrD.kept (fun b h1 h2 => hk.block b (by omega) (by omega)) HTc.out)
  replace HBc := Lib.hid (HBc.out.trans ((hk.mono (show w.heap.size ≤ wd.heap.size by omega)).below (by omega)))
  replace hzc := Nat.le_trans hzc hk.size
  have HO5 := HOc.out.keep hk (by omega)
  obtain ⟨x, hx⟩ := at_some (show k < xs.length by rw [HN.out]; exact hkn)
  have hbl := HO5.lt.2
  have hbl1 := HO5.lt.1
  obtain ⟨bq, offq, hA, _, hcq⟩ := HO5.lies.at_ (by rw [HN.out]; omega)
  injection hA with hA
  injection hA with hA1 hA2
  subst hA1 hA2
  obtain ⟨e0, e1, e2, e3, e4, e5, e6, e7⟩ := hcq k x hx
  simp only [Nat.zero_add] at e0 e1 e2 e3 e4 e5 e6 e7
  clear hk HO5 HOc hcq hx
  have hi1 : (0 : Int) ≤ (k : Int) := by omega
  have hi2 : (k : Int) < (n : Int) := by omega
  have hHeld3 : (fun w' : World => w'.cell? ⟨w3.heap.size, 0, none⟩ = some (.int .i64 tag) ∧ w'.cell? ⟨w3.heap.size, 1, none⟩ = some (.int .i64 key) ∧ w'.cell? ⟨w3.heap.size, 2, none⟩ = some (.string text) ∧ w'.cell? ⟨w3.heap.size, 3, none⟩ = some (.slice A0 ps.length c0) ∧ w'.cell? ⟨w3.heap.size, 4, none⟩ = some (.slice A1 ks.length c1)) v0 := ⟨o0, o1, o2, o3, o4⟩
  refine hK.out _ _ hHeld3 (fun hHeld2 => ?_)
  clear hHeld2 hHeld
  have hHeld := hHeld3
  clear hHeld3 hK K
  (try simp only [Act.put, qa, qb, qc, qd, qe, qf])
  refine wpAnyH_take (i := 6) (oi := _) (v := ?_) rfl (by kernel_rfl) (by kernel_rfl) (by kernel_rfl) (fun _ _ _ h => h) (Or.inl ⟨by kernel_rfl, ?_⟩) (by assumption) ?_
  rotate_left
  ·(intro w hSw; (try dsimp only at hSw); go_simp)
   try with_reducible rfl
  (try simp only [Act.put, qa, qb, qc, qd, qe, qf])
  refine wpAnyH_ready (rs := [7, 8]) (by kernel_rfl) (by simp) ?_
  refine AllReadyH.cons (o := _) rfl (fun K hK => ?_) ?_
  ·skip
   go_simp
   refine hK.out _ _ hHeld (fun hHeld2 => ?_)
   clear hK K hHeld2
   (try simp only [Act.put, qa, qb, qc, qd, qe, qf])
   refine wpAnyH_ready (rs := [8]) (by kernel_rfl) (by simp) ?_
   refine AllReadyH.cons (o := _) rfl (fun K hK => ?_) AllReadyH.nil
   obtain ⟨v1, hnew, hb7, hf7, hsz7, s0, s1, s2, s3, s4, sf, hbs⟩ := put5 r0 r1 r2 r3 r4 rf (.int .i64 tag) (.int .i64 key) (.string text) (.slice A0 ps.length c0) (.slice A1 ks.length c1) HBc.out (by omega)
   go_simp
   try rw [hnew]
   replace o0 := (World.cell?_of_block (a := ⟨w3.heap.size, 0, none⟩) (hb7 (w3.heap.size) (by omega))).trans o0
   replace o1 := (World.cell?_of_block (a := ⟨w3.heap.size, 1, none⟩) (hb7 (w3.heap.size) (by omega))).trans o1
   replace o2 := (World.cell?_of_block (a := ⟨w3.heap.size, 2, none⟩) (hb7 (w3.heap.size) (by omega))).trans o2
   replace o3 := (World.cell?_of_block (a := ⟨w3.heap.size, 3, none⟩) (hb7 (w3.heap.size) (by omega))).trans o3
   replace o4 := (World.cell?_of_block (a := ⟨w3.heap.size, 4, none⟩) (hb7 (w3.heap.size) (by omega))).trans o4
   replace y0 := (World.cell?_of_block (a := ⟨w.heap.size + 1, 0, none⟩) (hb7 (w.heap.size + 1) (by omega))).trans y0
   replace y1 := (World.cell?_of_block (a := ⟨w.heap.size + 1, 1, none⟩) (hb7 (w.heap.size + 1) (by omega))).trans y1
   replace y2 := (World.cell?_of_block (a := ⟨w.heap.size + 1, 2, none⟩) (hb7 (w.heap.size + 1) (by omega))).trans y2
   replace y3 := (World.cell?_of_block (a := ⟨w.heap.size + 1, 3, none⟩) (hb7 (w.heap.size + 1) (by omega))).trans y3
   replace y4 := (World.cell?_of_block (a := ⟨w.heap.size + 1, 4, none⟩) (hb7 (w.heap.size + 1) (by omega))).trans y4
   replace y5 := (World.cell?_of_block (a := ⟨w.heap.size + 1, 5, none⟩) (hb7 (w.heap.size + 1) (by omega))).trans y5
   replace y6 := (World.cell?_of_block (a := ⟨w.heap.size + 1, 6, none⟩) (hb7 (w.heap.size + 1) (by omega))).trans y6
   replace y7 := (World.cell?_of_block (a := ⟨w.heap.size + 1, 7, none⟩) (hb7 (w.heap.size + 1) (by omega))).trans y7
   replace yf := fun o => (hf7 (w.heap.size + 1) o (by omega)).trans (yf o)
   replace e0 := (World.cell?_of_block (a := ⟨b3, k * 8, none⟩) (hb7 (b3) (by omega))).trans e0
   replace e1 := (World.cell?_of_block (a := ⟨b3, k * 8 + 1, none⟩) (hb7 (b3) (by omega))).trans e1
   replace e2 := (World.cell?_of_block (a := ⟨b3, k * 8 + 2, none⟩) (hb7 (b3) (by omega))).trans e2
   replace e3 := (World.cell?_of_block (a := ⟨b3, k * 8 + 3, none⟩) (hb7 (b3) (by omega))).trans e3
   replace e4 := (World.cell?_of_block (a := ⟨b3, k * 8 + 4, none⟩) (hb7 (b3) (by omega))).trans e4
   replace e5 := (World.cell?_of_block (a := ⟨b3, k * 8 + 5, none⟩) (hb7 (b3) (by omega))).trans e5
   replace e6 := (World.cell?_of_block (a := ⟨b3, k * 8 + 6, none⟩) (hb7 (b3) (by omega))).trans e6
   replace e7 := (World.cell?_of_block (a := ⟨b3, k * 8 + 7, none⟩) (hb7 (b3) (by omega))).trans e7
   replace HTc := Lib.hid (TrD.kept (fun k h1 h2 => hb7 k (by omega)) HTc.out)
   replace HBc := Lib.hid hbs
   replace hzc := Nat.le_trans hzc (Nat.le_of_eq hsz7.symm)
   replace hbl := Nat.lt_of_lt_of_le hbl (Nat.le_of_eq hsz7.symm)
   clear hnew hb7 hf7 hbs hsz7 r0 r1 r2 r3 r4 rf
   have hHeld3 : (fun w' : World => w'.cell? ⟨w3.heap.size, 0, none⟩ = some (.int .i64 tag) ∧ w'.cell? ⟨w3.heap.size, 1, none⟩ = some (.int .i64 key) ∧ w'.cell? ⟨w3.heap.size, 2, none⟩ = some (.string text) ∧ w'.cell? ⟨w3.heap.size, 3, none⟩ = some (.slice A0 ps.length c0) ∧ w'.cell? ⟨w3.heap.size, 4, none⟩ = some (.slice A1 ks.length c1)) v1 := ⟨o0, o1, o2, o3, o4⟩
   refine hK.out _ _ hHeld3 (fun hHeld2 => ?_)
   clear hHeld2 hHeld
   have hHeld := hHeld3
   clear hHeld3 hK K
   (try simp only [Act.put, qa, qb, qc, qd, qe, qf])
   refine wpAnyH_ready (rs := [9]) (by kernel_rfl) (by simp) ?_
   refine AllReadyH.cons (o := _) rfl (fun K hK => ?_) AllReadyH.nil
   obtain ⟨v2, hnew, hb7, hf7, hsz7, z0, z1, z2, z3, z4, z5, z6, z7, zf, hbs⟩ := put8 y0 y1 y2 y3 y4 y5 y6 y7 yf (.int .i64 x.t) (.int .i64 x.a) (.int .i64 x.nm) (.int .i64 x.v.k) (.int .i64 x.v.n) (.string x.v.s) (.int .i64 x.l) (.int .i64 x.g) HBc.out (by omega)
   go_simp
   try rw [hnew]
   replace o0 := (World.cell?_of_block (a := ⟨w3.heap.size, 0, none⟩) (hb7 (w3.heap.size) (by omega))).trans o0
   replace o1 := (World.cell?_of_block (a := ⟨w3.heap.size, 1, none⟩) (hb7 (w3.heap.size) (by omega))).trans o1
   replace o2 := (World.cell?_of_block (a := ⟨w3.heap.size, 2, none⟩) (hb7 (w3.heap.size) (by omega))).trans o2
   replace o3 := (World.cell?_of_block (a := ⟨w3.heap.size, 3, none⟩) (hb7 (w3.heap.size) (by omega))).trans o3
   replace o4 := (World.cell?_of_block (a := ⟨w3.heap.size, 4, none⟩) (hb7 (w3.heap.size) (by omega))).trans o4
   replace e0 := (World.cell?_of_block (a := ⟨b3, k * 8, none⟩) (hb7 (b3) (by omega))).trans e0
   replace e1 := (World.cell?_of_block (a := ⟨b3, k * 8 + 1, none⟩) (hb7 (b3) (by omega))).trans e1
   replace e2 := (World.cell?_of_block (a := ⟨b3, k * 8 + 2, none⟩) (hb7 (b3) (by omega))).trans e2
   replace e3 := (World.cell?_of_block (a := ⟨b3, k * 8 + 3, none⟩) (hb7 (b3) (by omega))).trans e3
   replace e4 := (World.cell?_of_block (a := ⟨b3, k * 8 + 4, none⟩) (hb7 (b3) (by omega))).trans e4
   replace e5 := (World.cell?_of_block (a := ⟨b3, k * 8 + 5, none⟩) (hb7 (b3) (by omega))).trans e5
   replace e6 := (World.cell?_of_block (a := ⟨b3, k * 8 + 6, none⟩) (hb7 (b3) (by omega))).trans e6
   replace e7 := (World.cell?_of_block (a := ⟨b3, k * 8 + 7, none⟩) (hb7 (b3) (by omega))).trans e7
   replace s0 := (World.cell?_of_block (a := ⟨w.heap.size, 0, none⟩) (hb7 (w.heap.size) (by omega))).trans s0
   replace s1 := (World.cell?_of_block (a := ⟨w.heap.size, 1, none⟩) (hb7 (w.heap.size) (by omega))).trans s1
   replace s2 := (World.cell?_of_block (a := ⟨w.heap.size, 2, none⟩) (hb7 (w.heap.size) (by omega))).trans s2
   replace s3 := (World.cell?_of_block (a := ⟨w.heap.size, 3, none⟩) (hb7 (w.heap.size) (by omega))).trans s3
   replace s4 := (World.cell?_of_block (a := ⟨w.heap.size, 4, none⟩) (hb7 (w.heap.size) (by omega))).trans s4
   replace sf := fun o => (hf7 (w.heap.size) o (by omega)).trans (sf o)
   replace HTc := Lib.hid (TrD.kept (fun k h1 h2 => hb7 k (by omega)) HTc.out)
   replace HBc := Lib.hid hbs
   replace hzc := Nat.le_trans hzc (Nat.le_of_eq hsz7.symm)
   replace hbl := Nat.lt_of_lt_of_le hbl (Nat.le_of_eq hsz7.symm)
   clear hnew hb7 hf7 hbs hsz7 y0 y1 y2 y3 y4 y5 y6 y7 yf
   have hHeld3 : (fun w' : World => w'.cell? ⟨w3.heap.size, 0, none⟩ = some (.int .i64 tag) ∧ w'.cell? ⟨w3.heap.size, 1, none⟩ = some (.int .i64 key) ∧ w'.cell? ⟨w3.heap.size, 2, none⟩ = some (.string text) ∧ w'.cell? ⟨w3.heap.size, 3, none⟩ = some (.slice A0 ps.length c0) ∧ w'.cell? ⟨w3.heap.size, 4, none⟩ = some (.slice A1 ks.length c1)) v2 := ⟨o0, o1, o2, o3, o4⟩
   refine hK.out _ _ hHeld3 (fun hHeld2 => ?_)
   clear hHeld2 hHeld
   have hHeld := hHeld3
   clear hHeld3 hK K
   (try simp only [Act.put, qa, qb, qc, qd, qe, qf])
   refine wpAnyH_done (by kernel_rfl) ?_ _
   obtain ⟨F0, f0, F1, f1, hfe, hp7, hk7, _⟩ := HTc.out.lies (by omega)
   simp only [Tr.tag, Tr.key, Tr.text, Tr.ps, Tr.ks, List.cons.injEq, Value.slice.injEq, true_and, and_true] at hfe hp7 hk7
   obtain ⟨⟨rfl, rfl⟩, rfl, rfl⟩ := hfe
   have HP7 := Lib.hid hp7
   have HK7b := Lib.hid hk7
   clear hHeld hp7 hk7
   go_wp2_with fail
   refine bodyPost_ret (v := .tuple #[.agg #[.int .i64 tag, .int .i64 key, .string text, .slice A0 ps.length c0, .slice A1 ks.length c1], .agg #[.int .i64 x.t, .int .i64 x.a, .int .i64 x.nm, .int .i64 x.v.k, .int .i64 x.v.n, .string x.v.s, .int .i64 x.l, .int .i64 x.g]]) (by simp [results, Tryz.results15, go_sem, *]) rfl ⟨A0, c0, A1, c1, .mk tag key text ps ks, x, rfl, HP7.out, HK7b.out, HGd.out, HBc.out⟩
  refine AllReadyH.cons (o := _) rfl (fun K hK => ?_) AllReadyH.nil
  obtain ⟨v3, hnew, hb7, hf7, hsz7, s0, s1, s2, s3, s4, sf, hbs⟩ := put5 r0 r1 r2 r3 r4 rf (.int .i64 tag) (.int .i64 key) (.string text) (.slice A0 ps.length c0) (.slice A1 ks.length c1) HBc.out (by omega)
  go_simp
  try rw [hnew]
  replace o0 := (World.cell?_of_block (a := ⟨w3.heap.size, 0, none⟩) (hb7 (w3.heap.size) (by omega))).trans o0
  replace o1 := (World.cell?_of_block (a := ⟨w3.heap.size, 1, none⟩) (hb7 (w3.heap.size) (by omega))).trans o1
  replace o2 := (World.cell?_of_block (a := ⟨w3.heap.size, 2, none⟩) (hb7 (w3.heap.size) (by omega))).trans o2
  replace o3 := (World.cell?_of_block (a := ⟨w3.heap.size, 3, none⟩) (hb7 (w3.heap.size) (by omega))).trans o3
  replace o4 := (World.cell?_of_block (a := ⟨w3.heap.size, 4, none⟩) (hb7 (w3.heap.size) (by omega))).trans o4
  replace y0 := (World.cell?_of_block (a := ⟨w.heap.size + 1, 0, none⟩) (hb7 (w.heap.size + 1) (by omega))).trans y0
  replace y1 := (World.cell?_of_block (a := ⟨w.heap.size + 1, 1, none⟩) (hb7 (w.heap.size + 1) (by omega))).trans y1
  replace y2 := (World.cell?_of_block (a := ⟨w.heap.size + 1, 2, none⟩) (hb7 (w.heap.size + 1) (by omega))).trans y2
  replace y3 := (World.cell?_of_block (a := ⟨w.heap.size + 1, 3, none⟩) (hb7 (w.heap.size + 1) (by omega))).trans y3
  replace y4 := (World.cell?_of_block (a := ⟨w.heap.size + 1, 4, none⟩) (hb7 (w.heap.size + 1) (by omega))).trans y4
  replace y5 := (World.cell?_of_block (a := ⟨w.heap.size + 1, 5, none⟩) (hb7 (w.heap.size + 1) (by omega))).trans y5
  replace y6 := (World.cell?_of_block (a := ⟨w.heap.size + 1, 6, none⟩) (hb7 (w.heap.size + 1) (by omega))).trans y6
  replace y7 := (World.cell?_of_block (a := ⟨w.heap.size + 1, 7, none⟩) (hb7 (w.heap.size + 1) (by omega))).trans y7
  replace yf := fun o => (hf7 (w.heap.size + 1) o (by omega)).trans (yf o)
  replace e0 := (World.cell?_of_block (a := ⟨b3, k * 8, none⟩) (hb7 (b3) (by omega))).trans e0
  replace e1 := (World.cell?_of_block (a := ⟨b3, k * 8 + 1, none⟩) (hb7 (b3) (by omega))).trans e1
  replace e2 := (World.cell?_of_block (a := ⟨b3, k * 8 + 2, none⟩) (hb7 (b3) (by omega))).trans e2
  replace e3 := (World.cell?_of_block (a := ⟨b3, k * 8 + 3, none⟩) (hb7 (b3) (by omega))).trans e3
  replace e4 := (World.cell?_of_block (a := ⟨b3, k * 8 + 4, none⟩) (hb7 (b3) (by omega))).trans e4
  replace e5 := (World.cell?_of_block (a := ⟨b3, k * 8 + 5, none⟩) (hb7 (b3) (by omega))).trans e5
  replace e6 := (World.cell?_of_block (a := ⟨b3, k * 8 + 6, none⟩) (hb7 (b3) (by omega))).trans e6
  replace e7 := (World.cell?_of_block (a := ⟨b3, k * 8 + 7, none⟩) (hb7 (b3) (by omega))).trans e7
  replace HTc := Lib.hid (TrD.kept (fun k h1 h2 => hb7 k (by omega)) HTc.out)
  replace HBc := Lib.hid hbs
  replace hzc := Nat.le_trans hzc (Nat.le_of_eq hsz7.symm)
  replace hbl := Nat.lt_of_lt_of_le hbl (Nat.le_of_eq hsz7.symm)
  clear hnew hb7 hf7 hbs hsz7 r0 r1 r2 r3 r4 rf
  have hHeld3 : (fun w' : World => w'.cell? ⟨w3.heap.size, 0, none⟩ = some (.int .i64 tag) ∧ w'.cell? ⟨w3.heap.size, 1, none⟩ = some (.int .i64 key) ∧ w'.cell? ⟨w3.heap.size, 2, none⟩ = some (.string text) ∧ w'.cell? ⟨w3.heap.size, 3, none⟩ = some (.slice A0 ps.length c0) ∧ w'.cell? ⟨w3.heap.size, 4, none⟩ = some (.slice A1 ks.length c1)) v3 := ⟨o0, o1, o2, o3, o4⟩
  refine hK.out _ _ hHeld3 (fun hHeld2 => ?_)
  clear hHeld2 hHeld
  have hHeld := hHeld3
  clear hHeld3 hK K
  (try simp only [Act.put, qa, qb, qc, qd, qe, qf])
  refine wpAnyH_ready (rs := [7]) (by kernel_rfl) (by simp) ?_
  refine AllReadyH.cons (o := _) rfl (fun K hK => ?_) AllReadyH.nil
  go_simp
  refine hK.out _ _ hHeld (fun hHeld2 => ?_)
  clear hK K hHeld2
  (try simp only [Act.put, qa, qb, qc, qd, qe, qf])
  refine wpAnyH_ready (rs := [9]) (by kernel_rfl) (by simp) ?_
  refine AllReadyH.cons (o := _) rfl (fun K hK => ?_) AllReadyH.nil
  obtain ⟨v4, hnew, hb7, hf7, hsz7, z0, z1, z2, z3, z4, z5, z6, z7, zf, hbs⟩ := put8 y0 y1 y2 y3 y4 y5 y6 y7 yf (.int .i64 x.t) (.int .i64 x.a) (.int .i64 x.nm) (.int .i64 x.v.k) (.int .i64 x.v.n) (.string x.v.s) (.int .i64 x.l) (.int .i64 x.g) HBc.out (by omega)
  go_simp
  try rw [hnew]
  replace o0 := (World.cell?_of_block (a := ⟨w3.heap.size, 0, none⟩) (hb7 (w3.heap.size) (by omega))).trans o0
  replace o1 := (World.cell?_of_block (a := ⟨w3.heap.size, 1, none⟩) (hb7 (w3.heap.size) (by omega))).trans o1
  replace o2 := (World.cell?_of_block (a := ⟨w3.heap.size, 2, none⟩) (hb7 (w3.heap.size) (by omega))).trans o2
  replace o3 := (World.cell?_of_block (a := ⟨w3.heap.size, 3, none⟩) (hb7 (w3.heap.size) (by omega))).trans o3
  replace o4 := (World.cell?_of_block (a := ⟨w3.heap.size, 4, none⟩) (hb7 (w3.heap.size) (by omega))).trans o4
  replace e0 := (World.cell?_of_block (a := ⟨b3, k * 8, none⟩) (hb7 (b3) (by omega))).trans e0
  replace e1 := (World.cell?_of_block (a := ⟨b3, k * 8 + 1, none⟩) (hb7 (b3) (by omega))).trans e1
  replace e2 := (World.cell?_of_block (a := ⟨b3, k * 8 + 2, none⟩) (hb7 (b3) (by omega))).trans e2
  replace e3 := (World.cell?_of_block (a := ⟨b3, k * 8 + 3, none⟩) (hb7 (b3) (by omega))).trans e3
  replace e4 := (World.cell?_of_block (a := ⟨b3, k * 8 + 4, none⟩) (hb7 (b3) (by omega))).trans e4
  replace e5 := (World.cell?_of_block (a := ⟨b3, k * 8 + 5, none⟩) (hb7 (b3) (by omega))).trans e5
  replace e6 := (World.cell?_of_block (a := ⟨b3, k * 8 + 6, none⟩) (hb7 (b3) (by omega))).trans e6
  replace e7 := (World.cell?_of_block (a := ⟨b3, k * 8 + 7, none⟩) (hb7 (b3) (by omega))).trans e7
  replace s0 := (World.cell?_of_block (a := ⟨w.heap.size, 0, none⟩) (hb7 (w.heap.size) (by omega))).trans s0
  replace s1 := (World.cell?_of_block (a := ⟨w.heap.size, 1, none⟩) (hb7 (w.heap.size) (by omega))).trans s1
  replace s2 := (World.cell?_of_block (a := ⟨w.heap.size, 2, none⟩) (hb7 (w.heap.size) (by omega))).trans s2
  replace s3 := (World.cell?_of_block (a := ⟨w.heap.size, 3, none⟩) (hb7 (w.heap.size) (by omega))).trans s3
  replace s4 := (World.cell?_of_block (a := ⟨w.heap.size, 4, none⟩) (hb7 (w.heap.size) (by omega))).trans s4
  replace sf := fun o => (hf7 (w.heap.size) o (by omega)).trans (sf o)
  replace HTc := Lib.hid (TrD.kept (fun k h1 h2 => hb7 k (by omega)) HTc.out)
  replace HBc := Lib.hid hbs
  replace hzc := Nat.le_trans hzc (Nat.le_of_eq hsz7.symm)
  replace hbl := Nat.lt_of_lt_of_le hbl (Nat.le_of_eq hsz7.symm)
  clear hnew hb7 hf7 hbs hsz7 y0 y1 y2 y3 y4 y5 y6 y7 yf
  have hHeld3 : (fun w' : World => w'.cell? ⟨w3.heap.size, 0, none⟩ = some (.int .i64 tag) ∧ w'.cell? ⟨w3.heap.size, 1, none⟩ = some (.int .i64 key) ∧ w'.cell? ⟨w3.heap.size, 2, none⟩ = some (.string text) ∧ w'.cell? ⟨w3.heap.size, 3, none⟩ = some (.slice A0 ps.length c0) ∧ w'.cell? ⟨w3.heap.size, 4, none⟩ = some (.slice A1 ks.length c1)) v4 := ⟨o0, o1, o2, o3, o4⟩
  refine hK.out _ _ hHeld3 (fun hHeld2 => ?_)
  clear hHeld2 hHeld
  have hHeld := hHeld3
  clear hHeld3 hK K
  (try simp only [Act.put, qa, qb, qc, qd, qe, qf])
  refine wpAnyH_done (by kernel_rfl) ?_ _
  obtain ⟨F0, f0, F1, f1, hfe, hp7, hk7, _⟩ := HTc.out.lies (by omega)
  simp only [Tr.tag, Tr.key, Tr.text, Tr.ps, Tr.ks, List.cons.injEq, Value.slice.injEq, true_and, and_true] at hfe hp7 hk7
  obtain ⟨⟨rfl, rfl⟩, rfl, rfl⟩ := hfe
  have HP7 := Lib.hid hp7
  have HK7b := Lib.hid hk7
  clear hHeld hp7 hk7
  go_wp2_with fail
  refine bodyPost_ret (v := .tuple #[.agg #[.int .i64 tag, .int .i64 key, .string text, .slice A0 ps.length c0, .slice A1 ks.length c1], .agg #[.int .i64 x.t, .int .i64 x.a, .int .i64 x.nm, .int .i64 x.v.k, .int .i64 x.v.n, .string x.v.s, .int .i64 x.l, .int .i64 x.g]]) (by simp [results, Tryz.results15, go_sem, *]) rfl ⟨A0, c0, A1, c1, .mk tag key text ps ks, x, rfl, HP7.out, HK7b.out, HGd.out, HBc.out⟩
end Go.Proofs.YtmfibedcloknlaaGreatDoor
