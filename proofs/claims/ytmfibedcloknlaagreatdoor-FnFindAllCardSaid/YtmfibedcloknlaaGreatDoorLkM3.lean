/- LksA, LksB in one text. -/
import Derived.Test.YtmfibedcloknlaaGreatDoorLkM2
import Derived.Shelf.RegionOpenPlain
namespace Go.Proofs.YtmfibedcloknlaaGreatDoor
open Go.Joins Go.ChangeShapes Go.WideShapes Go.ChangeAt Go.RowKit Go.Deep
set_option linter.unusedVariables false
set_option linter.unusedSimpArgs false

set_option maxHeartbeats 1000000 in
theorem hasInt_any (A : Option Addr) (c n : Nat) (zs : List Int) (k : Int) (w : World) (hx : IntL w A zs) (hn : zs.length = n) (hl : n ≤ maxLen) :
  Calls Tryz.prog 111 #[.slice A n c, .int .i64 k] w fun e w' => e = .returned (.bool (zs.contains k)) ∧ w' = w := by
 unfold maxLen at hl
 have HN := Lib.hid hn
 have HX := Lib.hid hx
 obtain ⟨r, hr⟩ : ∃ r, zs.contains k = r := ⟨_, rfl⟩
 have HR0 := Lib.hid hr
 rw [hr]
 clear hx hn hr
 go_enter Tryz.func111, Tryz.ntmps111
 go_wp2_with fail
 go_loop [5] (fun i => ∃ j : Nat, j ≤ n ∧ i = .int .i64 j ∧ Hid ((zs.drop j).contains k = r)) (fun i => n - (intOf i).toNat)
 case atStart => exact ⟨0, by omega, rfl, HR0⟩
 case round =>
  obtain ⟨j, hj, rfl, HR⟩ := hrel
  by_cases hlt : j < n
  ·obtain ⟨z, hz⟩ := at_some (show j < zs.length by rw [HN.out]; exact hlt)
   obtain ⟨b, off, rfl, hblt, c0⟩ := HX.out.at_ hz
   have h2 := HR.out
   rw [drop_cons hz, List.contains_cons] at h2
   have hi1 : (0 : Int) ≤ (j : Int) := by omega
   have hi2 : (j : Int) < (n : Int) := by omega
   by_cases he : z = k
   ·have HV := Lib.hid (show r = true by rw [← h2, he]; simp)
    have hb : (z == k) = true := by simpa using he
    clear h2 hz he
    go_wp2_with fail
    go_ret
    exact ⟨ret_bool HV.out.symm, rfl⟩
   ·have HV := Lib.hid (show (zs.drop (j + 1)).contains k = r by rw [show (k == z) = false by simpa using fun e => he e.symm, Bool.false_or] at h2; exact h2)
    have hb : (z == k) = false := by simpa using he
    clear h2 hz he
    go_wp2_with fail
    go_round
    case rel => exact ⟨j + 1, by omega, by go_num, HV⟩
    case measure => simp [intOf]; omega
  ·have HV := Lib.hid (show r = false by rw [← HR.out, drop_none (by rw [HN.out]; omega)]; rfl)
   go_wp2_with fail
   go_ret
   exact ⟨ret_bool HV.out.symm, rfl⟩
def PaX (ps : List Pr) (o : Option Va) (r : Int) : Prop := (r = -1 ∧ o = none) ∨ ∃ (i : Nat) (p : Pr), r = (i : Int) ∧ ps[i]? = some p ∧ o = some p.v
set_option maxHeartbeats 1000000 in
theorem propAt_any (A : Option Addr) (c n : Nat) (ps : List Pr) (k : Int) (w : World) (hx : PrL w A ps) (hn : ps.length = n) (hl : n ≤ maxLen) :
  Calls Tryz.prog 112 #[.slice A n c, .int .i64 k] w fun e w' => (∃ r : Int, e = .returned (.int .i64 r) ∧ PaX ps (propOf ps k) r) ∧ w' = w := by
 unfold maxLen at hl
 have HN := Lib.hid hn
 have HX := Lib.hid hx
 obtain ⟨r, hr⟩ : ∃ r, propOf ps k = r := ⟨_, rfl⟩
 have HR0 := Lib.hid hr
 rw [hr]
 clear hx hn hr
 go_enter Tryz.func112, Tryz.ntmps112
 go_wp2_with fail
 go_loop [5] (fun i => ∃ j : Nat, j ≤ n ∧ i = .int .i64 j ∧ Hid (propOf (ps.drop j) k = r)) (fun i => n - (intOf i).toNat)
 case atStart => exact ⟨0, by omega, rfl, HR0⟩
 case round =>
  obtain ⟨j, hj, rfl, HR⟩ := hrel
  by_cases hlt : j < n
  ·obtain ⟨z, hz⟩ := at_some (show j < ps.length by rw [HN.out]; exact hlt)
   obtain ⟨b, off, rfl, hblt, hcell⟩ := HX.out.at_ (by have := HN.out; omega)
   obtain ⟨c0, c1, c2, c3⟩ := hcell j z hz
   have HZ := Lib.hid hz
   have h2 := HR.out
   rw [drop_cons hz] at h2
   simp only [propOf] at h2
   have hi1 : (0 : Int) ≤ (j : Int) := by omega
   have hi2 : (j : Int) < (n : Int) := by omega
   obtain ⟨znm, zv⟩ := z
   dsimp only at c0 c1 c2 c3 h2
   by_cases he : znm = k
   ·rw [if_pos he] at h2
    have HV := Lib.hid h2
    have hb : (znm == k) = true := by simpa using he
    clear h2 hz he hcell
    go_wp2_with fail
    go_ret
    exact ⟨⟨j, rfl, .inr ⟨j, ⟨znm, zv⟩, rfl, HZ.out, by rw [HV.out]⟩⟩, rfl⟩
   ·rw [if_neg he] at h2
    have HV := Lib.hid h2
    have hb : (znm == k) = false := by simpa using he
    clear h2 hz he hcell
    go_wp2_with fail
    go_round
    case rel => exact ⟨j + 1, by omega, by go_num, HV⟩
    case measure => simp [intOf]; omega
  ·have HV := Lib.hid (show r = none by rw [← HR.out, drop_none (by rw [HN.out]; omega)]; rfl)
   go_wp2_with fail
   go_ret
   exact ⟨⟨-1, rfl, .inl ⟨rfl, HV.out⟩⟩, rfl⟩
end Go.Proofs.YtmfibedcloknlaaGreatDoor

namespace Go.Proofs.YtmfibedcloknlaaGreatDoor
open Go.Joins Go.ChangeShapes Go.WideShapes Go.ChangeAt Go.RowKit Go.Deep
set_option linter.unusedVariables false
set_option linter.unusedSimpArgs false

set_option maxHeartbeats 2000000 in
theorem meets1 (tag key : Int) (text : ByteArray) (ps : List Pr) (A0 A1 GB : Option Addr) (n0 c0 n1 c1 gn gc : Nat) (ab : List Int) (vk vn l g : Int) (vs : ByteArray) (w : World) (t : Int) (a : Int) (nm : Int) (hp : PrL w A0 ps) (hn : ps.length = n0) (hl : n0 ≤ maxLen) (hab : IntL w GB ab) (hgn : ab.length = gn) (hgl : gn ≤ maxLen) (ht : (t != -1) = true) (htt : (t != tag) = true) :
  Calls Tryz.prog 86 #[.agg #[.int .i64 t, .int .i64 a, .int .i64 nm, .int .i64 vk, .int .i64 vn, .string vs, .int .i64 l, .int .i64 g], .agg #[.int .i64 tag, .int .i64 key, .string text, .slice A0 n0 c0, .slice A1 n1 c1], .slice GB gn gc] w fun e w' => e = .returned (.bool false) ∧ Below w.heap.size w w' := by
 have HP := Lib.hid hp
 have HN := Lib.hid hn
 unfold maxLen at hl
 clear hp hab hgn hn hgl
 go_enter Tryz.func86, Tryz.ntmps86
 go_wp2_with fail
 go_ret
 exact ⟨rfl, by go_grown⟩
set_option maxHeartbeats 2000000 in
theorem meets2 (tag key : Int) (text : ByteArray) (ps : List Pr) (A0 A1 GB : Option Addr) (n0 c0 n1 c1 gn gc : Nat) (ab : List Int) (vk vn l g : Int) (vs : ByteArray) (w : World) (a : Int) (nm : Int) (hp : PrL w A0 ps) (hn : ps.length = n0) (hl : n0 ≤ maxLen) (hab : IntL w GB ab) (hgn : ab.length = gn) (hgl : gn ≤ maxLen) (ha : (a != -1) = true) (hac : ab.contains a = false) :
  Calls Tryz.prog 86 #[.agg #[.int .i64 (-1), .int .i64 a, .int .i64 nm, .int .i64 vk, .int .i64 vn, .string vs, .int .i64 l, .int .i64 g], .agg #[.int .i64 tag, .int .i64 key, .string text, .slice A0 n0 c0, .slice A1 n1 c1], .slice GB gn gc] w fun e w' => e = .returned (.bool false) ∧ Below w.heap.size w w' := by
 have HP := Lib.hid hp
 have K := Lib.hid (fun w' (h : Below w.heap.size w w') => hasInt_any GB gc gn ab a w' (hab.below h) hgn hgl)
 rw [hac] at K
 have HN := Lib.hid hn
 unfold maxLen at hl
 clear hp hab hgn hn hgl hac
 go_enter Tryz.func86, Tryz.ntmps86
 go_wp2_with (go_at_call 111; ((with_reducible refine (K.out _ (by go_grown)).mono ?_); rintro e w' ⟨rfl, rfl⟩))
 go_ret
 exact ⟨rfl, by go_grown⟩
set_option maxHeartbeats 2000000 in
theorem meets3 (tag key : Int) (text : ByteArray) (ps : List Pr) (A0 A1 GB : Option Addr) (n0 c0 n1 c1 gn gc : Nat) (ab : List Int) (vk vn l g : Int) (vs : ByteArray) (w : World) (t : Int) (a : Int) (nm : Int) (hp : PrL w A0 ps) (hn : ps.length = n0) (hl : n0 ≤ maxLen) (hab : IntL w GB ab) (hgn : ab.length = gn) (hgl : gn ≤ maxLen) (ht : (t != -1) = true) (htt : (t != tag) = false) (ha : (a != -1) = true) (hac : ab.contains a = false) :
  Calls Tryz.prog 86 #[.agg #[.int .i64 t, .int .i64 a, .int .i64 nm, .int .i64 vk, .int .i64 vn, .string vs, .int .i64 l, .int .i64 g], .agg #[.int .i64 tag, .int .i64 key, .string text, .slice A0 n0 c0, .slice A1 n1 c1], .slice GB gn gc] w fun e w' => e = .returned (.bool false) ∧ Below w.heap.size w w' := by
 have HP := Lib.hid hp
 have K := Lib.hid (fun w' (h : Below w.heap.size w w') => hasInt_any GB gc gn ab a w' (hab.below h) hgn hgl)
 rw [hac] at K
 have HN := Lib.hid hn
 unfold maxLen at hl
 clear hp hab hgn hn hgl hac
 go_enter Tryz.func86, Tryz.ntmps86
 go_wp2_with (go_at_call 111; ((with_reducible refine (K.out _ (by go_grown)).mono ?_); rintro e w' ⟨rfl, rfl⟩))
 go_ret
 exact ⟨rfl, by go_grown⟩
set_option maxHeartbeats 2000000 in
theorem meets4 (tag key : Int) (text : ByteArray) (ps : List Pr) (A0 A1 GB : Option Addr) (n0 c0 n1 c1 gn gc : Nat) (ab : List Int) (vk vn l g : Int) (vs : ByteArray) (w : World) (hp : PrL w A0 ps) (hn : ps.length = n0) (hl : n0 ≤ maxLen) (hab : IntL w GB ab) (hgn : ab.length = gn) (hgl : gn ≤ maxLen) :
  Calls Tryz.prog 86 #[.agg #[.int .i64 (-1), .int .i64 (-1), .int .i64 (-1), .int .i64 vk, .int .i64 vn, .string vs, .int .i64 l, .int .i64 g], .agg #[.int .i64 tag, .int .i64 key, .string text, .slice A0 n0 c0, .slice A1 n1 c1], .slice GB gn gc] w fun e w' => e = .returned (.bool true) ∧ Below w.heap.size w w' := by
 have HP := Lib.hid hp
 have HN := Lib.hid hn
 unfold maxLen at hl
 clear hp hab hgn hn hgl
 go_enter Tryz.func86, Tryz.ntmps86
 go_wp2_with fail
 go_ret
 exact ⟨rfl, by go_grown⟩
set_option maxHeartbeats 2000000 in
theorem meets5 (tag key : Int) (text : ByteArray) (ps : List Pr) (A0 A1 GB : Option Addr) (n0 c0 n1 c1 gn gc : Nat) (ab : List Int) (vk vn l g : Int) (vs : ByteArray) (w : World) (nm : Int) (hp : PrL w A0 ps) (hn : ps.length = n0) (hl : n0 ≤ maxLen) (hab : IntL w GB ab) (hgn : ab.length = gn) (hgl : gn ≤ maxLen) (hnm : (nm == -1) = false) (hpo : propOf ps nm = none) :
  Calls Tryz.prog 86 #[.agg #[.int .i64 (-1), .int .i64 (-1), .int .i64 nm, .int .i64 vk, .int .i64 vn, .string vs, .int .i64 l, .int .i64 g], .agg #[.int .i64 tag, .int .i64 key, .string text, .slice A0 n0 c0, .slice A1 n1 c1], .slice GB gn gc] w fun e w' => e = .returned (.bool false) ∧ Below w.heap.size w w' := by
 have HP := Lib.hid hp
 have K2 := Lib.hid (fun w' (h : Below w.heap.size w w') => propAt_any A0 c0 n0 ps nm w' (hp.below h) hn hl)
 rw [hpo] at K2
 have HN := Lib.hid hn
 unfold maxLen at hl
 clear hp hab hgn hn hgl hpo
 go_enter Tryz.func86, Tryz.ntmps86
 go_wp2_with fail
 refine (K2.out _ (by go_grown)).mono ?_
 rintro e w' ⟨⟨r, rfl, ⟨rfl, _⟩ | ⟨i, p, _, _, h⟩⟩, rfl⟩
 ·have mixed : Tryz.prog.follows .mixedOrders = true := by kernel_rfl
  go_wp2_with fail
  go_big_region_o
  all_goals go_wp2_with fail
  go_ret
  exact ⟨rfl, by go_grown⟩
 ·cases h
set_option maxHeartbeats 2000000 in
theorem meets6 (tag key : Int) (text : ByteArray) (ps : List Pr) (A0 A1 GB : Option Addr) (n0 c0 n1 c1 gn gc : Nat) (ab : List Int) (vk vn l g : Int) (vs : ByteArray) (w : World) (nm : Int) (hp : PrL w A0 ps) (hn : ps.length = n0) (hl : n0 ≤ maxLen) (hab : IntL w GB ab) (hgn : ab.length = gn) (hgl : gn ≤ maxLen) (hnm : (nm == -1) = false) (pv : Va) (hpo : propOf ps nm = some pv) (hk0 : (pv.k == vk) = false) :
  Calls Tryz.prog 86 #[.agg #[.int .i64 (-1), .int .i64 (-1), .int .i64 nm, .int .i64 vk, .int .i64 vn, .string vs, .int .i64 l, .int .i64 g], .agg #[.int .i64 tag, .int .i64 key, .string text, .slice A0 n0 c0, .slice A1 n1 c1], .slice GB gn gc] w fun e w' => e = .returned (.bool false) ∧ Below w.heap.size w w' := by
 have HP := Lib.hid hp
 have K2 := Lib.hid (fun w' (h : Below w.heap.size w w') => propAt_any A0 c0 n0 ps nm w' (hp.below h) hn hl)
 rw [hpo] at K2
 have HN := Lib.hid hn
 unfold maxLen at hl
 clear hp hab hgn hn hgl hpo
 go_enter Tryz.func86, Tryz.ntmps86
 go_wp2_with fail
 refine (K2.out _ (by go_grown)).mono ?_
 rintro e w' ⟨⟨r, rfl, ⟨_, h⟩ | ⟨i, p, rfl, hi, h⟩⟩, hww⟩
 ·cases h
 injection h with h
 subst h
 obtain ⟨pnm, ⟨pk, pn, ps'⟩⟩ := p
 have hil : i < n0 := by rw [← HN.out]; exact (List.getElem?_eq_some_iff.1 hi).1
 have e0 : w'.cell? ⟨w.heap.size, 0, none⟩ = some (.int .i64 (-1)) := by rw [hww]; go_simp
 have e1 : w'.cell? ⟨w.heap.size, 1, none⟩ = some (.int .i64 (-1)) := by rw [hww]; go_simp
 have e2 : w'.cell? ⟨w.heap.size, 2, none⟩ = some (.int .i64 nm) := by rw [hww]; go_simp
 have e3 : w'.cell? ⟨w.heap.size, 3, none⟩ = some (.int .i64 vk) := by rw [hww]; go_simp
 have e4 : w'.cell? ⟨w.heap.size, 4, none⟩ = some (.int .i64 vn) := by rw [hww]; go_simp
 have e5 : w'.cell? ⟨w.heap.size, 5, none⟩ = some (.string vs) := by rw [hww]; go_simp
 have e6 : w'.cell? ⟨w.heap.size, 6, none⟩ = some (.int .i64 l) := by rw [hww]; go_simp
 have e7 : w'.cell? ⟨w.heap.size, 7, none⟩ = some (.int .i64 g) := by rw [hww]; go_simp
 have f0 : w'.cell? ⟨w.heap.size + 1, 0, none⟩ = some (.int .i64 tag) := by rw [hww]; go_simp
 have f1 : w'.cell? ⟨w.heap.size + 1, 1, none⟩ = some (.int .i64 key) := by rw [hww]; go_simp
 have f2 : w'.cell? ⟨w.heap.size + 1, 2, none⟩ = some (.string text) := by rw [hww]; go_simp
 have f3 : w'.cell? ⟨w.heap.size + 1, 3, none⟩ = some (.slice A0 n0 c0) := by rw [hww]; go_simp
 have f4 : w'.cell? ⟨w.heap.size + 1, 4, none⟩ = some (.slice A1 n1 c1) := by rw [hww]; go_simp
 have hBB : Below w.heap.size w ((w.alloc (.cells #[.int .i64 (-1), .int .i64 (-1), .int .i64 nm, .int .i64 vk, .int .i64 vn, .string vs, .int .i64 l, .int .i64 g] 42)).alloc (.cells #[.int .i64 tag, .int .i64 key, .string text, .slice A0 n0 c0, .slice A1 n1 c1] 26)) := by go_grown
 obtain ⟨b, off, rfl, hblt, hcell⟩ := PrL.at_ (HP.out.below hBB) (by rw [HN.out]; omega)
 obtain ⟨d0, d1, d2, d3⟩ := hcell i _ hi
 dsimp only at d0 d1 d2 d3
 rw [← hww] at d0 d1 d2 d3 hBB
 have HBB := Lib.hid hBB
 have hi1 : (0 : Int) ≤ (i : Int) := by omega
 have hi2 : (i : Int) < (n0 : Int) := by omega
 have mixed : Tryz.prog.follows .mixedOrders = true := by kernel_rfl
 dsimp only at hk0
 clear hcell hi hww hBB
 go_wp2_with fail
 go_big_region_o
 all_goals go_wp2_with fail
 go_ret
 exact ⟨rfl, HBB.out.drew⟩
set_option maxHeartbeats 2000000 in
theorem meets7 (tag key : Int) (text : ByteArray) (ps : List Pr) (A0 A1 GB : Option Addr) (n0 c0 n1 c1 gn gc : Nat) (ab : List Int) (vk vn l g : Int) (vs : ByteArray) (w : World) (nm : Int) (hp : PrL w A0 ps) (hn : ps.length = n0) (hl : n0 ≤ maxLen) (hab : IntL w GB ab) (hgn : ab.length = gn) (hgl : gn ≤ maxLen) (hnm : (nm == -1) = false) (pv : Va) (hpo : propOf ps nm = some pv) (hk0 : pv.k = vk) (hk1 : (pv.n == vn) = false) :
  Calls Tryz.prog 86 #[.agg #[.int .i64 (-1), .int .i64 (-1), .int .i64 nm, .int .i64 vk, .int .i64 vn, .string vs, .int .i64 l, .int .i64 g], .agg #[.int .i64 tag, .int .i64 key, .string text, .slice A0 n0 c0, .slice A1 n1 c1], .slice GB gn gc] w fun e w' => e = .returned (.bool false) ∧ Below w.heap.size w w' := by
 have HP := Lib.hid hp
 have K2 := Lib.hid (fun w' (h : Below w.heap.size w w') => propAt_any A0 c0 n0 ps nm w' (hp.below h) hn hl)
 rw [hpo] at K2
 have HN := Lib.hid hn
 unfold maxLen at hl
 clear hp hab hgn hn hgl hpo
 go_enter Tryz.func86, Tryz.ntmps86
 go_wp2_with fail
 refine (K2.out _ (by go_grown)).mono ?_
 rintro e w' ⟨⟨r, rfl, ⟨_, h⟩ | ⟨i, p, rfl, hi, h⟩⟩, hww⟩
 ·cases h
 injection h with h
 subst h
 obtain ⟨pnm, ⟨pk, pn, ps'⟩⟩ := p
 have hil : i < n0 := by rw [← HN.out]; exact (List.getElem?_eq_some_iff.1 hi).1
 have e0 : w'.cell? ⟨w.heap.size, 0, none⟩ = some (.int .i64 (-1)) := by rw [hww]; go_simp
 have e1 : w'.cell? ⟨w.heap.size, 1, none⟩ = some (.int .i64 (-1)) := by rw [hww]; go_simp
 have e2 : w'.cell? ⟨w.heap.size, 2, none⟩ = some (.int .i64 nm) := by rw [hww]; go_simp
 have e3 : w'.cell? ⟨w.heap.size, 3, none⟩ = some (.int .i64 vk) := by rw [hww]; go_simp
 have e4 : w'.cell? ⟨w.heap.size, 4, none⟩ = some (.int .i64 vn) := by rw [hww]; go_simp
 have e5 : w'.cell? ⟨w.heap.size, 5, none⟩ = some (.string vs) := by rw [hww]; go_simp
 have e6 : w'.cell? ⟨w.heap.size, 6, none⟩ = some (.int .i64 l) := by rw [hww]; go_simp
 have e7 : w'.cell? ⟨w.heap.size, 7, none⟩ = some (.int .i64 g) := by rw [hww]; go_simp
 have f0 : w'.cell? ⟨w.heap.size + 1, 0, none⟩ = some (.int .i64 tag) := by rw [hww]; go_simp
 have f1 : w'.cell? ⟨w.heap.size + 1, 1, none⟩ = some (.int .i64 key) := by rw [hww]; go_simp
 have f2 : w'.cell? ⟨w.heap.size + 1, 2, none⟩ = some (.string text) := by rw [hww]; go_simp
 have f3 : w'.cell? ⟨w.heap.size + 1, 3, none⟩ = some (.slice A0 n0 c0) := by rw [hww]; go_simp
 have f4 : w'.cell? ⟨w.heap.size + 1, 4, none⟩ = some (.slice A1 n1 c1) := by rw [hww]; go_simp
 have hBB : Below w.heap.size w ((w.alloc (.cells #[.int .i64 (-1), .int .i64 (-1), .int .i64 nm, .int .i64 vk, .int .i64 vn, .string vs, .int .i64 l, .int .i64 g] 42)).alloc (.cells #[.int .i64 tag, .int .i64 key, .string text, .slice A0 n0 c0, .slice A1 n1 c1] 26)) := by go_grown
 obtain ⟨b, off, rfl, hblt, hcell⟩ := PrL.at_ (HP.out.below hBB) (by rw [HN.out]; omega)
 obtain ⟨d0, d1, d2, d3⟩ := hcell i _ hi
 dsimp only at d0 d1 d2 d3
 rw [← hww] at d0 d1 d2 d3 hBB
 have HBB := Lib.hid hBB
 have hi1 : (0 : Int) ≤ (i : Int) := by omega
 have hi2 : (i : Int) < (n0 : Int) := by omega
 have mixed : Tryz.prog.follows .mixedOrders = true := by kernel_rfl
 dsimp only at hk0 hk1
 subst hk0
 clear hcell hi hww hBB
 go_wp2_with fail
 go_big_region_o
 all_goals go_wp2_with fail
 go_ret
 exact ⟨rfl, HBB.out.drew⟩
set_option maxHeartbeats 2000000 in
theorem meets8 (tag key : Int) (text : ByteArray) (ps : List Pr) (A0 A1 GB : Option Addr) (n0 c0 n1 c1 gn gc : Nat) (ab : List Int) (vk vn l g : Int) (vs : ByteArray) (w : World) (nm : Int) (hp : PrL w A0 ps) (hn : ps.length = n0) (hl : n0 ≤ maxLen) (hab : IntL w GB ab) (hgn : ab.length = gn) (hgl : gn ≤ maxLen) (hnm : (nm == -1) = false) (pv : Va) (hpo : propOf ps nm = some pv) (hk0 : pv.k = vk) (hk1 : pv.n = vn) (hk2 : pv.s ≠ vs) :
  Calls Tryz.prog 86 #[.agg #[.int .i64 (-1), .int .i64 (-1), .int .i64 nm, .int .i64 vk, .int .i64 vn, .string vs, .int .i64 l, .int .i64 g], .agg #[.int .i64 tag, .int .i64 key, .string text, .slice A0 n0 c0, .slice A1 n1 c1], .slice GB gn gc] w fun e w' => e = .returned (.bool false) ∧ Below w.heap.size w w' := by
 have HP := Lib.hid hp
 have K2 := Lib.hid (fun w' (h : Below w.heap.size w w') => propAt_any A0 c0 n0 ps nm w' (hp.below h) hn hl)
 rw [hpo] at K2
 have HN := Lib.hid hn
 unfold maxLen at hl
 clear hp hab hgn hn hgl hpo
 go_enter Tryz.func86, Tryz.ntmps86
 go_wp2_with fail
 refine (K2.out _ (by go_grown)).mono ?_
 rintro e w' ⟨⟨r, rfl, ⟨_, h⟩ | ⟨i, p, rfl, hi, h⟩⟩, hww⟩
 ·cases h
 injection h with h
 subst h
 obtain ⟨pnm, ⟨pk, pn, ps'⟩⟩ := p
 have hil : i < n0 := by rw [← HN.out]; exact (List.getElem?_eq_some_iff.1 hi).1
 have e0 : w'.cell? ⟨w.heap.size, 0, none⟩ = some (.int .i64 (-1)) := by rw [hww]; go_simp
 have e1 : w'.cell? ⟨w.heap.size, 1, none⟩ = some (.int .i64 (-1)) := by rw [hww]; go_simp
 have e2 : w'.cell? ⟨w.heap.size, 2, none⟩ = some (.int .i64 nm) := by rw [hww]; go_simp
 have e3 : w'.cell? ⟨w.heap.size, 3, none⟩ = some (.int .i64 vk) := by rw [hww]; go_simp
 have e4 : w'.cell? ⟨w.heap.size, 4, none⟩ = some (.int .i64 vn) := by rw [hww]; go_simp
 have e5 : w'.cell? ⟨w.heap.size, 5, none⟩ = some (.string vs) := by rw [hww]; go_simp
 have e6 : w'.cell? ⟨w.heap.size, 6, none⟩ = some (.int .i64 l) := by rw [hww]; go_simp
 have e7 : w'.cell? ⟨w.heap.size, 7, none⟩ = some (.int .i64 g) := by rw [hww]; go_simp
 have f0 : w'.cell? ⟨w.heap.size + 1, 0, none⟩ = some (.int .i64 tag) := by rw [hww]; go_simp
 have f1 : w'.cell? ⟨w.heap.size + 1, 1, none⟩ = some (.int .i64 key) := by rw [hww]; go_simp
 have f2 : w'.cell? ⟨w.heap.size + 1, 2, none⟩ = some (.string text) := by rw [hww]; go_simp
 have f3 : w'.cell? ⟨w.heap.size + 1, 3, none⟩ = some (.slice A0 n0 c0) := by rw [hww]; go_simp
 have f4 : w'.cell? ⟨w.heap.size + 1, 4, none⟩ = some (.slice A1 n1 c1) := by rw [hww]; go_simp
 have hBB : Below w.heap.size w ((w.alloc (.cells #[.int .i64 (-1), .int .i64 (-1), .int .i64 nm, .int .i64 vk, .int .i64 vn, .string vs, .int .i64 l, .int .i64 g] 42)).alloc (.cells #[.int .i64 tag, .int .i64 key, .string text, .slice A0 n0 c0, .slice A1 n1 c1] 26)) := by go_grown
 obtain ⟨b, off, rfl, hblt, hcell⟩ := PrL.at_ (HP.out.below hBB) (by rw [HN.out]; omega)
 obtain ⟨d0, d1, d2, d3⟩ := hcell i _ hi
 dsimp only at d0 d1 d2 d3
 rw [← hww] at d0 d1 d2 d3 hBB
 have HBB := Lib.hid hBB
 have hi1 : (0 : Int) ≤ (i : Int) := by omega
 have hi2 : (i : Int) < (n0 : Int) := by omega
 have mixed : Tryz.prog.follows .mixedOrders = true := by kernel_rfl
 dsimp only at hk0 hk1 hk2
 subst hk0 hk1
 have hbs := bytes_ne hk2
 clear hk2
 clear hcell hi hww hBB
 go_wp2_with fail
 go_big_region_o
 all_goals go_wp2_with fail
 go_ret
 exact ⟨rfl, HBB.out.drew⟩
set_option maxHeartbeats 2000000 in
theorem meets9 (tag key : Int) (text : ByteArray) (ps : List Pr) (A0 A1 GB : Option Addr) (n0 c0 n1 c1 gn gc : Nat) (ab : List Int) (vk vn l g : Int) (vs : ByteArray) (w : World) (nm : Int) (hp : PrL w A0 ps) (hn : ps.length = n0) (hl : n0 ≤ maxLen) (hab : IntL w GB ab) (hgn : ab.length = gn) (hgl : gn ≤ maxLen) (hnm : (nm == -1) = false) (pv : Va) (hpo : propOf ps nm = some pv) (hk0 : pv = ⟨vk, vn, vs⟩) :
  Calls Tryz.prog 86 #[.agg #[.int .i64 (-1), .int .i64 (-1), .int .i64 nm, .int .i64 vk, .int .i64 vn, .string vs, .int .i64 l, .int .i64 g], .agg #[.int .i64 tag, .int .i64 key, .string text, .slice A0 n0 c0, .slice A1 n1 c1], .slice GB gn gc] w fun e w' => e = .returned (.bool true) ∧ Below w.heap.size w w' := by
 have HP := Lib.hid hp
 have K2 := Lib.hid (fun w' (h : Below w.heap.size w w') => propAt_any A0 c0 n0 ps nm w' (hp.below h) hn hl)
 rw [hpo] at K2
 have HN := Lib.hid hn
 unfold maxLen at hl
 clear hp hab hgn hn hgl hpo
 go_enter Tryz.func86, Tryz.ntmps86
 go_wp2_with fail
 refine (K2.out _ (by go_grown)).mono ?_
 rintro e w' ⟨⟨r, rfl, ⟨_, h⟩ | ⟨i, p, rfl, hi, h⟩⟩, hww⟩
 ·cases h
 injection h with h
 subst h
 obtain ⟨pnm, ⟨pk, pn, ps'⟩⟩ := p
 have hil : i < n0 := by rw [← HN.out]; exact (List.getElem?_eq_some_iff.1 hi).1
 have e0 : w'.cell? ⟨w.heap.size, 0, none⟩ = some (.int .i64 (-1)) := by rw [hww]; go_simp
 have e1 : w'.cell? ⟨w.heap.size, 1, none⟩ = some (.int .i64 (-1)) := by rw [hww]; go_simp
 have e2 : w'.cell? ⟨w.heap.size, 2, none⟩ = some (.int .i64 nm) := by rw [hww]; go_simp
 have e3 : w'.cell? ⟨w.heap.size, 3, none⟩ = some (.int .i64 vk) := by rw [hww]; go_simp
 have e4 : w'.cell? ⟨w.heap.size, 4, none⟩ = some (.int .i64 vn) := by rw [hww]; go_simp
 have e5 : w'.cell? ⟨w.heap.size, 5, none⟩ = some (.string vs) := by rw [hww]; go_simp
 have e6 : w'.cell? ⟨w.heap.size, 6, none⟩ = some (.int .i64 l) := by rw [hww]; go_simp
 have e7 : w'.cell? ⟨w.heap.size, 7, none⟩ = some (.int .i64 g) := by rw [hww]; go_simp
 have f0 : w'.cell? ⟨w.heap.size + 1, 0, none⟩ = some (.int .i64 tag) := by rw [hww]; go_simp
 have f1 : w'.cell? ⟨w.heap.size + 1, 1, none⟩ = some (.int .i64 key) := by rw [hww]; go_simp
 have f2 : w'.cell? ⟨w.heap.size + 1, 2, none⟩ = some (.string text) := by rw [hww]; go_simp
 have f3 : w'.cell? ⟨w.heap.size + 1, 3, none⟩ = some (.slice A0 n0 c0) := by rw [hww]; go_simp
 have f4 : w'.cell? ⟨w.heap.size + 1, 4, none⟩ = some (.slice A1 n1 c1) := by rw [hww]; go_simp
 have hBB : Below w.heap.size w ((w.alloc (.cells #[.int .i64 (-1), .int .i64 (-1), .int .i64 nm, .int .i64 vk, .int .i64 vn, .string vs, .int .i64 l, .int .i64 g] 42)).alloc (.cells #[.int .i64 tag, .int .i64 key, .string text, .slice A0 n0 c0, .slice A1 n1 c1] 26)) := by go_grown
 obtain ⟨b, off, rfl, hblt, hcell⟩ := PrL.at_ (HP.out.below hBB) (by rw [HN.out]; omega)
 obtain ⟨d0, d1, d2, d3⟩ := hcell i _ hi
 dsimp only at d0 d1 d2 d3
 rw [← hww] at d0 d1 d2 d3 hBB
 have HBB := Lib.hid hBB
 have hi1 : (0 : Int) ≤ (i : Int) := by omega
 have hi2 : (i : Int) < (n0 : Int) := by omega
 have mixed : Tryz.prog.follows .mixedOrders = true := by kernel_rfl
 injection hk0 with q0 q1 q2
 subst q0 q1 q2
 clear hcell hi hww hBB
 go_wp2_with fail
 go_big_region_o
 all_goals go_wp2_with fail
 go_ret
 exact ⟨rfl, HBB.out.drew⟩
set_option maxHeartbeats 2000000 in
theorem meets10 (tag key : Int) (text : ByteArray) (ps : List Pr) (A0 A1 GB : Option Addr) (n0 c0 n1 c1 gn gc : Nat) (ab : List Int) (vk vn l g : Int) (vs : ByteArray) (w : World) (a : Int) (hp : PrL w A0 ps) (hn : ps.length = n0) (hl : n0 ≤ maxLen) (hab : IntL w GB ab) (hgn : ab.length = gn) (hgl : gn ≤ maxLen) (ha : (a != -1) = true) (hac : ab.contains a = true) :
  Calls Tryz.prog 86 #[.agg #[.int .i64 (-1), .int .i64 a, .int .i64 (-1), .int .i64 vk, .int .i64 vn, .string vs, .int .i64 l, .int .i64 g], .agg #[.int .i64 tag, .int .i64 key, .string text, .slice A0 n0 c0, .slice A1 n1 c1], .slice GB gn gc] w fun e w' => e = .returned (.bool true) ∧ Below w.heap.size w w' := by
 have HP := Lib.hid hp
 have K := Lib.hid (fun w' (h : Below w.heap.size w w') => hasInt_any GB gc gn ab a w' (hab.below h) hgn hgl)
 rw [hac] at K
 have HN := Lib.hid hn
 unfold maxLen at hl
 clear hp hab hgn hn hgl hac
 go_enter Tryz.func86, Tryz.ntmps86
 go_wp2_with (go_at_call 111; ((with_reducible refine (K.out _ (by go_grown)).mono ?_); rintro e w' ⟨rfl, rfl⟩))
 go_ret
 exact ⟨rfl, by go_grown⟩
set_option maxHeartbeats 2000000 in
theorem meets11 (tag key : Int) (text : ByteArray) (ps : List Pr) (A0 A1 GB : Option Addr) (n0 c0 n1 c1 gn gc : Nat) (ab : List Int) (vk vn l g : Int) (vs : ByteArray) (w : World) (a : Int) (nm : Int) (hp : PrL w A0 ps) (hn : ps.length = n0) (hl : n0 ≤ maxLen) (hab : IntL w GB ab) (hgn : ab.length = gn) (hgl : gn ≤ maxLen) (ha : (a != -1) = true) (hac : ab.contains a = true) (hnm : (nm == -1) = false) (hpo : propOf ps nm = none) :
  Calls Tryz.prog 86 #[.agg #[.int .i64 (-1), .int .i64 a, .int .i64 nm, .int .i64 vk, .int .i64 vn, .string vs, .int .i64 l, .int .i64 g], .agg #[.int .i64 tag, .int .i64 key, .string text, .slice A0 n0 c0, .slice A1 n1 c1], .slice GB gn gc] w fun e w' => e = .returned (.bool false) ∧ Below w.heap.size w w' := by
 have HP := Lib.hid hp
 have K := Lib.hid (fun w' (h : Below w.heap.size w w') => hasInt_any GB gc gn ab a w' (hab.below h) hgn hgl)
 rw [hac] at K
 have K2 := Lib.hid (fun w' (h : Below w.heap.size w w') => propAt_any A0 c0 n0 ps nm w' (hp.below h) hn hl)
 rw [hpo] at K2
 have HN := Lib.hid hn
 unfold maxLen at hl
 clear hp hab hgn hn hgl hac hpo
 go_enter Tryz.func86, Tryz.ntmps86
 go_wp2_with (go_at_call 111; ((with_reducible refine (K.out _ (by go_grown)).mono ?_); rintro e w' ⟨rfl, rfl⟩))
 refine (K2.out _ (by go_grown)).mono ?_
 rintro e w' ⟨⟨r, rfl, ⟨rfl, _⟩ | ⟨i, p, _, _, h⟩⟩, rfl⟩
 ·have mixed : Tryz.prog.follows .mixedOrders = true := by kernel_rfl
  go_wp2_with fail
  go_big_region_o
  all_goals go_wp2_with fail
  go_ret
  exact ⟨rfl, by go_grown⟩
 ·cases h
set_option maxHeartbeats 2000000 in
theorem meets12 (tag key : Int) (text : ByteArray) (ps : List Pr) (A0 A1 GB : Option Addr) (n0 c0 n1 c1 gn gc : Nat) (ab : List Int) (vk vn l g : Int) (vs : ByteArray) (w : World) (a : Int) (nm : Int) (hp : PrL w A0 ps) (hn : ps.length = n0) (hl : n0 ≤ maxLen) (hab : IntL w GB ab) (hgn : ab.length = gn) (hgl : gn ≤ maxLen) (ha : (a != -1) = true) (hac : ab.contains a = true) (hnm : (nm == -1) = false) (pv : Va) (hpo : propOf ps nm = some pv) (hk0 : (pv.k == vk) = false) :
  Calls Tryz.prog 86 #[.agg #[.int .i64 (-1), .int .i64 a, .int .i64 nm, .int .i64 vk, .int .i64 vn, .string vs, .int .i64 l, .int .i64 g], .agg #[.int .i64 tag, .int .i64 key, .string text, .slice A0 n0 c0, .slice A1 n1 c1], .slice GB gn gc] w fun e w' => e = .returned (.bool false) ∧ Below w.heap.size w w' := by
 have HP := Lib.hid hp
 have K := Lib.hid (fun w' (h : Below w.heap.size w w') => hasInt_any GB gc gn ab a w' (hab.below h) hgn hgl)
 rw [hac] at K
 have K2 := Lib.hid (fun w' (h : Below w.heap.size w w') => propAt_any A0 c0 n0 ps nm w' (hp.below h) hn hl)
 rw [hpo] at K2
 have HN := Lib.hid hn
 unfold maxLen at hl
 clear hp hab hgn hn hgl hac hpo
 go_enter Tryz.func86, Tryz.ntmps86
 go_wp2_with (go_at_call 111; ((with_reducible refine (K.out _ (by go_grown)).mono ?_); rintro e w' ⟨rfl, rfl⟩))
 refine (K2.out _ (by go_grown)).mono ?_
 rintro e w' ⟨⟨r, rfl, ⟨_, h⟩ | ⟨i, p, rfl, hi, h⟩⟩, hww⟩
 ·cases h
 injection h with h
 subst h
 obtain ⟨pnm, ⟨pk, pn, ps'⟩⟩ := p
 have hil : i < n0 := by rw [← HN.out]; exact (List.getElem?_eq_some_iff.1 hi).1
 have e0 : w'.cell? ⟨w.heap.size, 0, none⟩ = some (.int .i64 (-1)) := by rw [hww]; go_simp
 have e1 : w'.cell? ⟨w.heap.size, 1, none⟩ = some (.int .i64 a) := by rw [hww]; go_simp
 have e2 : w'.cell? ⟨w.heap.size, 2, none⟩ = some (.int .i64 nm) := by rw [hww]; go_simp
 have e3 : w'.cell? ⟨w.heap.size, 3, none⟩ = some (.int .i64 vk) := by rw [hww]; go_simp
 have e4 : w'.cell? ⟨w.heap.size, 4, none⟩ = some (.int .i64 vn) := by rw [hww]; go_simp
 have e5 : w'.cell? ⟨w.heap.size, 5, none⟩ = some (.string vs) := by rw [hww]; go_simp
 have e6 : w'.cell? ⟨w.heap.size, 6, none⟩ = some (.int .i64 l) := by rw [hww]; go_simp
 have e7 : w'.cell? ⟨w.heap.size, 7, none⟩ = some (.int .i64 g) := by rw [hww]; go_simp
 have f0 : w'.cell? ⟨w.heap.size + 1, 0, none⟩ = some (.int .i64 tag) := by rw [hww]; go_simp
 have f1 : w'.cell? ⟨w.heap.size + 1, 1, none⟩ = some (.int .i64 key) := by rw [hww]; go_simp
 have f2 : w'.cell? ⟨w.heap.size + 1, 2, none⟩ = some (.string text) := by rw [hww]; go_simp
 have f3 : w'.cell? ⟨w.heap.size + 1, 3, none⟩ = some (.slice A0 n0 c0) := by rw [hww]; go_simp
 have f4 : w'.cell? ⟨w.heap.size + 1, 4, none⟩ = some (.slice A1 n1 c1) := by rw [hww]; go_simp
 have hBB : Below w.heap.size w ((w.alloc (.cells #[.int .i64 (-1), .int .i64 a, .int .i64 nm, .int .i64 vk, .int .i64 vn, .string vs, .int .i64 l, .int .i64 g] 42)).alloc (.cells #[.int .i64 tag, .int .i64 key, .string text, .slice A0 n0 c0, .slice A1 n1 c1] 26)) := by go_grown
 obtain ⟨b, off, rfl, hblt, hcell⟩ := PrL.at_ (HP.out.below hBB) (by rw [HN.out]; omega)
 obtain ⟨d0, d1, d2, d3⟩ := hcell i _ hi
 dsimp only at d0 d1 d2 d3
 rw [← hww] at d0 d1 d2 d3 hBB
 have HBB := Lib.hid hBB
 have hi1 : (0 : Int) ≤ (i : Int) := by omega
 have hi2 : (i : Int) < (n0 : Int) := by omega
 have mixed : Tryz.prog.follows .mixedOrders = true := by kernel_rfl
 dsimp only at hk0
 clear hcell hi hww hBB
 go_wp2_with fail
 go_big_region_o
 all_goals go_wp2_with fail
 go_ret
 exact ⟨rfl, HBB.out.drew⟩
set_option maxHeartbeats 2000000 in
theorem meets13 (tag key : Int) (text : ByteArray) (ps : List Pr) (A0 A1 GB : Option Addr) (n0 c0 n1 c1 gn gc : Nat) (ab : List Int) (vk vn l g : Int) (vs : ByteArray) (w : World) (a : Int) (nm : Int) (hp : PrL w A0 ps) (hn : ps.length = n0) (hl : n0 ≤ maxLen) (hab : IntL w GB ab) (hgn : ab.length = gn) (hgl : gn ≤ maxLen) (ha : (a != -1) = true) (hac : ab.contains a = true) (hnm : (nm == -1) = false) (pv : Va) (hpo : propOf ps nm = some pv) (hk0 : pv.k = vk) (hk1 : (pv.n == vn) = false) :
  Calls Tryz.prog 86 #[.agg #[.int .i64 (-1), .int .i64 a, .int .i64 nm, .int .i64 vk, .int .i64 vn, .string vs, .int .i64 l, .int .i64 g], .agg #[.int .i64 tag, .int .i64 key, .string text, .slice A0 n0 c0, .slice A1 n1 c1], .slice GB gn gc] w fun e w' => e = .returned (.bool false) ∧ Below w.heap.size w w' := by
 have HP := Lib.hid hp
 have K := Lib.hid (fun w' (h : Below w.heap.size w w') => hasInt_any GB gc gn ab a w' (hab.below h) hgn hgl)
 rw [hac] at K
 have K2 := Lib.hid (fun w' (h : Below w.heap.size w w') => propAt_any A0 c0 n0 ps nm w' (hp.below h) hn hl)
 rw [hpo] at K2
 have HN := Lib.hid hn
 unfold maxLen at hl
 clear hp hab hgn hn hgl hac hpo
 go_enter Tryz.func86, Tryz.ntmps86
 go_wp2_with (go_at_call 111; ((with_reducible refine (K.out _ (by go_grown)).mono ?_); rintro e w' ⟨rfl, rfl⟩))
 refine (K2.out _ (by go_grown)).mono ?_
 rintro e w' ⟨⟨r, rfl, ⟨_, h⟩ | ⟨i, p, rfl, hi, h⟩⟩, hww⟩
 ·cases h
 injection h with h
 subst h
 obtain ⟨pnm, ⟨pk, pn, ps'⟩⟩ := p
 have hil : i < n0 := by rw [← HN.out]; exact (List.getElem?_eq_some_iff.1 hi).1
 have e0 : w'.cell? ⟨w.heap.size, 0, none⟩ = some (.int .i64 (-1)) := by rw [hww]; go_simp
 have e1 : w'.cell? ⟨w.heap.size, 1, none⟩ = some (.int .i64 a) := by rw [hww]; go_simp
 have e2 : w'.cell? ⟨w.heap.size, 2, none⟩ = some (.int .i64 nm) := by rw [hww]; go_simp
 have e3 : w'.cell? ⟨w.heap.size, 3, none⟩ = some (.int .i64 vk) := by rw [hww]; go_simp
 have e4 : w'.cell? ⟨w.heap.size, 4, none⟩ = some (.int .i64 vn) := by rw [hww]; go_simp
 have e5 : w'.cell? ⟨w.heap.size, 5, none⟩ = some (.string vs) := by rw [hww]; go_simp
 have e6 : w'.cell? ⟨w.heap.size, 6, none⟩ = some (.int .i64 l) := by rw [hww]; go_simp
 have e7 : w'.cell? ⟨w.heap.size, 7, none⟩ = some (.int .i64 g) := by rw [hww]; go_simp
 have f0 : w'.cell? ⟨w.heap.size + 1, 0, none⟩ = some (.int .i64 tag) := by rw [hww]; go_simp
 have f1 : w'.cell? ⟨w.heap.size + 1, 1, none⟩ = some (.int .i64 key) := by rw [hww]; go_simp
 have f2 : w'.cell? ⟨w.heap.size + 1, 2, none⟩ = some (.string text) := by rw [hww]; go_simp
 have f3 : w'.cell? ⟨w.heap.size + 1, 3, none⟩ = some (.slice A0 n0 c0) := by rw [hww]; go_simp
 have f4 : w'.cell? ⟨w.heap.size + 1, 4, none⟩ = some (.slice A1 n1 c1) := by rw [hww]; go_simp
 have hBB : Below w.heap.size w ((w.alloc (.cells #[.int .i64 (-1), .int .i64 a, .int .i64 nm, .int .i64 vk, .int .i64 vn, .string vs, .int .i64 l, .int .i64 g] 42)).alloc (.cells #[.int .i64 tag, .int .i64 key, .string text, .slice A0 n0 c0, .slice A1 n1 c1] 26)) := by go_grown
 obtain ⟨b, off, rfl, hblt, hcell⟩ := PrL.at_ (HP.out.below hBB) (by rw [HN.out]; omega)
 obtain ⟨d0, d1, d2, d3⟩ := hcell i _ hi
 dsimp only at d0 d1 d2 d3
 rw [← hww] at d0 d1 d2 d3 hBB
 have HBB := Lib.hid hBB
 have hi1 : (0 : Int) ≤ (i : Int) := by omega
 have hi2 : (i : Int) < (n0 : Int) := by omega
 have mixed : Tryz.prog.follows .mixedOrders = true := by kernel_rfl
 dsimp only at hk0 hk1
 subst hk0
 clear hcell hi hww hBB
 go_wp2_with fail
 go_big_region_o
 all_goals go_wp2_with fail
 go_ret
 exact ⟨rfl, HBB.out.drew⟩
set_option maxHeartbeats 2000000 in
theorem meets14 (tag key : Int) (text : ByteArray) (ps : List Pr) (A0 A1 GB : Option Addr) (n0 c0 n1 c1 gn gc : Nat) (ab : List Int) (vk vn l g : Int) (vs : ByteArray) (w : World) (a : Int) (nm : Int) (hp : PrL w A0 ps) (hn : ps.length = n0) (hl : n0 ≤ maxLen) (hab : IntL w GB ab) (hgn : ab.length = gn) (hgl : gn ≤ maxLen) (ha : (a != -1) = true) (hac : ab.contains a = true) (hnm : (nm == -1) = false) (pv : Va) (hpo : propOf ps nm = some pv) (hk0 : pv.k = vk) (hk1 : pv.n = vn) (hk2 : pv.s ≠ vs) :
  Calls Tryz.prog 86 #[.agg #[.int .i64 (-1), .int .i64 a, .int .i64 nm, .int .i64 vk, .int .i64 vn, .string vs, .int .i64 l, .int .i64 g], .agg #[.int .i64 tag, .int .i64 key, .string text, .slice A0 n0 c0, .slice A1 n1 c1], .slice GB gn gc] w fun e w' => e = .returned (.bool false) ∧ Below w.heap.size w w' := by
 have HP := Lib.hid hp
 have K := Lib.hid (fun w' (h : Below w.heap.size w w') => hasInt_any GB gc gn ab a w' (hab.below h) hgn hgl)
 rw [hac] at K
 have K2 := Lib.hid (fun w' (h : Below w.heap.size w w') => propAt_any A0 c0 n0 ps nm w' (hp.below h) hn hl)
 rw [hpo] at K2
 have HN := Lib.hid hn
 unfold maxLen at hl
 clear hp hab hgn hn hgl hac hpo
 go_enter Tryz.func86, Tryz.ntmps86
 go_wp2_with (go_at_call 111; ((with_reducible refine (K.out _ (by go_grown)).mono ?_); rintro e w' ⟨rfl, rfl⟩))
 refine (K2.out _ (by go_grown)).mono ?_
 rintro e w' ⟨⟨r, rfl, ⟨_, h⟩ | ⟨i, p, rfl, hi, h⟩⟩, hww⟩
 ·cases h
 injection h with h
 subst h
 obtain ⟨pnm, ⟨pk, pn, ps'⟩⟩ := p
 have hil : i < n0 := by rw [← HN.out]; exact (List.getElem?_eq_some_iff.1 hi).1
 have e0 : w'.cell? ⟨w.heap.size, 0, none⟩ = some (.int .i64 (-1)) := by rw [hww]; go_simp
 have e1 : w'.cell? ⟨w.heap.size, 1, none⟩ = some (.int .i64 a) := by rw [hww]; go_simp
 have e2 : w'.cell? ⟨w.heap.size, 2, none⟩ = some (.int .i64 nm) := by rw [hww]; go_simp
 have e3 : w'.cell? ⟨w.heap.size, 3, none⟩ = some (.int .i64 vk) := by rw [hww]; go_simp
 have e4 : w'.cell? ⟨w.heap.size, 4, none⟩ = some (.int .i64 vn) := by rw [hww]; go_simp
 have e5 : w'.cell? ⟨w.heap.size, 5, none⟩ = some (.string vs) := by rw [hww]; go_simp
 have e6 : w'.cell? ⟨w.heap.size, 6, none⟩ = some (.int .i64 l) := by rw [hww]; go_simp
 have e7 : w'.cell? ⟨w.heap.size, 7, none⟩ = some (.int .i64 g) := by rw [hww]; go_simp
 have f0 : w'.cell? ⟨w.heap.size + 1, 0, none⟩ = some (.int .i64 tag) := by rw [hww]; go_simp
 have f1 : w'.cell? ⟨w.heap.size + 1, 1, none⟩ = some (.int .i64 key) := by rw [hww]; go_simp
 have f2 : w'.cell? ⟨w.heap.size + 1, 2, none⟩ = some (.string text) := by rw [hww]; go_simp
 have f3 : w'.cell? ⟨w.heap.size + 1, 3, none⟩ = some (.slice A0 n0 c0) := by rw [hww]; go_simp
 have f4 : w'.cell? ⟨w.heap.size + 1, 4, none⟩ = some (.slice A1 n1 c1) := by rw [hww]; go_simp
 have hBB : Below w.heap.size w ((w.alloc (.cells #[.int .i64 (-1), .int .i64 a, .int .i64 nm, .int .i64 vk, .int .i64 vn, .string vs, .int .i64 l, .int .i64 g] 42)).alloc (.cells #[.int .i64 tag, .int .i64 key, .string text, .slice A0 n0 c0, .slice A1 n1 c1] 26)) := by go_grown
 obtain ⟨b, off, rfl, hblt, hcell⟩ := PrL.at_ (HP.out.below hBB) (by rw [HN.out]; omega)
 obtain ⟨d0, d1, d2, d3⟩ := hcell i _ hi
 dsimp only at d0 d1 d2 d3
 rw [← hww] at d0 d1 d2 d3 hBB
 have HBB := Lib.hid hBB
 have hi1 : (0 : Int) ≤ (i : Int) := by omega
 have hi2 : (i : Int) < (n0 : Int) := by omega
 have mixed : Tryz.prog.follows .mixedOrders = true := by kernel_rfl
 dsimp only at hk0 hk1 hk2
 subst hk0 hk1
 have hbs := bytes_ne hk2
 clear hk2
 clear hcell hi hww hBB
 go_wp2_with fail
 go_big_region_o
 all_goals go_wp2_with fail
 go_ret
 exact ⟨rfl, HBB.out.drew⟩
set_option maxHeartbeats 2000000 in
theorem meets15 (tag key : Int) (text : ByteArray) (ps : List Pr) (A0 A1 GB : Option Addr) (n0 c0 n1 c1 gn gc : Nat) (ab : List Int) (vk vn l g : Int) (vs : ByteArray) (w : World) (a : Int) (nm : Int) (hp : PrL w A0 ps) (hn : ps.length = n0) (hl : n0 ≤ maxLen) (hab : IntL w GB ab) (hgn : ab.length = gn) (hgl : gn ≤ maxLen) (ha : (a != -1) = true) (hac : ab.contains a = true) (hnm : (nm == -1) = false) (pv : Va) (hpo : propOf ps nm = some pv) (hk0 : pv = ⟨vk, vn, vs⟩) :
  Calls Tryz.prog 86 #[.agg #[.int .i64 (-1), .int .i64 a, .int .i64 nm, .int .i64 vk, .int .i64 vn, .string vs, .int .i64 l, .int .i64 g], .agg #[.int .i64 tag, .int .i64 key, .string text, .slice A0 n0 c0, .slice A1 n1 c1], .slice GB gn gc] w fun e w' => e = .returned (.bool true) ∧ Below w.heap.size w w' := by
 have HP := Lib.hid hp
 have K := Lib.hid (fun w' (h : Below w.heap.size w w') => hasInt_any GB gc gn ab a w' (hab.below h) hgn hgl)
 rw [hac] at K
 have K2 := Lib.hid (fun w' (h : Below w.heap.size w w') => propAt_any A0 c0 n0 ps nm w' (hp.below h) hn hl)
 rw [hpo] at K2
 have HN := Lib.hid hn
 unfold maxLen at hl
 clear hp hab hgn hn hgl hac hpo
 go_enter Tryz.func86, Tryz.ntmps86
 go_wp2_with (go_at_call 111; ((with_reducible refine (K.out _ (by go_grown)).mono ?_); rintro e w' ⟨rfl, rfl⟩))
 refine (K2.out _ (by go_grown)).mono ?_
 rintro e w' ⟨⟨r, rfl, ⟨_, h⟩ | ⟨i, p, rfl, hi, h⟩⟩, hww⟩
 ·cases h
 injection h with h
 subst h
 obtain ⟨pnm, ⟨pk, pn, ps'⟩⟩ := p
 have hil : i < n0 := by rw [← HN.out]; exact (List.getElem?_eq_some_iff.1 hi).1
 have e0 : w'.cell? ⟨w.heap.size, 0, none⟩ = some (.int .i64 (-1)) := by rw [hww]; go_simp
 have e1 : w'.cell? ⟨w.heap.size, 1, none⟩ = some (.int .i64 a) := by rw [hww]; go_simp
 have e2 : w'.cell? ⟨w.heap.size, 2, none⟩ = some (.int .i64 nm) := by rw [hww]; go_simp
 have e3 : w'.cell? ⟨w.heap.size, 3, none⟩ = some (.int .i64 vk) := by rw [hww]; go_simp
 have e4 : w'.cell? ⟨w.heap.size, 4, none⟩ = some (.int .i64 vn) := by rw [hww]; go_simp
 have e5 : w'.cell? ⟨w.heap.size, 5, none⟩ = some (.string vs) := by rw [hww]; go_simp
 have e6 : w'.cell? ⟨w.heap.size, 6, none⟩ = some (.int .i64 l) := by rw [hww]; go_simp
 have e7 : w'.cell? ⟨w.heap.size, 7, none⟩ = some (.int .i64 g) := by rw [hww]; go_simp
 have f0 : w'.cell? ⟨w.heap.size + 1, 0, none⟩ = some (.int .i64 tag) := by rw [hww]; go_simp
 have f1 : w'.cell? ⟨w.heap.size + 1, 1, none⟩ = some (.int .i64 key) := by rw [hww]; go_simp
 have f2 : w'.cell? ⟨w.heap.size + 1, 2, none⟩ = some (.string text) := by rw [hww]; go_simp
 have f3 : w'.cell? ⟨w.heap.size + 1, 3, none⟩ = some (.slice A0 n0 c0) := by rw [hww]; go_simp
 have f4 : w'.cell? ⟨w.heap.size + 1, 4, none⟩ = some (.slice A1 n1 c1) := by rw [hww]; go_simp
 have hBB : Below w.heap.size w ((w.alloc (.cells #[.int .i64 (-1), .int .i64 a, .int .i64 nm, .int .i64 vk, .int .i64 vn, .string vs, .int .i64 l, .int .i64 g] 42)).alloc (.cells #[.int .i64 tag, .int .i64 key, .string text, .slice A0 n0 c0, .slice A1 n1 c1] 26)) := by go_grown
 obtain ⟨b, off, rfl, hblt, hcell⟩ := PrL.at_ (HP.out.below hBB) (by rw [HN.out]; omega)
 obtain ⟨d0, d1, d2, d3⟩ := hcell i _ hi
 dsimp only at d0 d1 d2 d3
 rw [← hww] at d0 d1 d2 d3 hBB
 have HBB := Lib.hid hBB
 have hi1 : (0 : Int) ≤ (i : Int) := by omega
 have hi2 : (i : Int) < (n0 : Int) := by omega
 have mixed : Tryz.prog.follows .mixedOrders = true := by kernel_rfl
 injection hk0 with q0 q1 q2
 subst q0 q1 q2
 clear hcell hi hww hBB
 go_wp2_with fail
 go_big_region_o
 all_goals go_wp2_with fail
 go_ret
 exact ⟨rfl, HBB.out.drew⟩
set_option maxHeartbeats 2000000 in
theorem meets16 (tag key : Int) (text : ByteArray) (ps : List Pr) (A0 A1 GB : Option Addr) (n0 c0 n1 c1 gn gc : Nat) (ab : List Int) (vk vn l g : Int) (vs : ByteArray) (w : World) (t : Int) (hp : PrL w A0 ps) (hn : ps.length = n0) (hl : n0 ≤ maxLen) (hab : IntL w GB ab) (hgn : ab.length = gn) (hgl : gn ≤ maxLen) (ht : (t != -1) = true) (htt : (t != tag) = false) :
  Calls Tryz.prog 86 #[.agg #[.int .i64 t, .int .i64 (-1), .int .i64 (-1), .int .i64 vk, .int .i64 vn, .string vs, .int .i64 l, .int .i64 g], .agg #[.int .i64 tag, .int .i64 key, .string text, .slice A0 n0 c0, .slice A1 n1 c1], .slice GB gn gc] w fun e w' => e = .returned (.bool true) ∧ Below w.heap.size w w' := by
 have HP := Lib.hid hp
 have HN := Lib.hid hn
 unfold maxLen at hl
 clear hp hab hgn hn hgl
 go_enter Tryz.func86, Tryz.ntmps86
 go_wp2_with fail
 go_ret
 exact ⟨rfl, by go_grown⟩
set_option maxHeartbeats 2000000 in
theorem meets17 (tag key : Int) (text : ByteArray) (ps : List Pr) (A0 A1 GB : Option Addr) (n0 c0 n1 c1 gn gc : Nat) (ab : List Int) (vk vn l g : Int) (vs : ByteArray) (w : World) (t : Int) (nm : Int) (hp : PrL w A0 ps) (hn : ps.length = n0) (hl : n0 ≤ maxLen) (hab : IntL w GB ab) (hgn : ab.length = gn) (hgl : gn ≤ maxLen) (ht : (t != -1) = true) (htt : (t != tag) = false) (hnm : (nm == -1) = false) (hpo : propOf ps nm = none) :
  Calls Tryz.prog 86 #[.agg #[.int .i64 t, .int .i64 (-1), .int .i64 nm, .int .i64 vk, .int .i64 vn, .string vs, .int .i64 l, .int .i64 g], .agg #[.int .i64 tag, .int .i64 key, .string text, .slice A0 n0 c0, .slice A1 n1 c1], .slice GB gn gc] w fun e w' => e = .returned (.bool false) ∧ Below w.heap.size w w' := by
 have HP := Lib.hid hp
 have K2 := Lib.hid (fun w' (h : Below w.heap.size w w') => propAt_any A0 c0 n0 ps nm w' (hp.below h) hn hl)
 rw [hpo] at K2
 have HN := Lib.hid hn
 unfold maxLen at hl
 clear hp hab hgn hn hgl hpo
 go_enter Tryz.func86, Tryz.ntmps86
 go_wp2_with fail
 refine (K2.out _ (by go_grown)).mono ?_
 rintro e w' ⟨⟨r, rfl, ⟨rfl, _⟩ | ⟨i, p, _, _, h⟩⟩, rfl⟩
 ·have mixed : Tryz.prog.follows .mixedOrders = true := by kernel_rfl
  go_wp2_with fail
  go_big_region_o
  all_goals go_wp2_with fail
  go_ret
  exact ⟨rfl, by go_grown⟩
 ·cases h
set_option maxHeartbeats 2000000 in
theorem meets18 (tag key : Int) (text : ByteArray) (ps : List Pr) (A0 A1 GB : Option Addr) (n0 c0 n1 c1 gn gc : Nat) (ab : List Int) (vk vn l g : Int) (vs : ByteArray) (w : World) (t : Int) (nm : Int) (hp : PrL w A0 ps) (hn : ps.length = n0) (hl : n0 ≤ maxLen) (hab : IntL w GB ab) (hgn : ab.length = gn) (hgl : gn ≤ maxLen) (ht : (t != -1) = true) (htt : (t != tag) = false) (hnm : (nm == -1) = false) (pv : Va) (hpo : propOf ps nm = some pv) (hk0 : (pv.k == vk) = false) :
  Calls Tryz.prog 86 #[.agg #[.int .i64 t, .int .i64 (-1), .int .i64 nm, .int .i64 vk, .int .i64 vn, .string vs, .int .i64 l, .int .i64 g], .agg #[.int .i64 tag, .int .i64 key, .string text, .slice A0 n0 c0, .slice A1 n1 c1], .slice GB gn gc] w fun e w' => e = .returned (.bool false) ∧ Below w.heap.size w w' := by
 have HP := Lib.hid hp
 have K2 := Lib.hid (fun w' (h : Below w.heap.size w w') => propAt_any A0 c0 n0 ps nm w' (hp.below h) hn hl)
 rw [hpo] at K2
 have HN := Lib.hid hn
 unfold maxLen at hl
 clear hp hab hgn hn hgl hpo
 go_enter Tryz.func86, Tryz.ntmps86
 go_wp2_with fail
 refine (K2.out _ (by go_grown)).mono ?_
 rintro e w' ⟨⟨r, rfl, ⟨_, h⟩ | ⟨i, p, rfl, hi, h⟩⟩, hww⟩
 ·cases h
 injection h with h
 subst h
 obtain ⟨pnm, ⟨pk, pn, ps'⟩⟩ := p
 have hil : i < n0 := by rw [← HN.out]; exact (List.getElem?_eq_some_iff.1 hi).1
 have e0 : w'.cell? ⟨w.heap.size, 0, none⟩ = some (.int .i64 t) := by rw [hww]; go_simp
 have e1 : w'.cell? ⟨w.heap.size, 1, none⟩ = some (.int .i64 (-1)) := by rw [hww]; go_simp
 have e2 : w'.cell? ⟨w.heap.size, 2, none⟩ = some (.int .i64 nm) := by rw [hww]; go_simp
 have e3 : w'.cell? ⟨w.heap.size, 3, none⟩ = some (.int .i64 vk) := by rw [hww]; go_simp
 have e4 : w'.cell? ⟨w.heap.size, 4, none⟩ = some (.int .i64 vn) := by rw [hww]; go_simp
 have e5 : w'.cell? ⟨w.heap.size, 5, none⟩ = some (.string vs) := by rw [hww]; go_simp
 have e6 : w'.cell? ⟨w.heap.size, 6, none⟩ = some (.int .i64 l) := by rw [hww]; go_simp
 have e7 : w'.cell? ⟨w.heap.size, 7, none⟩ = some (.int .i64 g) := by rw [hww]; go_simp
 have f0 : w'.cell? ⟨w.heap.size + 1, 0, none⟩ = some (.int .i64 tag) := by rw [hww]; go_simp
 have f1 : w'.cell? ⟨w.heap.size + 1, 1, none⟩ = some (.int .i64 key) := by rw [hww]; go_simp
 have f2 : w'.cell? ⟨w.heap.size + 1, 2, none⟩ = some (.string text) := by rw [hww]; go_simp
 have f3 : w'.cell? ⟨w.heap.size + 1, 3, none⟩ = some (.slice A0 n0 c0) := by rw [hww]; go_simp
 have f4 : w'.cell? ⟨w.heap.size + 1, 4, none⟩ = some (.slice A1 n1 c1) := by rw [hww]; go_simp
 have hBB : Below w.heap.size w ((w.alloc (.cells #[.int .i64 t, .int .i64 (-1), .int .i64 nm, .int .i64 vk, .int .i64 vn, .string vs, .int .i64 l, .int .i64 g] 42)).alloc (.cells #[.int .i64 tag, .int .i64 key, .string text, .slice A0 n0 c0, .slice A1 n1 c1] 26)) := by go_grown
 obtain ⟨b, off, rfl, hblt, hcell⟩ := PrL.at_ (HP.out.below hBB) (by rw [HN.out]; omega)
 obtain ⟨d0, d1, d2, d3⟩ := hcell i _ hi
 dsimp only at d0 d1 d2 d3
 rw [← hww] at d0 d1 d2 d3 hBB
 have HBB := Lib.hid hBB
 have hi1 : (0 : Int) ≤ (i : Int) := by omega
 have hi2 : (i : Int) < (n0 : Int) := by omega
 have mixed : Tryz.prog.follows .mixedOrders = true := by kernel_rfl
 dsimp only at hk0
 clear hcell hi hww hBB
 go_wp2_with fail
 go_big_region_o
 all_goals go_wp2_with fail
 go_ret
 exact ⟨rfl, HBB.out.drew⟩
set_option maxHeartbeats 2000000 in
theorem meets19 (tag key : Int) (text : ByteArray) (ps : List Pr) (A0 A1 GB : Option Addr) (n0 c0 n1 c1 gn gc : Nat) (ab : List Int) (vk vn l g : Int) (vs : ByteArray) (w : World) (t : Int) (nm : Int) (hp : PrL w A0 ps) (hn : ps.length = n0) (hl : n0 ≤ maxLen) (hab : IntL w GB ab) (hgn : ab.length = gn) (hgl : gn ≤ maxLen) (ht : (t != -1) = true) (htt : (t != tag) = false) (hnm : (nm == -1) = false) (pv : Va) (hpo : propOf ps nm = some pv) (hk0 : pv.k = vk) (hk1 : (pv.n == vn) = false) :
  Calls Tryz.prog 86 #[.agg #[.int .i64 t, .int .i64 (-1), .int .i64 nm, .int .i64 vk, .int .i64 vn, .string vs, .int .i64 l, .int .i64 g], .agg #[.int .i64 tag, .int .i64 key, .string text, .slice A0 n0 c0, .slice A1 n1 c1], .slice GB gn gc] w fun e w' => e = .returned (.bool false) ∧ Below w.heap.size w w' := by
 have HP := Lib.hid hp
 have K2 := Lib.hid (fun w' (h : Below w.heap.size w w') => propAt_any A0 c0 n0 ps nm w' (hp.below h) hn hl)
 rw [hpo] at K2
 have HN := Lib.hid hn
 unfold maxLen at hl
 clear hp hab hgn hn hgl hpo
 go_enter Tryz.func86, Tryz.ntmps86
 go_wp2_with fail
 refine (K2.out _ (by go_grown)).mono ?_
 rintro e w' ⟨⟨r, rfl, ⟨_, h⟩ | ⟨i, p, rfl, hi, h⟩⟩, hww⟩
 ·cases h
 injection h with h
 subst h
 obtain ⟨pnm, ⟨pk, pn, ps'⟩⟩ := p
 have hil : i < n0 := by rw [← HN.out]; exact (List.getElem?_eq_some_iff.1 hi).1
 have e0 : w'.cell? ⟨w.heap.size, 0, none⟩ = some (.int .i64 t) := by rw [hww]; go_simp
 have e1 : w'.cell? ⟨w.heap.size, 1, none⟩ = some (.int .i64 (-1)) := by rw [hww]; go_simp
 have e2 : w'.cell? ⟨w.heap.size, 2, none⟩ = some (.int .i64 nm) := by rw [hww]; go_simp
 have e3 : w'.cell? ⟨w.heap.size, 3, none⟩ = some (.int .i64 vk) := by rw [hww]; go_simp
 have e4 : w'.cell? ⟨w.heap.size, 4, none⟩ = some (.int .i64 vn) := by rw [hww]; go_simp
 have e5 : w'.cell? ⟨w.heap.size, 5, none⟩ = some (.string vs) := by rw [hww]; go_simp
 have e6 : w'.cell? ⟨w.heap.size, 6, none⟩ = some (.int .i64 l) := by rw [hww]; go_simp
 have e7 : w'.cell? ⟨w.heap.size, 7, none⟩ = some (.int .i64 g) := by rw [hww]; go_simp
 have f0 : w'.cell? ⟨w.heap.size + 1, 0, none⟩ = some (.int .i64 tag) := by rw [hww]; go_simp
 have f1 : w'.cell? ⟨w.heap.size + 1, 1, none⟩ = some (.int .i64 key) := by rw [hww]; go_simp
 have f2 : w'.cell? ⟨w.heap.size + 1, 2, none⟩ = some (.string text) := by rw [hww]; go_simp
 have f3 : w'.cell? ⟨w.heap.size + 1, 3, none⟩ = some (.slice A0 n0 c0) := by rw [hww]; go_simp
 have f4 : w'.cell? ⟨w.heap.size + 1, 4, none⟩ = some (.slice A1 n1 c1) := by rw [hww]; go_simp
 have hBB : Below w.heap.size w ((w.alloc (.cells #[.int .i64 t, .int .i64 (-1), .int .i64 nm, .int .i64 vk, .int .i64 vn, .string vs, .int .i64 l, .int .i64 g] 42)).alloc (.cells #[.int .i64 tag, .int .i64 key, .string text, .slice A0 n0 c0, .slice A1 n1 c1] 26)) := by go_grown
 obtain ⟨b, off, rfl, hblt, hcell⟩ := PrL.at_ (HP.out.below hBB) (by rw [HN.out]; omega)
 obtain ⟨d0, d1, d2, d3⟩ := hcell i _ hi
 dsimp only at d0 d1 d2 d3
 rw [← hww] at d0 d1 d2 d3 hBB
 have HBB := Lib.hid hBB
 have hi1 : (0 : Int) ≤ (i : Int) := by omega
 have hi2 : (i : Int) < (n0 : Int) := by omega
 have mixed : Tryz.prog.follows .mixedOrders = true := by kernel_rfl
 dsimp only at hk0 hk1
 subst hk0
 clear hcell hi hww hBB
 go_wp2_with fail
 go_big_region_o
 all_goals go_wp2_with fail
 go_ret
 exact ⟨rfl, HBB.out.drew⟩
set_option maxHeartbeats 2000000 in
theorem meets20 (tag key : Int) (text : ByteArray) (ps : List Pr) (A0 A1 GB : Option Addr) (n0 c0 n1 c1 gn gc : Nat) (ab : List Int) (vk vn l g : Int) (vs : ByteArray) (w : World) (t : Int) (nm : Int) (hp : PrL w A0 ps) (hn : ps.length = n0) (hl : n0 ≤ maxLen) (hab : IntL w GB ab) (hgn : ab.length = gn) (hgl : gn ≤ maxLen) (ht : (t != -1) = true) (htt : (t != tag) = false) (hnm : (nm == -1) = false) (pv : Va) (hpo : propOf ps nm = some pv) (hk0 : pv.k = vk) (hk1 : pv.n = vn) (hk2 : pv.s ≠ vs) :
  Calls Tryz.prog 86 #[.agg #[.int .i64 t, .int .i64 (-1), .int .i64 nm, .int .i64 vk, .int .i64 vn, .string vs, .int .i64 l, .int .i64 g], .agg #[.int .i64 tag, .int .i64 key, .string text, .slice A0 n0 c0, .slice A1 n1 c1], .slice GB gn gc] w fun e w' => e = .returned (.bool false) ∧ Below w.heap.size w w' := by
 have HP := Lib.hid hp
 have K2 := Lib.hid (fun w' (h : Below w.heap.size w w') => propAt_any A0 c0 n0 ps nm w' (hp.below h) hn hl)
 rw [hpo] at K2
 have HN := Lib.hid hn
 unfold maxLen at hl
 clear hp hab hgn hn hgl hpo
 go_enter Tryz.func86, Tryz.ntmps86
 go_wp2_with fail
 refine (K2.out _ (by go_grown)).mono ?_
 rintro e w' ⟨⟨r, rfl, ⟨_, h⟩ | ⟨i, p, rfl, hi, h⟩⟩, hww⟩
 ·cases h
 injection h with h
 subst h
 obtain ⟨pnm, ⟨pk, pn, ps'⟩⟩ := p
 have hil : i < n0 := by rw [← HN.out]; exact (List.getElem?_eq_some_iff.1 hi).1
 have e0 : w'.cell? ⟨w.heap.size, 0, none⟩ = some (.int .i64 t) := by rw [hww]; go_simp
 have e1 : w'.cell? ⟨w.heap.size, 1, none⟩ = some (.int .i64 (-1)) := by rw [hww]; go_simp
 have e2 : w'.cell? ⟨w.heap.size, 2, none⟩ = some (.int .i64 nm) := by rw [hww]; go_simp
 have e3 : w'.cell? ⟨w.heap.size, 3, none⟩ = some (.int .i64 vk) := by rw [hww]; go_simp
 have e4 : w'.cell? ⟨w.heap.size, 4, none⟩ = some (.int .i64 vn) := by rw [hww]; go_simp
 have e5 : w'.cell? ⟨w.heap.size, 5, none⟩ = some (.string vs) := by rw [hww]; go_simp
 have e6 : w'.cell? ⟨w.heap.size, 6, none⟩ = some (.int .i64 l) := by rw [hww]; go_simp
 have e7 : w'.cell? ⟨w.heap.size, 7, none⟩ = some (.int .i64 g) := by rw [hww]; go_simp
 have f0 : w'.cell? ⟨w.heap.size + 1, 0, none⟩ = some (.int .i64 tag) := by rw [hww]; go_simp
 have f1 : w'.cell? ⟨w.heap.size + 1, 1, none⟩ = some (.int .i64 key) := by rw [hww]; go_simp
 have f2 : w'.cell? ⟨w.heap.size + 1, 2, none⟩ = some (.string text) := by rw [hww]; go_simp
 have f3 : w'.cell? ⟨w.heap.size + 1, 3, none⟩ = some (.slice A0 n0 c0) := by rw [hww]; go_simp
 have f4 : w'.cell? ⟨w.heap.size + 1, 4, none⟩ = some (.slice A1 n1 c1) := by rw [hww]; go_simp
 have hBB : Below w.heap.size w ((w.alloc (.cells #[.int .i64 t, .int .i64 (-1), .int .i64 nm, .int .i64 vk, .int .i64 vn, .string vs, .int .i64 l, .int .i64 g] 42)).alloc (.cells #[.int .i64 tag, .int .i64 key, .string text, .slice A0 n0 c0, .slice A1 n1 c1] 26)) := by go_grown
 obtain ⟨b, off, rfl, hblt, hcell⟩ := PrL.at_ (HP.out.below hBB) (by rw [HN.out]; omega)
 obtain ⟨d0, d1, d2, d3⟩ := hcell i _ hi
 dsimp only at d0 d1 d2 d3
 rw [← hww] at d0 d1 d2 d3 hBB
 have HBB := Lib.hid hBB
 have hi1 : (0 : Int) ≤ (i : Int) := by omega
 have hi2 : (i : Int) < (n0 : Int) := by omega
 have mixed : Tryz.prog.follows .mixedOrders = true := by kernel_rfl
 dsimp only at hk0 hk1 hk2
 subst hk0 hk1
 have hbs := bytes_ne hk2
 clear hk2
 clear hcell hi hww hBB
 go_wp2_with fail
 go_big_region_o
 all_goals go_wp2_with fail
 go_ret
 exact ⟨rfl, HBB.out.drew⟩
set_option maxHeartbeats 2000000 in
theorem meets21 (tag key : Int) (text : ByteArray) (ps : List Pr) (A0 A1 GB : Option Addr) (n0 c0 n1 c1 gn gc : Nat) (ab : List Int) (vk vn l g : Int) (vs : ByteArray) (w : World) (t : Int) (nm : Int) (hp : PrL w A0 ps) (hn : ps.length = n0) (hl : n0 ≤ maxLen) (hab : IntL w GB ab) (hgn : ab.length = gn) (hgl : gn ≤ maxLen) (ht : (t != -1) = true) (htt : (t != tag) = false) (hnm : (nm == -1) = false) (pv : Va) (hpo : propOf ps nm = some pv) (hk0 : pv = ⟨vk, vn, vs⟩) :
  Calls Tryz.prog 86 #[.agg #[.int .i64 t, .int .i64 (-1), .int .i64 nm, .int .i64 vk, .int .i64 vn, .string vs, .int .i64 l, .int .i64 g], .agg #[.int .i64 tag, .int .i64 key, .string text, .slice A0 n0 c0, .slice A1 n1 c1], .slice GB gn gc] w fun e w' => e = .returned (.bool true) ∧ Below w.heap.size w w' := by
 have HP := Lib.hid hp
 have K2 := Lib.hid (fun w' (h : Below w.heap.size w w') => propAt_any A0 c0 n0 ps nm w' (hp.below h) hn hl)
 rw [hpo] at K2
 have HN := Lib.hid hn
 unfold maxLen at hl
 clear hp hab hgn hn hgl hpo
 go_enter Tryz.func86, Tryz.ntmps86
 go_wp2_with fail
 refine (K2.out _ (by go_grown)).mono ?_
 rintro e w' ⟨⟨r, rfl, ⟨_, h⟩ | ⟨i, p, rfl, hi, h⟩⟩, hww⟩
 ·cases h
 injection h with h
 subst h
 obtain ⟨pnm, ⟨pk, pn, ps'⟩⟩ := p
 have hil : i < n0 := by rw [← HN.out]; exact (List.getElem?_eq_some_iff.1 hi).1
 have e0 : w'.cell? ⟨w.heap.size, 0, none⟩ = some (.int .i64 t) := by rw [hww]; go_simp
 have e1 : w'.cell? ⟨w.heap.size, 1, none⟩ = some (.int .i64 (-1)) := by rw [hww]; go_simp
 have e2 : w'.cell? ⟨w.heap.size, 2, none⟩ = some (.int .i64 nm) := by rw [hww]; go_simp
 have e3 : w'.cell? ⟨w.heap.size, 3, none⟩ = some (.int .i64 vk) := by rw [hww]; go_simp
 have e4 : w'.cell? ⟨w.heap.size, 4, none⟩ = some (.int .i64 vn) := by rw [hww]; go_simp
 have e5 : w'.cell? ⟨w.heap.size, 5, none⟩ = some (.string vs) := by rw [hww]; go_simp
 have e6 : w'.cell? ⟨w.heap.size, 6, none⟩ = some (.int .i64 l) := by rw [hww]; go_simp
 have e7 : w'.cell? ⟨w.heap.size, 7, none⟩ = some (.int .i64 g) := by rw [hww]; go_simp
 have f0 : w'.cell? ⟨w.heap.size + 1, 0, none⟩ = some (.int .i64 tag) := by rw [hww]; go_simp
 have f1 : w'.cell? ⟨w.heap.size + 1, 1, none⟩ = some (.int .i64 key) := by rw [hww]; go_simp
 have f2 : w'.cell? ⟨w.heap.size + 1, 2, none⟩ = some (.string text) := by rw [hww]; go_simp
 have f3 : w'.cell? ⟨w.heap.size + 1, 3, none⟩ = some (.slice A0 n0 c0) := by rw [hww]; go_simp
 have f4 : w'.cell? ⟨w.heap.size + 1, 4, none⟩ = some (.slice A1 n1 c1) := by rw [hww]; go_simp
 have hBB : Below w.heap.size w ((w.alloc (.cells #[.int .i64 t, .int .i64 (-1), .int .i64 nm, .int .i64 vk, .int .i64 vn, .string vs, .int .i64 l, .int .i64 g] 42)).alloc (.cells #[.int .i64 tag, .int .i64 key, .string text, .slice A0 n0 c0, .slice A1 n1 c1] 26)) := by go_grown
 obtain ⟨b, off, rfl, hblt, hcell⟩ := PrL.at_ (HP.out.below hBB) (by rw [HN.out]; omega)
 obtain ⟨d0, d1, d2, d3⟩ := hcell i _ hi
 dsimp only at d0 d1 d2 d3
 rw [← hww] at d0 d1 d2 d3 hBB
 have HBB := Lib.hid hBB
 have hi1 : (0 : Int) ≤ (i : Int) := by omega
 have hi2 : (i : Int) < (n0 : Int) := by omega
 have mixed : Tryz.prog.follows .mixedOrders = true := by kernel_rfl
 injection hk0 with q0 q1 q2
 subst q0 q1 q2
 clear hcell hi hww hBB
 go_wp2_with fail
 go_big_region_o
 all_goals go_wp2_with fail
 go_ret
 exact ⟨rfl, HBB.out.drew⟩
set_option maxHeartbeats 2000000 in
theorem meets22 (tag key : Int) (text : ByteArray) (ps : List Pr) (A0 A1 GB : Option Addr) (n0 c0 n1 c1 gn gc : Nat) (ab : List Int) (vk vn l g : Int) (vs : ByteArray) (w : World) (t : Int) (a : Int) (hp : PrL w A0 ps) (hn : ps.length = n0) (hl : n0 ≤ maxLen) (hab : IntL w GB ab) (hgn : ab.length = gn) (hgl : gn ≤ maxLen) (ht : (t != -1) = true) (htt : (t != tag) = false) (ha : (a != -1) = true) (hac : ab.contains a = true) :
  Calls Tryz.prog 86 #[.agg #[.int .i64 t, .int .i64 a, .int .i64 (-1), .int .i64 vk, .int .i64 vn, .string vs, .int .i64 l, .int .i64 g], .agg #[.int .i64 tag, .int .i64 key, .string text, .slice A0 n0 c0, .slice A1 n1 c1], .slice GB gn gc] w fun e w' => e = .returned (.bool true) ∧ Below w.heap.size w w' := by
 have HP := Lib.hid hp
 have K := Lib.hid (fun w' (h : Below w.heap.size w w') => hasInt_any GB gc gn ab a w' (hab.below h) hgn hgl)
 rw [hac] at K
 have HN := Lib.hid hn
 unfold maxLen at hl
 clear hp hab hgn hn hgl hac
 go_enter Tryz.func86, Tryz.ntmps86
 go_wp2_with (go_at_call 111; ((with_reducible refine (K.out _ (by go_grown)).mono ?_); rintro e w' ⟨rfl, rfl⟩))
 go_ret
 exact ⟨rfl, by go_grown⟩
set_option maxHeartbeats 2000000 in
theorem meets23 (tag key : Int) (text : ByteArray) (ps : List Pr) (A0 A1 GB : Option Addr) (n0 c0 n1 c1 gn gc : Nat) (ab : List Int) (vk vn l g : Int) (vs : ByteArray) (w : World) (t : Int) (a : Int) (nm : Int) (hp : PrL w A0 ps) (hn : ps.length = n0) (hl : n0 ≤ maxLen) (hab : IntL w GB ab) (hgn : ab.length = gn) (hgl : gn ≤ maxLen) (ht : (t != -1) = true) (htt : (t != tag) = false) (ha : (a != -1) = true) (hac : ab.contains a = true) (hnm : (nm == -1) = false) (hpo : propOf ps nm = none) :
  Calls Tryz.prog 86 #[.agg #[.int .i64 t, .int .i64 a, .int .i64 nm, .int .i64 vk, .int .i64 vn, .string vs, .int .i64 l, .int .i64 g], .agg #[.int .i64 tag, .int .i64 key, .string text, .slice A0 n0 c0, .slice A1 n1 c1], .slice GB gn gc] w fun e w' => e = .returned (.bool false) ∧ Below w.heap.size w w' := by
 have HP := Lib.hid hp
 have K := Lib.hid (fun w' (h : Below w.heap.size w w') => hasInt_any GB gc gn ab a w' (hab.below h) hgn hgl)
 rw [hac] at K
 have K2 := Lib.hid (fun w' (h : Below w.heap.size w w') => propAt_any A0 c0 n0 ps nm w' (hp.below h) hn hl)
 rw [hpo] at K2
 have HN := Lib.hid hn
 unfold maxLen at hl
 clear hp hab hgn hn hgl hac hpo
 go_enter Tryz.func86, Tryz.ntmps86
 go_wp2_with (go_at_call 111; ((with_reducible refine (K.out _ (by go_grown)).mono ?_); rintro e w' ⟨rfl, rfl⟩))
 refine (K2.out _ (by go_grown)).mono ?_
 rintro e w' ⟨⟨r, rfl, ⟨rfl, _⟩ | ⟨i, p, _, _, h⟩⟩, rfl⟩
 ·have mixed : Tryz.prog.follows .mixedOrders = true := by kernel_rfl
  go_wp2_with fail
  go_big_region_o
  all_goals go_wp2_with fail
  go_ret
  exact ⟨rfl, by go_grown⟩
 ·cases h
set_option maxHeartbeats 2000000 in
theorem meets24 (tag key : Int) (text : ByteArray) (ps : List Pr) (A0 A1 GB : Option Addr) (n0 c0 n1 c1 gn gc : Nat) (ab : List Int) (vk vn l g : Int) (vs : ByteArray) (w : World) (t : Int) (a : Int) (nm : Int) (hp : PrL w A0 ps) (hn : ps.length = n0) (hl : n0 ≤ maxLen) (hab : IntL w GB ab) (hgn : ab.length = gn) (hgl : gn ≤ maxLen) (ht : (t != -1) = true) (htt : (t != tag) = false) (ha : (a != -1) = true) (hac : ab.contains a = true) (hnm : (nm == -1) = false) (pv : Va) (hpo : propOf ps nm = some pv) (hk0 : (pv.k == vk) = false) :
  Calls Tryz.prog 86 #[.agg #[.int .i64 t, .int .i64 a, .int .i64 nm, .int .i64 vk, .int .i64 vn, .string vs, .int .i64 l, .int .i64 g], .agg #[.int .i64 tag, .int .i64 key, .string text, .slice A0 n0 c0, .slice A1 n1 c1], .slice GB gn gc] w fun e w' => e = .returned (.bool false) ∧ Below w.heap.size w w' := by
 have HP := Lib.hid hp
 have K := Lib.hid (fun w' (h : Below w.heap.size w w') => hasInt_any GB gc gn ab a w' (hab.below h) hgn hgl)
 rw [hac] at K
 have K2 := Lib.hid (fun w' (h : Below w.heap.size w w') => propAt_any A0 c0 n0 ps nm w' (hp.below h) hn hl)
 rw [hpo] at K2
 have HN := Lib.hid hn
 unfold maxLen at hl
 clear hp hab hgn hn hgl hac hpo
 go_enter Tryz.func86, Tryz.ntmps86
 go_wp2_with (go_at_call 111; ((with_reducible refine (K.out _ (by go_grown)).mono ?_); rintro e w' ⟨rfl, rfl⟩))
 refine (K2.out _ (by go_grown)).mono ?_
 rintro e w' ⟨⟨r, rfl, ⟨_, h⟩ | ⟨i, p, rfl, hi, h⟩⟩, hww⟩
 ·cases h
 injection h with h
 subst h
 obtain ⟨pnm, ⟨pk, pn, ps'⟩⟩ := p
 have hil : i < n0 := by rw [← HN.out]; exact (List.getElem?_eq_some_iff.1 hi).1
 have e0 : w'.cell? ⟨w.heap.size, 0, none⟩ = some (.int .i64 t) := by rw [hww]; go_simp
 have e1 : w'.cell? ⟨w.heap.size, 1, none⟩ = some (.int .i64 a) := by rw [hww]; go_simp
 have e2 : w'.cell? ⟨w.heap.size, 2, none⟩ = some (.int .i64 nm) := by rw [hww]; go_simp
 have e3 : w'.cell? ⟨w.heap.size, 3, none⟩ = some (.int .i64 vk) := by rw [hww]; go_simp
 have e4 : w'.cell? ⟨w.heap.size, 4, none⟩ = some (.int .i64 vn) := by rw [hww]; go_simp
 have e5 : w'.cell? ⟨w.heap.size, 5, none⟩ = some (.string vs) := by rw [hww]; go_simp
 have e6 : w'.cell? ⟨w.heap.size, 6, none⟩ = some (.int .i64 l) := by rw [hww]; go_simp
 have e7 : w'.cell? ⟨w.heap.size, 7, none⟩ = some (.int .i64 g) := by rw [hww]; go_simp
 have f0 : w'.cell? ⟨w.heap.size + 1, 0, none⟩ = some (.int .i64 tag) := by rw [hww]; go_simp
 have f1 : w'.cell? ⟨w.heap.size + 1, 1, none⟩ = some (.int .i64 key) := by rw [hww]; go_simp
 have f2 : w'.cell? ⟨w.heap.size + 1, 2, none⟩ = some (.string text) := by rw [hww]; go_simp
 have f3 : w'.cell? ⟨w.heap.size + 1, 3, none⟩ = some (.slice A0 n0 c0) := by rw [hww]; go_simp
 have f4 : w'.cell? ⟨w.heap.size + 1, 4, none⟩ = some (.slice A1 n1 c1) := by rw [hww]; go_simp
 have hBB : Below w.heap.size w ((w.alloc (.cells #[.int .i64 t, .int .i64 a, .int .i64 nm, .int .i64 vk, .int .i64 vn, .string vs, .int .i64 l, .int .i64 g] 42)).alloc (.cells #[.int .i64 tag, .int .i64 key, .string text, .slice A0 n0 c0, .slice A1 n1 c1] 26)) := by go_grown
 obtain ⟨b, off, rfl, hblt, hcell⟩ := PrL.at_ (HP.out.below hBB) (by rw [HN.out]; omega)
 obtain ⟨d0, d1, d2, d3⟩ := hcell i _ hi
 dsimp only at d0 d1 d2 d3
 rw [← hww] at d0 d1 d2 d3 hBB
 have HBB := Lib.hid hBB
 have hi1 : (0 : Int) ≤ (i : Int) := by omega
 have hi2 : (i : Int) < (n0 : Int) := by omega
 have mixed : Tryz.prog.follows .mixedOrders = true := by kernel_rfl
 dsimp only at hk0
 clear hcell hi hww hBB
 go_wp2_with fail
 go_big_region_o
 all_goals go_wp2_with fail
 go_ret
 exact ⟨rfl, HBB.out.drew⟩
set_option maxHeartbeats 2000000 in
theorem meets25 (tag key : Int) (text : ByteArray) (ps : List Pr) (A0 A1 GB : Option Addr) (n0 c0 n1 c1 gn gc : Nat) (ab : List Int) (vk vn l g : Int) (vs : ByteArray) (w : World) (t : Int) (a : Int) (nm : Int) (hp : PrL w A0 ps) (hn : ps.length = n0) (hl : n0 ≤ maxLen) (hab : IntL w GB ab) (hgn : ab.length = gn) (hgl : gn ≤ maxLen) (ht : (t != -1) = true) (htt : (t != tag) = false) (ha : (a != -1) = true) (hac : ab.contains a = true) (hnm : (nm == -1) = false) (pv : Va) (hpo : propOf ps nm = some pv) (hk0 : pv.k = vk) (hk1 : (pv.n == vn) = false) :
  Calls Tryz.prog 86 #[.agg #[.int .i64 t, .int .i64 a, .int .i64 nm, .int .i64 vk, .int .i64 vn, .string vs, .int .i64 l, .int .i64 g], .agg #[.int .i64 tag, .int .i64 key, .string text, .slice A0 n0 c0, .slice A1 n1 c1], .slice GB gn gc] w fun e w' => e = .returned (.bool false) ∧ Below w.heap.size w w' := by
 have HP := Lib.hid hp
 have K := Lib.hid (fun w' (h : Below w.heap.size w w') => hasInt_any GB gc gn ab a w' (hab.below h) hgn hgl)
 rw [hac] at K
 have K2 := Lib.hid (fun w' (h : Below w.heap.size w w') => propAt_any A0 c0 n0 ps nm w' (hp.below h) hn hl)
 rw [hpo] at K2
 have HN := Lib.hid hn
 unfold maxLen at hl
 clear hp hab hgn hn hgl hac hpo
 go_enter Tryz.func86, Tryz.ntmps86
 go_wp2_with (go_at_call 111; ((with_reducible refine (K.out _ (by go_grown)).mono ?_); rintro e w' ⟨rfl, rfl⟩))
 refine (K2.out _ (by go_grown)).mono ?_
 rintro e w' ⟨⟨r, rfl, ⟨_, h⟩ | ⟨i, p, rfl, hi, h⟩⟩, hww⟩
 ·cases h
 injection h with h
 subst h
 obtain ⟨pnm, ⟨pk, pn, ps'⟩⟩ := p
 have hil : i < n0 := by rw [← HN.out]; exact (List.getElem?_eq_some_iff.1 hi).1
 have e0 : w'.cell? ⟨w.heap.size, 0, none⟩ = some (.int .i64 t) := by rw [hww]; go_simp
 have e1 : w'.cell? ⟨w.heap.size, 1, none⟩ = some (.int .i64 a) := by rw [hww]; go_simp
 have e2 : w'.cell? ⟨w.heap.size, 2, none⟩ = some (.int .i64 nm) := by rw [hww]; go_simp
 have e3 : w'.cell? ⟨w.heap.size, 3, none⟩ = some (.int .i64 vk) := by rw [hww]; go_simp
 have e4 : w'.cell? ⟨w.heap.size, 4, none⟩ = some (.int .i64 vn) := by rw [hww]; go_simp
 have e5 : w'.cell? ⟨w.heap.size, 5, none⟩ = some (.string vs) := by rw [hww]; go_simp
 have e6 : w'.cell? ⟨w.heap.size, 6, none⟩ = some (.int .i64 l) := by rw [hww]; go_simp
 have e7 : w'.cell? ⟨w.heap.size, 7, none⟩ = some (.int .i64 g) := by rw [hww]; go_simp
 have f0 : w'.cell? ⟨w.heap.size + 1, 0, none⟩ = some (.int .i64 tag) := by rw [hww]; go_simp
 have f1 : w'.cell? ⟨w.heap.size + 1, 1, none⟩ = some (.int .i64 key) := by rw [hww]; go_simp
 have f2 : w'.cell? ⟨w.heap.size + 1, 2, none⟩ = some (.string text) := by rw [hww]; go_simp
 have f3 : w'.cell? ⟨w.heap.size + 1, 3, none⟩ = some (.slice A0 n0 c0) := by rw [hww]; go_simp
 have f4 : w'.cell? ⟨w.heap.size + 1, 4, none⟩ = some (.slice A1 n1 c1) := by rw [hww]; go_simp
 have hBB : Below w.heap.size w ((w.alloc (.cells #[.int .i64 t, .int .i64 a, .int .i64 nm, .int .i64 vk, .int .i64 vn, .string vs, .int .i64 l, .int .i64 g] 42)).alloc (.cells #[.int .i64 tag, .int .i64 key, .string text, .slice A0 n0 c0, .slice A1 n1 c1] 26)) := by go_grown
 obtain ⟨b, off, rfl, hblt, hcell⟩ := PrL.at_ (HP.out.below hBB) (by rw [HN.out]; omega)
 obtain ⟨d0, d1, d2, d3⟩ := hcell i _ hi
 dsimp only at d0 d1 d2 d3
 rw [← hww] at d0 d1 d2 d3 hBB
 have HBB := Lib.hid hBB
 have hi1 : (0 : Int) ≤ (i : Int) := by omega
 have hi2 : (i : Int) < (n0 : Int) := by omega
 have mixed : Tryz.prog.follows .mixedOrders = true := by kernel_rfl
 dsimp only at hk0 hk1
 subst hk0
 clear hcell hi hww hBB
 go_wp2_with fail
 go_big_region_o
 all_goals go_wp2_with fail
 go_ret
 exact ⟨rfl, HBB.out.drew⟩
set_option maxHeartbeats 2000000 in
theorem meets26 (tag key : Int) (text : ByteArray) (ps : List Pr) (A0 A1 GB : Option Addr) (n0 c0 n1 c1 gn gc : Nat) (ab : List Int) (vk vn l g : Int) (vs : ByteArray) (w : World) (t : Int) (a : Int) (nm : Int) (hp : PrL w A0 ps) (hn : ps.length = n0) (hl : n0 ≤ maxLen) (hab : IntL w GB ab) (hgn : ab.length = gn) (hgl : gn ≤ maxLen) (ht : (t != -1) = true) (htt : (t != tag) = false) (ha : (a != -1) = true) (hac : ab.contains a = true) (hnm : (nm == -1) = false) (pv : Va) (hpo : propOf ps nm = some pv) (hk0 : pv.k = vk) (hk1 : pv.n = vn) (hk2 : pv.s ≠ vs) :
  Calls Tryz.prog 86 #[.agg #[.int .i64 t, .int .i64 a, .int .i64 nm, .int .i64 vk, .int .i64 vn, .string vs, .int .i64 l, .int .i64 g], .agg #[.int .i64 tag, .int .i64 key, .string text, .slice A0 n0 c0, .slice A1 n1 c1], .slice GB gn gc] w fun e w' => e = .returned (.bool false) ∧ Below w.heap.size w w' := by
 have HP := Lib.hid hp
 have K := Lib.hid (fun w' (h : Below w.heap.size w w') => hasInt_any GB gc gn ab a w' (hab.below h) hgn hgl)
 rw [hac] at K
 have K2 := Lib.hid (fun w' (h : Below w.heap.size w w') => propAt_any A0 c0 n0 ps nm w' (hp.below h) hn hl)
 rw [hpo] at K2
 have HN := Lib.hid hn
 unfold maxLen at hl
 clear hp hab hgn hn hgl hac hpo
 go_enter Tryz.func86, Tryz.ntmps86
 go_wp2_with (go_at_call 111; ((with_reducible refine (K.out _ (by go_grown)).mono ?_); rintro e w' ⟨rfl, rfl⟩))
 refine (K2.out _ (by go_grown)).mono ?_
 rintro e w' ⟨⟨r, rfl, ⟨_, h⟩ | ⟨i, p, rfl, hi, h⟩⟩, hww⟩
 ·cases h
 injection h with h
 subst h
 obtain ⟨pnm, ⟨pk, pn, ps'⟩⟩ := p
 have hil : i < n0 := by rw [← HN.out]; exact (List.getElem?_eq_some_iff.1 hi).1
 have e0 : w'.cell? ⟨w.heap.size, 0, none⟩ = some (.int .i64 t) := by rw [hww]; go_simp
 have e1 : w'.cell? ⟨w.heap.size, 1, none⟩ = some (.int .i64 a) := by rw [hww]; go_simp
 have e2 : w'.cell? ⟨w.heap.size, 2, none⟩ = some (.int .i64 nm) := by rw [hww]; go_simp
 have e3 : w'.cell? ⟨w.heap.size, 3, none⟩ = some (.int .i64 vk) := by rw [hww]; go_simp
 have e4 : w'.cell? ⟨w.heap.size, 4, none⟩ = some (.int .i64 vn) := by rw [hww]; go_simp
 have e5 : w'.cell? ⟨w.heap.size, 5, none⟩ = some (.string vs) := by rw [hww]; go_simp
 have e6 : w'.cell? ⟨w.heap.size, 6, none⟩ = some (.int .i64 l) := by rw [hww]; go_simp
 have e7 : w'.cell? ⟨w.heap.size, 7, none⟩ = some (.int .i64 g) := by rw [hww]; go_simp
 have f0 : w'.cell? ⟨w.heap.size + 1, 0, none⟩ = some (.int .i64 tag) := by rw [hww]; go_simp
 have f1 : w'.cell? ⟨w.heap.size + 1, 1, none⟩ = some (.int .i64 key) := by rw [hww]; go_simp
 have f2 : w'.cell? ⟨w.heap.size + 1, 2, none⟩ = some (.string text) := by rw [hww]; go_simp
 have f3 : w'.cell? ⟨w.heap.size + 1, 3, none⟩ = some (.slice A0 n0 c0) := by rw [hww]; go_simp
 have f4 : w'.cell? ⟨w.heap.size + 1, 4, none⟩ = some (.slice A1 n1 c1) := by rw [hww]; go_simp
 have hBB : Below w.heap.size w ((w.alloc (.cells #[.int .i64 t, .int .i64 a, .int .i64 nm, .int .i64 vk, .int .i64 vn, .string vs, .int .i64 l, .int .i64 g] 42)).alloc (.cells #[.int .i64 tag, .int .i64 key, .string text, .slice A0 n0 c0, .slice A1 n1 c1] 26)) := by go_grown
 obtain ⟨b, off, rfl, hblt, hcell⟩ := PrL.at_ (HP.out.below hBB) (by rw [HN.out]; omega)
 obtain ⟨d0, d1, d2, d3⟩ := hcell i _ hi
 dsimp only at d0 d1 d2 d3
 rw [← hww] at d0 d1 d2 d3 hBB
 have HBB := Lib.hid hBB
 have hi1 : (0 : Int) ≤ (i : Int) := by omega
 have hi2 : (i : Int) < (n0 : Int) := by omega
 have mixed : Tryz.prog.follows .mixedOrders = true := by kernel_rfl
 dsimp only at hk0 hk1 hk2
 subst hk0 hk1
 have hbs := bytes_ne hk2
 clear hk2
 clear hcell hi hww hBB
 go_wp2_with fail
 go_big_region_o
 all_goals go_wp2_with fail
 go_ret
 exact ⟨rfl, HBB.out.drew⟩
set_option maxHeartbeats 2000000 in
theorem meets27 (tag key : Int) (text : ByteArray) (ps : List Pr) (A0 A1 GB : Option Addr) (n0 c0 n1 c1 gn gc : Nat) (ab : List Int) (vk vn l g : Int) (vs : ByteArray) (w : World) (t : Int) (a : Int) (nm : Int) (hp : PrL w A0 ps) (hn : ps.length = n0) (hl : n0 ≤ maxLen) (hab : IntL w GB ab) (hgn : ab.length = gn) (hgl : gn ≤ maxLen) (ht : (t != -1) = true) (htt : (t != tag) = false) (ha : (a != -1) = true) (hac : ab.contains a = true) (hnm : (nm == -1) = false) (pv : Va) (hpo : propOf ps nm = some pv) (hk0 : pv = ⟨vk, vn, vs⟩) :
  Calls Tryz.prog 86 #[.agg #[.int .i64 t, .int .i64 a, .int .i64 nm, .int .i64 vk, .int .i64 vn, .string vs, .int .i64 l, .int .i64 g], .agg #[.int .i64 tag, .int .i64 key, .string text, .slice A0 n0 c0, .slice A1 n1 c1], .slice GB gn gc] w fun e w' => e = .returned (.bool true) ∧ Below w.heap.size w w' := by
 have HP := Lib.hid hp
 have K := Lib.hid (fun w' (h : Below w.heap.size w w') => hasInt_any GB gc gn ab a w' (hab.below h) hgn hgl)
 rw [hac] at K
 have K2 := Lib.hid (fun w' (h : Below w.heap.size w w') => propAt_any A0 c0 n0 ps nm w' (hp.below h) hn hl)
 rw [hpo] at K2
 have HN := Lib.hid hn
 unfold maxLen at hl
 clear hp hab hgn hn hgl hac hpo
 go_enter Tryz.func86, Tryz.ntmps86
 go_wp2_with (go_at_call 111; ((with_reducible refine (K.out _ (by go_grown)).mono ?_); rintro e w' ⟨rfl, rfl⟩))
 refine (K2.out _ (by go_grown)).mono ?_
 rintro e w' ⟨⟨r, rfl, ⟨_, h⟩ | ⟨i, p, rfl, hi, h⟩⟩, hww⟩
 ·cases h
 injection h with h
 subst h
 obtain ⟨pnm, ⟨pk, pn, ps'⟩⟩ := p
 have hil : i < n0 := by rw [← HN.out]; exact (List.getElem?_eq_some_iff.1 hi).1
 have e0 : w'.cell? ⟨w.heap.size, 0, none⟩ = some (.int .i64 t) := by rw [hww]; go_simp
 have e1 : w'.cell? ⟨w.heap.size, 1, none⟩ = some (.int .i64 a) := by rw [hww]; go_simp
 have e2 : w'.cell? ⟨w.heap.size, 2, none⟩ = some (.int .i64 nm) := by rw [hww]; go_simp
 have e3 : w'.cell? ⟨w.heap.size, 3, none⟩ = some (.int .i64 vk) := by rw [hww]; go_simp
 have e4 : w'.cell? ⟨w.heap.size, 4, none⟩ = some (.int .i64 vn) := by rw [hww]; go_simp
 have e5 : w'.cell? ⟨w.heap.size, 5, none⟩ = some (.string vs) := by rw [hww]; go_simp
 have e6 : w'.cell? ⟨w.heap.size, 6, none⟩ = some (.int .i64 l) := by rw [hww]; go_simp
 have e7 : w'.cell? ⟨w.heap.size, 7, none⟩ = some (.int .i64 g) := by rw [hww]; go_simp
 have f0 : w'.cell? ⟨w.heap.size + 1, 0, none⟩ = some (.int .i64 tag) := by rw [hww]; go_simp
 have f1 : w'.cell? ⟨w.heap.size + 1, 1, none⟩ = some (.int .i64 key) := by rw [hww]; go_simp
 have f2 : w'.cell? ⟨w.heap.size + 1, 2, none⟩ = some (.string text) := by rw [hww]; go_simp
 have f3 : w'.cell? ⟨w.heap.size + 1, 3, none⟩ = some (.slice A0 n0 c0) := by rw [hww]; go_simp
 have f4 : w'.cell? ⟨w.heap.size + 1, 4, none⟩ = some (.slice A1 n1 c1) := by rw [hww]; go_simp
 have hBB : Below w.heap.size w ((w.alloc (.cells #[.int .i64 t, .int .i64 a, .int .i64 nm, .int .i64 vk, .int .i64 vn, .string vs, .int .i64 l, .int .i64 g] 42)).alloc (.cells #[.int .i64 tag, .int .i64 key, .string text, .slice A0 n0 c0, .slice A1 n1 c1] 26)) := by go_grown
 obtain ⟨b, off, rfl, hblt, hcell⟩ := PrL.at_ (HP.out.below hBB) (by rw [HN.out]; omega)
 obtain ⟨d0, d1, d2, d3⟩ := hcell i _ hi
 dsimp only at d0 d1 d2 d3
 rw [← hww] at d0 d1 d2 d3 hBB
 have HBB := Lib.hid hBB
 have hi1 : (0 : Int) ≤ (i : Int) := by omega
 have hi2 : (i : Int) < (n0 : Int) := by omega
 have mixed : Tryz.prog.follows .mixedOrders = true := by kernel_rfl
 injection hk0 with q0 q1 q2
 subst q0 q1 q2
 clear hcell hi hww hBB
 go_wp2_with fail
 go_big_region_o
 all_goals go_wp2_with fail
 go_ret
 exact ⟨rfl, HBB.out.drew⟩
theorem meets_any (x : Ru) (tag key : Int) (text : ByteArray) (ps : List Pr) (A0 A1 GB : Option Addr) (n0 c0 n1 c1 gn gc : Nat) (ab : List Int) (w : World) (hp : PrL w A0 ps) (hn : ps.length = n0) (hl : n0 ≤ maxLen) (hab : IntL w GB ab) (hgn : ab.length = gn) (hgl : gn ≤ maxLen) :
  Calls Tryz.prog 86 #[.agg #[.int .i64 x.t, .int .i64 x.a, .int .i64 x.nm, .int .i64 x.v.k, .int .i64 x.v.n, .string x.v.s, .int .i64 x.l, .int .i64 x.g], .agg #[.int .i64 tag, .int .i64 key, .string text, .slice A0 n0 c0, .slice A1 n1 c1], .slice GB gn gc] w fun e w' => e = .returned (.bool (meetS x tag ps ab)) ∧ Below w.heap.size w w' := by
 obtain ⟨t, xa, nm, ⟨vk, vn, vs⟩, l, g⟩ := x
 have hT : t = -1 ∨ (t ≠ -1 ∧ t = tag) ∨ (t ≠ -1 ∧ t ≠ tag) := by
  by_cases h1 : t = -1
  ·exact .inl h1
  ·by_cases h2 : t = tag
   ·exact .inr (.inl ⟨h1, h2⟩)
   ·exact .inr (.inr ⟨h1, h2⟩)
 rcases hT with rfl | ⟨ht, htt⟩ | ⟨ht, htt⟩
 ·by_cases ha : xa = -1
  ·subst ha
   unfold meetS
   dsimp only
   rw [if_neg (show ¬ (((-1 : Int) ≠ -1 ∧ (-1 : Int) ≠ tag) ∨ ((-1 : Int) ≠ -1 ∧ ab.contains (-1 : Int) = false)) by rintro (⟨q1, q2⟩ | ⟨q1, q2⟩); (exact q1 rfl); (exact q1 rfl))]
   by_cases hnm : nm = -1
   ·subst hnm
    rw [if_pos rfl]
    exact meets4 tag key text ps A0 A1 GB n0 c0 n1 c1 gn gc ab vk vn l g vs w hp hn hl hab hgn hgl 
   rw [if_neg hnm]
   cases hpo : propOf ps nm with
   | none => exact meets5 tag key text ps A0 A1 GB n0 c0 n1 c1 gn gc ab vk vn l g vs w nm hp hn hl hab hgn hgl (by simpa using hnm) hpo
   | some pv =>
    dsimp only
    rcases va_ways pv ⟨vk, vn, vs⟩ with ⟨h1, hv⟩ | ⟨h1, h2, hv⟩ | ⟨h1, h2, h3, hv⟩ | rfl
    ·rw [hv]; exact meets6 tag key text ps A0 A1 GB n0 c0 n1 c1 gn gc ab vk vn l g vs w nm hp hn hl hab hgn hgl (by simpa using hnm) pv hpo h1
    ·rw [hv]; exact meets7 tag key text ps A0 A1 GB n0 c0 n1 c1 gn gc ab vk vn l g vs w nm hp hn hl hab hgn hgl (by simpa using hnm) pv hpo h1 h2
    ·rw [hv]; exact meets8 tag key text ps A0 A1 GB n0 c0 n1 c1 gn gc ab vk vn l g vs w nm hp hn hl hab hgn hgl (by simpa using hnm) pv hpo h1 h2 h3
    ·rw [decide_eq_true rfl]; exact meets9 tag key text ps A0 A1 GB n0 c0 n1 c1 gn gc ab vk vn l g vs w nm hp hn hl hab hgn hgl (by simpa using hnm) _ hpo rfl
  ·cases hac : ab.contains xa
   ·unfold meetS
    rw [if_pos (Or.inr ⟨ha, hac⟩)]
    exact meets2 tag key text ps A0 A1 GB n0 c0 n1 c1 gn gc ab vk vn l g vs w xa nm hp hn hl hab hgn hgl (by simpa using ha) hac
   ·
    unfold meetS
    dsimp only
    rw [if_neg (show ¬ (((-1 : Int) ≠ -1 ∧ (-1 : Int) ≠ tag) ∨ ((xa : Int) ≠ -1 ∧ ab.contains (xa : Int) = false)) by rintro (⟨q1, q2⟩ | ⟨q1, q2⟩); (exact q1 rfl); (rw [hac] at q2; cases q2))]
    by_cases hnm : nm = -1
    ·subst hnm
     rw [if_pos rfl]
     exact meets10 tag key text ps A0 A1 GB n0 c0 n1 c1 gn gc ab vk vn l g vs w xa hp hn hl hab hgn hgl (by simpa using ha) hac
    rw [if_neg hnm]
    cases hpo : propOf ps nm with
    | none => exact meets11 tag key text ps A0 A1 GB n0 c0 n1 c1 gn gc ab vk vn l g vs w xa nm hp hn hl hab hgn hgl (by simpa using ha) hac (by simpa using hnm) hpo
    | some pv =>
     dsimp only
     rcases va_ways pv ⟨vk, vn, vs⟩ with ⟨h1, hv⟩ | ⟨h1, h2, hv⟩ | ⟨h1, h2, h3, hv⟩ | rfl
     ·rw [hv]; exact meets12 tag key text ps A0 A1 GB n0 c0 n1 c1 gn gc ab vk vn l g vs w xa nm hp hn hl hab hgn hgl (by simpa using ha) hac (by simpa using hnm) pv hpo h1
     ·rw [hv]; exact meets13 tag key text ps A0 A1 GB n0 c0 n1 c1 gn gc ab vk vn l g vs w xa nm hp hn hl hab hgn hgl (by simpa using ha) hac (by simpa using hnm) pv hpo h1 h2
     ·rw [hv]; exact meets14 tag key text ps A0 A1 GB n0 c0 n1 c1 gn gc ab vk vn l g vs w xa nm hp hn hl hab hgn hgl (by simpa using ha) hac (by simpa using hnm) pv hpo h1 h2 h3
     ·rw [decide_eq_true rfl]; exact meets15 tag key text ps A0 A1 GB n0 c0 n1 c1 gn gc ab vk vn l g vs w xa nm hp hn hl hab hgn hgl (by simpa using ha) hac (by simpa using hnm) _ hpo rfl
 ·by_cases ha : xa = -1
  ·subst ha
   unfold meetS
   dsimp only
   rw [if_neg (show ¬ (((t : Int) ≠ -1 ∧ (t : Int) ≠ tag) ∨ ((-1 : Int) ≠ -1 ∧ ab.contains (-1 : Int) = false)) by rintro (⟨q1, q2⟩ | ⟨q1, q2⟩); (exact q2 htt); (exact q1 rfl))]
   by_cases hnm : nm = -1
   ·subst hnm
    rw [if_pos rfl]
    exact meets16 tag key text ps A0 A1 GB n0 c0 n1 c1 gn gc ab vk vn l g vs w t hp hn hl hab hgn hgl (by simpa using ht) (by simpa using htt)
   rw [if_neg hnm]
   cases hpo : propOf ps nm with
   | none => exact meets17 tag key text ps A0 A1 GB n0 c0 n1 c1 gn gc ab vk vn l g vs w t nm hp hn hl hab hgn hgl (by simpa using ht) (by simpa using htt) (by simpa using hnm) hpo
   | some pv =>
    dsimp only
    rcases va_ways pv ⟨vk, vn, vs⟩ with ⟨h1, hv⟩ | ⟨h1, h2, hv⟩ | ⟨h1, h2, h3, hv⟩ | rfl
    ·rw [hv]; exact meets18 tag key text ps A0 A1 GB n0 c0 n1 c1 gn gc ab vk vn l g vs w t nm hp hn hl hab hgn hgl (by simpa using ht) (by simpa using htt) (by simpa using hnm) pv hpo h1
    ·rw [hv]; exact meets19 tag key text ps A0 A1 GB n0 c0 n1 c1 gn gc ab vk vn l g vs w t nm hp hn hl hab hgn hgl (by simpa using ht) (by simpa using htt) (by simpa using hnm) pv hpo h1 h2
    ·rw [hv]; exact meets20 tag key text ps A0 A1 GB n0 c0 n1 c1 gn gc ab vk vn l g vs w t nm hp hn hl hab hgn hgl (by simpa using ht) (by simpa using htt) (by simpa using hnm) pv hpo h1 h2 h3
    ·rw [decide_eq_true rfl]; exact meets21 tag key text ps A0 A1 GB n0 c0 n1 c1 gn gc ab vk vn l g vs w t nm hp hn hl hab hgn hgl (by simpa using ht) (by simpa using htt) (by simpa using hnm) _ hpo rfl
  ·cases hac : ab.contains xa
   ·unfold meetS
    rw [if_pos (Or.inr ⟨ha, hac⟩)]
    exact meets3 tag key text ps A0 A1 GB n0 c0 n1 c1 gn gc ab vk vn l g vs w t xa nm hp hn hl hab hgn hgl (by simpa using ht) (by simpa using htt) (by simpa using ha) hac
   ·
    unfold meetS
    dsimp only
    rw [if_neg (show ¬ (((t : Int) ≠ -1 ∧ (t : Int) ≠ tag) ∨ ((xa : Int) ≠ -1 ∧ ab.contains (xa : Int) = false)) by rintro (⟨q1, q2⟩ | ⟨q1, q2⟩); (exact q2 htt); (rw [hac] at q2; cases q2))]
    by_cases hnm : nm = -1
    ·subst hnm
     rw [if_pos rfl]
     exact meets22 tag key text ps A0 A1 GB n0 c0 n1 c1 gn gc ab vk vn l g vs w t xa hp hn hl hab hgn hgl (by simpa using ht) (by simpa using htt) (by simpa using ha) hac
    rw [if_neg hnm]
    cases hpo : propOf ps nm with
    | none => exact meets23 tag key text ps A0 A1 GB n0 c0 n1 c1 gn gc ab vk vn l g vs w t xa nm hp hn hl hab hgn hgl (by simpa using ht) (by simpa using htt) (by simpa using ha) hac (by simpa using hnm) hpo
    | some pv =>
     dsimp only
     rcases va_ways pv ⟨vk, vn, vs⟩ with ⟨h1, hv⟩ | ⟨h1, h2, hv⟩ | ⟨h1, h2, h3, hv⟩ | rfl
     ·rw [hv]; exact meets24 tag key text ps A0 A1 GB n0 c0 n1 c1 gn gc ab vk vn l g vs w t xa nm hp hn hl hab hgn hgl (by simpa using ht) (by simpa using htt) (by simpa using ha) hac (by simpa using hnm) pv hpo h1
     ·rw [hv]; exact meets25 tag key text ps A0 A1 GB n0 c0 n1 c1 gn gc ab vk vn l g vs w t xa nm hp hn hl hab hgn hgl (by simpa using ht) (by simpa using htt) (by simpa using ha) hac (by simpa using hnm) pv hpo h1 h2
     ·rw [hv]; exact meets26 tag key text ps A0 A1 GB n0 c0 n1 c1 gn gc ab vk vn l g vs w t xa nm hp hn hl hab hgn hgl (by simpa using ht) (by simpa using htt) (by simpa using ha) hac (by simpa using hnm) pv hpo h1 h2 h3
     ·rw [decide_eq_true rfl]; exact meets27 tag key text ps A0 A1 GB n0 c0 n1 c1 gn gc ab vk vn l g vs w t xa nm hp hn hl hab hgn hgl (by simpa using ht) (by simpa using htt) (by simpa using ha) hac (by simpa using hnm) _ hpo rfl
 ·unfold meetS
  rw [if_pos (Or.inl ⟨ht, htt⟩)]
  exact meets1 tag key text ps A0 A1 GB n0 c0 n1 c1 gn gc ab vk vn l g vs w t xa nm hp hn hl hab hgn hgl (by simpa using ht) (by simpa using htt)
end Go.Proofs.YtmfibedcloknlaaGreatDoor
