/- DrwW1, DrwW2, DrwW3 in one text. -/
import Derived.Test.YtpkhpaioddommaaDoorSrc
import Derived.Test.YtpkhpaioddommaaDoorDrwT2
import Derived.Test.YtpkhpaioddommaaDoorDrwT1
import Derived.Test.YtpkhpaioddommaaDoorIntM
import Derived.Test.YtpkhpaioddommaaDoorPrtM
import Derived.Test.YtpkhpaioddommaaDoorDrTM
import Derived.Deep.RegionHeld3
namespace Go.Proofs.YtpkhpaioddommaaDoor
open Go.Joins Go.ChangeShapes Go.WideShapes Go.ChangeAt Go.RowKit Go.Deep
set_option linter.unusedVariables false
set_option linter.unusedSimpArgs false

def PickL (g : Nat) (A : Option Addr) (len cap : Nat) (n : Int) (p l : Int) (w : World) (e : Ending) (w' : World) : Prop :=
  ∃ r p' l' : Int, e = .returned (.int .i64 r) ∧ 0 ≤ r ∧ (r < n ∨ r = 0) ∧ Src w' g A len cap p' l' ∧ Code w' g A len ∧ l' ≤ l ∧ (0 < r → l' < l) ∧ Keep g w.heap.size w w'
set_option maxHeartbeats 1000000 in
theorem pickL_any (g : Nat) (A : Option Addr) (len cap : Nat) (n p l : Int) (w : World) (hs : Src w g A len cap p l) (hc : Code w g A len) (hlen : len ≤ maxLen) (hn2 : n ≤ 256) :
    Calls Tryd.prog 65 #[.pointer (some ⟨g, 0, none⟩), .int .i64 n] w (PickL g A len cap n p l w) := by
  have HSR := Lib.hid hs
  have HCO := Lib.hid hc
  by_cases hn : n ≤ 1
  · clear hs hc
    go_enter Tryd.func65, Tryd.ntmps65
    go_wp2_with fail
    go_ret
    exact ⟨0, p, l, rfl, by omega, .inr rfl, HSR.out, HCO.out, by omega, fun h => by omega, Keep.refl _ _ _⟩
  unfold maxLen at hlen
  have hgw := hs.lt
  obtain ⟨c0, c1, c2, cf⟩ := src_cell hs
  obtain ⟨hb, hp, hl, hpl⟩ := hs
  have HB := Lib.hid hb
  clear hb
  have d1 : decide (n ≤ 1) = false := by simp; omega
  have n2 : 2 ≤ n := by omega
  clear hn
  by_cases l0 : l ≤ 0
  · clear hc
    go_enter Tryd.func65, Tryd.ntmps65
    go_wp2_with fail
    go_ret
    exact ⟨0, p, l, rfl, by omega, .inr rfl, HSR.out, HCO.out, by omega, fun h => by omega, Keep.refl _ _ _⟩
  · have d2 : decide (l ≤ 0) = false := by simp; omega
    by_cases hlen0 : len = 0
    · subst hlen0
      clear hc
      go_enter Tryd.func65, Tryd.ntmps65
      go_wp2_with fail
      go_ret
      exact ⟨0, p, l, rfl, by omega, .inr rfl, HSR.out, HCO.out, by omega, fun h => by omega, Keep.refl _ _ _⟩
    · obtain ⟨b, off, rfl, hbg, hcells⟩ := hc (by omega)
      have HC := Lib.hid hc
      clear hc HSR HCO
      have d3 : ((len : Int) == 0) = false := by simp; omega
      have m0 : 0 ≤ p % len := Int.emod_nonneg _ (by omega)
      have m1 : p % len < len := Int.emod_lt_of_pos _ (by omega)
      obtain ⟨c, k0, k1, hcc⟩ := hcells (p % len).toNat (by omega)
      have q0 : 0 ≤ p / len := Int.ediv_nonneg hp (by omega)
      have q1 : p / len ≤ 8000 := by
        have := Int.ediv_le_self len hp
        omega
      have w1 : IntKind.i64.wrap (p / len * 31) = p / len * 31 := IntWalk.i64_in _ (by omega)
      have w2 : IntKind.i64.wrap (c + p / len * 31) = c + p / len * 31 := IntWalk.i64_in _ (by omega)
      go_enter Tryd.func65, Tryd.ntmps65
      go_wp2_with fail
      go_quiet (fail)
      go_wp2_with fail
      go_ret
      have hk := (((Keep.refl g w.heap.size w).set_ (p := ⟨g, 2, none⟩) (.inl rfl) (.int .i64 (l - 1))).drewN nq).set_ (p := ⟨g, 1, none⟩) (.inl rfl) (.int .i64 (p + 1))
      exact ⟨(c + p / len * 31) % n, p + 1, l - 1, rfl, Int.emod_nonneg _ (by omega), .inl (Int.emod_lt_of_pos _ (by omega)), ⟨src_step HB.out nq, by omega, by omega, by omega⟩, HC.out.of_block fun k hk' => hk.block k (by omega) (by omega), by omega, fun _ => by omega, hk⟩
theorem own_keep {g lo : Nat} {w1 w2 : World} {e : TypeId} {sz : Nat} {v : Value} {n : Nat} {xs : List Value} (h : w1.ownsRow lo e sz v n xs) (hk : Keep g w1.heap.size w1 w2) (hg : g < lo) : w2.ownsRow lo e sz v n xs := by
  obtain ⟨a, b | ⟨q, cap, cur, e1, e2, e3, r⟩⟩ := h
  · exact ⟨a, .inl b⟩
  · exact ⟨a, .inr ⟨q, cap, cur, e1, e2, (hk.block q (Array.getElem?_eq_some_iff.1 e3).1 (by omega)).trans e3, r⟩⟩
theorem box_keep {g k : Nat} {w1 w2 : World} {o : Obj} (h : w1.heap[k]? = some o) (hk : Keep g w1.heap.size w1 w2) (hg : k ≠ g) : w2.heap[k]? = some o := (hk.block k (Array.getElem?_eq_some_iff.1 h).1 hg).trans h
theorem box_put5 {w : World} {b : Nat} {u0 u1 u2 u3 u4 v0 v1 v2 v3 v4 : Value} {t : TypeId} (h : w.heap[b]? = some (.cells #[u0, u1, u2, u3, u4] t (0, 0))) :
    (((((w.setCell ⟨b, 0, none⟩ v0).setCell ⟨b, 1, none⟩ v1).setCell ⟨b, 2, none⟩ v2).setCell ⟨b, 3, none⟩ v3).setCell ⟨b, 4, none⟩ v4).heap[b]? = some (.cells #[v0, v1, v2, v3, v4] t (0, 0)) :=
  set_block (set_block (set_block (set_block (set_block h 0 v0) 1 v1) 2 v2) 3 v3) 4 v4
theorem five_frozen {w : World} {b : Nat} {v0 v1 v2 v3 v4 : Value} {t : TypeId} (h : w.heap[b]? = some (.cells #[v0, v1, v2, v3, v4] t (0, 0))) : ∀ o, w.frozen? ⟨b, o, none⟩ = false := fun o => by simp [World.frozen?, h]
theorem TrD.five {w : World} {lo hi : Nat} {cs : List Value} {t : Tr} (h : TrD w lo hi cs t) : ∃ A0 c0 A1 c1, cs = [.int .i64 t.tag, .int .i64 t.key, .string t.text, .slice A0 t.ps.length c0, .slice A1 t.ks.length c1] := by
  cases h with
  | mk A0 c0 A1 c1 hdr hp hk hks hA0 => exact ⟨A0, c0, A1, c1, rfl⟩
/-- One of the Kids. -/
theorem TrD.kid {w : World} {lo hi : Nat} {A0 A1 : Option Addr} {c0 c1 : Nat} {t : Tr} (h : TrD w lo hi [.int .i64 t.tag, .int .i64 t.key, .string t.text, .slice A0 t.ps.length c0, .slice A1 t.ks.length c1] t) {j : Nat} {y : Tr} (hy : t.ks[j]? = some y) :
    ∃ b off F0 q0 F1 q1, A1 = some ⟨b, off, none⟩ ∧ b < hi ∧ lo ≤ b ∧ w.cell? ⟨b, off + j * 5, none⟩ = some (.int .i64 y.tag) ∧ w.cell? ⟨b, off + j * 5 + 1, none⟩ = some (.int .i64 y.key) ∧ w.cell? ⟨b, off + j * 5 + 2, none⟩ = some (.string y.text) ∧ w.cell? ⟨b, off + j * 5 + 3, none⟩ = some (.slice F0 y.ps.length q0) ∧ w.cell? ⟨b, off + j * 5 + 4, none⟩ = some (.slice F1 y.ks.length q1) ∧
      TrD w lo hi [.int .i64 y.tag, .int .i64 y.key, .string y.text, .slice F0 y.ps.length q0, .slice F1 y.ks.length q1] y := by
  generalize hcs : [Value.int .i64 t.tag, Value.int .i64 t.key, Value.string t.text, Value.slice A0 t.ps.length c0, Value.slice A1 t.ks.length c1] = cs at h
  cases h with
  | mk B0 d0 B1 d1 hdr hp hk hks hA0 =>
    simp only [Tr.tag, Tr.key, Tr.text, Tr.ps, Tr.ks, List.cons.injEq, Value.slice.injEq, true_and, and_true] at hcs hy
    obtain ⟨_, rfl, rfl⟩ := hcs
    have hj := (List.getElem?_eq_some_iff.1 hy).1
    obtain ⟨b, off, e, h1, h2, hc⟩ := hk (by omega)
    have hd := hks j y hy
    obtain ⟨F0, q0, F1, q1, e5⟩ := hd.five
    have hc := hc j hj
    rw [e5] at hc hd
    exact ⟨b, off, F0, q0, F1, q1, e, h2, h1, hc 0 _ rfl, hc 1 _ rfl, hc 2 _ rfl, hc 3 _ rfl, hc 4 _ rfl, hd⟩
end Go.Proofs.YtpkhpaioddommaaDoor

namespace Go.Proofs.YtpkhpaioddommaaDoor
open Go.Joins Go.ChangeShapes Go.WideShapes Go.ChangeAt Go.RowKit Go.Deep
set_option linter.unusedVariables false
set_option linter.unusedSimpArgs false

/-- A way that was drawn: small numbers in a row of the call's own. -/
def WayX (g : Nat) (A : Option Addr) (len cap : Nat) (w : World) (e : Ending) (w' : World) : Prop :=
  ∃ (b c : Nat) (zs : List Int), e = .returned (.slice (some ⟨b, 0, none⟩) zs.length c) ∧ w'.ownsRow w.heap.size 3 1 (.slice (some ⟨b, 0, none⟩) zs.length c) zs.length (zV zs) ∧ zs.length ≤ 5000 ∧ St g A len cap w' ∧ Keep g w.heap.size w w'
theorem own_at {g lo : Nat} {w : World} {b n c : Nat} {xs : List Value} (h : w.ownsRow lo 3 1 (.slice (some ⟨b, 0, none⟩) n c) n xs) (hg : g < lo) : b ≠ g ∧ lo ≤ b := by
  obtain ⟨_, h | ⟨q, cap', cur', hv, hlo, _⟩⟩ := h
  · simp at h
  · simp only [Value.slice.injEq, Option.some.injEq, Addr.mk.injEq, and_true] at hv
    omega
theorem own_move {lo : Nat} {w w' : World} {b n c : Nat} {xs : List Value} (h : w.ownsRow lo 3 1 (.slice (some ⟨b, 0, none⟩) n c) n xs) (hm : ∀ (q : Nat) (cur : Array Value), (Value.slice (some ⟨b, 0, none⟩) n c = Value.slice (some ⟨q, 0, none⟩) n c) → w.heap[q]? = some (.cells cur 3 (0, 0)) → w'.heap[q]? = w.heap[q]?) : w'.ownsRow lo 3 1 (.slice (some ⟨b, 0, none⟩) n c) n xs := by
  obtain ⟨a, h | ⟨q, cap', cur', hv, hlo, hh, r⟩⟩ := h
  · exact ⟨a, .inl h⟩
  · refine ⟨a, .inr ⟨q, cap', cur', hv, hlo, (hm q cur' ?_ hh).trans hh, r⟩⟩
    simp only [Value.slice.injEq, Option.some.injEq, Addr.mk.injEq, and_true] at hv ⊢
    exact hv.1
theorem gd_ks {t : Tr} (h : GdT t) : t.ks.length ≤ 10 ∧ ∀ x ∈ t.ks, GdT x := by cases h with | mk h0 h1 h2 h3 h4 h5 => exact ⟨h3, h4⟩
theorem zV_append (zs : List Int) (z : Int) : zV zs ++ [.int .i64 z] = zV (zs ++ [z]) := by simp [zV]
set_option maxRecDepth 100000 in
set_option maxHeartbeats 2000000 in
theorem way_any (g : Nat) (A : Option Addr) (len cap : Nat) (t : Tr) (hG : GdT t) (A0 A1 : Option Addr) (c0 c1 : Nat) (w : World) (hs : St g A len cap w) (hi_ : Nat) (hhi : hi_ ≤ w.heap.size) (hk : TrD w (g + 1) hi_ [.int .i64 t.tag, .int .i64 t.key, .string t.text, .slice A0 t.ps.length c0, .slice A1 t.ks.length c1] t) :
    Calls Tryd.prog 50 #[.pointer (some ⟨g, 0, none⟩), .agg #[.int .i64 t.tag, .int .i64 t.key, .string t.text, .slice A0 t.ps.length c0, .slice A1 t.ks.length c1]] w (WayX g A len cap w) := by
  obtain ⟨⟨p, l, hsr⟩, hco, hlen⟩ := hs
  have hgw := hsr.lt
  have hl4 : l ≤ 4000 := by obtain ⟨_, h1, h2, h3⟩ := hsr; omega
  obtain ⟨i0, hi, hz0, hz1, hz2⟩ := info_parts infoInt2
  have HG := Lib.hid hG
  have HK := Lib.hid hk
  have HLEN := Lib.hid hlen
  have hka : Keep g w.heap.size w (w.alloc (.cells #[.int .i64 t.tag, .int .i64 t.key, .string t.text, .slice A0 t.ps.length c0, .slice A1 t.ks.length c1] 26)) := Keep.of_below (Below.alloc (Below.refl _ _) (Nat.le_refl _) _)
  have hkb : Keep g w.heap.size w ((w.alloc (.cells #[.int .i64 t.tag, .int .i64 t.key, .string t.text, .slice A0 t.ps.length c0, .slice A1 t.ks.length c1] 26)).alloc (.cells #[] 3)) := Keep.of_below ((Below.alloc (Below.refl _ _) (Nat.le_refl _) _).alloc (by simp) _)
  have hbx : ((w.alloc (.cells #[.int .i64 t.tag, .int .i64 t.key, .string t.text, .slice A0 t.ps.length c0, .slice A1 t.ks.length c1] 26)).alloc (.cells #[] 3)).heap[w.heap.size]? = some (.cells #[.int .i64 t.tag, .int .i64 t.key, .string t.text, .slice A0 t.ps.length c0, .slice A1 t.ks.length c1] 26 (0, 0)) := by
    rw [Below.heap_alloc _ _ _ (by simp)]; exact World.alloc_heap_new w _
  have hro : ((w.alloc (.cells #[.int .i64 t.tag, .int .i64 t.key, .string t.text, .slice A0 t.ps.length c0, .slice A1 t.ks.length c1] 26)).alloc (.cells #[] 3)).ownsRow w.heap.size 3 1 (.slice (some ⟨w.heap.size + 1, 0, none⟩) 0 0) 0 [] := by
    refine ⟨rfl, .inr ⟨w.heap.size + 1, 0, #[], rfl, by omega, ?_, Nat.le_refl _, by decide, rfl, rfl⟩⟩
    have := World.alloc_heap_new (w.alloc (.cells #[.int .i64 t.tag, .int .i64 t.key, .string t.text, .slice A0 t.ps.length c0, .slice A1 t.ks.length c1] 26)) (.cells #[] 3)
    rw [World.size_alloc] at this
    exact this
  obtain ⟨w1, hw1⟩ : ∃ w1, (w.alloc (.cells #[.int .i64 t.tag, .int .i64 t.key, .string t.text, .slice A0 t.ps.length c0, .slice A1 t.ks.length c1] 26)).alloc (.cells #[] 3) = w1 := ⟨_, rfl⟩
  rw [hw1] at hkb hbx hro
  have hsz1 : w1.heap.size = w.heap.size + 2 := by rw [← hw1]; simp
  have hsr1 : Src w1 g A len cap p l := ⟨(by rw [← hw1]; exact (Below.heap_alloc _ _ _ (by simp; omega)).trans ((Below.heap_alloc _ _ _ (by omega)).trans hsr.1)), hsr.2⟩
  have hco1 : Code w1 g A len := hco.of_block fun k hk' => by rw [← hw1]; exact (Below.heap_alloc _ _ _ (by simp; omega)).trans (Below.heap_alloc _ _ _ (by omega))
  have HW1 := Lib.hid hw1
  have HKB := Lib.hid hkb
  have HBX := Lib.hid hbx
  have HRO := Lib.hid hro
  have HSR := Lib.hid hsr1
  have HCO := Lib.hid hco1
  clear hG hk hlen hka hkb hbx hro hw1 hsr hco hsr1 hco1
  go_enter Tryd.func50, Tryd.ntmps50
  go_wp2_with fail
  rw [HW1.out]
  go_loopw [5] (fun out wr => ∃ (x : Tr) (E0 E1 : Option Addr) (d0 d1 b c : Nat) (zs : List Int) (p l : Int), out = .slice (some ⟨b, 0, none⟩) zs.length c ∧ Hid (wr.ownsRow w.heap.size 3 1 (.slice (some ⟨b, 0, none⟩) zs.length c) zs.length (zV zs)) ∧ Hid (GdT x) ∧ Hid (TrD w (g + 1) hi_ [.int .i64 x.tag, .int .i64 x.key, .string x.text, .slice E0 x.ps.length d0, .slice E1 x.ks.length d1] x) ∧ Hid (wr.heap[w.heap.size]? = some (.cells #[.int .i64 x.tag, .int .i64 x.key, .string x.text, .slice E0 x.ps.length d0, .slice E1 x.ks.length d1] 26 (0, 0))) ∧ Hid (Src wr g A len cap p l) ∧ Hid (Code wr g A len) ∧ (zs.length : Int) + l ≤ 4000 ∧ 0 ≤ l ∧ Hid (Keep g w.heap.size w wr)) (fun _ wr => (intOf ((wr.cell? ⟨g, 2, none⟩).getD (.int .i64 0))).toNat)
  case atStart => exact ⟨t, A0, A1, c0, c1, w.heap.size + 1, 0, [], p, l, rfl, HRO, HG, HK, HBX, HSR, HCO, by simpa using hl4, HSR.out.2.2.1, HKB⟩
  case round =>
    clear HRO HBX HSR HCO HKB HW1 HG HK hl4
    obtain ⟨x, E0, E1, d0, d1, b, c, zs, p, l, rfl, HRO, HG, HK, HBX, HSR, HCO, hlz, hl0, HKB⟩ := hrel
    have hmeas : (intOf ((wr.cell? ⟨g, 2, none⟩).getD (.int .i64 0))).toNat = l.toNat := by rw [(src_cell HSR.out).2.2.1]; rfl
    have HME := Lib.hid hmeas
    have hgr := HSR.out.lt
    have hbr : w.heap.size < wr.heap.size := (Array.getElem?_eq_some_iff.1 HBX.out).1
    obtain ⟨n, hn⟩ : ∃ n, zs.length = n := ⟨_, rfl⟩
    have HN := Lib.hid hn
    rw [hn] at hlz ⊢
    clear hmeas hn
    go_wp2_with fail
    refine (pickL_any g A len cap 4 p l wr HSR.out HCO.out HLEN.out (by omega)).mono ?_
    rintro e w2 ⟨r, p2, l2, rfl, hr0, hr1, hs2, hc2, hl2, hl3, hk2⟩
    have HBX2 := Lib.hid (box_keep HBX.out hk2 (by omega))
    have HRO2 := Lib.hid (own_keep HRO.out hk2 hgw)
    have HKB2 := Lib.hid (HKB.out.trans (hk2.mono HKB.out.size))
    have HS2 := Lib.hid hs2
    have HC2 := Lib.hid hc2
    have hzz2 := hk2.size
    have hl20 : 0 ≤ l2 := hs2.2.2.1
    have HOB := Lib.hid (own_at HRO2.out hgw)
    clear hk2 hs2 hc2 HBX HRO HKB HSR HCO
    obtain ⟨o0, o1, o2, o3, o4⟩ := five_cells HBX2.out
    have of := five_frozen HBX2.out
    by_cases hrp : 0 < r
    case neg =>
      obtain rfl : r = 0 := by omega
      go_wp2_with fail
      refine (rarely_any g A len cap w2 ⟨⟨p2, l2, HS2.out⟩, HC2.out, HLEN.out⟩).mono ?_
      rintro e w3 ⟨bb, rfl, hst, hk3⟩
      have HRO3 := Lib.hid (own_keep HRO2.out hk3 hgw)
      have HKB3 := Lib.hid (HKB2.out.trans (hk3.mono HKB2.out.size))
      have HST := Lib.hid hst
      have hz3 := hk3.size
      clear hk3 hst
      cases bb
      · go_wp2_with fail
        go_ret
        exact ⟨b, c, zs, by rw [HN.out]; rfl, HRO3.out, by have := HN.out; omega, HST.out, HKB3.out⟩
      · have hk4 : Keep g w3.heap.size w3 (w3.alloc (.cells #[.int .i64 (-1), .int .i64 0, .int .i64 9] 3)) := Keep.of_below (Below.alloc (Below.refl _ _) (Nat.le_refl _) _)
        have HONE := Lib.hid (one_any g A len cap w3.heap.size 3 3 (-1) 9 (w3.alloc (.cells #[.int .i64 (-1), .int .i64 0, .int .i64 9] 3)) (HST.out.alloc _) (by simp) (by have := HST.out.lt; omega) (fun i h3 => by
          match i, h3 with
          | 0, _ => exact ⟨-1, by omega, by omega, by rw [World.cell?_alloc_new]; rfl⟩
          | 1, _ => exact ⟨0, by omega, by omega, by rw [World.cell?_alloc_new]; rfl⟩
          | 2, _ => exact ⟨9, by omega, by omega, by rw [World.cell?_alloc_new]; rfl⟩) (by omega) (by omega))
        have HRO4 := Lib.hid (own_keep HRO3.out hk4 hgw)
        have HKB4 := Lib.hid (HKB3.out.trans (hk4.mono HKB3.out.size))
        have hz4 := hk4.size
        clear hk4
        go_wp2_with fail
        refine HONE.out.mono ?_
        rintro e w5 ⟨z, rfl, hz_0, hz_1, hst5, hk5⟩
        have HRO5 := Lib.hid (own_keep HRO4.out hk5 hgw)
        have HKB5 := Lib.hid (HKB4.out.trans (hk5.mono HKB4.out.size))
        have HST5 := Lib.hid hst5
        have hz5 := hk5.size
        have HNW := Lib.hid (World.news_of_block (cs := #[.int .i64 z]) (t := 3) (fr := (0, 0)) (heap_alloc_new w5 _))
        have hro := HRO5.out.alloc (.cells #[.int .i64 z] 3)
        rw [HN.out] at hro
        have HR6 := Lib.hid hro
        clear hk5 hst5 hro HONE
        go_wp2_with (at_builtin; refine wpList_append_own _ rfl _ _ 30 rfl w.heap.size 3 i0 (.int .i64 0) 1 8 Tryd.underlying30 hi hz0 hz1 hz2 rfl (by decide) (.slice (some ⟨b, 0, none⟩) n c) n (zV zs) rfl HR6.out ⟨w5.heap.size, 0, none⟩ 1 1 [.int .i64 z] rfl rfl HNW.out (by intro u hu; simp at hu; subst hu; rfl) (by unfold maxLen; omega) (by omega) (by simp; omega) ?_)
        intro v' wq hown hgrow _
        obtain ⟨b5, c5, rfl⟩ : ∃ b5 c5, v' = .slice (some ⟨b5, 0, none⟩) (n + 1) c5 := by
          rcases hown.2 with ⟨_, h0⟩ | ⟨b5, cap, cur, hv, _⟩
          · omega
          · exact ⟨b5, cap, hv⟩
        have hob : b ≠ g ∧ w.heap.size ≤ b := HOB.out
        have hg5 : g < w5.heap.size := HST5.out.lt
        have hst6 : St g A len cap wq := (HST5.out.alloc (.cells #[.int .i64 z] 3)).of_block (fun k hk => hgrow.block k (by simp; omega) (by simp [Value.ownBlock]; omega))
        have hk6 : Keep g w.heap.size w wq := HKB5.out.trans (Keep.of_below (((Below.refl w.heap.size w5).alloc (by omega) (.cells #[.int .i64 z] 3)).grown hgrow (by simp; omega) (fun k e => by simp [Value.ownBlock] at e; omega)))
        have HS6 := Lib.hid hst6
        have HK6 := Lib.hid hk6
        have HOW := Lib.hid hown
        clear hst6 hk6 hown hgrow
        go_wp2_with fail
        go_ret
        have e1 : (zs ++ [z]).length = n + 1 := by rw [List.length_append, HN.out]; rfl
        refine ⟨b5, c5, zs ++ [z], by rw [e1]; rfl, ?_, by omega, HS6.out, HK6.out⟩
        rw [e1, ← zV_append]
        exact HOW.out
    case pos =>
      have hd : decide (r > 0) = true := by simpa using hrp
      have hl4 := hl3 hrp
      obtain ⟨m, hm⟩ : ∃ m, x.ks.length = m := ⟨_, rfl⟩
      have HM := Lib.hid hm
      have hm10 : m ≤ 10 := by rw [← hm]; exact (gd_ks HG.out).1
      rw [hm] at o4
      by_cases hm0 : m = 0
      · subst hm0
        clear hm
        go_wp2_with fail
        refine (rarely_any g A len cap w2 ⟨⟨p2, l2, HS2.out⟩, HC2.out, HLEN.out⟩).mono ?_
        rintro e w3 ⟨bb, rfl, hst, hk3⟩
        have HRO3 := Lib.hid (own_keep HRO2.out hk3 hgw)
        have HKB3 := Lib.hid (HKB2.out.trans (hk3.mono HKB2.out.size))
        have HST := Lib.hid hst
        have hz3 := hk3.size
        clear hk3 hst
        cases bb
        · go_wp2_with fail
          go_ret
          exact ⟨b, c, zs, by rw [HN.out]; rfl, HRO3.out, by have := HN.out; omega, HST.out, HKB3.out⟩
        · have hk4 : Keep g w3.heap.size w3 (w3.alloc (.cells #[.int .i64 (-1), .int .i64 0, .int .i64 9] 3)) := Keep.of_below (Below.alloc (Below.refl _ _) (Nat.le_refl _) _)
          have HONE := Lib.hid (one_any g A len cap w3.heap.size 3 3 (-1) 9 (w3.alloc (.cells #[.int .i64 (-1), .int .i64 0, .int .i64 9] 3)) (HST.out.alloc _) (by simp) (by have := HST.out.lt; omega) (fun i h3 => by
            match i, h3 with
            | 0, _ => exact ⟨-1, by omega, by omega, by rw [World.cell?_alloc_new]; rfl⟩
            | 1, _ => exact ⟨0, by omega, by omega, by rw [World.cell?_alloc_new]; rfl⟩
            | 2, _ => exact ⟨9, by omega, by omega, by rw [World.cell?_alloc_new]; rfl⟩) (by omega) (by omega))
          have HRO4 := Lib.hid (own_keep HRO3.out hk4 hgw)
          have HKB4 := Lib.hid (HKB3.out.trans (hk4.mono HKB3.out.size))
          have hz4 := hk4.size
          clear hk4
          go_wp2_with fail
          refine HONE.out.mono ?_
          rintro e w5 ⟨z, rfl, hz_0, hz_1, hst5, hk5⟩
          have HRO5 := Lib.hid (own_keep HRO4.out hk5 hgw)
          have HKB5 := Lib.hid (HKB4.out.trans (hk5.mono HKB4.out.size))
          have HST5 := Lib.hid hst5
          have hz5 := hk5.size
          have HNW := Lib.hid (World.news_of_block (cs := #[.int .i64 z]) (t := 3) (fr := (0, 0)) (heap_alloc_new w5 _))
          have hro := HRO5.out.alloc (.cells #[.int .i64 z] 3)
          rw [HN.out] at hro
          have HR6 := Lib.hid hro
          clear hk5 hst5 hro HONE
          go_wp2_with (at_builtin; refine wpList_append_own _ rfl _ _ 30 rfl w.heap.size 3 i0 (.int .i64 0) 1 8 Tryd.underlying30 hi hz0 hz1 hz2 rfl (by decide) (.slice (some ⟨b, 0, none⟩) n c) n (zV zs) rfl HR6.out ⟨w5.heap.size, 0, none⟩ 1 1 [.int .i64 z] rfl rfl HNW.out (by intro u hu; simp at hu; subst hu; rfl) (by unfold maxLen; omega) (by omega) (by simp; omega) ?_)
          intro v' wq hown hgrow _
          obtain ⟨b5, c5, rfl⟩ : ∃ b5 c5, v' = .slice (some ⟨b5, 0, none⟩) (n + 1) c5 := by
            rcases hown.2 with ⟨_, h0⟩ | ⟨b5, cap, cur, hv, _⟩
            · omega
            · exact ⟨b5, cap, hv⟩
          have hob : b ≠ g ∧ w.heap.size ≤ b := HOB.out
          have hg5 : g < w5.heap.size := HST5.out.lt
          have hst6 : St g A len cap wq := (HST5.out.alloc (.cells #[.int .i64 z] 3)).of_block (fun k hk => hgrow.block k (by simp; omega) (by simp [Value.ownBlock]; omega))
          have hk6 : Keep g w.heap.size w wq := HKB5.out.trans (Keep.of_below (((Below.refl w.heap.size w5).alloc (by omega) (.cells #[.int .i64 z] 3)).grown hgrow (by simp; omega) (fun k e => by simp [Value.ownBlock] at e; omega)))
          have HS6 := Lib.hid hst6
          have HK6 := Lib.hid hk6
          have HOW := Lib.hid hown
          clear hst6 hk6 hown hgrow
          go_wp2_with fail
          go_ret
          have e1 : (zs ++ [z]).length = n + 1 := by rw [List.length_append, HN.out]; rfl
          refine ⟨b5, c5, zs ++ [z], by rw [e1]; rfl, ?_, by omega, HS6.out, HK6.out⟩
          rw [e1, ← zV_append]
          exact HOW.out
      · have hd2 : decide ((m : Int) > 0) = true := by simp; omega
        have hmp : (0 : Int) < (m : Int) := by omega
        clear hm
        go_wp2_with fail
        refine (pickL_any g A len cap m p2 l2 w2 HS2.out HC2.out HLEN.out (by omega)).mono ?_
        rintro e w3 ⟨j, p3, l3, rfl, hj0, hj1, hs3, hc3, hl5, _, hk3⟩
        obtain ⟨j, rfl⟩ : ∃ q : Nat, j = (q : Int) := ⟨j.toNat, by omega⟩
        obtain ⟨y, hy⟩ := at_some (show j < x.ks.length by rw [HM.out]; omega)
        obtain ⟨b', off, F0, q0, F1, q1, rfl, hblt, hbg, e0, e1, e2, e3, e4, hks⟩ := HK.out.kid hy
        replace hblt := Nat.lt_of_lt_of_le hblt hhi
        have HBX3 := Lib.hid (box_keep HBX2.out hk3 (by omega))
        have HRO3 := Lib.hid (own_keep HRO2.out hk3 hgw)
        have HKB3 := Lib.hid (HKB2.out.trans (hk3.mono HKB2.out.size))
        have HS3 := Lib.hid hs3
        have HC3 := Lib.hid hc3
        have hz3 := hk3.size
        have hl30 : 0 ≤ l3 := hs3.2.2.1
        have hg3 : g < w3.heap.size := hs3.lt
        replace e0 := (HKB3.out.cell.1 b' _ hblt (by omega)).trans e0
        replace e1 := (HKB3.out.cell.1 b' _ hblt (by omega)).trans e1
        replace e2 := (HKB3.out.cell.1 b' _ hblt (by omega)).trans e2
        replace e3 := (HKB3.out.cell.1 b' _ hblt (by omega)).trans e3
        replace e4 := (HKB3.out.cell.1 b' _ hblt (by omega)).trans e4
        have HGY := Lib.hid ((gd_ks HG.out).2 y (List.mem_of_getElem? hy))
        have HKY := Lib.hid hks
        have HNW := Lib.hid (World.news_of_block (cs := #[.int .i64 j]) (t := 3) (fr := (0, 0)) (heap_alloc_new w3 _))
        have hro := HRO3.out.alloc (.cells #[.int .i64 j] 3)
        rw [HN.out] at hro
        have HR6 := Lib.hid hro
        have hji : (0 : Int) ≤ (j : Int) := by omega
        have hjm : (j : Int) < (m : Int) := by omega
        clear hk3 hs3 hc3 hro HRO2 HBX2 HKB2 HS2 HC2 hks hy o0 o1 o2 o3 o4 of
        go_wp2_with (at_builtin; refine wpList_append_own _ rfl _ _ 30 rfl w.heap.size 3 i0 (.int .i64 0) 1 8 Tryd.underlying30 hi hz0 hz1 hz2 rfl (by decide) (.slice (some ⟨b, 0, none⟩) n c) n (zV zs) rfl HR6.out ⟨w3.heap.size, 0, none⟩ 1 1 [.int .i64 j] rfl rfl HNW.out (by intro u hu; simp at hu; subst hu; rfl) (by unfold maxLen; omega) (by omega) (by simp; omega) ?_)
        intro v' wq hown hgrow _
        obtain ⟨b5, c5, rfl⟩ : ∃ b5 c5, v' = .slice (some ⟨b5, 0, none⟩) (n + 1) c5 := by
          rcases hown.2 with ⟨_, h0⟩ | ⟨b5, cap, cur, hv, _⟩
          · omega
          · exact ⟨b5, cap, hv⟩
        have hob : b ≠ g ∧ w.heap.size ≤ b := HOB.out
        have hmv : ∀ k, k < w3.heap.size → k ≠ b → wq.heap[k]? = w3.heap[k]? := fun k hk hkb => (hgrow.block k (by simp; omega) (by simp [Value.ownBlock]; omega)).trans (Below.heap_alloc _ _ _ hk)
        have hbne : w.heap.size ≠ b := by
          intro e
          obtain ⟨_, h | ⟨q, cap', cur', hv, _, hh, _⟩⟩ := HR6.out
          · simp at h
          · simp only [Value.slice.injEq, Option.some.injEq, Addr.mk.injEq, and_true] at hv
            rw [← hv.1, ← e, Below.heap_alloc _ _ _ (by omega), HBX3.out] at hh
            injection hh with hh
            injection hh with _ hh _
            exact absurd hh (by decide)
        have hbx6 : wq.heap[w.heap.size]? = some (.cells #[.int .i64 x.tag, .int .i64 x.key, .string x.text, .slice E0 x.ps.length d0, .slice (some ⟨b', off, none⟩) x.ks.length d1] 26 (0, 0)) := (hmv _ (by omega) hbne).trans HBX3.out
        obtain ⟨o0, o1, o2, o3, o4⟩ := five_cells hbx6
        have of := five_frozen hbx6
        rw [HM.out] at o4
        have HB6 := Lib.hid hbx6
        have hsrc6 : Src wq g A len cap p3 l3 := ⟨(hmv g hg3 (by omega)).trans HS3.out.1, HS3.out.2⟩
        have hco6 : Code wq g A len := HC3.out.of_block fun k hk => hmv k (by omega) (by omega)
        have hb6 : Below w.heap.size w3 wq := ((Below.refl w.heap.size w3).alloc (by omega) (.cells #[.int .i64 j] 3)).grown hgrow (by simp; omega) (fun k e => by simp [Value.ownBlock] at e; omega)
        have hk6 : Keep g w.heap.size w wq := HKB3.out.trans (Keep.of_below hb6)
        replace e0 := (hb6.cell (p := ⟨b', _, none⟩) hblt).trans e0
        replace e1 := (hb6.cell (p := ⟨b', _, none⟩) hblt).trans e1
        replace e2 := (hb6.cell (p := ⟨b', _, none⟩) hblt).trans e2
        replace e3 := (hb6.cell (p := ⟨b', _, none⟩) hblt).trans e3
        replace e4 := (hb6.cell (p := ⟨b', _, none⟩) hblt).trans e4
        have HSRC := Lib.hid hsrc6
        have HCO6 := Lib.hid hco6
        have HK6 := Lib.hid hk6
        have HOW := Lib.hid hown
        have hbsz : b5 ≠ w.heap.size := by
          intro e
          subst e
          obtain ⟨_, h | ⟨q, cap', cur', hv, _, hh, _⟩⟩ := hown
          · simp at h
          · simp only [Value.slice.injEq, Option.some.injEq, Addr.mk.injEq, and_true] at hv
            rw [← hv.1, hbx6] at hh
            injection hh with hh
            injection hh with _ hh _
            exact absurd hh (by decide)
        clear hmv hsrc6 hco6 hk6 hb6 hown hgrow hbx6 HR6
        obtain ⟨yt, yk, ys, yp, yq⟩ := y
        dsimp only [Tr.tag, Tr.key, Tr.text, Tr.ps, Tr.ks] at e0 e1 e2 e3 e4
        go_wp2_with fail
        have hb7 := box_put5 (v0 := .int .i64 yt) (v1 := .int .i64 yk) (v2 := .string ys) (v3 := .slice F0 yp.length q0) (v4 := .slice F1 yq.length q1) HB6.out
        have hne : ∀ k, k ≠ w.heap.size → (((((wq.setCell ⟨w.heap.size, 0, none⟩ (.int .i64 yt)).setCell ⟨w.heap.size, 1, none⟩ (.int .i64 yk)).setCell ⟨w.heap.size, 2, none⟩ (.string ys)).setCell ⟨w.heap.size, 3, none⟩ (.slice F0 yp.length q0)).setCell ⟨w.heap.size, 4, none⟩ (.slice F1 yq.length q1)).heap[k]? = wq.heap[k]? := fun k hk => by
          rw [Below.heap_setCell _ _ _ _ hk, Below.heap_setCell _ _ _ _ hk, Below.heap_setCell _ _ _ _ hk, Below.heap_setCell _ _ _ _ hk, Below.heap_setCell _ _ _ _ hk]
        have hsr7 : Src (((((wq.setCell ⟨w.heap.size, 0, none⟩ (.int .i64 yt)).setCell ⟨w.heap.size, 1, none⟩ (.int .i64 yk)).setCell ⟨w.heap.size, 2, none⟩ (.string ys)).setCell ⟨w.heap.size, 3, none⟩ (.slice F0 yp.length q0)).setCell ⟨w.heap.size, 4, none⟩ (.slice F1 yq.length q1)) g A len cap p3 l3 := ⟨(hne g (by omega)).trans HSRC.out.1, HSRC.out.2⟩
        have he1 : (zs ++ [(j : Int)]).length = n + 1 := by rw [List.length_append, HN.out]; rfl
        go_roundw
        case rel =>
          refine ⟨.mk yt yk ys yp yq, F0, F1, q0, q1, b5, c5, zs ++ [(j : Int)], p3, l3, by rw [he1], Lib.hid ?_, HGY, HKY, Lib.hid hb7, Lib.hid hsr7, Lib.hid (HCO6.out.of_block fun k hk => hne k (by omega)), by rw [he1]; push_cast; omega, hl30, Lib.hid ((((((HK6.out.set_ (p := ⟨w.heap.size, 0, none⟩) (.inr (by simp)) _).set_ (p := ⟨w.heap.size, 1, none⟩) (.inr (by simp)) _).set_ (p := ⟨w.heap.size, 2, none⟩) (.inr (by simp)) _).set_ (p := ⟨w.heap.size, 3, none⟩) (.inr (by simp)) _).set_ (p := ⟨w.heap.size, 4, none⟩) (.inr (by simp)) _))⟩
          rw [he1, ← zV_append]
          exact own_move HOW.out (fun q cur hq hh => hne q (by
            intro e
            subst e
            simp only [Value.slice.injEq, Option.some.injEq, Addr.mk.injEq, and_true] at hq
            exact hbsz hq))
        case measure =>
          rw [HME.out, (src_cell hsr7).2.2.1]
          simp [intOf]; omega
end Go.Proofs.YtpkhpaioddommaaDoor

namespace Go.Proofs.YtpkhpaioddommaaDoor
open Go.Joins Go.ChangeShapes Go.WideShapes Go.ChangeAt Go.RowKit Go.Deep
set_option linter.unusedVariables false
set_option linter.unusedSimpArgs false

theorem set5_cell {w : World} {R b q : Nat} {v0 v1 v2 v3 v4 v : Value} (hne : b ≠ R) (h : w.cell? ⟨b, q, none⟩ = some v) : (((((w.setCell ⟨R, 0, none⟩ v0).setCell ⟨R, 1, none⟩ v1).setCell ⟨R, 2, none⟩ v2).setCell ⟨R, 3, none⟩ v3).setCell ⟨R, 4, none⟩ v4).cell? ⟨b, q, none⟩ = some v := by
  have k : ∀ (x : World) (j : Nat) (u : Value), (x.setCell ⟨R, j, none⟩ u).cell? ⟨b, q, none⟩ = x.cell? ⟨b, q, none⟩ := fun x j u => World.cell?_setCell_other _ _ _ _ (by intro e; injection e with e1 e2; omega)
  rw [k, k, k, k, k]
  exact h
def DrawWX (w : World) (e : Ending) (w' : World) : Prop :=
  ∃ (A0 : Option Addr) (c0 : Nat) (A1 : Option Addr) (c1 : Nat) (t : Tr) (b c : Nat) (zs : List Int), e = .returned (.tuple #[.agg #[.int .i64 t.tag, .int .i64 t.key, .string t.text, .slice A0 t.ps.length c0, .slice A1 t.ks.length c1], .slice (some ⟨b, 0, none⟩) zs.length c]) ∧ PrL w' A0 t.ps ∧ TrL w' 0 A1 t.ks ∧ GdT t ∧ IntL w' (some ⟨b, 0, none⟩) zs ∧ zs.length ≤ 5000 ∧ Below w.heap.size w w'
set_option maxHeartbeats 8000000 in
set_option maxRecDepth 100000 in
theorem DrawPartNumber_any (A : Option Addr) (len cap : Nat) (w : World) (hc : Code w w.heap.size A len) (hl : len ≤ maxLen) :
    Calls Tryd.prog 29 #[.slice A len cap] w (DrawWX w) := by
  have hb0 := Below.alloc (Below.refl w.heap.size w) (Nat.le_refl _) (.cells #[.int .i64 0, .int .i64 0, .string ⟨#[]⟩, .slice none 0 0, .slice none 0 0] 26)
  have HB0 := Lib.hid hb0
  have r0 : (w.alloc (.cells #[.int .i64 0, .int .i64 0, .string ⟨#[]⟩, .slice none 0 0, .slice none 0 0] 26)).cell? ⟨w.heap.size, 0, none⟩ = some (.int .i64 0) := by go_simp
  have r1 : (w.alloc (.cells #[.int .i64 0, .int .i64 0, .string ⟨#[]⟩, .slice none 0 0, .slice none 0 0] 26)).cell? ⟨w.heap.size, 1, none⟩ = some (.int .i64 0) := by go_simp
  have r2 : (w.alloc (.cells #[.int .i64 0, .int .i64 0, .string ⟨#[]⟩, .slice none 0 0, .slice none 0 0] 26)).cell? ⟨w.heap.size, 2, none⟩ = some (.string ⟨#[]⟩) := by go_simp
  have r3 : (w.alloc (.cells #[.int .i64 0, .int .i64 0, .string ⟨#[]⟩, .slice none 0 0, .slice none 0 0] 26)).cell? ⟨w.heap.size, 3, none⟩ = some (.slice none 0 0) := by go_simp
  have r4 : (w.alloc (.cells #[.int .i64 0, .int .i64 0, .string ⟨#[]⟩, .slice none 0 0, .slice none 0 0] 26)).cell? ⟨w.heap.size, 4, none⟩ = some (.slice none 0 0) := by go_simp
  have rf : ∀ o, (w.alloc (.cells #[.int .i64 0, .int .i64 0, .string ⟨#[]⟩, .slice none 0 0, .slice none 0 0] 26)).frozen? ⟨w.heap.size, o, none⟩ = false := fun o => by go_simp
  have hz : w.heap.size < (w.alloc (.cells #[.int .i64 0, .int .i64 0, .string ⟨#[]⟩, .slice none 0 0, .slice none 0 0] 26)).heap.size := by simp
  have HC := Lib.hid (Code.next hc hb0)
  obtain ⟨wc, hwc⟩ : ∃ wc, w.alloc (.cells #[.int .i64 0, .int .i64 0, .string ⟨#[]⟩, .slice none 0 0, .slice none 0 0] 26) = wc := ⟨_, rfl⟩
  rw [hwc] at HC HB0 r0 r1 r2 r3 r4 rf hz
  clear hc hb0
  go_enter Tryd.func29, Tryd.ntmps29
  have HS := Lib.hid (St.new (cap := cap) HC.out hl)
  go_wp2_with fail
  refine (newSource_any A len cap wc).mono ?_
  rintro e w1 ⟨rfl, rfl⟩
  have hb1 := Below.alloc (Below.refl wc.heap.size wc) (Nat.le_refl _) (.cells #[.slice A len cap, .int .i64 0, .int .i64 4000] 88)
  have HB1 := Lib.hid hb1
  have hz1 : wc.heap.size < (wc.alloc (.cells #[.slice A len cap, .int .i64 0, .int .i64 4000] 88)).heap.size := by simp
  replace r0 := (hb1.cell (p := ⟨w.heap.size, 0, none⟩) hz).trans r0
  replace r1 := (hb1.cell (p := ⟨w.heap.size, 1, none⟩) hz).trans r1
  replace r2 := (hb1.cell (p := ⟨w.heap.size, 2, none⟩) hz).trans r2
  replace r3 := (hb1.cell (p := ⟨w.heap.size, 3, none⟩) hz).trans r3
  replace r4 := (hb1.cell (p := ⟨w.heap.size, 4, none⟩) hz).trans r4
  replace rf := fun o => (hb1.frozen (p := ⟨w.heap.size, o, none⟩) hz).trans (rf o)
  clear hb1
  obtain ⟨w1, hw1⟩ : ∃ w1, wc.alloc (.cells #[.slice A len cap, .int .i64 0, .int .i64 4000] 88) = w1 := ⟨_, rfl⟩
  rw [hw1] at HS HB1 r0 r1 r2 r3 r4 rf hz1 ⊢
  clear hw1
  go_wp2_with fail
  refine (whole_any wc.heap.size A len cap w1 HS.out).mono ?_
  rintro e w2 ⟨A0, c0, A1, c1, ⟨tag, key, text, ps, ks⟩, rfl, hT, hGd, hs, hk⟩
  simp only [Tr.tag, Tr.key, Tr.text, Tr.ps, Tr.ks] at hT ⊢
  replace r0 := (hk.cell.1 w.heap.size 0 (by first | omega | (simp; done) | (simp; omega)) (by first | omega | (simp; done) | (simp; omega))).trans r0
  replace r1 := (hk.cell.1 w.heap.size 1 (by first | omega | (simp; done) | (simp; omega)) (by first | omega | (simp; done) | (simp; omega))).trans r1
  replace r2 := (hk.cell.1 w.heap.size 2 (by first | omega | (simp; done) | (simp; omega)) (by first | omega | (simp; done) | (simp; omega))).trans r2
  replace r3 := (hk.cell.1 w.heap.size 3 (by first | omega | (simp; done) | (simp; omega)) (by first | omega | (simp; done) | (simp; omega))).trans r3
  replace r4 := (hk.cell.1 w.heap.size 4 (by first | omega | (simp; done) | (simp; omega)) (by first | omega | (simp; done) | (simp; omega))).trans r4
  replace rf := fun o => (hk.cell.2 w.heap.size o (by first | omega | (simp; done) | (simp; omega)) (by first | omega | (simp; done) | (simp; omega))).trans (rf o)
  have HGd := Lib.hid hGd
  have hz2 := hk.size
  have HBa := Lib.hid ((HB0.out.trans (HB1.out.mono (Nat.le_of_lt hz))).trans ((hk.mono (Nat.le_of_lt (Nat.lt_trans hz hz1))).below (Nat.le_of_lt hz)))
  have hgw := hs.lt
  have hb3 := Below.alloc (Below.refl w2.heap.size w2) (Nat.le_refl _) (.cells #[.int .i64 tag, .int .i64 key, .string text, .slice A0 ps.length c0, .slice A1 ks.length c1] 26)
  have hbx : (w2.alloc (.cells #[.int .i64 tag, .int .i64 key, .string text, .slice A0 ps.length c0, .slice A1 ks.length c1] 26)).heap[w2.heap.size]? = some (.cells #[.int .i64 tag, .int .i64 key, .string text, .slice A0 ps.length c0, .slice A1 ks.length c1] 26 (0, 0)) := World.alloc_heap_new w2 _
  obtain ⟨o0, o1, o2, o3, o4⟩ := five_cells hbx
  replace r0 := (hb3.cell (p := ⟨w.heap.size, 0, none⟩) (by show w.heap.size < w2.heap.size; omega)).trans r0
  replace r1 := (hb3.cell (p := ⟨w.heap.size, 1, none⟩) (by show w.heap.size < w2.heap.size; omega)).trans r1
  replace r2 := (hb3.cell (p := ⟨w.heap.size, 2, none⟩) (by show w.heap.size < w2.heap.size; omega)).trans r2
  replace r3 := (hb3.cell (p := ⟨w.heap.size, 3, none⟩) (by show w.heap.size < w2.heap.size; omega)).trans r3
  replace r4 := (hb3.cell (p := ⟨w.heap.size, 4, none⟩) (by show w.heap.size < w2.heap.size; omega)).trans r4
  replace rf := fun o => (hb3.frozen (p := ⟨w.heap.size, o, none⟩) (by show w.heap.size < w2.heap.size; omega)).trans (rf o)
  have HT3 := Lib.hid (TrD.mono (lo := w1.heap.size) (lo' := wc.heap.size + 1) (by omega) (Nat.le_refl _) (TrD.kept (fun b _ h2 => hb3.block b h2) hT))
  have HTT := Lib.hid (TrD.kept (fun b _ h2 => hb3.block b h2) hT)
  have HS3 := Lib.hid (hs.below hb3)
  have HB3 := Lib.hid (HBa.out.trans (hb3.mono (by omega)))
  obtain ⟨w3, hw3⟩ : ∃ w3, w2.alloc (.cells #[.int .i64 tag, .int .i64 key, .string text, .slice A0 ps.length c0, .slice A1 ks.length c1] 26) = w3 := ⟨_, rfl⟩
  have hz3 : w3.heap.size = w2.heap.size + 1 := by rw [← hw3]; simp
  rw [hw3] at o0 o1 o2 o3 o4 r0 r1 r2 r3 r4 rf HT3 HTT HS3 HB3
  have HW3 := Lib.hid hw3
  clear hT hGd hs hk HB0 HB1 HS HC hb3 hbx hw3 HBa
  go_wp2_with fail
  rw [HW3.out]
  refine wp_region_held_drew (S := fun w' => w'.cell? ⟨w2.heap.size, 0, none⟩ = some (.int .i64 tag) ∧ w'.cell? ⟨w2.heap.size, 1, none⟩ = some (.int .i64 key) ∧ w'.cell? ⟨w2.heap.size, 2, none⟩ = some (.string text) ∧ w'.cell? ⟨w2.heap.size, 3, none⟩ = some (.slice A0 ps.length c0) ∧ w'.cell? ⟨w2.heap.size, 4, none⟩ = some (.slice A1 ks.length c1)) (by kernel_rfl) ?_ (fun hHeld => ?_)
  · exact ⟨o0, o1, o2, o3, o4⟩
  refine wpAnyH_take (i := 0) (oi := _) (v := ?_) rfl (by kernel_rfl) (by kernel_rfl) (by kernel_rfl) (fun _ _ _ h => h) (Or.inl ⟨by kernel_rfl, ?_⟩) (by assumption) ?_
  rotate_left
  · (intro w hSw; (try dsimp only at hSw); go_simp)
    try with_reducible rfl
  (try simp only [Act.put, List.getElem_toArray, List.getElem_cons_zero, List.getElem_cons_succ, List.setIfInBounds_toArray, List.set_cons_zero, List.set_cons_succ])
  refine wpAnyH_take (i := 1) (oi := _) (v := ?_) rfl (by kernel_rfl) (by kernel_rfl) (by kernel_rfl) (fun _ _ _ h => h) (Or.inl ⟨by kernel_rfl, ?_⟩) (by assumption) ?_
  rotate_left
  · (intro w hSw; (try dsimp only at hSw); go_simp)
    try with_reducible rfl
  (try simp only [Act.put, List.getElem_toArray, List.getElem_cons_zero, List.getElem_cons_succ, List.setIfInBounds_toArray, List.set_cons_zero, List.set_cons_succ])
  refine wpAnyH_take (i := 2) (oi := _) (v := ?_) rfl (by kernel_rfl) (by kernel_rfl) (by kernel_rfl) (fun _ _ _ h => h) (Or.inl ⟨by kernel_rfl, ?_⟩) (by assumption) ?_
  rotate_left
  · (intro w hSw; (try dsimp only at hSw); go_simp)
    try with_reducible rfl
  (try simp only [Act.put, List.getElem_toArray, List.getElem_cons_zero, List.getElem_cons_succ, List.setIfInBounds_toArray, List.set_cons_zero, List.set_cons_succ])
  refine wpAnyH_ready (rs := [3]) (by kernel_rfl) (by simp) ?_
  refine AllReadyH.cons (o := _) rfl (fun K hK => ?_) AllReadyH.nil
  go_simp
  refine (way_any wc.heap.size A len cap (.mk tag key text ps ks) HGd.out A0 A1 c0 c1 w3.drew HS3.out.drew w2.heap.size (by show w2.heap.size ≤ w3.heap.size; omega) (show TrD w3.drew (wc.heap.size + 1) w2.heap.size [.int .i64 tag, .int .i64 key, .string text, .slice A0 ps.length c0, .slice A1 ks.length c1] (.mk tag key text ps ks) from TrD.kept (w := w3) (w' := w3.drew) (fun b _ _ => rfl) HT3.out)).mono ?_
  rintro e w4 ⟨b, c, zs, rfl, hown, hzl, hst, hk⟩
  have hk' : Keep wc.heap.size w3.heap.size w3 w4 := ⟨hk.os, hk.tape, hk.output, hk.size, hk.block⟩
  have hob : b ≠ wc.heap.size ∧ w3.heap.size ≤ b := own_at hown (show wc.heap.size < w3.heap.size by omega)
  replace o0 := (hk'.cell.1 w2.heap.size 0 (by omega) (by omega)).trans o0
  replace o1 := (hk'.cell.1 w2.heap.size 1 (by omega) (by omega)).trans o1
  replace o2 := (hk'.cell.1 w2.heap.size 2 (by omega) (by omega)).trans o2
  replace o3 := (hk'.cell.1 w2.heap.size 3 (by omega) (by omega)).trans o3
  replace o4 := (hk'.cell.1 w2.heap.size 4 (by omega) (by omega)).trans o4
  replace r0 := (hk'.cell.1 w.heap.size 0 (by omega) (by omega)).trans r0
  replace r1 := (hk'.cell.1 w.heap.size 1 (by omega) (by omega)).trans r1
  replace r2 := (hk'.cell.1 w.heap.size 2 (by omega) (by omega)).trans r2
  replace r3 := (hk'.cell.1 w.heap.size 3 (by omega) (by omega)).trans r3
  replace r4 := (hk'.cell.1 w.heap.size 4 (by omega) (by omega)).trans r4
  replace rf := fun o => (hk'.cell.2 w.heap.size o (by omega) (by omega)).trans (rf o)
  have HTT4 := Lib.hid (TrD.kept (fun b h1 h2 => hk'.block b (by omega) (by omega)) HTT.out)
  have HB4 := Lib.hid (HB3.out.trans ((hk'.mono (show w.heap.size ≤ w3.heap.size by omega)).below (by omega)))
  have HOW := Lib.hid (show w4.ownsRow w3.heap.size 3 1 (.slice (some ⟨b, 0, none⟩) zs.length c) zs.length (zV zs) from hown)
  have hz4 := hk'.size
  refine hK.out _ _ ⟨o0, o1, o2, o3, o4⟩ (fun hHeld2 => ?_)
  clear hK K hown hst hk hk' hHeld HT3 HTT HS3 HB3 HW3
  (try simp only [Act.put, List.getElem_toArray, List.getElem_cons_zero, List.getElem_cons_succ, List.setIfInBounds_toArray, List.set_cons_zero, List.set_cons_succ])
  have hSS : ∀ v0 v1 v2 v3 v4, (fun w' : World => w'.cell? ⟨w2.heap.size, 0, none⟩ = some (.int .i64 tag) ∧ w'.cell? ⟨w2.heap.size, 1, none⟩ = some (.int .i64 key) ∧ w'.cell? ⟨w2.heap.size, 2, none⟩ = some (.string text) ∧ w'.cell? ⟨w2.heap.size, 3, none⟩ = some (.slice A0 ps.length c0) ∧ w'.cell? ⟨w2.heap.size, 4, none⟩ = some (.slice A1 ks.length c1)) (((((w4.setCell ⟨w.heap.size, 0, none⟩ v0).setCell ⟨w.heap.size, 1, none⟩ v1).setCell ⟨w.heap.size, 2, none⟩ v2).setCell ⟨w.heap.size, 3, none⟩ v3).setCell ⟨w.heap.size, 4, none⟩ v4) := fun v0 v1 v2 v3 v4 => ⟨set5_cell (by omega) o0, set5_cell (by omega) o1, set5_cell (by omega) o2, set5_cell (by omega) o3, set5_cell (by omega) o4⟩
  refine wpAnyH_ready (rs := [4]) (by kernel_rfl) (by simp) ?_
  refine AllReadyH.cons (o := _) rfl (fun K hK => ?_) AllReadyH.nil
  go_simp
  refine hK.out _ _ (hSS _ _ _ _ _) (fun hHeld3 => ?_)
  clear hK K hHeld2 hSS
  (try simp only [Act.put, List.getElem_toArray, List.getElem_cons_zero, List.getElem_cons_succ, List.setIfInBounds_toArray, List.set_cons_zero, List.set_cons_succ])
  refine wpAnyH_take (i := 5) (oi := _) (v := ?_) rfl (by kernel_rfl) (by kernel_rfl) (by kernel_rfl) (fun _ _ _ h => h) (Or.inl ⟨by kernel_rfl, ?_⟩) (by assumption) ?_
  rotate_left
  · (intro w hSw; (try dsimp only at hSw); go_simp)
    try with_reducible rfl
  (try simp only [Act.put, List.getElem_toArray, List.getElem_cons_zero, List.getElem_cons_succ, List.setIfInBounds_toArray, List.set_cons_zero, List.set_cons_succ])
  refine wpAnyH_done (by kernel_rfl) ?_ _
  have hb7 : ∀ k, k ≠ w.heap.size → (((((w4.setCell ⟨w.heap.size, 0, none⟩ (.int .i64 tag)).setCell ⟨w.heap.size, 1, none⟩ (.int .i64 key)).setCell ⟨w.heap.size, 2, none⟩ (.string text)).setCell ⟨w.heap.size, 3, none⟩ (.slice A0 ps.length c0)).setCell ⟨w.heap.size, 4, none⟩ (.slice A1 ks.length c1)).heap[k]? = w4.heap[k]? := fun k hk => by
    rw [Below.heap_setCell _ _ _ _ hk, Below.heap_setCell _ _ _ _ hk, Below.heap_setCell _ _ _ _ hk, Below.heap_setCell _ _ _ _ hk, Below.heap_setCell _ _ _ _ hk]
  have hT7 := TrD.kept (fun k h1 h2 => hb7 k (by omega)) HTT4.out
  obtain ⟨F0, f0, F1, f1, hfe, hp7, hk7, _⟩ := hT7.lies (by simp [World.setCell]; omega)
  simp only [Tr.tag, Tr.key, Tr.text, Tr.ps, Tr.ks, List.cons.injEq, Value.slice.injEq, true_and, and_true] at hfe hp7 hk7
  obtain ⟨⟨rfl, rfl⟩, rfl, rfl⟩ := hfe
  have hi7 := IntL.of_own (own_move HOW.out (fun q cur hq hh => hb7 q (by
    intro e
    subst e
    simp only [Value.slice.injEq, Option.some.injEq, Addr.mk.injEq, and_true] at hq
    omega)))
  have HP7 := Lib.hid hp7
  have HK7 := Lib.hid hk7
  have HI7 := Lib.hid hi7
  clear hHeld3 hp7 hk7 hi7 hT7 hb7
  go_wp2_with fail
  refine bodyPost_ret (v := .tuple #[.agg #[.int .i64 tag, .int .i64 key, .string text, .slice A0 ps.length c0, .slice A1 ks.length c1], .slice (some ⟨b, 0, none⟩) zs.length c]) (by simp [results, Tryd.results29, go_sem, *]) rfl ⟨A0, c0, A1, c1, .mk tag key text ps ks, b, c, zs, rfl, HP7.out, HK7.out, HGd.out, HI7.out, hzl, ?_⟩
  exact (((((HB4.out.setCell (p := ⟨w.heap.size, 0, none⟩) (by simp) _).setCell (p := ⟨w.heap.size, 1, none⟩) (by simp) _).setCell (p := ⟨w.heap.size, 2, none⟩) (by simp) _).setCell (p := ⟨w.heap.size, 3, none⟩) (by simp) _).setCell (p := ⟨w.heap.size, 4, none⟩) (by simp) _)
set_option maxHeartbeats 8000000 in
set_option maxRecDepth 100000 in
theorem DrawTreeAt_any (A : Option Addr) (len cap : Nat) (w : World) (hc : Code w w.heap.size A len) (hl : len ≤ maxLen) :
    Calls Tryd.prog 18 #[.slice A len cap] w (DrawWX w) := by
  have hb0 := Below.alloc (Below.refl w.heap.size w) (Nat.le_refl _) (.cells #[.int .i64 0, .int .i64 0, .string ⟨#[]⟩, .slice none 0 0, .slice none 0 0] 26)
  have HB0 := Lib.hid hb0
  have r0 : (w.alloc (.cells #[.int .i64 0, .int .i64 0, .string ⟨#[]⟩, .slice none 0 0, .slice none 0 0] 26)).cell? ⟨w.heap.size, 0, none⟩ = some (.int .i64 0) := by go_simp
  have r1 : (w.alloc (.cells #[.int .i64 0, .int .i64 0, .string ⟨#[]⟩, .slice none 0 0, .slice none 0 0] 26)).cell? ⟨w.heap.size, 1, none⟩ = some (.int .i64 0) := by go_simp
  have r2 : (w.alloc (.cells #[.int .i64 0, .int .i64 0, .string ⟨#[]⟩, .slice none 0 0, .slice none 0 0] 26)).cell? ⟨w.heap.size, 2, none⟩ = some (.string ⟨#[]⟩) := by go_simp
  have r3 : (w.alloc (.cells #[.int .i64 0, .int .i64 0, .string ⟨#[]⟩, .slice none 0 0, .slice none 0 0] 26)).cell? ⟨w.heap.size, 3, none⟩ = some (.slice none 0 0) := by go_simp
  have r4 : (w.alloc (.cells #[.int .i64 0, .int .i64 0, .string ⟨#[]⟩, .slice none 0 0, .slice none 0 0] 26)).cell? ⟨w.heap.size, 4, none⟩ = some (.slice none 0 0) := by go_simp
  have rf : ∀ o, (w.alloc (.cells #[.int .i64 0, .int .i64 0, .string ⟨#[]⟩, .slice none 0 0, .slice none 0 0] 26)).frozen? ⟨w.heap.size, o, none⟩ = false := fun o => by go_simp
  have hz : w.heap.size < (w.alloc (.cells #[.int .i64 0, .int .i64 0, .string ⟨#[]⟩, .slice none 0 0, .slice none 0 0] 26)).heap.size := by simp
  have HC := Lib.hid (Code.next hc hb0)
  obtain ⟨wc, hwc⟩ : ∃ wc, w.alloc (.cells #[.int .i64 0, .int .i64 0, .string ⟨#[]⟩, .slice none 0 0, .slice none 0 0] 26) = wc := ⟨_, rfl⟩
  rw [hwc] at HC HB0 r0 r1 r2 r3 r4 rf hz
  clear hc hb0
  go_enter Tryd.func18, Tryd.ntmps18
  have HS := Lib.hid (St.new (cap := cap) HC.out hl)
  go_wp2_with fail
  refine (newSource_any A len cap wc).mono ?_
  rintro e w1 ⟨rfl, rfl⟩
  have hb1 := Below.alloc (Below.refl wc.heap.size wc) (Nat.le_refl _) (.cells #[.slice A len cap, .int .i64 0, .int .i64 4000] 88)
  have HB1 := Lib.hid hb1
  have hz1 : wc.heap.size < (wc.alloc (.cells #[.slice A len cap, .int .i64 0, .int .i64 4000] 88)).heap.size := by simp
  replace r0 := (hb1.cell (p := ⟨w.heap.size, 0, none⟩) hz).trans r0
  replace r1 := (hb1.cell (p := ⟨w.heap.size, 1, none⟩) hz).trans r1
  replace r2 := (hb1.cell (p := ⟨w.heap.size, 2, none⟩) hz).trans r2
  replace r3 := (hb1.cell (p := ⟨w.heap.size, 3, none⟩) hz).trans r3
  replace r4 := (hb1.cell (p := ⟨w.heap.size, 4, none⟩) hz).trans r4
  replace rf := fun o => (hb1.frozen (p := ⟨w.heap.size, o, none⟩) hz).trans (rf o)
  clear hb1
  obtain ⟨w1, hw1⟩ : ∃ w1, wc.alloc (.cells #[.slice A len cap, .int .i64 0, .int .i64 4000] 88) = w1 := ⟨_, rfl⟩
  rw [hw1] at HS HB1 r0 r1 r2 r3 r4 rf hz1 ⊢
  clear hw1
  go_wp2_with fail
  refine (whole_any wc.heap.size A len cap w1 HS.out).mono ?_
  rintro e w2 ⟨A0, c0, A1, c1, ⟨tag, key, text, ps, ks⟩, rfl, hT, hGd, hs, hk⟩
  simp only [Tr.tag, Tr.key, Tr.text, Tr.ps, Tr.ks] at hT ⊢
  replace r0 := (hk.cell.1 w.heap.size 0 (by first | omega | (simp; done) | (simp; omega)) (by first | omega | (simp; done) | (simp; omega))).trans r0
  replace r1 := (hk.cell.1 w.heap.size 1 (by first | omega | (simp; done) | (simp; omega)) (by first | omega | (simp; done) | (simp; omega))).trans r1
  replace r2 := (hk.cell.1 w.heap.size 2 (by first | omega | (simp; done) | (simp; omega)) (by first | omega | (simp; done) | (simp; omega))).trans r2
  replace r3 := (hk.cell.1 w.heap.size 3 (by first | omega | (simp; done) | (simp; omega)) (by first | omega | (simp; done) | (simp; omega))).trans r3
  replace r4 := (hk.cell.1 w.heap.size 4 (by first | omega | (simp; done) | (simp; omega)) (by first | omega | (simp; done) | (simp; omega))).trans r4
  replace rf := fun o => (hk.cell.2 w.heap.size o (by first | omega | (simp; done) | (simp; omega)) (by first | omega | (simp; done) | (simp; omega))).trans (rf o)
  have HGd := Lib.hid hGd
  have hz2 := hk.size
  have HBa := Lib.hid ((HB0.out.trans (HB1.out.mono (Nat.le_of_lt hz))).trans ((hk.mono (Nat.le_of_lt (Nat.lt_trans hz hz1))).below (Nat.le_of_lt hz)))
  have hgw := hs.lt
  have hb3 := Below.alloc (Below.refl w2.heap.size w2) (Nat.le_refl _) (.cells #[.int .i64 tag, .int .i64 key, .string text, .slice A0 ps.length c0, .slice A1 ks.length c1] 26)
  have hbx : (w2.alloc (.cells #[.int .i64 tag, .int .i64 key, .string text, .slice A0 ps.length c0, .slice A1 ks.length c1] 26)).heap[w2.heap.size]? = some (.cells #[.int .i64 tag, .int .i64 key, .string text, .slice A0 ps.length c0, .slice A1 ks.length c1] 26 (0, 0)) := World.alloc_heap_new w2 _
  obtain ⟨o0, o1, o2, o3, o4⟩ := five_cells hbx
  replace r0 := (hb3.cell (p := ⟨w.heap.size, 0, none⟩) (by show w.heap.size < w2.heap.size; omega)).trans r0
  replace r1 := (hb3.cell (p := ⟨w.heap.size, 1, none⟩) (by show w.heap.size < w2.heap.size; omega)).trans r1
  replace r2 := (hb3.cell (p := ⟨w.heap.size, 2, none⟩) (by show w.heap.size < w2.heap.size; omega)).trans r2
  replace r3 := (hb3.cell (p := ⟨w.heap.size, 3, none⟩) (by show w.heap.size < w2.heap.size; omega)).trans r3
  replace r4 := (hb3.cell (p := ⟨w.heap.size, 4, none⟩) (by show w.heap.size < w2.heap.size; omega)).trans r4
  replace rf := fun o => (hb3.frozen (p := ⟨w.heap.size, o, none⟩) (by show w.heap.size < w2.heap.size; omega)).trans (rf o)
  have HT3 := Lib.hid (TrD.mono (lo := w1.heap.size) (lo' := wc.heap.size + 1) (by omega) (Nat.le_refl _) (TrD.kept (fun b _ h2 => hb3.block b h2) hT))
  have HTT := Lib.hid (TrD.kept (fun b _ h2 => hb3.block b h2) hT)
  have HS3 := Lib.hid (hs.below hb3)
  have HB3 := Lib.hid (HBa.out.trans (hb3.mono (by omega)))
  obtain ⟨w3, hw3⟩ : ∃ w3, w2.alloc (.cells #[.int .i64 tag, .int .i64 key, .string text, .slice A0 ps.length c0, .slice A1 ks.length c1] 26) = w3 := ⟨_, rfl⟩
  have hz3 : w3.heap.size = w2.heap.size + 1 := by rw [← hw3]; simp
  rw [hw3] at o0 o1 o2 o3 o4 r0 r1 r2 r3 r4 rf HT3 HTT HS3 HB3
  have HW3 := Lib.hid hw3
  clear hT hGd hs hk HB0 HB1 HS HC hb3 hbx hw3 HBa
  go_wp2_with fail
  rw [HW3.out]
  refine wp_region_held_drew (S := fun w' => w'.cell? ⟨w2.heap.size, 0, none⟩ = some (.int .i64 tag) ∧ w'.cell? ⟨w2.heap.size, 1, none⟩ = some (.int .i64 key) ∧ w'.cell? ⟨w2.heap.size, 2, none⟩ = some (.string text) ∧ w'.cell? ⟨w2.heap.size, 3, none⟩ = some (.slice A0 ps.length c0) ∧ w'.cell? ⟨w2.heap.size, 4, none⟩ = some (.slice A1 ks.length c1)) (by kernel_rfl) ?_ (fun hHeld => ?_)
  · exact ⟨o0, o1, o2, o3, o4⟩
  refine wpAnyH_take (i := 0) (oi := _) (v := ?_) rfl (by kernel_rfl) (by kernel_rfl) (by kernel_rfl) (fun _ _ _ h => h) (Or.inl ⟨by kernel_rfl, ?_⟩) (by assumption) ?_
  rotate_left
  · (intro w hSw; (try dsimp only at hSw); go_simp)
    try with_reducible rfl
  (try simp only [Act.put, List.getElem_toArray, List.getElem_cons_zero, List.getElem_cons_succ, List.setIfInBounds_toArray, List.set_cons_zero, List.set_cons_succ])
  refine wpAnyH_take (i := 1) (oi := _) (v := ?_) rfl (by kernel_rfl) (by kernel_rfl) (by kernel_rfl) (fun _ _ _ h => h) (Or.inl ⟨by kernel_rfl, ?_⟩) (by assumption) ?_
  rotate_left
  · (intro w hSw; (try dsimp only at hSw); go_simp)
    try with_reducible rfl
  (try simp only [Act.put, List.getElem_toArray, List.getElem_cons_zero, List.getElem_cons_succ, List.setIfInBounds_toArray, List.set_cons_zero, List.set_cons_succ])
  refine wpAnyH_take (i := 2) (oi := _) (v := ?_) rfl (by kernel_rfl) (by kernel_rfl) (by kernel_rfl) (fun _ _ _ h => h) (Or.inl ⟨by kernel_rfl, ?_⟩) (by assumption) ?_
  rotate_left
  · (intro w hSw; (try dsimp only at hSw); go_simp)
    try with_reducible rfl
  (try simp only [Act.put, List.getElem_toArray, List.getElem_cons_zero, List.getElem_cons_succ, List.setIfInBounds_toArray, List.set_cons_zero, List.set_cons_succ])
  refine wpAnyH_ready (rs := [3]) (by kernel_rfl) (by simp) ?_
  refine AllReadyH.cons (o := _) rfl (fun K hK => ?_) AllReadyH.nil
  go_simp
  refine (way_any wc.heap.size A len cap (.mk tag key text ps ks) HGd.out A0 A1 c0 c1 w3.drew HS3.out.drew w2.heap.size (by show w2.heap.size ≤ w3.heap.size; omega) (show TrD w3.drew (wc.heap.size + 1) w2.heap.size [.int .i64 tag, .int .i64 key, .string text, .slice A0 ps.length c0, .slice A1 ks.length c1] (.mk tag key text ps ks) from TrD.kept (w := w3) (w' := w3.drew) (fun b _ _ => rfl) HT3.out)).mono ?_
  rintro e w4 ⟨b, c, zs, rfl, hown, hzl, hst, hk⟩
  have hk' : Keep wc.heap.size w3.heap.size w3 w4 := ⟨hk.os, hk.tape, hk.output, hk.size, hk.block⟩
  have hob : b ≠ wc.heap.size ∧ w3.heap.size ≤ b := own_at hown (show wc.heap.size < w3.heap.size by omega)
  replace o0 := (hk'.cell.1 w2.heap.size 0 (by omega) (by omega)).trans o0
  replace o1 := (hk'.cell.1 w2.heap.size 1 (by omega) (by omega)).trans o1
  replace o2 := (hk'.cell.1 w2.heap.size 2 (by omega) (by omega)).trans o2
  replace o3 := (hk'.cell.1 w2.heap.size 3 (by omega) (by omega)).trans o3
  replace o4 := (hk'.cell.1 w2.heap.size 4 (by omega) (by omega)).trans o4
  replace r0 := (hk'.cell.1 w.heap.size 0 (by omega) (by omega)).trans r0
  replace r1 := (hk'.cell.1 w.heap.size 1 (by omega) (by omega)).trans r1
  replace r2 := (hk'.cell.1 w.heap.size 2 (by omega) (by omega)).trans r2
  replace r3 := (hk'.cell.1 w.heap.size 3 (by omega) (by omega)).trans r3
  replace r4 := (hk'.cell.1 w.heap.size 4 (by omega) (by omega)).trans r4
  replace rf := fun o => (hk'.cell.2 w.heap.size o (by omega) (by omega)).trans (rf o)
  have HTT4 := Lib.hid (TrD.kept (fun b h1 h2 => hk'.block b (by omega) (by omega)) HTT.out)
  have HB4 := Lib.hid (HB3.out.trans ((hk'.mono (show w.heap.size ≤ w3.heap.size by omega)).below (by omega)))
  have HOW := Lib.hid (show w4.ownsRow w3.heap.size 3 1 (.slice (some ⟨b, 0, none⟩) zs.length c) zs.length (zV zs) from hown)
  have hz4 := hk'.size
  refine hK.out _ _ ⟨o0, o1, o2, o3, o4⟩ (fun hHeld2 => ?_)
  clear hK K hown hst hk hk' hHeld HT3 HTT HS3 HB3 HW3
  (try simp only [Act.put, List.getElem_toArray, List.getElem_cons_zero, List.getElem_cons_succ, List.setIfInBounds_toArray, List.set_cons_zero, List.set_cons_succ])
  have hSS : ∀ v0 v1 v2 v3 v4, (fun w' : World => w'.cell? ⟨w2.heap.size, 0, none⟩ = some (.int .i64 tag) ∧ w'.cell? ⟨w2.heap.size, 1, none⟩ = some (.int .i64 key) ∧ w'.cell? ⟨w2.heap.size, 2, none⟩ = some (.string text) ∧ w'.cell? ⟨w2.heap.size, 3, none⟩ = some (.slice A0 ps.length c0) ∧ w'.cell? ⟨w2.heap.size, 4, none⟩ = some (.slice A1 ks.length c1)) (((((w4.setCell ⟨w.heap.size, 0, none⟩ v0).setCell ⟨w.heap.size, 1, none⟩ v1).setCell ⟨w.heap.size, 2, none⟩ v2).setCell ⟨w.heap.size, 3, none⟩ v3).setCell ⟨w.heap.size, 4, none⟩ v4) := fun v0 v1 v2 v3 v4 => ⟨set5_cell (by omega) o0, set5_cell (by omega) o1, set5_cell (by omega) o2, set5_cell (by omega) o3, set5_cell (by omega) o4⟩
  refine wpAnyH_ready (rs := [4]) (by kernel_rfl) (by simp) ?_
  refine AllReadyH.cons (o := _) rfl (fun K hK => ?_) AllReadyH.nil
  go_simp
  refine hK.out _ _ (hSS _ _ _ _ _) (fun hHeld3 => ?_)
  clear hK K hHeld2 hSS
  (try simp only [Act.put, List.getElem_toArray, List.getElem_cons_zero, List.getElem_cons_succ, List.setIfInBounds_toArray, List.set_cons_zero, List.set_cons_succ])
  refine wpAnyH_take (i := 5) (oi := _) (v := ?_) rfl (by kernel_rfl) (by kernel_rfl) (by kernel_rfl) (fun _ _ _ h => h) (Or.inl ⟨by kernel_rfl, ?_⟩) (by assumption) ?_
  rotate_left
  · (intro w hSw; (try dsimp only at hSw); go_simp)
    try with_reducible rfl
  (try simp only [Act.put, List.getElem_toArray, List.getElem_cons_zero, List.getElem_cons_succ, List.setIfInBounds_toArray, List.set_cons_zero, List.set_cons_succ])
  refine wpAnyH_done (by kernel_rfl) ?_ _
  have hb7 : ∀ k, k ≠ w.heap.size → (((((w4.setCell ⟨w.heap.size, 0, none⟩ (.int .i64 tag)).setCell ⟨w.heap.size, 1, none⟩ (.int .i64 key)).setCell ⟨w.heap.size, 2, none⟩ (.string text)).setCell ⟨w.heap.size, 3, none⟩ (.slice A0 ps.length c0)).setCell ⟨w.heap.size, 4, none⟩ (.slice A1 ks.length c1)).heap[k]? = w4.heap[k]? := fun k hk => by
    rw [Below.heap_setCell _ _ _ _ hk, Below.heap_setCell _ _ _ _ hk, Below.heap_setCell _ _ _ _ hk, Below.heap_setCell _ _ _ _ hk, Below.heap_setCell _ _ _ _ hk]
  have hT7 := TrD.kept (fun k h1 h2 => hb7 k (by omega)) HTT4.out
  obtain ⟨F0, f0, F1, f1, hfe, hp7, hk7, _⟩ := hT7.lies (by simp [World.setCell]; omega)
  simp only [Tr.tag, Tr.key, Tr.text, Tr.ps, Tr.ks, List.cons.injEq, Value.slice.injEq, true_and, and_true] at hfe hp7 hk7
  obtain ⟨⟨rfl, rfl⟩, rfl, rfl⟩ := hfe
  have hi7 := IntL.of_own (own_move HOW.out (fun q cur hq hh => hb7 q (by
    intro e
    subst e
    simp only [Value.slice.injEq, Option.some.injEq, Addr.mk.injEq, and_true] at hq
    omega)))
  have HP7 := Lib.hid hp7
  have HK7 := Lib.hid hk7
  have HI7 := Lib.hid hi7
  clear hHeld3 hp7 hk7 hi7 hT7 hb7
  go_wp2_with fail
  refine bodyPost_ret (v := .tuple #[.agg #[.int .i64 tag, .int .i64 key, .string text, .slice A0 ps.length c0, .slice A1 ks.length c1], .slice (some ⟨b, 0, none⟩) zs.length c]) (by simp [results, Tryd.results18, go_sem, *]) rfl ⟨A0, c0, A1, c1, .mk tag key text ps ks, b, c, zs, rfl, HP7.out, HK7.out, HGd.out, HI7.out, hzl, ?_⟩
  exact (((((HB4.out.setCell (p := ⟨w.heap.size, 0, none⟩) (by simp) _).setCell (p := ⟨w.heap.size, 1, none⟩) (by simp) _).setCell (p := ⟨w.heap.size, 2, none⟩) (by simp) _).setCell (p := ⟨w.heap.size, 3, none⟩) (by simp) _).setCell (p := ⟨w.heap.size, 4, none⟩) (by simp) _)
end Go.Proofs.YtpkhpaioddommaaDoor
