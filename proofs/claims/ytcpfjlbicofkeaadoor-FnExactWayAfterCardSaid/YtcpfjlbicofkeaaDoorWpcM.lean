/- Wpc0, Wpc1, Wpc2 in one text. -/
import Derived.Test.YtcpfjlbicofkeaaDoorWpb5
import Derived.Test.YtcpfjlbicofkeaaDoorWpb2
import Derived.Deep.RegionHeld3
import Derived.StillTailTactics
namespace Go.Proofs.YtcpfjlbicofkeaaDoor
open Go.Maps
open Go.Joins Go.ChangeShapes Go.WideShapes Go.ChangeAt Go.RowKit Go.Deep
set_option linter.unusedVariables false
set_option linter.unusedSimpArgs false

theorem IntL.of_any {w : World} {base c : Nat} {R : Option Addr} {zs : List Int} (h : w.ownsRow base 3 1 (.slice R zs.length c) zs.length (zV zs)) : IntL w R zs := by
  rcases h.2 with ⟨e, hn⟩ | ⟨g, cap, cur, e, _⟩
  · exact fun h0 => by omega
  · injection e with e1 e2 e3
    subst e1 e3
    exact IntL.of_own h
theorem row_less {w : World} {base base' m n : Nat} {e : TypeId} {v : Value} {xs : List Value} (h : w.ownsRow base e m v n xs) (hb : base' ≤ base) : w.ownsRow base' e m v n xs := by
  refine ⟨h.1, ?_⟩
  rcases h.2 with hn | ⟨g, cap, cur, e1, hbg, rest⟩
  · exact .inl hn
  · exact .inr ⟨g, cap, cur, e1, Nat.le_trans hb hbg, rest⟩
/-- A way's numbers, or none. -/
def WaX (r : Option (List Int)) (w : World) (e : Ending) (w' : World) : Prop := ∃ (A : Option Addr) (c : Nat), e = .returned (.tuple #[.slice A (r.getD []).length c, .bool r.isSome]) ∧ w'.ownsRow w.heap.size 3 1 (.slice A (r.getD []).length c) (r.getD []).length (zV (r.getD [])) ∧ Below w.heap.size w w'
theorem wax_none {w w' : World} (hb : Below w.heap.size w w') : WaX none w (.returned (.tuple #[.slice none 0 0, .bool false])) w' := ⟨none, 0, rfl, World.ownsRow_nil _ _ _ _, hb⟩
inductive KdT : Tr → Prop
  | mk {t : Tr} (h0 : t.ks.length ≤ 1000) (h1 : ∀ x ∈ t.ks, kW (kin x)) (h2 : ∀ x ∈ t.ks, KdT x) : KdT t
theorem KdT.open_ {t : Tr} (h : KdT t) : t.ks.length ≤ 1000 ∧ (∀ x ∈ t.ks, kW (kin x)) ∧ ∀ x ∈ t.ks, KdT x := by cases h with | mk h0 h1 h2 => exact ⟨h0, h1, h2⟩
theorem drop_consI {zs : List Int} {k : Nat} {z : Int} (h : zs[k]? = some z) : zs.drop k = z :: zs.drop (k + 1) := by
  obtain ⟨hk, e⟩ := List.getElem?_eq_some_iff.1 h
  rw [List.drop_eq_getElem_cons hk, e]
theorem put5 {w w0 : World} {B lo : Nat} {u0 u1 u2 u3 u4 : Value} (h0 : w.cell? ⟨B, 0, none⟩ = some u0) (h1 : w.cell? ⟨B, 1, none⟩ = some u1) (h2 : w.cell? ⟨B, 2, none⟩ = some u2) (h3 : w.cell? ⟨B, 3, none⟩ = some u3) (h4 : w.cell? ⟨B, 4, none⟩ = some u4) (hf : ∀ o, w.frozen? ⟨B, o, none⟩ = false) (v0 v1 v2 v3 v4 : Value) (hb : Below lo w0 w) (hlo : lo ≤ B) :
    ∃ w', (((((w.setCell ⟨B, 0, none⟩ v0).setCell ⟨B, 1, none⟩ v1).setCell ⟨B, 2, none⟩ v2).setCell ⟨B, 3, none⟩ v3).setCell ⟨B, 4, none⟩ v4) = w' ∧ (∀ k, k ≠ B → w'.heap[k]? = w.heap[k]?) ∧ (∀ b o, b ≠ B → w'.frozen? ⟨b, o, none⟩ = w.frozen? ⟨b, o, none⟩) ∧ w'.heap.size = w.heap.size ∧ w'.cell? ⟨B, 0, none⟩ = some v0 ∧ w'.cell? ⟨B, 1, none⟩ = some v1 ∧ w'.cell? ⟨B, 2, none⟩ = some v2 ∧ w'.cell? ⟨B, 3, none⟩ = some v3 ∧ w'.cell? ⟨B, 4, none⟩ = some v4 ∧ (∀ o, w'.frozen? ⟨B, o, none⟩ = false) ∧ Below lo w0 w' := by
  have hh : ∀ k, k ≠ B → ((((((w.setCell ⟨B, 0, none⟩ v0).setCell ⟨B, 1, none⟩ v1).setCell ⟨B, 2, none⟩ v2).setCell ⟨B, 3, none⟩ v3).setCell ⟨B, 4, none⟩ v4)).heap[k]? = w.heap[k]? := fun k hk => by rw [Below.heap_setCell _ _ _ _ hk, Below.heap_setCell _ _ _ _ hk, Below.heap_setCell _ _ _ _ hk, Below.heap_setCell _ _ _ _ hk, Below.heap_setCell _ _ _ _ hk]
  exact ⟨_, rfl, hh, fun b o hk => by simp only [World.frozen?, hh b hk], by simp [World.setCell], (by go_simp), (by go_simp), (by go_simp), (by go_simp), (by go_simp), fun o => by go_simp, (((((hb.setCell (p := ⟨B, 0, none⟩) hlo v0).setCell (p := ⟨B, 1, none⟩) hlo v1).setCell (p := ⟨B, 2, none⟩) hlo v2).setCell (p := ⟨B, 3, none⟩) hlo v3).setCell (p := ⟨B, 4, none⟩) hlo v4)⟩
end Go.Proofs.YtcpfjlbicofkeaaDoor

namespace Go.Proofs.YtcpfjlbicofkeaaDoor
open Go.Maps
open Go.Joins Go.ChangeShapes Go.WideShapes Go.ChangeAt Go.RowKit Go.Deep
set_option linter.unusedVariables false
set_option linter.unusedSimpArgs false

set_option maxRecDepth 100000 in
set_option maxHeartbeats 8000000 in
theorem iway_any (a b : Tr) (zs : List Int) (n : Nat) (hn : zs.length = n) (hl : n ≤ 1048576) (hka : KdT a) (hkb : KdT b) (A A0 A1 B0 B1 : Option Addr) (c c0 c1 e0 e1 : Nat) (w : World) (hzs : IntL w A zs) (ha : TrL w 0 A1 a.ks) (hb : TrL w 0 B1 b.ks) :
    Calls Tryd.prog 27 #[.agg #[.int .i64 a.tag, .int .i64 a.key, .string a.text, .slice A0 a.ps.length c0, .slice A1 a.ks.length c1], .agg #[.int .i64 b.tag, .int .i64 b.key, .string b.text, .slice B0 b.ps.length e0, .slice B1 b.ks.length e1], .slice A n c] w (WaX (waV a b zs) w) := by
  have HN := Lib.hid hn
  have HZ := Lib.hid hzs
  have HA := Lib.hid ha
  have HB' := Lib.hid hb
  have HKA := Lib.hid hka
  have HKB := Lib.hid hkb
  obtain ⟨W, hW⟩ : ∃ q, waV a b zs = q := ⟨_, rfl⟩
  rw [hW]
  have HW := Lib.hid (show (waV a b (zs.drop 0)).map (([] : List Int) ++ ·) = W from by rw [List.drop_zero, hW]; cases W <;> rfl)
  obtain ⟨X, hX⟩ : ∃ X, WaX W w = X := ⟨_, rfl⟩
  have HX := Lib.hid hX
  rw [hX]
  clear hn hzs ha hb hka hkb hW hX
  go_enter Tryd.func27, Tryd.ntmps27
  go_wp2_with fail
  go_loopw [8, 14] (fun o i wr => ∃ (k : Nat) (x y : Tr) (X0 X1 Y0 Y1 : Option Addr) (p0 p1 q0 q1 : Nat) (out : List Int) (R : Option Addr) (r : Nat), k ≤ n ∧ i = .int .i64 k ∧ o = .slice R out.length r ∧ Hid ((waV x y (zs.drop k)).map (out ++ ·) = W) ∧ Hid (out.length = k) ∧ Hid (wr.ownsRow (w.heap.size + 2) 3 1 (.slice R out.length r) out.length (zV out)) ∧ Hid (KdT x) ∧ Hid (KdT y) ∧ Hid (TrL w 0 X1 x.ks) ∧ Hid (TrL w 0 Y1 y.ks) ∧ wr.cell? ⟨w.heap.size, 0, none⟩ = some (.int .i64 x.tag) ∧ wr.cell? ⟨w.heap.size, 1, none⟩ = some (.int .i64 x.key) ∧ wr.cell? ⟨w.heap.size, 2, none⟩ = some (.string x.text) ∧ wr.cell? ⟨w.heap.size, 3, none⟩ = some (.slice X0 x.ps.length p0) ∧ wr.cell? ⟨w.heap.size, 4, none⟩ = some (.slice X1 x.ks.length p1) ∧ wr.cell? ⟨w.heap.size + 1, 0, none⟩ = some (.int .i64 y.tag) ∧ wr.cell? ⟨w.heap.size + 1, 1, none⟩ = some (.int .i64 y.key) ∧ wr.cell? ⟨w.heap.size + 1, 2, none⟩ = some (.string y.text) ∧ wr.cell? ⟨w.heap.size + 1, 3, none⟩ = some (.slice Y0 y.ps.length q0) ∧ wr.cell? ⟨w.heap.size + 1, 4, none⟩ = some (.slice Y1 y.ks.length q1) ∧ (∀ o, wr.frozen? ⟨w.heap.size, o, none⟩ = false) ∧ (∀ o, wr.frozen? ⟨w.heap.size + 1, o, none⟩ = false) ∧ w.heap.size + 1 < wr.heap.size ∧ Hid (Below w.heap.size w wr)) (fun _ i _ => n - (intOf i).toNat)
  case atStart =>
    refine ⟨0, a, b, A0, A1, B0, B1, c0, c1, e0, e1, [], none, 0, by omega, rfl, rfl, HW, Lib.hid rfl, Lib.hid (World.ownsRow_nil _ _ _ _), HKA, HKB, HA, HB', ?_, ?_, ?_, ?_, ?_, ?_, ?_, ?_, ?_, ?_, fun o => ?_, fun o => ?_, by simp, Lib.hid (by go_grown)⟩
    all_goals go_simp
  case round =>
    obtain ⟨k, x, y, X0, X1, Y0, Y1, p0, p1, q0, q1, out, R, r, hk, rfl, rfl, HE, HOL, HO, HKX, HKY, HTX, HTY, d0, d1, d2, d3, d4, z0, z1, z2, z3, z4, df, zf, hsz, HB⟩ := hrel
    by_cases hlt : k < n
    · skip
      obtain ⟨z, hz⟩ := at_some (show k < zs.length by rw [HN.out]; exact hlt)
      obtain ⟨bz, oz, rfl, hbz, ez⟩ := HZ.out.at_ hz
      replace ez := (HB.out.cell (p := ⟨bz, _, none⟩) hbz).trans ez
      have hE := HE.out
      rw [drop_consI hz] at hE
      obtain ⟨hx0, hx1, hx2⟩ := HKX.out.open_
      obtain ⟨hy0, hy1, hy2⟩ := HKY.out.open_
      have hi1 : (0 : Int) ≤ (k : Int) := by omega
      have hi2 : (k : Int) < (n : Int) := by omega
      have KP := Lib.hid (ipartners_any x.ks y.ks x.ks.length y.ks.length rfl rfl hx0 hy0 hx1 hy1 X1 Y1 p1 q1 wr (HTX.out.below HB.out) (HTY.out.below HB.out))
      have HX2 := Lib.hid hx2
      have HY2 := Lib.hid hy2
      have HE2 := Lib.hid hE
      obtain ⟨lx, hlx⟩ : ∃ q, x.ks.length = q := ⟨_, rfl⟩
      obtain ⟨ly, hly⟩ : ∃ q, y.ks.length = q := ⟨_, rfl⟩
      rw [hlx] at d4 hx0 KP
      rw [hly] at z4 hy0 KP
      have HLX := Lib.hid hlx
      have HLY := Lib.hid hly
      clear hz hE hx1 hx2 hy1 hy2 hlx hly HE HKX HKY
      go_wp2_with fail
      refine KP.out.mono ?_
      rintro e w2 ⟨P, pc, rfl, hrow, hb2⟩
      rw [prtT_len, HLY.out] at hrow ⊢
      replace d0 := (hb2.cell (p := ⟨w.heap.size, 0, none⟩) (by show w.heap.size < wr.heap.size; omega)).trans d0
      replace d1 := (hb2.cell (p := ⟨w.heap.size, 1, none⟩) (by show w.heap.size < wr.heap.size; omega)).trans d1
      replace d2 := (hb2.cell (p := ⟨w.heap.size, 2, none⟩) (by show w.heap.size < wr.heap.size; omega)).trans d2
      replace d3 := (hb2.cell (p := ⟨w.heap.size, 3, none⟩) (by show w.heap.size < wr.heap.size; omega)).trans d3
      replace d4 := (hb2.cell (p := ⟨w.heap.size, 4, none⟩) (by show w.heap.size < wr.heap.size; omega)).trans d4
      replace df := fun o => (hb2.frozen (p := ⟨w.heap.size, o, none⟩) (by show w.heap.size < wr.heap.size; omega)).trans (df o)
      replace z0 := (hb2.cell (p := ⟨w.heap.size + 1, 0, none⟩) (by show w.heap.size + 1 < wr.heap.size; omega)).trans z0
      replace z1 := (hb2.cell (p := ⟨w.heap.size + 1, 1, none⟩) (by show w.heap.size + 1 < wr.heap.size; omega)).trans z1
      replace z2 := (hb2.cell (p := ⟨w.heap.size + 1, 2, none⟩) (by show w.heap.size + 1 < wr.heap.size; omega)).trans z2
      replace z3 := (hb2.cell (p := ⟨w.heap.size + 1, 3, none⟩) (by show w.heap.size + 1 < wr.heap.size; omega)).trans z3
      replace z4 := (hb2.cell (p := ⟨w.heap.size + 1, 4, none⟩) (by show w.heap.size + 1 < wr.heap.size; omega)).trans z4
      replace zf := fun o => (hb2.frozen (p := ⟨w.heap.size + 1, o, none⟩) (by show w.heap.size + 1 < wr.heap.size; omega)).trans (zf o)
      replace ez := (hb2.cell (p := ⟨bz, _, none⟩) (by have := HB.out.size; show bz < wr.heap.size; omega)).trans ez
      replace HO := Lib.hid (ownsRow_below HO.out hb2)
      replace HB := Lib.hid (more HB.out (Nat.le_refl _) hb2)
      replace hsz := Nat.lt_of_lt_of_le hsz hb2.size
      obtain ⟨I, hI⟩ : ∃ q, idx (prtT x.ks y.ks) z = q := ⟨_, rfl⟩
      have HI := Lib.hid hI
      have KI := Lib.hid (iindex_any P pc ly (prtT x.ks y.ks) z w2 (IntL.of_any (by rw [prtT_len, HLY.out]; exact hrow)) (by rw [prtT_len, HLY.out]) (by unfold maxLen; omega))
      rw [hI] at KI
      clear hrow hb2 KP hI
      go_wp2_with fail
      refine KI.out.mono ?_
      rintro e w3 ⟨rfl, rfl⟩
      clear KI
      by_cases h0 : z < 0
      · have HNO := Lib.hid (show W = none from by have h := HE2.out; rw [waV_no (.inl h0)] at h; exact h.symm)
        have hd0 : decide (z < 0) = true := by simpa using h0
        go_wp2_with fail
        rw [← HX.out, HNO.out]
        exact wax_none HB.out
      have hd0 : decide (z < 0) = false := by simpa using h0
      by_cases h1 : I < 0
      · have HNO := Lib.hid (show W = none from by have h := HE2.out; rw [waV_no (.inr (by rw [HI.out]; exact h1))] at h; exact h.symm)
        have hd1 : decide (I < 0) = true := by simpa using h1
        go_wp2_with fail
        rw [← HX.out, HNO.out]
        exact wax_none HB.out
      have hd1 : decide (I < 0) = false := by simpa using h1
      obtain ⟨j, t, x', y', rfl, hIt, hx', hy', hgo⟩ := waV_go (way := zs.drop (k + 1)) h0 (by rw [HI.out]; exact h1)
      rw [HI.out] at hIt
      subst hIt
      have HE3 := Lib.hid (show (waV x' y' (zs.drop (k + 1))).map ((out ++ [(t : Int)]) ++ ·) = W from by
        have h := HE2.out
        rw [hgo, Option.map_map] at h
        rw [← h]
        congr 1
        funext l
        simp)
      have HKX3 := Lib.hid (HX2.out x' (List.mem_of_getElem? hx'))
      have HKY3 := Lib.hid (HY2.out y' (List.mem_of_getElem? hy'))
      obtain ⟨ba, offa, gX, gp, gY, gq, rfl, glt, _, g0, g1, g2, g3, g4, gps, _, gks⟩ := HTX.out.at_ hx'
      replace g0 := (HB.out.cell (p := ⟨ba, _, none⟩) glt).trans g0
      replace g1 := (HB.out.cell (p := ⟨ba, _, none⟩) glt).trans g1
      replace g2 := (HB.out.cell (p := ⟨ba, _, none⟩) glt).trans g2
      replace g3 := (HB.out.cell (p := ⟨ba, _, none⟩) glt).trans g3
      replace g4 := (HB.out.cell (p := ⟨ba, _, none⟩) glt).trans g4
      obtain ⟨bb, offb, fX, fp, fY, fq, rfl, flt, _, f0, f1, f2, f3, f4, fps, _, fks⟩ := HTY.out.at_ hy'
      replace f0 := (HB.out.cell (p := ⟨bb, _, none⟩) flt).trans f0
      replace f1 := (HB.out.cell (p := ⟨bb, _, none⟩) flt).trans f1
      replace f2 := (HB.out.cell (p := ⟨bb, _, none⟩) flt).trans f2
      replace f3 := (HB.out.cell (p := ⟨bb, _, none⟩) flt).trans f3
      replace f4 := (HB.out.cell (p := ⟨bb, _, none⟩) flt).trans f4
      have HTX3 := Lib.hid gks
      have HTY3 := Lib.hid fks
      have hj1 : (0 : Int) ≤ (j : Int) := by omega
      have hj2 : (j : Int) < (lx : Int) := by have := (List.getElem?_eq_some_iff.1 hx').1; have := HLX.out; omega
      have ht1 : (0 : Int) ≤ (t : Int) := by omega
      have ht2 : (t : Int) < (ly : Int) := by have := (List.getElem?_eq_some_iff.1 hy').1; have := HLY.out; omega
      have hwz := HB.out.size
      clear hgo hx' hy' gps gks fps fks HE2 HX2 HY2 HTX HTY HI h0 h1 HLX HLY
      obtain ⟨xt, xk, xs', xp, xq⟩ := x'
      obtain ⟨yt, yk, ys', yp, yq⟩ := y'
      dsimp only [Tr.tag, Tr.key, Tr.text, Tr.ps, Tr.ks] at g0 g1 g2 g3 g4 f0 f1 f2 f3 f4 HTX3 HTY3
      go_wp2_with fail
      have hbd : Below w3.heap.size w3 w3.drew := Below.drew (Below.refl _ _)
      replace d0 := (hbd.cell (p := ⟨w.heap.size, 0, none⟩) (by show w.heap.size < w3.heap.size; omega)).trans d0
      replace d1 := (hbd.cell (p := ⟨w.heap.size, 1, none⟩) (by show w.heap.size < w3.heap.size; omega)).trans d1
      replace d2 := (hbd.cell (p := ⟨w.heap.size, 2, none⟩) (by show w.heap.size < w3.heap.size; omega)).trans d2
      replace d3 := (hbd.cell (p := ⟨w.heap.size, 3, none⟩) (by show w.heap.size < w3.heap.size; omega)).trans d3
      replace d4 := (hbd.cell (p := ⟨w.heap.size, 4, none⟩) (by show w.heap.size < w3.heap.size; omega)).trans d4
      replace df := fun o => (hbd.frozen (p := ⟨w.heap.size, o, none⟩) (by show w.heap.size < w3.heap.size; omega)).trans (df o)
      replace z0 := (hbd.cell (p := ⟨w.heap.size + 1, 0, none⟩) (by show w.heap.size + 1 < w3.heap.size; omega)).trans z0
      replace z1 := (hbd.cell (p := ⟨w.heap.size + 1, 1, none⟩) (by show w.heap.size + 1 < w3.heap.size; omega)).trans z1
      replace z2 := (hbd.cell (p := ⟨w.heap.size + 1, 2, none⟩) (by show w.heap.size + 1 < w3.heap.size; omega)).trans z2
      replace z3 := (hbd.cell (p := ⟨w.heap.size + 1, 3, none⟩) (by show w.heap.size + 1 < w3.heap.size; omega)).trans z3
      replace z4 := (hbd.cell (p := ⟨w.heap.size + 1, 4, none⟩) (by show w.heap.size + 1 < w3.heap.size; omega)).trans z4
      replace zf := fun o => (hbd.frozen (p := ⟨w.heap.size + 1, o, none⟩) (by show w.heap.size + 1 < w3.heap.size; omega)).trans (zf o)
      replace HO := Lib.hid (ownsRow_below HO.out hbd)
      replace HB := Lib.hid (more HB.out (Nat.le_refl _) hbd)
      replace hsz := Nat.lt_of_lt_of_le hsz hbd.size
      have hHeld0 : (fun w' : World => w'.cell? ⟨ba, offa + j * 5, none⟩ = some (.int .i64 xt) ∧ w'.cell? ⟨ba, offa + j * 5 + 1, none⟩ = some (.int .i64 xk) ∧ w'.cell? ⟨ba, offa + j * 5 + 2, none⟩ = some (.string xs') ∧ w'.cell? ⟨ba, offa + j * 5 + 3, none⟩ = some (.slice gX xp.length gp) ∧ w'.cell? ⟨ba, offa + j * 5 + 4, none⟩ = some (.slice gY xq.length gq) ∧ w'.cell? ⟨bb, offb + t * 5, none⟩ = some (.int .i64 yt) ∧ w'.cell? ⟨bb, offb + t * 5 + 1, none⟩ = some (.int .i64 yk) ∧ w'.cell? ⟨bb, offb + t * 5 + 2, none⟩ = some (.string ys') ∧ w'.cell? ⟨bb, offb + t * 5 + 3, none⟩ = some (.slice fX yp.length fp) ∧ w'.cell? ⟨bb, offb + t * 5 + 4, none⟩ = some (.slice fY yq.length fq)) w3.drew := ⟨g0, g1, g2, g3, g4, f0, f1, f2, f3, f4⟩
      refine wp_region_held_drew (S := (fun w' : World => w'.cell? ⟨ba, offa + j * 5, none⟩ = some (.int .i64 xt) ∧ w'.cell? ⟨ba, offa + j * 5 + 1, none⟩ = some (.int .i64 xk) ∧ w'.cell? ⟨ba, offa + j * 5 + 2, none⟩ = some (.string xs') ∧ w'.cell? ⟨ba, offa + j * 5 + 3, none⟩ = some (.slice gX xp.length gp) ∧ w'.cell? ⟨ba, offa + j * 5 + 4, none⟩ = some (.slice gY xq.length gq) ∧ w'.cell? ⟨bb, offb + t * 5, none⟩ = some (.int .i64 yt) ∧ w'.cell? ⟨bb, offb + t * 5 + 1, none⟩ = some (.int .i64 yk) ∧ w'.cell? ⟨bb, offb + t * 5 + 2, none⟩ = some (.string ys') ∧ w'.cell? ⟨bb, offb + t * 5 + 3, none⟩ = some (.slice fX yp.length fp) ∧ w'.cell? ⟨bb, offb + t * 5 + 4, none⟩ = some (.slice fY yq.length fq))) (by kernel_rfl) hHeld0 (fun hHeld => ?_)
      clear hHeld0 hbd ez g0 g1 g2 g3 g4 f0 f1 f2 f3 f4
      obtain ⟨wd, hwd⟩ : ∃ v, w3.drew = v := ⟨_, rfl⟩
      rw [hwd] at d0 d1 d2 d3 d4 df z0 z1 z2 z3 z4 zf HO HB hsz hHeld ⊢
      clear hwd
      refine wpAnyH_take (i := 0) (oi := _) (v := ?_) rfl (by kernel_rfl) (by kernel_rfl) (by kernel_rfl) (fun _ _ _ h => h) (Or.inl ⟨by kernel_rfl, ?_⟩) (by assumption) ?_
      rotate_left
      · (intro w hSw; (try dsimp only at hSw); go_simp)
        try with_reducible rfl
      (try simp only [Act.put, List.getElem_toArray, List.getElem_cons_zero, List.getElem_cons_succ, List.setIfInBounds_toArray, List.set_cons_zero, List.set_cons_succ])
      refine wpAnyH_take (i := 2) (oi := _) (v := ?_) rfl (by kernel_rfl) (by kernel_rfl) (by kernel_rfl) (fun _ _ _ h => h) (Or.inl ⟨by kernel_rfl, ?_⟩) (by assumption) ?_
      rotate_left
      · (intro w hSw; (try dsimp only at hSw); go_simp)
        try with_reducible rfl
      (try simp only [Act.put, List.getElem_toArray, List.getElem_cons_zero, List.getElem_cons_succ, List.setIfInBounds_toArray, List.set_cons_zero, List.set_cons_succ])
      refine wpAnyH_take (i := 5) (oi := _) (v := ?_) rfl (by kernel_rfl) (by kernel_rfl) (by kernel_rfl) (fun _ _ _ h => h) (Or.inl ⟨by kernel_rfl, ?_⟩) (by assumption) ?_
      rotate_left
      · (intro w hSw; (try dsimp only at hSw); go_simp)
        try with_reducible rfl
      (try simp only [Act.put, List.getElem_toArray, List.getElem_cons_zero, List.getElem_cons_succ, List.setIfInBounds_toArray, List.set_cons_zero, List.set_cons_succ])
      refine wpAnyH_take (i := 7) (oi := _) (v := ?_) rfl (by kernel_rfl) (by kernel_rfl) (by kernel_rfl) (fun _ _ _ h => h) (Or.inl ⟨by kernel_rfl, ?_⟩) (by assumption) ?_
      rotate_left
      · (intro w hSw; (try dsimp only at hSw); go_simp)
        try with_reducible rfl
      (try simp only [Act.put, List.getElem_toArray, List.getElem_cons_zero, List.getElem_cons_succ, List.setIfInBounds_toArray, List.set_cons_zero, List.set_cons_succ])
      refine wpAnyH_ready (rs := [1, 6]) (by kernel_rfl) (by simp) ?_
      refine AllReadyH.cons (o := _) rfl (fun K hK => ?_) ?_
      · skip
        go_simp
        refine hK.out _ _ hHeld (fun hHeld2 => ?_)
        clear hK K hHeld2
        (try simp only [Act.put, List.getElem_toArray, List.getElem_cons_zero, List.getElem_cons_succ, List.setIfInBounds_toArray, List.set_cons_zero, List.set_cons_succ])
        refine wpAnyH_take (i := 3) (oi := _) (v := ?_) rfl (by kernel_rfl) (by kernel_rfl) (by kernel_rfl) (fun _ _ _ h => h) (Or.inl ⟨by kernel_rfl, ?_⟩) (by assumption) ?_
        rotate_left
        · (intro w hSw; (try dsimp only at hSw); go_simp)
          try with_reducible rfl
        (try simp only [Act.put, List.getElem_toArray, List.getElem_cons_zero, List.getElem_cons_succ, List.setIfInBounds_toArray, List.set_cons_zero, List.set_cons_succ])
        refine wpAnyH_take (i := 4) (oi := _) (v := ?_) rfl (by kernel_rfl) (by kernel_rfl) (by kernel_rfl) (fun _ _ _ h => h) (Or.inl ⟨by kernel_rfl, ?_⟩) (by assumption) ?_
        rotate_left
        · (intro w hSw; (try dsimp only at hSw); go_simp)
          try with_reducible rfl
        (try simp only [Act.put, List.getElem_toArray, List.getElem_cons_zero, List.getElem_cons_succ, List.setIfInBounds_toArray, List.set_cons_zero, List.set_cons_succ])
        refine wpAnyH_ready (rs := [6, 10]) (by kernel_rfl) (by simp) ?_
        refine AllReadyH.cons (o := _) rfl (fun K hK => ?_) ?_
        · skip
          go_simp
          refine hK.out _ _ hHeld (fun hHeld2 => ?_)
          clear hK K hHeld2
          (try simp only [Act.put, List.getElem_toArray, List.getElem_cons_zero, List.getElem_cons_succ, List.setIfInBounds_toArray, List.set_cons_zero, List.set_cons_succ])
          refine wpAnyH_take (i := 8) (oi := _) (v := ?_) rfl (by kernel_rfl) (by kernel_rfl) (by kernel_rfl) (fun _ _ _ h => h) (Or.inl ⟨by kernel_rfl, ?_⟩) (by assumption) ?_
          rotate_left
          · (intro w hSw; (try dsimp only at hSw); go_simp)
            try with_reducible rfl
          (try simp only [Act.put, List.getElem_toArray, List.getElem_cons_zero, List.getElem_cons_succ, List.setIfInBounds_toArray, List.set_cons_zero, List.set_cons_succ])
          refine wpAnyH_take (i := 9) (oi := _) (v := ?_) rfl (by kernel_rfl) (by kernel_rfl) (by kernel_rfl) (fun _ _ _ h => h) (Or.inl ⟨by kernel_rfl, ?_⟩) (by assumption) ?_
          rotate_left
          · (intro w hSw; (try dsimp only at hSw); go_simp)
            try with_reducible rfl
          (try simp only [Act.put, List.getElem_toArray, List.getElem_cons_zero, List.getElem_cons_succ, List.setIfInBounds_toArray, List.set_cons_zero, List.set_cons_succ])
          refine wpAnyH_ready (rs := [10]) (by kernel_rfl) (by simp) ?_
          refine AllReadyH.cons (o := _) rfl (fun K hK => ?_) AllReadyH.nil
          obtain ⟨v1, hn1, hb7, hf7, hs7, s0, s1, s2, s3, s4, sf, hbs⟩ := put5 (w := wd) (B := w.heap.size) d0 d1 d2 d3 d4 df (.int .i64 xt) (.int .i64 xk) (.string xs') (.slice gX xp.length gp) (.slice gY xq.length gq) HB.out (Nat.le_refl _)
          replace hs7 : v1.heap.size = wd.heap.size := hs7
          replace hb7 : ∀ k, k ≠ w.heap.size → v1.heap[k]? = wd.heap[k]? := hb7
          replace hf7 : ∀ b o, b ≠ w.heap.size → v1.frozen? ⟨b, o, none⟩ = wd.frozen? ⟨b, o, none⟩ := hf7
          replace z0 := (World.cell?_of_block (a := ⟨w.heap.size + 1, 0, none⟩) (hb7 (w.heap.size + 1) (by omega))).trans z0
          replace z1 := (World.cell?_of_block (a := ⟨w.heap.size + 1, 1, none⟩) (hb7 (w.heap.size + 1) (by omega))).trans z1
          replace z2 := (World.cell?_of_block (a := ⟨w.heap.size + 1, 2, none⟩) (hb7 (w.heap.size + 1) (by omega))).trans z2
          replace z3 := (World.cell?_of_block (a := ⟨w.heap.size + 1, 3, none⟩) (hb7 (w.heap.size + 1) (by omega))).trans z3
          replace z4 := (World.cell?_of_block (a := ⟨w.heap.size + 1, 4, none⟩) (hb7 (w.heap.size + 1) (by omega))).trans z4
          replace zf := fun o => (hf7 (w.heap.size + 1) o (by omega)).trans (zf o)
          replace HO := Lib.hid (own_at HO.out (fun g cur e hg => hb7 g (by have := (HO.out.lt g e).1; omega)))
          have hHeld3 : (fun w' : World => w'.cell? ⟨ba, offa + j * 5, none⟩ = some (.int .i64 xt) ∧ w'.cell? ⟨ba, offa + j * 5 + 1, none⟩ = some (.int .i64 xk) ∧ w'.cell? ⟨ba, offa + j * 5 + 2, none⟩ = some (.string xs') ∧ w'.cell? ⟨ba, offa + j * 5 + 3, none⟩ = some (.slice gX xp.length gp) ∧ w'.cell? ⟨ba, offa + j * 5 + 4, none⟩ = some (.slice gY xq.length gq) ∧ w'.cell? ⟨bb, offb + t * 5, none⟩ = some (.int .i64 yt) ∧ w'.cell? ⟨bb, offb + t * 5 + 1, none⟩ = some (.int .i64 yk) ∧ w'.cell? ⟨bb, offb + t * 5 + 2, none⟩ = some (.string ys') ∧ w'.cell? ⟨bb, offb + t * 5 + 3, none⟩ = some (.slice fX yp.length fp) ∧ w'.cell? ⟨bb, offb + t * 5 + 4, none⟩ = some (.slice fY yq.length fq)) v1 := ⟨(World.cell?_of_block (a := ⟨ba, _, none⟩) (hb7 ba (by omega))).trans hHeld.1, (World.cell?_of_block (a := ⟨ba, _, none⟩) (hb7 ba (by omega))).trans hHeld.2.1, (World.cell?_of_block (a := ⟨ba, _, none⟩) (hb7 ba (by omega))).trans hHeld.2.2.1, (World.cell?_of_block (a := ⟨ba, _, none⟩) (hb7 ba (by omega))).trans hHeld.2.2.2.1, (World.cell?_of_block (a := ⟨ba, _, none⟩) (hb7 ba (by omega))).trans hHeld.2.2.2.2.1, (World.cell?_of_block (a := ⟨bb, _, none⟩) (hb7 bb (by omega))).trans hHeld.2.2.2.2.2.1, (World.cell?_of_block (a := ⟨bb, _, none⟩) (hb7 bb (by omega))).trans hHeld.2.2.2.2.2.2.1, (World.cell?_of_block (a := ⟨bb, _, none⟩) (hb7 bb (by omega))).trans hHeld.2.2.2.2.2.2.2.1, (World.cell?_of_block (a := ⟨bb, _, none⟩) (hb7 bb (by omega))).trans hHeld.2.2.2.2.2.2.2.2.1, (World.cell?_of_block (a := ⟨bb, _, none⟩) (hb7 bb (by omega))).trans hHeld.2.2.2.2.2.2.2.2.2⟩
          go_simp
          try rw [hn1]
          refine hK.out _ _ hHeld3 (fun hHeld2 => ?_)
          clear hHeld2 hHeld
          have hHeld := hHeld3
          clear hHeld3 hK K hn1 hb7 hf7 d0 d1 d2 d3 d4 df
          (try simp only [Act.put, List.getElem_toArray, List.getElem_cons_zero, List.getElem_cons_succ, List.setIfInBounds_toArray, List.set_cons_zero, List.set_cons_succ])
          refine wpAnyH_ready (rs := [11]) (by kernel_rfl) (by simp) ?_
          refine AllReadyH.cons (o := _) rfl (fun K hK => ?_) AllReadyH.nil
          obtain ⟨v2, hn2, hb8, hf8, hs8, t0, t1, t2, t3, t4, tf, hbt⟩ := put5 (w := v1) (B := w.heap.size + 1) z0 z1 z2 z3 z4 zf (.int .i64 yt) (.int .i64 yk) (.string ys') (.slice fX yp.length fp) (.slice fY yq.length fq) hbs (by omega)
          replace HO := Lib.hid (own_at HO.out (fun g cur e hg => hb8 g (by have := (HO.out.lt g e).1; omega)))
          replace s0 := (World.cell?_of_block (a := ⟨w.heap.size, 0, none⟩) (hb8 w.heap.size (by omega))).trans s0
          replace s1 := (World.cell?_of_block (a := ⟨w.heap.size, 1, none⟩) (hb8 w.heap.size (by omega))).trans s1
          replace s2 := (World.cell?_of_block (a := ⟨w.heap.size, 2, none⟩) (hb8 w.heap.size (by omega))).trans s2
          replace s3 := (World.cell?_of_block (a := ⟨w.heap.size, 3, none⟩) (hb8 w.heap.size (by omega))).trans s3
          replace s4 := (World.cell?_of_block (a := ⟨w.heap.size, 4, none⟩) (hb8 w.heap.size (by omega))).trans s4
          replace sf := fun o => (hf8 w.heap.size o (by omega)).trans (sf o)
          have hHeld3 : (fun w' : World => w'.cell? ⟨ba, offa + j * 5, none⟩ = some (.int .i64 xt) ∧ w'.cell? ⟨ba, offa + j * 5 + 1, none⟩ = some (.int .i64 xk) ∧ w'.cell? ⟨ba, offa + j * 5 + 2, none⟩ = some (.string xs') ∧ w'.cell? ⟨ba, offa + j * 5 + 3, none⟩ = some (.slice gX xp.length gp) ∧ w'.cell? ⟨ba, offa + j * 5 + 4, none⟩ = some (.slice gY xq.length gq) ∧ w'.cell? ⟨bb, offb + t * 5, none⟩ = some (.int .i64 yt) ∧ w'.cell? ⟨bb, offb + t * 5 + 1, none⟩ = some (.int .i64 yk) ∧ w'.cell? ⟨bb, offb + t * 5 + 2, none⟩ = some (.string ys') ∧ w'.cell? ⟨bb, offb + t * 5 + 3, none⟩ = some (.slice fX yp.length fp) ∧ w'.cell? ⟨bb, offb + t * 5 + 4, none⟩ = some (.slice fY yq.length fq)) v2 := ⟨(World.cell?_of_block (a := ⟨ba, _, none⟩) (hb8 ba (by omega))).trans hHeld.1, (World.cell?_of_block (a := ⟨ba, _, none⟩) (hb8 ba (by omega))).trans hHeld.2.1, (World.cell?_of_block (a := ⟨ba, _, none⟩) (hb8 ba (by omega))).trans hHeld.2.2.1, (World.cell?_of_block (a := ⟨ba, _, none⟩) (hb8 ba (by omega))).trans hHeld.2.2.2.1, (World.cell?_of_block (a := ⟨ba, _, none⟩) (hb8 ba (by omega))).trans hHeld.2.2.2.2.1, (World.cell?_of_block (a := ⟨bb, _, none⟩) (hb8 bb (by omega))).trans hHeld.2.2.2.2.2.1, (World.cell?_of_block (a := ⟨bb, _, none⟩) (hb8 bb (by omega))).trans hHeld.2.2.2.2.2.2.1, (World.cell?_of_block (a := ⟨bb, _, none⟩) (hb8 bb (by omega))).trans hHeld.2.2.2.2.2.2.2.1, (World.cell?_of_block (a := ⟨bb, _, none⟩) (hb8 bb (by omega))).trans hHeld.2.2.2.2.2.2.2.2.1, (World.cell?_of_block (a := ⟨bb, _, none⟩) (hb8 bb (by omega))).trans hHeld.2.2.2.2.2.2.2.2.2⟩
          go_simp
          try rw [hn2]
          refine hK.out _ _ hHeld3 (fun hHeld2 => ?_)
          clear hHeld2 hHeld
          have hHeld := hHeld3
          clear hHeld3 hK K hn2 hb8 hf8 z0 z1 z2 z3 z4 zf
          (try simp only [Act.put, List.getElem_toArray, List.getElem_cons_zero, List.getElem_cons_succ, List.setIfInBounds_toArray, List.set_cons_zero, List.set_cons_succ])
          refine wpAnyH_done (by kernel_rfl) ?_ _
          clear hHeld
          have hsz2 : w.heap.size + 1 < v2.heap.size := by omega
          have hba := Below.alloc (Below.refl v2.heap.size v2) (Nat.le_refl _) (.cells #[.int .i64 (t : Int)] 3)
          have hc4 : (v2.alloc (.cells #[.int .i64 (t : Int)] 3)).cell? ⟨v2.heap.size, 0, none⟩ = some (.int .i64 (t : Int)) := by rw [World.cell?_alloc_new]; rfl
          have HO4 := Lib.hid (ownsRow_below HO.out hba)
          have HB4 := Lib.hid (hbt.trans (hba.mono hbt.size))
          clear hs7 hs8 hbs hbt hba HO HB
          go_wp2_with (at_builtin; refine wp_add_num rfl (.tmp 41) (.tmp 43) rfl (w.heap.size + 2) out.length R r out rfl rfl HO4.out ⟨v2.heap.size, 0, none⟩ 1 (t : Int) rfl hc4 (by have := HOL.out; omega) (by simp only [World.size_alloc]; omega) ?_)
          intro g2 c2 w5 ho5 hg5 hat5
          have hne5 : ∀ b, b < w.heap.size + 2 → some b ≠ (Value.slice R out.length r).ownBlock := fun b hb e => by
            have := (HO4.out.lt b e.symm).1
            omega
          have hba := Below.alloc (Below.refl v2.heap.size v2) (Nat.le_refl _) (.cells #[.int .i64 (t : Int)] 3)
          have hsa : v2.heap.size < (v2.alloc (.cells #[.int .i64 (t : Int)] 3)).heap.size := by simp
          have d0' := ((World.cell?_of_block (a := ⟨w.heap.size, 0, none⟩) (hg5.block (w.heap.size) (by omega) (hne5 _ (by omega)))).trans (hba.cell (p := ⟨w.heap.size, 0, none⟩) (by show w.heap.size < v2.heap.size; omega))).trans s0
          have d1' := ((World.cell?_of_block (a := ⟨w.heap.size, 1, none⟩) (hg5.block (w.heap.size) (by omega) (hne5 _ (by omega)))).trans (hba.cell (p := ⟨w.heap.size, 1, none⟩) (by show w.heap.size < v2.heap.size; omega))).trans s1
          have d2' := ((World.cell?_of_block (a := ⟨w.heap.size, 2, none⟩) (hg5.block (w.heap.size) (by omega) (hne5 _ (by omega)))).trans (hba.cell (p := ⟨w.heap.size, 2, none⟩) (by show w.heap.size < v2.heap.size; omega))).trans s2
          have d3' := ((World.cell?_of_block (a := ⟨w.heap.size, 3, none⟩) (hg5.block (w.heap.size) (by omega) (hne5 _ (by omega)))).trans (hba.cell (p := ⟨w.heap.size, 3, none⟩) (by show w.heap.size < v2.heap.size; omega))).trans s3
          have d4' := ((World.cell?_of_block (a := ⟨w.heap.size, 4, none⟩) (hg5.block (w.heap.size) (by omega) (hne5 _ (by omega)))).trans (hba.cell (p := ⟨w.heap.size, 4, none⟩) (by show w.heap.size < v2.heap.size; omega))).trans s4
          have z0' := ((World.cell?_of_block (a := ⟨w.heap.size + 1, 0, none⟩) (hg5.block (w.heap.size + 1) (by omega) (hne5 _ (by omega)))).trans (hba.cell (p := ⟨w.heap.size + 1, 0, none⟩) (by show w.heap.size + 1 < v2.heap.size; omega))).trans t0
          have z1' := ((World.cell?_of_block (a := ⟨w.heap.size + 1, 1, none⟩) (hg5.block (w.heap.size + 1) (by omega) (hne5 _ (by omega)))).trans (hba.cell (p := ⟨w.heap.size + 1, 1, none⟩) (by show w.heap.size + 1 < v2.heap.size; omega))).trans t1
          have z2' := ((World.cell?_of_block (a := ⟨w.heap.size + 1, 2, none⟩) (hg5.block (w.heap.size + 1) (by omega) (hne5 _ (by omega)))).trans (hba.cell (p := ⟨w.heap.size + 1, 2, none⟩) (by show w.heap.size + 1 < v2.heap.size; omega))).trans t2
          have z3' := ((World.cell?_of_block (a := ⟨w.heap.size + 1, 3, none⟩) (hg5.block (w.heap.size + 1) (by omega) (hne5 _ (by omega)))).trans (hba.cell (p := ⟨w.heap.size + 1, 3, none⟩) (by show w.heap.size + 1 < v2.heap.size; omega))).trans t3
          have z4' := ((World.cell?_of_block (a := ⟨w.heap.size + 1, 4, none⟩) (hg5.block (w.heap.size + 1) (by omega) (hne5 _ (by omega)))).trans (hba.cell (p := ⟨w.heap.size + 1, 4, none⟩) (by show w.heap.size + 1 < v2.heap.size; omega))).trans t4
          have df' := fun o => ((World.frozen?_of_block (a := ⟨w.heap.size, o, none⟩) (hg5.block (w.heap.size) (by omega) (hne5 _ (by omega)))).trans (hba.frozen (p := ⟨w.heap.size, o, none⟩) (by show w.heap.size < v2.heap.size; omega))).trans (sf o)
          have zf' := fun o => ((World.frozen?_of_block (a := ⟨w.heap.size + 1, o, none⟩) (hg5.block (w.heap.size + 1) (by omega) (hne5 _ (by omega)))).trans (hba.frozen (p := ⟨w.heap.size + 1, o, none⟩) (by show w.heap.size + 1 < v2.heap.size; omega))).trans (tf o)
          clear s0 s1 s2 s3 s4 sf t0 t1 t2 t3 t4 tf
          have d0 := d0'
          have d1 := d1'
          have d2 := d2'
          have d3 := d3'
          have d4 := d4'
          have df := df'
          have z0 := z0'
          have z1 := z1'
          have z2 := z2'
          have z3 := z3'
          have z4 := z4'
          have zf := zf'
          clear d0' d1' d2' d3' d4' df' z0' z1' z2' z3' z4' zf'
          have hl5 : (out ++ [(t : Int)]).length = out.length + 1 := by rw [List.length_append]; rfl
          have hlk : (out ++ [(t : Int)]).length = k + 1 := by rw [hl5, HOL.out]
          have HO5 := Lib.hid (show w5.ownsRow (w.heap.size + 2) 3 1 (.slice (some ⟨g2, 0, none⟩) (out ++ [(t : Int)]).length c2) (out ++ [(t : Int)]).length (zV (out ++ [(t : Int)])) by rw [hl5]; exact ho5)
          have HB5 := Lib.hid (HB4.out.grown hg5 HB4.out.size (fun g e => by have := (HO4.out.lt g e).1; omega))
          have hsz5 : w.heap.size + 1 < w5.heap.size := by have := hg5.size; omega
          clear ho5 hg5 hat5 HO4 HB4 hc4 hne5 hba hsa
          go_wp2_with fail
          go_roundw
          case rel => exact ⟨k + 1, .mk xt xk xs' xp xq, .mk yt yk ys' yp yq, gX, gY, fX, fY, gp, gq, fp, fq, out ++ [(t : Int)], some ⟨g2, 0, none⟩, c2, by omega, by go_num, by rw [hl5], HE3, Lib.hid hlk, HO5, HKX3, HKY3, HTX3, HTY3, d0, d1, d2, d3, d4, z0, z1, z2, z3, z4, df, zf, hsz5, HB5⟩
          case measure => simp [intOf]; omega
        refine AllReadyH.cons (o := _) rfl (fun K hK => ?_) AllReadyH.nil
        obtain ⟨v1, hn1, hb7, hf7, hs7, s0, s1, s2, s3, s4, sf, hbs⟩ := put5 (w := wd) (B := w.heap.size) d0 d1 d2 d3 d4 df (.int .i64 xt) (.int .i64 xk) (.string xs') (.slice gX xp.length gp) (.slice gY xq.length gq) HB.out (Nat.le_refl _)
        replace hs7 : v1.heap.size = wd.heap.size := hs7
        replace hb7 : ∀ k, k ≠ w.heap.size → v1.heap[k]? = wd.heap[k]? := hb7
        replace hf7 : ∀ b o, b ≠ w.heap.size → v1.frozen? ⟨b, o, none⟩ = wd.frozen? ⟨b, o, none⟩ := hf7
        replace z0 := (World.cell?_of_block (a := ⟨w.heap.size + 1, 0, none⟩) (hb7 (w.heap.size + 1) (by omega))).trans z0
        replace z1 := (World.cell?_of_block (a := ⟨w.heap.size + 1, 1, none⟩) (hb7 (w.heap.size + 1) (by omega))).trans z1
        replace z2 := (World.cell?_of_block (a := ⟨w.heap.size + 1, 2, none⟩) (hb7 (w.heap.size + 1) (by omega))).trans z2
        replace z3 := (World.cell?_of_block (a := ⟨w.heap.size + 1, 3, none⟩) (hb7 (w.heap.size + 1) (by omega))).trans z3
        replace z4 := (World.cell?_of_block (a := ⟨w.heap.size + 1, 4, none⟩) (hb7 (w.heap.size + 1) (by omega))).trans z4
        replace zf := fun o => (hf7 (w.heap.size + 1) o (by omega)).trans (zf o)
        replace HO := Lib.hid (own_at HO.out (fun g cur e hg => hb7 g (by have := (HO.out.lt g e).1; omega)))
        have hHeld3 : (fun w' : World => w'.cell? ⟨ba, offa + j * 5, none⟩ = some (.int .i64 xt) ∧ w'.cell? ⟨ba, offa + j * 5 + 1, none⟩ = some (.int .i64 xk) ∧ w'.cell? ⟨ba, offa + j * 5 + 2, none⟩ = some (.string xs') ∧ w'.cell? ⟨ba, offa + j * 5 + 3, none⟩ = some (.slice gX xp.length gp) ∧ w'.cell? ⟨ba, offa + j * 5 + 4, none⟩ = some (.slice gY xq.length gq) ∧ w'.cell? ⟨bb, offb + t * 5, none⟩ = some (.int .i64 yt) ∧ w'.cell? ⟨bb, offb + t * 5 + 1, none⟩ = some (.int .i64 yk) ∧ w'.cell? ⟨bb, offb + t * 5 + 2, none⟩ = some (.string ys') ∧ w'.cell? ⟨bb, offb + t * 5 + 3, none⟩ = some (.slice fX yp.length fp) ∧ w'.cell? ⟨bb, offb + t * 5 + 4, none⟩ = some (.slice fY yq.length fq)) v1 := ⟨(World.cell?_of_block (a := ⟨ba, _, none⟩) (hb7 ba (by omega))).trans hHeld.1, (World.cell?_of_block (a := ⟨ba, _, none⟩) (hb7 ba (by omega))).trans hHeld.2.1, (World.cell?_of_block (a := ⟨ba, _, none⟩) (hb7 ba (by omega))).trans hHeld.2.2.1, (World.cell?_of_block (a := ⟨ba, _, none⟩) (hb7 ba (by omega))).trans hHeld.2.2.2.1, (World.cell?_of_block (a := ⟨ba, _, none⟩) (hb7 ba (by omega))).trans hHeld.2.2.2.2.1, (World.cell?_of_block (a := ⟨bb, _, none⟩) (hb7 bb (by omega))).trans hHeld.2.2.2.2.2.1, (World.cell?_of_block (a := ⟨bb, _, none⟩) (hb7 bb (by omega))).trans hHeld.2.2.2.2.2.2.1, (World.cell?_of_block (a := ⟨bb, _, none⟩) (hb7 bb (by omega))).trans hHeld.2.2.2.2.2.2.2.1, (World.cell?_of_block (a := ⟨bb, _, none⟩) (hb7 bb (by omega))).trans hHeld.2.2.2.2.2.2.2.2.1, (World.cell?_of_block (a := ⟨bb, _, none⟩) (hb7 bb (by omega))).trans hHeld.2.2.2.2.2.2.2.2.2⟩
        go_simp
        try rw [hn1]
        refine hK.out _ _ hHeld3 (fun hHeld2 => ?_)
        clear hHeld2 hHeld
        have hHeld := hHeld3
        clear hHeld3 hK K hn1 hb7 hf7 d0 d1 d2 d3 d4 df
        (try simp only [Act.put, List.getElem_toArray, List.getElem_cons_zero, List.getElem_cons_succ, List.setIfInBounds_toArray, List.set_cons_zero, List.set_cons_succ])
        refine wpAnyH_ready (rs := [6]) (by kernel_rfl) (by simp) ?_
        refine AllReadyH.cons (o := _) rfl (fun K hK => ?_) AllReadyH.nil
        go_simp
        refine hK.out _ _ hHeld (fun hHeld2 => ?_)
        clear hK K hHeld2
        (try simp only [Act.put, List.getElem_toArray, List.getElem_cons_zero, List.getElem_cons_succ, List.setIfInBounds_toArray, List.set_cons_zero, List.set_cons_succ])
        refine wpAnyH_take (i := 8) (oi := _) (v := ?_) rfl (by kernel_rfl) (by kernel_rfl) (by kernel_rfl) (fun _ _ _ h => h) (Or.inl ⟨by kernel_rfl, ?_⟩) (by assumption) ?_
        rotate_left
        · (intro w hSw; (try dsimp only at hSw); go_simp)
          try with_reducible rfl
        (try simp only [Act.put, List.getElem_toArray, List.getElem_cons_zero, List.getElem_cons_succ, List.setIfInBounds_toArray, List.set_cons_zero, List.set_cons_succ])
        refine wpAnyH_take (i := 9) (oi := _) (v := ?_) rfl (by kernel_rfl) (by kernel_rfl) (by kernel_rfl) (fun _ _ _ h => h) (Or.inl ⟨by kernel_rfl, ?_⟩) (by assumption) ?_
        rotate_left
        · (intro w hSw; (try dsimp only at hSw); go_simp)
          try with_reducible rfl
        (try simp only [Act.put, List.getElem_toArray, List.getElem_cons_zero, List.getElem_cons_succ, List.setIfInBounds_toArray, List.set_cons_zero, List.set_cons_succ])
        refine wpAnyH_ready (rs := [11]) (by kernel_rfl) (by simp) ?_
        refine AllReadyH.cons (o := _) rfl (fun K hK => ?_) AllReadyH.nil
        obtain ⟨v2, hn2, hb8, hf8, hs8, t0, t1, t2, t3, t4, tf, hbt⟩ := put5 (w := v1) (B := w.heap.size + 1) z0 z1 z2 z3 z4 zf (.int .i64 yt) (.int .i64 yk) (.string ys') (.slice fX yp.length fp) (.slice fY yq.length fq) hbs (by omega)
        replace HO := Lib.hid (own_at HO.out (fun g cur e hg => hb8 g (by have := (HO.out.lt g e).1; omega)))
        replace s0 := (World.cell?_of_block (a := ⟨w.heap.size, 0, none⟩) (hb8 w.heap.size (by omega))).trans s0
        replace s1 := (World.cell?_of_block (a := ⟨w.heap.size, 1, none⟩) (hb8 w.heap.size (by omega))).trans s1
        replace s2 := (World.cell?_of_block (a := ⟨w.heap.size, 2, none⟩) (hb8 w.heap.size (by omega))).trans s2
        replace s3 := (World.cell?_of_block (a := ⟨w.heap.size, 3, none⟩) (hb8 w.heap.size (by omega))).trans s3
        replace s4 := (World.cell?_of_block (a := ⟨w.heap.size, 4, none⟩) (hb8 w.heap.size (by omega))).trans s4
        replace sf := fun o => (hf8 w.heap.size o (by omega)).trans (sf o)
        have hHeld3 : (fun w' : World => w'.cell? ⟨ba, offa + j * 5, none⟩ = some (.int .i64 xt) ∧ w'.cell? ⟨ba, offa + j * 5 + 1, none⟩ = some (.int .i64 xk) ∧ w'.cell? ⟨ba, offa + j * 5 + 2, none⟩ = some (.string xs') ∧ w'.cell? ⟨ba, offa + j * 5 + 3, none⟩ = some (.slice gX xp.length gp) ∧ w'.cell? ⟨ba, offa + j * 5 + 4, none⟩ = some (.slice gY xq.length gq) ∧ w'.cell? ⟨bb, offb + t * 5, none⟩ = some (.int .i64 yt) ∧ w'.cell? ⟨bb, offb + t * 5 + 1, none⟩ = some (.int .i64 yk) ∧ w'.cell? ⟨bb, offb + t * 5 + 2, none⟩ = some (.string ys') ∧ w'.cell? ⟨bb, offb + t * 5 + 3, none⟩ = some (.slice fX yp.length fp) ∧ w'.cell? ⟨bb, offb + t * 5 + 4, none⟩ = some (.slice fY yq.length fq)) v2 := ⟨(World.cell?_of_block (a := ⟨ba, _, none⟩) (hb8 ba (by omega))).trans hHeld.1, (World.cell?_of_block (a := ⟨ba, _, none⟩) (hb8 ba (by omega))).trans hHeld.2.1, (World.cell?_of_block (a := ⟨ba, _, none⟩) (hb8 ba (by omega))).trans hHeld.2.2.1, (World.cell?_of_block (a := ⟨ba, _, none⟩) (hb8 ba (by omega))).trans hHeld.2.2.2.1, (World.cell?_of_block (a := ⟨ba, _, none⟩) (hb8 ba (by omega))).trans hHeld.2.2.2.2.1, (World.cell?_of_block (a := ⟨bb, _, none⟩) (hb8 bb (by omega))).trans hHeld.2.2.2.2.2.1, (World.cell?_of_block (a := ⟨bb, _, none⟩) (hb8 bb (by omega))).trans hHeld.2.2.2.2.2.2.1, (World.cell?_of_block (a := ⟨bb, _, none⟩) (hb8 bb (by omega))).trans hHeld.2.2.2.2.2.2.2.1, (World.cell?_of_block (a := ⟨bb, _, none⟩) (hb8 bb (by omega))).trans hHeld.2.2.2.2.2.2.2.2.1, (World.cell?_of_block (a := ⟨bb, _, none⟩) (hb8 bb (by omega))).trans hHeld.2.2.2.2.2.2.2.2.2⟩
        go_simp
        try rw [hn2]
        refine hK.out _ _ hHeld3 (fun hHeld2 => ?_)
        clear hHeld2 hHeld
        have hHeld := hHeld3
        clear hHeld3 hK K hn2 hb8 hf8 z0 z1 z2 z3 z4 zf
        (try simp only [Act.put, List.getElem_toArray, List.getElem_cons_zero, List.getElem_cons_succ, List.setIfInBounds_toArray, List.set_cons_zero, List.set_cons_succ])
        refine wpAnyH_done (by kernel_rfl) ?_ _
        clear hHeld
        have hsz2 : w.heap.size + 1 < v2.heap.size := by omega
        have hba := Below.alloc (Below.refl v2.heap.size v2) (Nat.le_refl _) (.cells #[.int .i64 (t : Int)] 3)
        have hc4 : (v2.alloc (.cells #[.int .i64 (t : Int)] 3)).cell? ⟨v2.heap.size, 0, none⟩ = some (.int .i64 (t : Int)) := by rw [World.cell?_alloc_new]; rfl
        have HO4 := Lib.hid (ownsRow_below HO.out hba)
        have HB4 := Lib.hid (hbt.trans (hba.mono hbt.size))
        clear hs7 hs8 hbs hbt hba HO HB
        go_wp2_with (at_builtin; refine wp_add_num rfl (.tmp 41) (.tmp 43) rfl (w.heap.size + 2) out.length R r out rfl rfl HO4.out ⟨v2.heap.size, 0, none⟩ 1 (t : Int) rfl hc4 (by have := HOL.out; omega) (by simp only [World.size_alloc]; omega) ?_)
        intro g2 c2 w5 ho5 hg5 hat5
        have hne5 : ∀ b, b < w.heap.size + 2 → some b ≠ (Value.slice R out.length r).ownBlock := fun b hb e => by
          have := (HO4.out.lt b e.symm).1
          omega
        have hba := Below.alloc (Below.refl v2.heap.size v2) (Nat.le_refl _) (.cells #[.int .i64 (t : Int)] 3)
        have hsa : v2.heap.size < (v2.alloc (.cells #[.int .i64 (t : Int)] 3)).heap.size := by simp
        have d0' := ((World.cell?_of_block (a := ⟨w.heap.size, 0, none⟩) (hg5.block (w.heap.size) (by omega) (hne5 _ (by omega)))).trans (hba.cell (p := ⟨w.heap.size, 0, none⟩) (by show w.heap.size < v2.heap.size; omega))).trans s0
        have d1' := ((World.cell?_of_block (a := ⟨w.heap.size, 1, none⟩) (hg5.block (w.heap.size) (by omega) (hne5 _ (by omega)))).trans (hba.cell (p := ⟨w.heap.size, 1, none⟩) (by show w.heap.size < v2.heap.size; omega))).trans s1
        have d2' := ((World.cell?_of_block (a := ⟨w.heap.size, 2, none⟩) (hg5.block (w.heap.size) (by omega) (hne5 _ (by omega)))).trans (hba.cell (p := ⟨w.heap.size, 2, none⟩) (by show w.heap.size < v2.heap.size; omega))).trans s2
        have d3' := ((World.cell?_of_block (a := ⟨w.heap.size, 3, none⟩) (hg5.block (w.heap.size) (by omega) (hne5 _ (by omega)))).trans (hba.cell (p := ⟨w.heap.size, 3, none⟩) (by show w.heap.size < v2.heap.size; omega))).trans s3
        have d4' := ((World.cell?_of_block (a := ⟨w.heap.size, 4, none⟩) (hg5.block (w.heap.size) (by omega) (hne5 _ (by omega)))).trans (hba.cell (p := ⟨w.heap.size, 4, none⟩) (by show w.heap.size < v2.heap.size; omega))).trans s4
        have z0' := ((World.cell?_of_block (a := ⟨w.heap.size + 1, 0, none⟩) (hg5.block (w.heap.size + 1) (by omega) (hne5 _ (by omega)))).trans (hba.cell (p := ⟨w.heap.size + 1, 0, none⟩) (by show w.heap.size + 1 < v2.heap.size; omega))).trans t0
        have z1' := ((World.cell?_of_block (a := ⟨w.heap.size + 1, 1, none⟩) (hg5.block (w.heap.size + 1) (by omega) (hne5 _ (by omega)))).trans (hba.cell (p := ⟨w.heap.size + 1, 1, none⟩) (by show w.heap.size + 1 < v2.heap.size; omega))).trans t1
        have z2' := ((World.cell?_of_block (a := ⟨w.heap.size + 1, 2, none⟩) (hg5.block (w.heap.size + 1) (by omega) (hne5 _ (by omega)))).trans (hba.cell (p := ⟨w.heap.size + 1, 2, none⟩) (by show w.heap.size + 1 < v2.heap.size; omega))).trans t2
        have z3' := ((World.cell?_of_block (a := ⟨w.heap.size + 1, 3, none⟩) (hg5.block (w.heap.size + 1) (by omega) (hne5 _ (by omega)))).trans (hba.cell (p := ⟨w.heap.size + 1, 3, none⟩) (by show w.heap.size + 1 < v2.heap.size; omega))).trans t3
        have z4' := ((World.cell?_of_block (a := ⟨w.heap.size + 1, 4, none⟩) (hg5.block (w.heap.size + 1) (by omega) (hne5 _ (by omega)))).trans (hba.cell (p := ⟨w.heap.size + 1, 4, none⟩) (by show w.heap.size + 1 < v2.heap.size; omega))).trans t4
        have df' := fun o => ((World.frozen?_of_block (a := ⟨w.heap.size, o, none⟩) (hg5.block (w.heap.size) (by omega) (hne5 _ (by omega)))).trans (hba.frozen (p := ⟨w.heap.size, o, none⟩) (by show w.heap.size < v2.heap.size; omega))).trans (sf o)
        have zf' := fun o => ((World.frozen?_of_block (a := ⟨w.heap.size + 1, o, none⟩) (hg5.block (w.heap.size + 1) (by omega) (hne5 _ (by omega)))).trans (hba.frozen (p := ⟨w.heap.size + 1, o, none⟩) (by show w.heap.size + 1 < v2.heap.size; omega))).trans (tf o)
        clear s0 s1 s2 s3 s4 sf t0 t1 t2 t3 t4 tf
        have d0 := d0'
        have d1 := d1'
        have d2 := d2'
        have d3 := d3'
        have d4 := d4'
        have df := df'
        have z0 := z0'
        have z1 := z1'
        have z2 := z2'
        have z3 := z3'
        have z4 := z4'
        have zf := zf'
        clear d0' d1' d2' d3' d4' df' z0' z1' z2' z3' z4' zf'
        have hl5 : (out ++ [(t : Int)]).length = out.length + 1 := by rw [List.length_append]; rfl
        have hlk : (out ++ [(t : Int)]).length = k + 1 := by rw [hl5, HOL.out]
        have HO5 := Lib.hid (show w5.ownsRow (w.heap.size + 2) 3 1 (.slice (some ⟨g2, 0, none⟩) (out ++ [(t : Int)]).length c2) (out ++ [(t : Int)]).length (zV (out ++ [(t : Int)])) by rw [hl5]; exact ho5)
        have HB5 := Lib.hid (HB4.out.grown hg5 HB4.out.size (fun g e => by have := (HO4.out.lt g e).1; omega))
        have hsz5 : w.heap.size + 1 < w5.heap.size := by have := hg5.size; omega
        clear ho5 hg5 hat5 HO4 HB4 hc4 hne5 hba hsa
        go_wp2_with fail
        go_roundw
        case rel => exact ⟨k + 1, .mk xt xk xs' xp xq, .mk yt yk ys' yp yq, gX, gY, fX, fY, gp, gq, fp, fq, out ++ [(t : Int)], some ⟨g2, 0, none⟩, c2, by omega, by go_num, by rw [hl5], HE3, Lib.hid hlk, HO5, HKX3, HKY3, HTX3, HTY3, d0, d1, d2, d3, d4, z0, z1, z2, z3, z4, df, zf, hsz5, HB5⟩
        case measure => simp [intOf]; omega
      refine AllReadyH.cons (o := _) rfl (fun K hK => ?_) AllReadyH.nil
      go_simp
      refine hK.out _ _ hHeld (fun hHeld2 => ?_)
      clear hK K hHeld2
      (try simp only [Act.put, List.getElem_toArray, List.getElem_cons_zero, List.getElem_cons_succ, List.setIfInBounds_toArray, List.set_cons_zero, List.set_cons_succ])
      refine wpAnyH_take (i := 8) (oi := _) (v := ?_) rfl (by kernel_rfl) (by kernel_rfl) (by kernel_rfl) (fun _ _ _ h => h) (Or.inl ⟨by kernel_rfl, ?_⟩) (by assumption) ?_
      rotate_left
      · (intro w hSw; (try dsimp only at hSw); go_simp)
        try with_reducible rfl
      (try simp only [Act.put, List.getElem_toArray, List.getElem_cons_zero, List.getElem_cons_succ, List.setIfInBounds_toArray, List.set_cons_zero, List.set_cons_succ])
      refine wpAnyH_take (i := 9) (oi := _) (v := ?_) rfl (by kernel_rfl) (by kernel_rfl) (by kernel_rfl) (fun _ _ _ h => h) (Or.inl ⟨by kernel_rfl, ?_⟩) (by assumption) ?_
      rotate_left
      · (intro w hSw; (try dsimp only at hSw); go_simp)
        try with_reducible rfl
      (try simp only [Act.put, List.getElem_toArray, List.getElem_cons_zero, List.getElem_cons_succ, List.setIfInBounds_toArray, List.set_cons_zero, List.set_cons_succ])
      refine wpAnyH_ready (rs := [1]) (by kernel_rfl) (by simp) ?_
      refine AllReadyH.cons (o := _) rfl (fun K hK => ?_) AllReadyH.nil
      go_simp
      refine hK.out _ _ hHeld (fun hHeld2 => ?_)
      clear hK K hHeld2
      (try simp only [Act.put, List.getElem_toArray, List.getElem_cons_zero, List.getElem_cons_succ, List.setIfInBounds_toArray, List.set_cons_zero, List.set_cons_succ])
      refine wpAnyH_take (i := 3) (oi := _) (v := ?_) rfl (by kernel_rfl) (by kernel_rfl) (by kernel_rfl) (fun _ _ _ h => h) (Or.inl ⟨by kernel_rfl, ?_⟩) (by assumption) ?_
      rotate_left
      · (intro w hSw; (try dsimp only at hSw); go_simp)
        try with_reducible rfl
      (try simp only [Act.put, List.getElem_toArray, List.getElem_cons_zero, List.getElem_cons_succ, List.setIfInBounds_toArray, List.set_cons_zero, List.set_cons_succ])
      refine wpAnyH_take (i := 4) (oi := _) (v := ?_) rfl (by kernel_rfl) (by kernel_rfl) (by kernel_rfl) (fun _ _ _ h => h) (Or.inl ⟨by kernel_rfl, ?_⟩) (by assumption) ?_
      rotate_left
      · (intro w hSw; (try dsimp only at hSw); go_simp)
        try with_reducible rfl
      (try simp only [Act.put, List.getElem_toArray, List.getElem_cons_zero, List.getElem_cons_succ, List.setIfInBounds_toArray, List.set_cons_zero, List.set_cons_succ])
      refine wpAnyH_ready (rs := [10]) (by kernel_rfl) (by simp) ?_
      refine AllReadyH.cons (o := _) rfl (fun K hK => ?_) AllReadyH.nil
      obtain ⟨v1, hn1, hb7, hf7, hs7, s0, s1, s2, s3, s4, sf, hbs⟩ := put5 (w := wd) (B := w.heap.size) d0 d1 d2 d3 d4 df (.int .i64 xt) (.int .i64 xk) (.string xs') (.slice gX xp.length gp) (.slice gY xq.length gq) HB.out (Nat.le_refl _)
      replace hs7 : v1.heap.size = wd.heap.size := hs7
      replace hb7 : ∀ k, k ≠ w.heap.size → v1.heap[k]? = wd.heap[k]? := hb7
      replace hf7 : ∀ b o, b ≠ w.heap.size → v1.frozen? ⟨b, o, none⟩ = wd.frozen? ⟨b, o, none⟩ := hf7
      replace z0 := (World.cell?_of_block (a := ⟨w.heap.size + 1, 0, none⟩) (hb7 (w.heap.size + 1) (by omega))).trans z0
      replace z1 := (World.cell?_of_block (a := ⟨w.heap.size + 1, 1, none⟩) (hb7 (w.heap.size + 1) (by omega))).trans z1
      replace z2 := (World.cell?_of_block (a := ⟨w.heap.size + 1, 2, none⟩) (hb7 (w.heap.size + 1) (by omega))).trans z2
      replace z3 := (World.cell?_of_block (a := ⟨w.heap.size + 1, 3, none⟩) (hb7 (w.heap.size + 1) (by omega))).trans z3
      replace z4 := (World.cell?_of_block (a := ⟨w.heap.size + 1, 4, none⟩) (hb7 (w.heap.size + 1) (by omega))).trans z4
      replace zf := fun o => (hf7 (w.heap.size + 1) o (by omega)).trans (zf o)
      replace HO := Lib.hid (own_at HO.out (fun g cur e hg => hb7 g (by have := (HO.out.lt g e).1; omega)))
      have hHeld3 : (fun w' : World => w'.cell? ⟨ba, offa + j * 5, none⟩ = some (.int .i64 xt) ∧ w'.cell? ⟨ba, offa + j * 5 + 1, none⟩ = some (.int .i64 xk) ∧ w'.cell? ⟨ba, offa + j * 5 + 2, none⟩ = some (.string xs') ∧ w'.cell? ⟨ba, offa + j * 5 + 3, none⟩ = some (.slice gX xp.length gp) ∧ w'.cell? ⟨ba, offa + j * 5 + 4, none⟩ = some (.slice gY xq.length gq) ∧ w'.cell? ⟨bb, offb + t * 5, none⟩ = some (.int .i64 yt) ∧ w'.cell? ⟨bb, offb + t * 5 + 1, none⟩ = some (.int .i64 yk) ∧ w'.cell? ⟨bb, offb + t * 5 + 2, none⟩ = some (.string ys') ∧ w'.cell? ⟨bb, offb + t * 5 + 3, none⟩ = some (.slice fX yp.length fp) ∧ w'.cell? ⟨bb, offb + t * 5 + 4, none⟩ = some (.slice fY yq.length fq)) v1 := ⟨(World.cell?_of_block (a := ⟨ba, _, none⟩) (hb7 ba (by omega))).trans hHeld.1, (World.cell?_of_block (a := ⟨ba, _, none⟩) (hb7 ba (by omega))).trans hHeld.2.1, (World.cell?_of_block (a := ⟨ba, _, none⟩) (hb7 ba (by omega))).trans hHeld.2.2.1, (World.cell?_of_block (a := ⟨ba, _, none⟩) (hb7 ba (by omega))).trans hHeld.2.2.2.1, (World.cell?_of_block (a := ⟨ba, _, none⟩) (hb7 ba (by omega))).trans hHeld.2.2.2.2.1, (World.cell?_of_block (a := ⟨bb, _, none⟩) (hb7 bb (by omega))).trans hHeld.2.2.2.2.2.1, (World.cell?_of_block (a := ⟨bb, _, none⟩) (hb7 bb (by omega))).trans hHeld.2.2.2.2.2.2.1, (World.cell?_of_block (a := ⟨bb, _, none⟩) (hb7 bb (by omega))).trans hHeld.2.2.2.2.2.2.2.1, (World.cell?_of_block (a := ⟨bb, _, none⟩) (hb7 bb (by omega))).trans hHeld.2.2.2.2.2.2.2.2.1, (World.cell?_of_block (a := ⟨bb, _, none⟩) (hb7 bb (by omega))).trans hHeld.2.2.2.2.2.2.2.2.2⟩
      go_simp
      try rw [hn1]
      refine hK.out _ _ hHeld3 (fun hHeld2 => ?_)
      clear hHeld2 hHeld
      have hHeld := hHeld3
      clear hHeld3 hK K hn1 hb7 hf7 d0 d1 d2 d3 d4 df
      (try simp only [Act.put, List.getElem_toArray, List.getElem_cons_zero, List.getElem_cons_succ, List.setIfInBounds_toArray, List.set_cons_zero, List.set_cons_succ])
      refine wpAnyH_ready (rs := [11]) (by kernel_rfl) (by simp) ?_
      refine AllReadyH.cons (o := _) rfl (fun K hK => ?_) AllReadyH.nil
      obtain ⟨v2, hn2, hb8, hf8, hs8, t0, t1, t2, t3, t4, tf, hbt⟩ := put5 (w := v1) (B := w.heap.size + 1) z0 z1 z2 z3 z4 zf (.int .i64 yt) (.int .i64 yk) (.string ys') (.slice fX yp.length fp) (.slice fY yq.length fq) hbs (by omega)
      replace HO := Lib.hid (own_at HO.out (fun g cur e hg => hb8 g (by have := (HO.out.lt g e).1; omega)))
      replace s0 := (World.cell?_of_block (a := ⟨w.heap.size, 0, none⟩) (hb8 w.heap.size (by omega))).trans s0
      replace s1 := (World.cell?_of_block (a := ⟨w.heap.size, 1, none⟩) (hb8 w.heap.size (by omega))).trans s1
      replace s2 := (World.cell?_of_block (a := ⟨w.heap.size, 2, none⟩) (hb8 w.heap.size (by omega))).trans s2
      replace s3 := (World.cell?_of_block (a := ⟨w.heap.size, 3, none⟩) (hb8 w.heap.size (by omega))).trans s3
      replace s4 := (World.cell?_of_block (a := ⟨w.heap.size, 4, none⟩) (hb8 w.heap.size (by omega))).trans s4
      replace sf := fun o => (hf8 w.heap.size o (by omega)).trans (sf o)
      have hHeld3 : (fun w' : World => w'.cell? ⟨ba, offa + j * 5, none⟩ = some (.int .i64 xt) ∧ w'.cell? ⟨ba, offa + j * 5 + 1, none⟩ = some (.int .i64 xk) ∧ w'.cell? ⟨ba, offa + j * 5 + 2, none⟩ = some (.string xs') ∧ w'.cell? ⟨ba, offa + j * 5 + 3, none⟩ = some (.slice gX xp.length gp) ∧ w'.cell? ⟨ba, offa + j * 5 + 4, none⟩ = some (.slice gY xq.length gq) ∧ w'.cell? ⟨bb, offb + t * 5, none⟩ = some (.int .i64 yt) ∧ w'.cell? ⟨bb, offb + t * 5 + 1, none⟩ = some (.int .i64 yk) ∧ w'.cell? ⟨bb, offb + t * 5 + 2, none⟩ = some (.string ys') ∧ w'.cell? ⟨bb, offb + t * 5 + 3, none⟩ = some (.slice fX yp.length fp) ∧ w'.cell? ⟨bb, offb + t * 5 + 4, none⟩ = some (.slice fY yq.length fq)) v2 := ⟨(World.cell?_of_block (a := ⟨ba, _, none⟩) (hb8 ba (by omega))).trans hHeld.1, (World.cell?_of_block (a := ⟨ba, _, none⟩) (hb8 ba (by omega))).trans hHeld.2.1, (World.cell?_of_block (a := ⟨ba, _, none⟩) (hb8 ba (by omega))).trans hHeld.2.2.1, (World.cell?_of_block (a := ⟨ba, _, none⟩) (hb8 ba (by omega))).trans hHeld.2.2.2.1, (World.cell?_of_block (a := ⟨ba, _, none⟩) (hb8 ba (by omega))).trans hHeld.2.2.2.2.1, (World.cell?_of_block (a := ⟨bb, _, none⟩) (hb8 bb (by omega))).trans hHeld.2.2.2.2.2.1, (World.cell?_of_block (a := ⟨bb, _, none⟩) (hb8 bb (by omega))).trans hHeld.2.2.2.2.2.2.1, (World.cell?_of_block (a := ⟨bb, _, none⟩) (hb8 bb (by omega))).trans hHeld.2.2.2.2.2.2.2.1, (World.cell?_of_block (a := ⟨bb, _, none⟩) (hb8 bb (by omega))).trans hHeld.2.2.2.2.2.2.2.2.1, (World.cell?_of_block (a := ⟨bb, _, none⟩) (hb8 bb (by omega))).trans hHeld.2.2.2.2.2.2.2.2.2⟩
      go_simp
      try rw [hn2]
      refine hK.out _ _ hHeld3 (fun hHeld2 => ?_)
      clear hHeld2 hHeld
      have hHeld := hHeld3
      clear hHeld3 hK K hn2 hb8 hf8 z0 z1 z2 z3 z4 zf
      (try simp only [Act.put, List.getElem_toArray, List.getElem_cons_zero, List.getElem_cons_succ, List.setIfInBounds_toArray, List.set_cons_zero, List.set_cons_succ])
      refine wpAnyH_done (by kernel_rfl) ?_ _
      clear hHeld
      have hsz2 : w.heap.size + 1 < v2.heap.size := by omega
      have hba := Below.alloc (Below.refl v2.heap.size v2) (Nat.le_refl _) (.cells #[.int .i64 (t : Int)] 3)
      have hc4 : (v2.alloc (.cells #[.int .i64 (t : Int)] 3)).cell? ⟨v2.heap.size, 0, none⟩ = some (.int .i64 (t : Int)) := by rw [World.cell?_alloc_new]; rfl
      have HO4 := Lib.hid (ownsRow_below HO.out hba)
      have HB4 := Lib.hid (hbt.trans (hba.mono hbt.size))
      clear hs7 hs8 hbs hbt hba HO HB
      go_wp2_with (at_builtin; refine wp_add_num rfl (.tmp 41) (.tmp 43) rfl (w.heap.size + 2) out.length R r out rfl rfl HO4.out ⟨v2.heap.size, 0, none⟩ 1 (t : Int) rfl hc4 (by have := HOL.out; omega) (by simp only [World.size_alloc]; omega) ?_)
      intro g2 c2 w5 ho5 hg5 hat5
      have hne5 : ∀ b, b < w.heap.size + 2 → some b ≠ (Value.slice R out.length r).ownBlock := fun b hb e => by
        have := (HO4.out.lt b e.symm).1
        omega
      have hba := Below.alloc (Below.refl v2.heap.size v2) (Nat.le_refl _) (.cells #[.int .i64 (t : Int)] 3)
      have hsa : v2.heap.size < (v2.alloc (.cells #[.int .i64 (t : Int)] 3)).heap.size := by simp
      have d0' := ((World.cell?_of_block (a := ⟨w.heap.size, 0, none⟩) (hg5.block (w.heap.size) (by omega) (hne5 _ (by omega)))).trans (hba.cell (p := ⟨w.heap.size, 0, none⟩) (by show w.heap.size < v2.heap.size; omega))).trans s0
      have d1' := ((World.cell?_of_block (a := ⟨w.heap.size, 1, none⟩) (hg5.block (w.heap.size) (by omega) (hne5 _ (by omega)))).trans (hba.cell (p := ⟨w.heap.size, 1, none⟩) (by show w.heap.size < v2.heap.size; omega))).trans s1
      have d2' := ((World.cell?_of_block (a := ⟨w.heap.size, 2, none⟩) (hg5.block (w.heap.size) (by omega) (hne5 _ (by omega)))).trans (hba.cell (p := ⟨w.heap.size, 2, none⟩) (by show w.heap.size < v2.heap.size; omega))).trans s2
      have d3' := ((World.cell?_of_block (a := ⟨w.heap.size, 3, none⟩) (hg5.block (w.heap.size) (by omega) (hne5 _ (by omega)))).trans (hba.cell (p := ⟨w.heap.size, 3, none⟩) (by show w.heap.size < v2.heap.size; omega))).trans s3
      have d4' := ((World.cell?_of_block (a := ⟨w.heap.size, 4, none⟩) (hg5.block (w.heap.size) (by omega) (hne5 _ (by omega)))).trans (hba.cell (p := ⟨w.heap.size, 4, none⟩) (by show w.heap.size < v2.heap.size; omega))).trans s4
      have z0' := ((World.cell?_of_block (a := ⟨w.heap.size + 1, 0, none⟩) (hg5.block (w.heap.size + 1) (by omega) (hne5 _ (by omega)))).trans (hba.cell (p := ⟨w.heap.size + 1, 0, none⟩) (by show w.heap.size + 1 < v2.heap.size; omega))).trans t0
      have z1' := ((World.cell?_of_block (a := ⟨w.heap.size + 1, 1, none⟩) (hg5.block (w.heap.size + 1) (by omega) (hne5 _ (by omega)))).trans (hba.cell (p := ⟨w.heap.size + 1, 1, none⟩) (by show w.heap.size + 1 < v2.heap.size; omega))).trans t1
      have z2' := ((World.cell?_of_block (a := ⟨w.heap.size + 1, 2, none⟩) (hg5.block (w.heap.size + 1) (by omega) (hne5 _ (by omega)))).trans (hba.cell (p := ⟨w.heap.size + 1, 2, none⟩) (by show w.heap.size + 1 < v2.heap.size; omega))).trans t2
      have z3' := ((World.cell?_of_block (a := ⟨w.heap.size + 1, 3, none⟩) (hg5.block (w.heap.size + 1) (by omega) (hne5 _ (by omega)))).trans (hba.cell (p := ⟨w.heap.size + 1, 3, none⟩) (by show w.heap.size + 1 < v2.heap.size; omega))).trans t3
      have z4' := ((World.cell?_of_block (a := ⟨w.heap.size + 1, 4, none⟩) (hg5.block (w.heap.size + 1) (by omega) (hne5 _ (by omega)))).trans (hba.cell (p := ⟨w.heap.size + 1, 4, none⟩) (by show w.heap.size + 1 < v2.heap.size; omega))).trans t4
      have df' := fun o => ((World.frozen?_of_block (a := ⟨w.heap.size, o, none⟩) (hg5.block (w.heap.size) (by omega) (hne5 _ (by omega)))).trans (hba.frozen (p := ⟨w.heap.size, o, none⟩) (by show w.heap.size < v2.heap.size; omega))).trans (sf o)
      have zf' := fun o => ((World.frozen?_of_block (a := ⟨w.heap.size + 1, o, none⟩) (hg5.block (w.heap.size + 1) (by omega) (hne5 _ (by omega)))).trans (hba.frozen (p := ⟨w.heap.size + 1, o, none⟩) (by show w.heap.size + 1 < v2.heap.size; omega))).trans (tf o)
      clear s0 s1 s2 s3 s4 sf t0 t1 t2 t3 t4 tf
      have d0 := d0'
      have d1 := d1'
      have d2 := d2'
      have d3 := d3'
      have d4 := d4'
      have df := df'
      have z0 := z0'
      have z1 := z1'
      have z2 := z2'
      have z3 := z3'
      have z4 := z4'
      have zf := zf'
      clear d0' d1' d2' d3' d4' df' z0' z1' z2' z3' z4' zf'
      have hl5 : (out ++ [(t : Int)]).length = out.length + 1 := by rw [List.length_append]; rfl
      have hlk : (out ++ [(t : Int)]).length = k + 1 := by rw [hl5, HOL.out]
      have HO5 := Lib.hid (show w5.ownsRow (w.heap.size + 2) 3 1 (.slice (some ⟨g2, 0, none⟩) (out ++ [(t : Int)]).length c2) (out ++ [(t : Int)]).length (zV (out ++ [(t : Int)])) by rw [hl5]; exact ho5)
      have HB5 := Lib.hid (HB4.out.grown hg5 HB4.out.size (fun g e => by have := (HO4.out.lt g e).1; omega))
      have hsz5 : w.heap.size + 1 < w5.heap.size := by have := hg5.size; omega
      clear ho5 hg5 hat5 HO4 HB4 hc4 hne5 hba hsa
      go_wp2_with fail
      go_roundw
      case rel => exact ⟨k + 1, .mk xt xk xs' xp xq, .mk yt yk ys' yp yq, gX, gY, fX, fY, gp, gq, fp, fq, out ++ [(t : Int)], some ⟨g2, 0, none⟩, c2, by omega, by go_num, by rw [hl5], HE3, Lib.hid hlk, HO5, HKX3, HKY3, HTX3, HTY3, d0, d1, d2, d3, d4, z0, z1, z2, z3, z4, df, zf, hsz5, HB5⟩
      case measure => simp [intOf]; omega
    · obtain rfl : n = k := by omega
      have hE := HE.out
      rw [List.drop_of_length_le (by rw [HN.out]; exact Nat.le_refl _)] at hE
      simp only [waV, Option.map_some, List.append_nil] at hE
      have HNO := Lib.hid hE.symm
      clear hE HE
      go_wp2_with fail
      rw [← HX.out, HNO.out]
      exact ⟨R, r, rfl, row_less HO.out (by omega), HB.out⟩
end Go.Proofs.YtcpfjlbicofkeaaDoor

namespace Go.Proofs.YtcpfjlbicofkeaaDoor
open Go.Maps
open Go.Joins Go.ChangeShapes Go.WideShapes Go.ChangeAt Go.RowKit Go.Deep
set_option linter.unusedVariables false
set_option linter.unusedSimpArgs false

theorem atT_cons {t u : Tr} {z : Int} {zs : List Int} (h : atT t (z :: zs) = some u) : ∃ (j : Nat) (x : Tr), z = (j : Int) ∧ t.ks[j]? = some x ∧ atT x zs = some u := by
  rw [atT] at h
  by_cases hr : 0 ≤ z ∧ z ≤ (t.ks.length : Int) - 1
  · rw [if_pos hr] at h
    obtain ⟨x, hx, h2⟩ := Option.bind_eq_some_iff.1 h
    exact ⟨z.toNat, x, by omega, hx, h2⟩
  · rw [if_neg hr] at h
    cases h
theorem heap3 (w : World) (o1 o2 o3 : Obj) : (((w.alloc o1).alloc o2).alloc o3).heap[w.heap.size + 1 + 1]? = some o3 := by
  have h := World.alloc_heap_new ((w.alloc o1).alloc o2) o3
  rw [World.size_alloc, World.size_alloc] at h
  exact h
set_option maxRecDepth 100000 in
set_option maxHeartbeats 8000000 in
theorem sway_any (a b : Tr) (zs : List Int) (n : Nat) (hn : zs.length = n) (hl : n ≤ 1048576) (hka : KdT a) (hkb : KdT b) (hat : ∃ u, atT a zs = some u) (A A0 A1 B0 B1 : Option Addr) (c c0 c1 e0 e1 : Nat) (w : World) (hzs : IntL w A zs) (ha : TrL w 0 A1 a.ks) (hb : TrL w 0 B1 b.ks) :
    Calls Tryd.prog 22 #[.agg #[.int .i64 a.tag, .int .i64 a.key, .string a.text, .slice A0 a.ps.length c0, .slice A1 a.ks.length c1], .agg #[.int .i64 b.tag, .int .i64 b.key, .string b.text, .slice B0 b.ps.length e0, .slice B1 b.ks.length e1], .slice A n c] w (WaX (if kin a = kin b then waV a b zs else none) w) := by
  have HN := Lib.hid hn
  have HZ := Lib.hid hzs
  have HA := Lib.hid ha
  have HB' := Lib.hid hb
  have HKA := Lib.hid hka
  have HKB := Lib.hid hkb
  have HAT0 := Lib.hid (show ∃ u, atT a (zs.drop 0) = some u from hat)
  obtain ⟨W, hW⟩ : ∃ q, (if kin a = kin b then waV a b zs else none) = q := ⟨_, rfl⟩
  rw [hW]
  have HW0 := Lib.hid hW
  obtain ⟨X, hX⟩ : ∃ X, WaX W w = X := ⟨_, rfl⟩
  have HX := Lib.hid hX
  rw [hX]
  clear hn hzs ha hb hka hkb hW hX hat
  by_cases hkk : a.tag = b.tag ∧ a.key = b.key
  case neg =>
    have HNO := Lib.hid (show W = none from by have h := HW0.out; rw [if_neg (fun e => hkk ⟨congrArg Prod.fst e, congrArg Prod.snd e⟩)] at h; exact h.symm)
    by_cases h0 : a.tag = b.tag
    · have h1 : (a.key == b.key) = false := by simpa using fun e => hkk ⟨h0, e⟩
      go_enter Tryd.func22, Tryd.ntmps22
      go_wp2_with fail
      rw [← HX.out, HNO.out]
      exact wax_none (by go_grown)
    · have h1 : (a.tag == b.tag) = false := by simpa using h0
      go_enter Tryd.func22, Tryd.ntmps22
      go_wp2_with fail
      rw [← HX.out, HNO.out]
      exact wax_none (by go_grown)
  obtain ⟨hk0, hk1⟩ := hkk
  have HW := Lib.hid (show (waV a b (zs.drop 0)).map (([] : List Int) ++ ·) = W from by have h := HW0.out; rw [if_pos (Prod.ext hk0 hk1)] at h; rw [List.drop_zero, h]; cases W <;> rfl)
  go_enter Tryd.func22, Tryd.ntmps22
  go_wp2_with fail
  have HK0 := Lib.hid hk0
  have HK1 := Lib.hid hk1
  clear hk0 hk1
  go_loopw [8, 9] (fun o i wr => ∃ (k : Nat) (x y : Tr) (X0 X1 Y0 Y1 : Option Addr) (p0 p1 q0 q1 : Nat) (out : List Int) (R : Option Addr) (r : Nat), k ≤ n ∧ i = .int .i64 k ∧ o = .slice R out.length r ∧ Hid ((waV x y (zs.drop k)).map (out ++ ·) = W) ∧ Hid (∃ u, atT x (zs.drop k) = some u) ∧ Hid (out.length = k) ∧ Hid (wr.ownsRow (w.heap.size + 2) 3 1 (.slice R out.length r) out.length (zV out)) ∧ Hid (KdT x) ∧ Hid (KdT y) ∧ Hid (TrL w 0 X1 x.ks) ∧ Hid (TrL w 0 Y1 y.ks) ∧ wr.cell? ⟨w.heap.size, 0, none⟩ = some (.int .i64 x.tag) ∧ wr.cell? ⟨w.heap.size, 1, none⟩ = some (.int .i64 x.key) ∧ wr.cell? ⟨w.heap.size, 2, none⟩ = some (.string x.text) ∧ wr.cell? ⟨w.heap.size, 3, none⟩ = some (.slice X0 x.ps.length p0) ∧ wr.cell? ⟨w.heap.size, 4, none⟩ = some (.slice X1 x.ks.length p1) ∧ wr.cell? ⟨w.heap.size + 1, 0, none⟩ = some (.int .i64 y.tag) ∧ wr.cell? ⟨w.heap.size + 1, 1, none⟩ = some (.int .i64 y.key) ∧ wr.cell? ⟨w.heap.size + 1, 2, none⟩ = some (.string y.text) ∧ wr.cell? ⟨w.heap.size + 1, 3, none⟩ = some (.slice Y0 y.ps.length q0) ∧ wr.cell? ⟨w.heap.size + 1, 4, none⟩ = some (.slice Y1 y.ks.length q1) ∧ (∀ o, wr.frozen? ⟨w.heap.size, o, none⟩ = false) ∧ (∀ o, wr.frozen? ⟨w.heap.size + 1, o, none⟩ = false) ∧ w.heap.size + 1 < wr.heap.size ∧ Hid (Below w.heap.size w wr)) (fun _ i _ => n - (intOf i).toNat)
  case atStart =>
    refine ⟨0, a, b, A0, A1, B0, B1, c0, c1, e0, e1, [], some ⟨w.heap.size + 1 + 1, 0, none⟩, 0, by omega, rfl, rfl, HW, HAT0, Lib.hid rfl, Lib.hid ⟨rfl, .inr ⟨w.heap.size + 1 + 1, 0, #[], rfl, Nat.le_refl _, ?_, Nat.le_refl _, by decide, rfl, rfl⟩⟩, HKA, HKB, HA, HB', ?_, ?_, ?_, ?_, ?_, ?_, ?_, ?_, ?_, ?_, fun o => ?_, fun o => ?_, by simp, Lib.hid (by go_grown)⟩
    all_goals first | exact heap3 _ _ _ _ | (go_simp; done) | (rw [HK0.out]; go_simp; done) | (rw [HK1.out]; go_simp; done)
  case round =>
    obtain ⟨k, x, y, X0, X1, Y0, Y1, p0, p1, q0, q1, out, R, r, hk, rfl, rfl, HE, HAT, HOL, HO, HKX, HKY, HTX, HTY, d0, d1, d2, d3, d4, z0, z1, z2, z3, z4, df, zf, hsz, HB⟩ := hrel
    by_cases hlt : k < n
    · skip
      obtain ⟨z, hz⟩ := at_some (show k < zs.length by rw [HN.out]; exact hlt)
      obtain ⟨bz, oz, rfl, hbz, ez0⟩ := HZ.out.at_ hz
      have ez := (HB.out.cell (p := ⟨bz, _, none⟩) hbz).trans ez0
      have hE := HE.out
      rw [drop_consI hz] at hE
      obtain ⟨u, hat⟩ := HAT.out
      rw [drop_consI hz] at hat
      obtain ⟨j, x', rfl, hx', hat2⟩ := atT_cons hat
      have HAT2 := Lib.hid (show ∃ u, atT x' (zs.drop (k + 1)) = some u from ⟨u, hat2⟩)
      obtain ⟨hx0, hx1, hx2⟩ := HKX.out.open_
      obtain ⟨hy0, hy1, hy2⟩ := HKY.out.open_
      have hi1 : (0 : Int) ≤ (k : Int) := by omega
      have hi2 : (k : Int) < (n : Int) := by omega
      have KP := Lib.hid (fun w' (hb : Below w.heap.size w w') => spartners_any x.ks y.ks x.ks.length y.ks.length rfl rfl hx0 hy0 X1 Y1 p1 q1 w' (HTX.out.below hb) (HTY.out.below hb))
      have HX2 := Lib.hid hx2
      have HY2 := Lib.hid hy2
      have HE2 := Lib.hid hE
      have HXJ := Lib.hid hx'
      obtain ⟨lx, hlx⟩ : ∃ q, x.ks.length = q := ⟨_, rfl⟩
      obtain ⟨ly, hly⟩ : ∃ q, y.ks.length = q := ⟨_, rfl⟩
      rw [hlx] at d4 hx0 KP
      rw [hly] at z4 hy0 KP
      have HLX := Lib.hid hlx
      have HLY := Lib.hid hly
      obtain ⟨I, hI⟩ : ∃ q, idx (prtT x.ks y.ks) (j : Int) = q := ⟨_, rfl⟩
      have HI := Lib.hid hI
      have HZ0 := Lib.hid ez0
      clear hz hE hat hat2 hx' hx1 hx2 hy1 hy2 hlx hly hI HE HKX HKY HAT ez0
      go_wp2_with fail
      have hbd : Below wr.heap.size wr wr.drew := Below.drew (Below.refl _ _)
      replace d0 := (hbd.cell (p := ⟨w.heap.size, 0, none⟩) (by show w.heap.size < wr.heap.size; omega)).trans d0
      replace d1 := (hbd.cell (p := ⟨w.heap.size, 1, none⟩) (by show w.heap.size < wr.heap.size; omega)).trans d1
      replace d2 := (hbd.cell (p := ⟨w.heap.size, 2, none⟩) (by show w.heap.size < wr.heap.size; omega)).trans d2
      replace d3 := (hbd.cell (p := ⟨w.heap.size, 3, none⟩) (by show w.heap.size < wr.heap.size; omega)).trans d3
      replace d4 := (hbd.cell (p := ⟨w.heap.size, 4, none⟩) (by show w.heap.size < wr.heap.size; omega)).trans d4
      replace df := fun o => (hbd.frozen (p := ⟨w.heap.size, o, none⟩) (by show w.heap.size < wr.heap.size; omega)).trans (df o)
      replace z0 := (hbd.cell (p := ⟨w.heap.size + 1, 0, none⟩) (by show w.heap.size + 1 < wr.heap.size; omega)).trans z0
      replace z1 := (hbd.cell (p := ⟨w.heap.size + 1, 1, none⟩) (by show w.heap.size + 1 < wr.heap.size; omega)).trans z1
      replace z2 := (hbd.cell (p := ⟨w.heap.size + 1, 2, none⟩) (by show w.heap.size + 1 < wr.heap.size; omega)).trans z2
      replace z3 := (hbd.cell (p := ⟨w.heap.size + 1, 3, none⟩) (by show w.heap.size + 1 < wr.heap.size; omega)).trans z3
      replace z4 := (hbd.cell (p := ⟨w.heap.size + 1, 4, none⟩) (by show w.heap.size + 1 < wr.heap.size; omega)).trans z4
      replace zf := fun o => (hbd.frozen (p := ⟨w.heap.size + 1, o, none⟩) (by show w.heap.size + 1 < wr.heap.size; omega)).trans (zf o)
      replace ez := (hbd.cell (p := ⟨bz, _, none⟩) (by have := HB.out.size; show bz < wr.heap.size; omega)).trans ez
      replace HO := Lib.hid (ownsRow_below HO.out hbd)
      replace HB := Lib.hid (more HB.out (Nat.le_refl _) hbd)
      replace hsz := Nat.lt_of_lt_of_le hsz hbd.size
      have hHeld0 : (fun w' : World => w'.cell? ⟨w.heap.size, 4, none⟩ = some (.slice X1 lx p1) ∧ w'.cell? ⟨w.heap.size + 1, 4, none⟩ = some (.slice Y1 ly q1) ∧ w'.cell? ⟨bz, oz + k, none⟩ = some (.int .i64 (j : Int))) wr.drew := ⟨d4, z4, ez⟩
      refine wp_region_held_drew (S := (fun w' : World => w'.cell? ⟨w.heap.size, 4, none⟩ = some (.slice X1 lx p1) ∧ w'.cell? ⟨w.heap.size + 1, 4, none⟩ = some (.slice Y1 ly q1) ∧ w'.cell? ⟨bz, oz + k, none⟩ = some (.int .i64 (j : Int)))) (by kernel_rfl) hHeld0 (fun hHeld => ?_)
      clear hHeld0 hbd
      obtain ⟨wd, hwd⟩ : ∃ v, wr.drew = v := ⟨_, rfl⟩
      rw [hwd] at d0 d1 d2 d3 d4 df z0 z1 z2 z3 z4 zf ez HO HB hsz hHeld ⊢
      clear hwd
      refine wpAnyH_take (i := 0) (oi := _) (v := ?_) rfl (by kernel_rfl) (by kernel_rfl) (by kernel_rfl) (fun _ _ _ h => h) (Or.inl ⟨by kernel_rfl, ?_⟩) (by assumption) ?_
      rotate_left
      · (intro w hSw; (try dsimp only at hSw); go_simp)
        try with_reducible rfl
      (try simp only [Act.put, List.getElem_toArray, List.getElem_cons_zero, List.getElem_cons_succ, List.setIfInBounds_toArray, List.set_cons_zero, List.set_cons_succ])
      refine wpAnyH_take (i := 1) (oi := _) (v := ?_) rfl (by kernel_rfl) (by kernel_rfl) (by kernel_rfl) (fun _ _ _ h => h) (Or.inl ⟨by kernel_rfl, ?_⟩) (by assumption) ?_
      rotate_left
      · (intro w hSw; (try dsimp only at hSw); go_simp)
        try with_reducible rfl
      (try simp only [Act.put, List.getElem_toArray, List.getElem_cons_zero, List.getElem_cons_succ, List.setIfInBounds_toArray, List.set_cons_zero, List.set_cons_succ])
      refine wpAnyH_take (i := 2) (oi := _) (v := ?_) rfl (by kernel_rfl) (by kernel_rfl) (by kernel_rfl) (fun _ _ _ h => h) (Or.inl ⟨by kernel_rfl, ?_⟩) (by assumption) ?_
      rotate_left
      · (intro w hSw; (try dsimp only at hSw); go_simp)
        try with_reducible rfl
      (try simp only [Act.put, List.getElem_toArray, List.getElem_cons_zero, List.getElem_cons_succ, List.setIfInBounds_toArray, List.set_cons_zero, List.set_cons_succ])
      refine wpAnyH_take (i := 3) (oi := _) (v := ?_) rfl (by kernel_rfl) (by kernel_rfl) (by kernel_rfl) (fun _ _ _ h => h) (Or.inl ⟨by kernel_rfl, ?_⟩) (by assumption) ?_
      rotate_left
      · (intro w hSw; (try dsimp only at hSw); go_simp)
        try with_reducible rfl
      (try simp only [Act.put, List.getElem_toArray, List.getElem_cons_zero, List.getElem_cons_succ, List.setIfInBounds_toArray, List.set_cons_zero, List.set_cons_succ])
      refine wpAnyH_take (i := 5) (oi := _) (v := ?_) rfl (by kernel_rfl) (by kernel_rfl) (by kernel_rfl) (fun _ _ _ h => h) (Or.inl ⟨by kernel_rfl, ?_⟩) (by assumption) ?_
      rotate_left
      · (intro w hSw; (try dsimp only at hSw); go_simp)
        try with_reducible rfl
      (try simp only [Act.put, List.getElem_toArray, List.getElem_cons_zero, List.getElem_cons_succ, List.setIfInBounds_toArray, List.set_cons_zero, List.set_cons_succ])
      refine wpAnyH_take (i := 6) (oi := _) (v := ?_) rfl (by kernel_rfl) (by kernel_rfl) (by kernel_rfl) (fun _ _ _ h => h) (Or.inl ⟨by kernel_rfl, ?_⟩) (by assumption) ?_
      rotate_left
      · (intro w hSw; (try dsimp only at hSw); go_simp)
        try with_reducible rfl
      (try simp only [Act.put, List.getElem_toArray, List.getElem_cons_zero, List.getElem_cons_succ, List.setIfInBounds_toArray, List.set_cons_zero, List.set_cons_succ])
      refine wpAnyH_take (i := 7) (oi := _) (v := ?_) rfl (by kernel_rfl) (by kernel_rfl) (by kernel_rfl) (fun _ _ _ h => h) (Or.inl ⟨by kernel_rfl, ?_⟩) (by assumption) ?_
      rotate_left
      · (intro w hSw; (try dsimp only at hSw); go_simp)
        try with_reducible rfl
      (try simp only [Act.put, List.getElem_toArray, List.getElem_cons_zero, List.getElem_cons_succ, List.setIfInBounds_toArray, List.set_cons_zero, List.set_cons_succ])
      refine wpAnyH_take (i := 8) (oi := _) (v := ?_) rfl (by kernel_rfl) (by kernel_rfl) (by kernel_rfl) (fun _ _ _ h => h) (Or.inl ⟨by kernel_rfl, ?_⟩) (by assumption) ?_
      rotate_left
      · (intro w hSw; (try dsimp only at hSw); go_simp)
        try with_reducible rfl
      (try simp only [Act.put, List.getElem_toArray, List.getElem_cons_zero, List.getElem_cons_succ, List.setIfInBounds_toArray, List.set_cons_zero, List.set_cons_succ])
      refine wpAnyH_ready (rs := [4]) (by kernel_rfl) (by simp) ?_
      refine AllReadyH.cons (o := _) rfl (fun K hK => ?_) AllReadyH.nil
      go_simp
      refine (KP.out wd HB.out).mono ?_
      rintro e v0 ⟨P, pc, rfl, hrow, hb⟩
      replace d0 := (hb.cell (p := ⟨w.heap.size, 0, none⟩) (by show w.heap.size < wd.heap.size; omega)).trans d0
      replace d1 := (hb.cell (p := ⟨w.heap.size, 1, none⟩) (by show w.heap.size < wd.heap.size; omega)).trans d1
      replace d2 := (hb.cell (p := ⟨w.heap.size, 2, none⟩) (by show w.heap.size < wd.heap.size; omega)).trans d2
      replace d3 := (hb.cell (p := ⟨w.heap.size, 3, none⟩) (by show w.heap.size < wd.heap.size; omega)).trans d3
      replace d4 := (hb.cell (p := ⟨w.heap.size, 4, none⟩) (by show w.heap.size < wd.heap.size; omega)).trans d4
      replace df := fun o => (hb.frozen (p := ⟨w.heap.size, o, none⟩) (by show w.heap.size < wd.heap.size; omega)).trans (df o)
      replace z0 := (hb.cell (p := ⟨w.heap.size + 1, 0, none⟩) (by show w.heap.size + 1 < wd.heap.size; omega)).trans z0
      replace z1 := (hb.cell (p := ⟨w.heap.size + 1, 1, none⟩) (by show w.heap.size + 1 < wd.heap.size; omega)).trans z1
      replace z2 := (hb.cell (p := ⟨w.heap.size + 1, 2, none⟩) (by show w.heap.size + 1 < wd.heap.size; omega)).trans z2
      replace z3 := (hb.cell (p := ⟨w.heap.size + 1, 3, none⟩) (by show w.heap.size + 1 < wd.heap.size; omega)).trans z3
      replace z4 := (hb.cell (p := ⟨w.heap.size + 1, 4, none⟩) (by show w.heap.size + 1 < wd.heap.size; omega)).trans z4
      replace zf := fun o => (hb.frozen (p := ⟨w.heap.size + 1, o, none⟩) (by show w.heap.size + 1 < wd.heap.size; omega)).trans (zf o)
      replace ez := (hb.cell (p := ⟨bz, _, none⟩) (by have := HB.out.size; show bz < wd.heap.size; omega)).trans ez
      replace HO := Lib.hid (ownsRow_below HO.out hb)
      replace HB := Lib.hid (more HB.out (Nat.le_refl _) hb)
      replace hsz := Nat.lt_of_lt_of_le hsz hb.size
      rw [prtT_len, HLY.out] at hrow ⊢
      have KI := Lib.hid (sindex_any P pc ly (prtT x.ks y.ks) (j : Int) v0 (IntL.of_any (by rw [prtT_len, HLY.out]; exact hrow)) (by rw [prtT_len, HLY.out]) (by unfold maxLen; omega))
      rw [HI.out] at KI
      refine hK.out _ _ ⟨d4, z4, ez⟩ (fun hHeld2 => ?_)
      clear hHeld hK K hrow hb KP
      have hHeld := hHeld2
      clear hHeld2
      (try simp only [Act.put, List.getElem_toArray, List.getElem_cons_zero, List.getElem_cons_succ, List.setIfInBounds_toArray, List.set_cons_zero, List.set_cons_succ])
      refine wpAnyH_ready (rs := [9]) (by kernel_rfl) (by simp) ?_
      refine AllReadyH.cons (o := _) rfl (fun K hK => ?_) AllReadyH.nil
      go_simp
      refine KI.out.mono ?_
      rintro e v9 ⟨rfl, rfl⟩
      refine hK.out _ _ hHeld (fun hHeld2 => ?_)
      clear hHeld2 hK K KI
      (try simp only [Act.put, List.getElem_toArray, List.getElem_cons_zero, List.getElem_cons_succ, List.setIfInBounds_toArray, List.set_cons_zero, List.set_cons_succ])
      refine wpAnyH_take (i := 10) (oi := _) (v := ?_) rfl (by kernel_rfl) (by kernel_rfl) (by kernel_rfl) (fun _ _ _ h => h) (Or.inl ⟨by kernel_rfl, ?_⟩) (by assumption) ?_
      rotate_left
      · (intro w hSw; (try dsimp only at hSw); go_simp)
        try with_reducible rfl
      (try simp only [Act.put, List.getElem_toArray, List.getElem_cons_zero, List.getElem_cons_succ, List.setIfInBounds_toArray, List.set_cons_zero, List.set_cons_succ])
      refine wpAnyH_done (by kernel_rfl) ?_ _
      clear hHeld
      obtain ⟨v0, hv0⟩ : ∃ v, v9 = v := ⟨_, rfl⟩
      rw [hv0] at d0 d1 d2 d3 d4 df z0 z1 z2 z3 z4 zf ez HO HB hsz ⊢
      clear hv0
      by_cases h1 : I < 0
      · have HNO := Lib.hid (show W = none from by have h := HE2.out; rw [waV_no (.inr (by rw [HI.out]; exact h1))] at h; exact h.symm)
        have hd1 : decide (I < 0) = true := by simpa using h1
        go_wp2_with fail
        rw [← HX.out, HNO.out]
        exact wax_none HB.out
      have hd1 : decide (I < 0) = false := by simpa using h1
      obtain ⟨j2, t, x2, y', hj2e, hIt, hx2, hy', hgo⟩ := waV_go (way := zs.drop (k + 1)) (show ¬ (j : Int) < 0 by omega) (by rw [HI.out]; exact h1)
      obtain rfl : j = j2 := by omega
      obtain rfl : x' = x2 := by
        have h := HXJ.out
        rw [hx2] at h
        injection h with h
        exact h.symm
      rw [HI.out] at hIt
      subst hIt
      have HE3 := Lib.hid (show (waV x' y' (zs.drop (k + 1))).map ((out ++ [(t : Int)]) ++ ·) = W from by
        have h := HE2.out
        rw [hgo, Option.map_map] at h
        rw [← h]
        congr 1
        funext l
        simp)
      have HKX3 := Lib.hid (HX2.out x' (List.mem_of_getElem? hx2))
      have HKY3 := Lib.hid (HY2.out y' (List.mem_of_getElem? hy'))
      have HXJ2 := Lib.hid hx2
      have HYJ2 := Lib.hid hy'
      have hj1 : (0 : Int) ≤ (j : Int) := by omega
      have hj2 : (j : Int) < (lx : Int) := by have := (List.getElem?_eq_some_iff.1 hx2).1; have := HLX.out; omega
      have ht1 : (0 : Int) ≤ (t : Int) := by omega
      have ht2 : (t : Int) < (ly : Int) := by have := (List.getElem?_eq_some_iff.1 hy').1; have := HLY.out; omega
      have hwz := HB.out.size
      clear hgo hx2 hy' hj2e HE2 HX2 HY2 HI h1 HLX HLY HXJ ez
      have hsz2 : w.heap.size + 1 < v0.heap.size := by omega
      have hba := Below.alloc (Below.refl v0.heap.size v0) (Nat.le_refl _) (.cells #[.int .i64 (t : Int)] 3)
      have hc4 : (v0.alloc (.cells #[.int .i64 (t : Int)] 3)).cell? ⟨v0.heap.size, 0, none⟩ = some (.int .i64 (t : Int)) := by rw [World.cell?_alloc_new]; rfl
      have HO4 := Lib.hid (ownsRow_below HO.out hba)
      have HB4 := Lib.hid (HB.out.trans (hba.mono HB.out.size))
      clear hba HO HB
      go_wp2_with (at_builtin; refine wp_add_num rfl (.tmp 42) (.tmp 44) rfl (w.heap.size + 2) out.length R r out rfl rfl HO4.out ⟨v0.heap.size, 0, none⟩ 1 (t : Int) rfl hc4 (by have := HOL.out; omega) (by simp only [World.size_alloc]; omega) ?_)
      intro g2' c2 w5 ho5 hg5 hat5
      have hne5 : ∀ b, b < w.heap.size + 2 → some b ≠ (Value.slice R out.length r).ownBlock := fun b hb e => by
        have := (HO4.out.lt b e.symm).1
        omega
      have hba := Below.alloc (Below.refl v0.heap.size v0) (Nat.le_refl _) (.cells #[.int .i64 (t : Int)] 3)
      have hsa : v0.heap.size < (v0.alloc (.cells #[.int .i64 (t : Int)] 3)).heap.size := by simp
      have d0' := ((World.cell?_of_block (a := ⟨w.heap.size, 0, none⟩) (hg5.block (w.heap.size) (by omega) (hne5 _ (by omega)))).trans (hba.cell (p := ⟨w.heap.size, 0, none⟩) (by show w.heap.size < v0.heap.size; omega))).trans d0
      have d1' := ((World.cell?_of_block (a := ⟨w.heap.size, 1, none⟩) (hg5.block (w.heap.size) (by omega) (hne5 _ (by omega)))).trans (hba.cell (p := ⟨w.heap.size, 1, none⟩) (by show w.heap.size < v0.heap.size; omega))).trans d1
      have d2' := ((World.cell?_of_block (a := ⟨w.heap.size, 2, none⟩) (hg5.block (w.heap.size) (by omega) (hne5 _ (by omega)))).trans (hba.cell (p := ⟨w.heap.size, 2, none⟩) (by show w.heap.size < v0.heap.size; omega))).trans d2
      have d3' := ((World.cell?_of_block (a := ⟨w.heap.size, 3, none⟩) (hg5.block (w.heap.size) (by omega) (hne5 _ (by omega)))).trans (hba.cell (p := ⟨w.heap.size, 3, none⟩) (by show w.heap.size < v0.heap.size; omega))).trans d3
      have d4' := ((World.cell?_of_block (a := ⟨w.heap.size, 4, none⟩) (hg5.block (w.heap.size) (by omega) (hne5 _ (by omega)))).trans (hba.cell (p := ⟨w.heap.size, 4, none⟩) (by show w.heap.size < v0.heap.size; omega))).trans d4
      have z0' := ((World.cell?_of_block (a := ⟨w.heap.size + 1, 0, none⟩) (hg5.block (w.heap.size + 1) (by omega) (hne5 _ (by omega)))).trans (hba.cell (p := ⟨w.heap.size + 1, 0, none⟩) (by show w.heap.size + 1 < v0.heap.size; omega))).trans z0
      have z1' := ((World.cell?_of_block (a := ⟨w.heap.size + 1, 1, none⟩) (hg5.block (w.heap.size + 1) (by omega) (hne5 _ (by omega)))).trans (hba.cell (p := ⟨w.heap.size + 1, 1, none⟩) (by show w.heap.size + 1 < v0.heap.size; omega))).trans z1
      have z2' := ((World.cell?_of_block (a := ⟨w.heap.size + 1, 2, none⟩) (hg5.block (w.heap.size + 1) (by omega) (hne5 _ (by omega)))).trans (hba.cell (p := ⟨w.heap.size + 1, 2, none⟩) (by show w.heap.size + 1 < v0.heap.size; omega))).trans z2
      have z3' := ((World.cell?_of_block (a := ⟨w.heap.size + 1, 3, none⟩) (hg5.block (w.heap.size + 1) (by omega) (hne5 _ (by omega)))).trans (hba.cell (p := ⟨w.heap.size + 1, 3, none⟩) (by show w.heap.size + 1 < v0.heap.size; omega))).trans z3
      have z4' := ((World.cell?_of_block (a := ⟨w.heap.size + 1, 4, none⟩) (hg5.block (w.heap.size + 1) (by omega) (hne5 _ (by omega)))).trans (hba.cell (p := ⟨w.heap.size + 1, 4, none⟩) (by show w.heap.size + 1 < v0.heap.size; omega))).trans z4
      have df' := fun o => ((World.frozen?_of_block (a := ⟨w.heap.size, o, none⟩) (hg5.block (w.heap.size) (by omega) (hne5 _ (by omega)))).trans (hba.frozen (p := ⟨w.heap.size, o, none⟩) (by show w.heap.size < v0.heap.size; omega))).trans (df o)
      have zf' := fun o => ((World.frozen?_of_block (a := ⟨w.heap.size + 1, o, none⟩) (hg5.block (w.heap.size + 1) (by omega) (hne5 _ (by omega)))).trans (hba.frozen (p := ⟨w.heap.size + 1, o, none⟩) (by show w.heap.size + 1 < v0.heap.size; omega))).trans (zf o)
      clear d0 d1 d2 d3 d4 df z0 z1 z2 z3 z4 zf
      have d0 := d0'
      have d1 := d1'
      have d2 := d2'
      have d3 := d3'
      have d4 := d4'
      have df := df'
      have z0 := z0'
      have z1 := z1'
      have z2 := z2'
      have z3 := z3'
      have z4 := z4'
      have zf := zf'
      clear d0' d1' d2' d3' d4' df' z0' z1' z2' z3' z4' zf'
      have hl5 : (out ++ [(t : Int)]).length = out.length + 1 := by rw [List.length_append]; rfl
      have hlk : (out ++ [(t : Int)]).length = k + 1 := by rw [hl5, HOL.out]
      have HO5 := Lib.hid (show w5.ownsRow (w.heap.size + 2) 3 1 (.slice (some ⟨g2', 0, none⟩) (out ++ [(t : Int)]).length c2) (out ++ [(t : Int)]).length (zV (out ++ [(t : Int)])) by rw [hl5]; exact ho5)
      have HB5 := Lib.hid (HB4.out.grown hg5 HB4.out.size (fun g e => by have := (HO4.out.lt g e).1; omega))
      have hsz5 : w.heap.size + 1 < w5.heap.size := by have := hg5.size; omega
      clear ho5 hg5 hat5 HO4 HB4 hc4 hne5 hba hsa
      obtain ⟨ba, offa, gX, gp, gY, gq, rfl, glt, _, g0, g1, g2, g3, g4, gps, _, gks⟩ := HTX.out.at_ HXJ2.out
      replace g0 := (HB5.out.cell (p := ⟨ba, _, none⟩) glt).trans g0
      replace g1 := (HB5.out.cell (p := ⟨ba, _, none⟩) glt).trans g1
      replace g2 := (HB5.out.cell (p := ⟨ba, _, none⟩) glt).trans g2
      replace g3 := (HB5.out.cell (p := ⟨ba, _, none⟩) glt).trans g3
      replace g4 := (HB5.out.cell (p := ⟨ba, _, none⟩) glt).trans g4
      obtain ⟨bb, offb, fX, fp, fY, fq, rfl, flt, _, f0, f1, f2, f3, f4, fps, _, fks⟩ := HTY.out.at_ HYJ2.out
      replace f0 := (HB5.out.cell (p := ⟨bb, _, none⟩) flt).trans f0
      replace f1 := (HB5.out.cell (p := ⟨bb, _, none⟩) flt).trans f1
      replace f2 := (HB5.out.cell (p := ⟨bb, _, none⟩) flt).trans f2
      replace f3 := (HB5.out.cell (p := ⟨bb, _, none⟩) flt).trans f3
      replace f4 := (HB5.out.cell (p := ⟨bb, _, none⟩) flt).trans f4
      have HTX3 := Lib.hid gks
      have HTY3 := Lib.hid fks
      have ez := (HB5.out.cell (p := ⟨bz, _, none⟩) hbz).trans HZ0.out
      clear gps gks fps fks HTX HTY HXJ2 HYJ2 HZ0
      obtain ⟨xt, xk, xs', xp, xq⟩ := x'
      obtain ⟨yt, yk, ys', yp, yq⟩ := y'
      dsimp only [Tr.tag, Tr.key, Tr.text, Tr.ps, Tr.ks] at g0 g1 g2 g3 g4 f0 f1 f2 f3 f4 HTX3 HTY3
      go_wp2_with fail
      refine wp_region_still_tail 8 (by kernel_rfl) (by kernel_rfl) ?_
      change wpStill _ _ w5.drew _ _ _
      simp only [List.take_succ_cons, List.take_zero, List.drop_succ_cons, List.drop_zero]
      repeat still_step
      refine wpStill_nil ?_
      change wpList _ _ _ _ _ w5.drew
      have hbd : Below w5.heap.size w5 w5.drew := Below.drew (Below.refl _ _)
      have hsz := hsz5
      have HO := HO5
      have HB := HB5
      clear hsz5 HO5 HB5
      replace d0 := (hbd.cell (p := ⟨w.heap.size, 0, none⟩) (by show w.heap.size < w5.heap.size; omega)).trans d0
      replace d1 := (hbd.cell (p := ⟨w.heap.size, 1, none⟩) (by show w.heap.size < w5.heap.size; omega)).trans d1
      replace d2 := (hbd.cell (p := ⟨w.heap.size, 2, none⟩) (by show w.heap.size < w5.heap.size; omega)).trans d2
      replace d3 := (hbd.cell (p := ⟨w.heap.size, 3, none⟩) (by show w.heap.size < w5.heap.size; omega)).trans d3
      replace d4 := (hbd.cell (p := ⟨w.heap.size, 4, none⟩) (by show w.heap.size < w5.heap.size; omega)).trans d4
      replace df := fun o => (hbd.frozen (p := ⟨w.heap.size, o, none⟩) (by show w.heap.size < w5.heap.size; omega)).trans (df o)
      replace z0 := (hbd.cell (p := ⟨w.heap.size + 1, 0, none⟩) (by show w.heap.size + 1 < w5.heap.size; omega)).trans z0
      replace z1 := (hbd.cell (p := ⟨w.heap.size + 1, 1, none⟩) (by show w.heap.size + 1 < w5.heap.size; omega)).trans z1
      replace z2 := (hbd.cell (p := ⟨w.heap.size + 1, 2, none⟩) (by show w.heap.size + 1 < w5.heap.size; omega)).trans z2
      replace z3 := (hbd.cell (p := ⟨w.heap.size + 1, 3, none⟩) (by show w.heap.size + 1 < w5.heap.size; omega)).trans z3
      replace z4 := (hbd.cell (p := ⟨w.heap.size + 1, 4, none⟩) (by show w.heap.size + 1 < w5.heap.size; omega)).trans z4
      replace zf := fun o => (hbd.frozen (p := ⟨w.heap.size + 1, o, none⟩) (by show w.heap.size + 1 < w5.heap.size; omega)).trans (zf o)
      replace HO := Lib.hid (ownsRow_below HO.out hbd)
      replace f0 := (hbd.cell (p := ⟨bb, _, none⟩) (by show bb < w5.heap.size; omega)).trans f0
      replace f1 := (hbd.cell (p := ⟨bb, _, none⟩) (by show bb < w5.heap.size; omega)).trans f1
      replace f2 := (hbd.cell (p := ⟨bb, _, none⟩) (by show bb < w5.heap.size; omega)).trans f2
      replace f3 := (hbd.cell (p := ⟨bb, _, none⟩) (by show bb < w5.heap.size; omega)).trans f3
      replace f4 := (hbd.cell (p := ⟨bb, _, none⟩) (by show bb < w5.heap.size; omega)).trans f4
      replace HB := Lib.hid (more HB.out (Nat.le_refl _) hbd)
      replace hsz := Nat.lt_of_lt_of_le hsz hbd.size
      clear hbd ez g0 g1 g2 g3 g4
      obtain ⟨wd2, hwd⟩ : ∃ v, w5.drew = v := ⟨_, rfl⟩
      rw [hwd] at d0 d1 d2 d3 d4 df z0 z1 z2 z3 z4 zf f0 f1 f2 f3 f4 HO HB hsz ⊢
      clear hwd
      obtain ⟨v1, hn1, hb7, hf7, hs7, s0, s1, s2, s3, s4, sf, hbs⟩ := put5 (w := wd2) (B := w.heap.size) d0 d1 d2 d3 d4 df (.int .i64 xt) (.int .i64 xk) (.string xs') (.slice gX xp.length gp) (.slice gY xq.length gq) HB.out (Nat.le_refl _)
      replace hs7 : v1.heap.size = wd2.heap.size := hs7
      replace hb7 : ∀ k, k ≠ w.heap.size → v1.heap[k]? = wd2.heap[k]? := hb7
      replace hf7 : ∀ b o, b ≠ w.heap.size → v1.frozen? ⟨b, o, none⟩ = wd2.frozen? ⟨b, o, none⟩ := hf7
      replace z0 := (World.cell?_of_block (a := ⟨w.heap.size + 1, 0, none⟩) (hb7 (w.heap.size + 1) (by omega))).trans z0
      replace z1 := (World.cell?_of_block (a := ⟨w.heap.size + 1, 1, none⟩) (hb7 (w.heap.size + 1) (by omega))).trans z1
      replace z2 := (World.cell?_of_block (a := ⟨w.heap.size + 1, 2, none⟩) (hb7 (w.heap.size + 1) (by omega))).trans z2
      replace z3 := (World.cell?_of_block (a := ⟨w.heap.size + 1, 3, none⟩) (hb7 (w.heap.size + 1) (by omega))).trans z3
      replace z4 := (World.cell?_of_block (a := ⟨w.heap.size + 1, 4, none⟩) (hb7 (w.heap.size + 1) (by omega))).trans z4
      replace zf := fun o => (hf7 (w.heap.size + 1) o (by omega)).trans (zf o)
      replace HO := Lib.hid (own_at HO.out (fun g cur e hg => hb7 g (by have := (HO.out.lt g e).1; omega)))
      replace f0 := (World.cell?_of_block (a := ⟨bb, _, none⟩) (hb7 bb (by omega))).trans f0
      replace f1 := (World.cell?_of_block (a := ⟨bb, _, none⟩) (hb7 bb (by omega))).trans f1
      replace f2 := (World.cell?_of_block (a := ⟨bb, _, none⟩) (hb7 bb (by omega))).trans f2
      replace f3 := (World.cell?_of_block (a := ⟨bb, _, none⟩) (hb7 bb (by omega))).trans f3
      replace f4 := (World.cell?_of_block (a := ⟨bb, _, none⟩) (hb7 bb (by omega))).trans f4
      obtain ⟨v2, hn2, hb8, hf8, hs8, t0, t1, t2, t3, t4, tf, hbt⟩ := put5 (w := v1) (B := w.heap.size + 1) z0 z1 z2 z3 z4 zf (.int .i64 yt) (.int .i64 yk) (.string ys') (.slice fX yp.length fp) (.slice fY yq.length fq) hbs (by omega)
      replace HO := Lib.hid (own_at HO.out (fun g cur e hg => hb8 g (by have := (HO.out.lt g e).1; omega)))
      replace s0 := (World.cell?_of_block (a := ⟨w.heap.size, 0, none⟩) (hb8 w.heap.size (by omega))).trans s0
      replace s1 := (World.cell?_of_block (a := ⟨w.heap.size, 1, none⟩) (hb8 w.heap.size (by omega))).trans s1
      replace s2 := (World.cell?_of_block (a := ⟨w.heap.size, 2, none⟩) (hb8 w.heap.size (by omega))).trans s2
      replace s3 := (World.cell?_of_block (a := ⟨w.heap.size, 3, none⟩) (hb8 w.heap.size (by omega))).trans s3
      replace s4 := (World.cell?_of_block (a := ⟨w.heap.size, 4, none⟩) (hb8 w.heap.size (by omega))).trans s4
      replace sf := fun o => (hf8 w.heap.size o (by omega)).trans (sf o)
      have hsz9 : w.heap.size + 1 < v2.heap.size := by omega
      have HBT := Lib.hid hbt
      clear hb7 hf7 hs7 hbs hb8 hf8 hs8 hbt
      go_wp2_with fail
      go_roundw
      case rel => exact ⟨k + 1, .mk xt xk xs' xp xq, .mk yt yk ys' yp yq, gX, gY, fX, fY, gp, gq, fp, fq, out ++ [(t : Int)], some ⟨g2', 0, none⟩, c2, by omega, by go_num, by rw [hl5], HE3, HAT2, Lib.hid hlk, HO, HKX3, HKY3, HTX3, HTY3, s0, s1, s2, s3, s4, t0, t1, t2, t3, t4, sf, tf, hsz9, HBT⟩
      case measure => simp [intOf]; omega
    · obtain rfl : n = k := by omega
      have hE := HE.out
      rw [List.drop_of_length_le (by rw [HN.out]; exact Nat.le_refl _)] at hE
      simp only [waV, Option.map_some, List.append_nil] at hE
      have HNO := Lib.hid hE.symm
      clear hE HE
      go_wp2_with fail
      rw [← HX.out, HNO.out]
      exact ⟨R, r, rfl, row_less HO.out (by omega), HB.out⟩
end Go.Proofs.YtcpfjlbicofkeaaDoor
