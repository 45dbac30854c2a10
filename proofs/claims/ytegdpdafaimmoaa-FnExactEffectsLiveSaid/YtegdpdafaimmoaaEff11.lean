/- What lives, at the program: its box, its row, its set; an effect that changes nothing. -/
import Derived.Test.YtegdpdafaimmoaaEff10
import Derived.Maps.Own
import Derived.Maps.OwnSet
namespace Go.Proofs.Ytegdpdafaimmoaa
open Go.Joins Go.ChangeShapes Go.WideShapes Go.ChangeAt Go.RowKit Go.Deep Go.Maps Go.Sort
set_option linter.unusedVariables false
set_option linter.unusedSimpArgs false

theorem lawS : Keyed Try.prog 9 := string_keyed Try.underlying9
/-- A value read as itself. -/
def RV (v : Value) : Option (DataW Value × List MemPlace) := some (.held v, [])
theorem Fits.tail {x : Sl} {xs : List Sl} (h : Fits (x :: xs)) : Fits xs := fun y hy => h y (List.mem_cons_of_mem _ hy)
theorem keyB_cons (x : Sl) (xs : List Sl) : keyB (x :: xs) = UInt8.ofNat x.p.toNat :: UInt8.ofNat x.s.toNat :: keyB xs := rfl
theorem keyB_inj : ∀ (a b : List Sl), Fits a → Fits b → keyB a = keyB b → a = b
  | [], [], _, _, _ => rfl
  | [], y :: b, _, _, h => by rw [keyB_cons] at h; cases h
  | x :: a, [], _, _, h => by rw [keyB_cons] at h; cases h
  | x :: a, y :: b, ha, hb, h => by
    have fx := ha x (by simp)
    have fy := hb y (by simp)
    rw [keyB_cons, keyB_cons] at h
    injection h with h1 h2
    injection h2 with h2 h3
    have e1 := congrArg UInt8.toNat h1
    have e2 := congrArg UInt8.toNat h2
    rw [UInt8.toNat_ofNat', UInt8.toNat_ofNat'] at e1 e2
    rw [keyB_inj a b ha.tail hb.tail h3]
    congr 1
    obtain ⟨p, s⟩ := x
    obtain ⟨q, t⟩ := y
    simp only at fx fy e1 e2
    simp only [Sl.mk.injEq]
    omega
theorem key_lit (t : List UInt8) (h : t.length ≤ 1000000) : keyOf Try.prog 9 (.string ⟨t.toArray⟩) = some (.string t) := by
  have hs : (⟨t.toArray⟩ : ByteArray).size ≤ maxLen := by show t.toArray.size ≤ _; unfold maxLen; simp; omega
  simp [keyOf, mapKey, Try.underlying9, hs]

set_option maxRecDepth 100000 in
/-- What lives: the box at l, its places, its set at bm. -/
structure LivS (w0 w : World) (l bm n : Nat) (D : DataW Value) (V : Value) (L : List Value) (ps : List (List Sl)) : Prop where
  c0 : w.cell? ⟨l, 0, none⟩ = some V
  c1 : w.cell? ⟨l, 1, none⟩ = some (.map (some bm))
  fz : ∀ o, w.frozen? ⟨l, o, none⟩ = false
  row : w.ownsRow w0.heap.size 37 1 V ps.length L
  lv : LvP w0 L ps
  mp : w.ownsMap Try.prog 9 RV bm n D
  key : ∀ p, placeB p = true → D.atKey (.string (keyB p)) (.held (.bool false)) = .held (.bool (decide (p ∈ ps)))
  l0 : w0.heap.size ≤ l
  b0 : w0.heap.size ≤ bm
  nl : ∀ b, V.ownBlock = some b → b ≠ l
  hb : Below w0.heap.size w0 w
theorem LivS.below {w0 w w' : World} {l bm n : Nat} {D : DataW Value} {V : Value} {L : List Value} {ps : List (List Sl)} (h : LivS w0 w l bm n D V L ps) (hb : Below w.heap.size w w') : LivS w0 w' l bm n D V L ps :=
  have hl := World.block_lt_of_cell? w _ h.c0
  ⟨(hb.cell (p := ⟨l, 0, none⟩) hl).trans h.c0, (hb.cell (p := ⟨l, 1, none⟩) hl).trans h.c1, fun o => (hb.frozen (p := ⟨l, o, none⟩) hl).trans (h.fz o), ownsRow_below h.row hb, h.lv, h.mp.kept (grown_of_below hb none) (by simp), h.key, h.l0, h.b0, h.nl, more h.hb (Nat.le_refl _) hb⟩
set_option maxRecDepth 100000 in
set_option maxHeartbeats 2000000 in
theorem take_same (w0 w : World) (l bm n c u : Nat) (ad : Addr) (D : DataW Value) (V : Value) (L : List Value) (ps : List (List Sl)) (x : Ef) (h : LivS w0 w l bm n D V L ps) (hx : SlL w0 (some ad) x.pl) (hu : x.pl.length = u) (hp : placeB x.pl = true) (r : Bool) (hr : (r = false ∧ stepLv ps x = none) ∨ (r = true ∧ stepLv ps x = some ps ∧ x.k = 2)) :
    Calls Try.prog 36 #[.pointer (some ⟨l, 0, none⟩), .agg #[.int .i64 x.k, .slice (some ad) u c]] w fun e w' => e = .returned (.bool r) ∧ Below w.heap.size w w' := by
  obtain ⟨xk, hxk⟩ : ∃ v, x.k = v := ⟨_, rfl⟩
  have hlen := placeB_len hp
  have hkl := keyB_len x.pl
  have hlit := key_lit (keyB x.pl) (by omega)
  have hkey := h.key x.pl hp
  obtain ⟨t, ht⟩ : ∃ t, decide (x.pl ∈ ps) = t := ⟨_, rfl⟩
  rw [ht] at hkey
  have hcase : (r = false ∧ ((xk = 1 ∧ t = true) ∨ (xk = 0 ∧ t = false) ∨ (xk ≠ 0 ∧ xk ≠ 1 ∧ (xk ≠ 2 ∨ t = false)))) ∨ (r = true ∧ xk = 2 ∧ t = true) := by
    subst hxk
    subst ht
    unfold stepLv at hr
    rw [if_neg (by simp [hp])] at hr
    by_cases hm : x.pl ∈ ps <;> by_cases h1 : x.k = 1 <;> by_cases h0 : x.k = 0 <;> by_cases h2 : x.k = 2 <;> simp [hm, h1, h0, h2] at hr ⊢ <;> first | exact hr | omega | simp_all
  rw [hxk]
  have k1 := fun w (hb : Below w0.heap.size w0 w) => keyOf_any (some ad) c u x.pl w (hx.below hb) hu (by omega) (Fits.of_place hp)
  have K1 := Lib.hid k1
  have HL := Lib.hid h
  have HLIT := Lib.hid hlit
  have HKEY := Lib.hid hkey
  have hl := World.block_lt_of_cell? w _ h.c0
  have hb0 := Below.alloc (Below.refl w.heap.size w) (Nat.le_refl _) (.cells #[.int .i64 xk, .slice (some ad) u c] 55)
  have HA := Lib.hid (h.below hb0)
  have HB0 := Lib.hid hb0
  have a0 : (w.alloc (.cells #[.int .i64 xk, .slice (some ad) u c] 55)).cell? ⟨w.heap.size, 0, none⟩ = some (.int .i64 xk) := by rw [World.cell?_alloc_new]; rfl
  have a1 : (w.alloc (.cells #[.int .i64 xk, .slice (some ad) u c] 55)).cell? ⟨w.heap.size, 1, none⟩ = some (.slice (some ad) u c) := by rw [World.cell?_alloc_new]; rfl
  obtain ⟨wa, hwa⟩ : ∃ v, w.alloc (.cells #[.int .i64 xk, .slice (some ad) u c] 55) = v := ⟨_, rfl⟩
  have hza : w.heap.size < wa.heap.size := by rw [← hwa]; simp
  rw [hwa] at HA HB0 a0 a1
  clear h hx hu hp hr k1 hlit hkey hlen hkl hb0 hxk ht
  go_enter Try.func36, Try.ntmps36
  go_wp2_with fail
  (try rw [hwa])
  clear hwa
  refine (K1.out wa HA.out.hb).mono ?_
  rintro e w1 ⟨rfl, hb⟩
  replace a0 := (hb.cell (p := ⟨w.heap.size, 0, none⟩) hza).trans a0
  replace a1 := (hb.cell (p := ⟨w.heap.size, 1, none⟩) hza).trans a1
  have H1 := Lib.hid (HA.out.below hb)
  have HB1 := Lib.hid (more HB0.out (Nat.le_refl _) hb)
  have c0 := H1.out.c0
  have c1 := H1.out.c1
  have hz0 := Try.zeroValue4 w1
  obtain ⟨v0, pp, hrun, hv⟩ := H1.out.mp.lookup lawS Try.underlying58 hz0 (R := RV) rfl HLIT.out
  rw [HKEY.out] at hv
  have hv0 : v0 = .bool t := by
    have h : (some (DataW.held v0, ([] : List MemPlace)) : Option (DataW Value × List MemPlace)) = some (.held (.bool t), pp) := hv
    injection h with h
    injection h with h h'
    injection h
  subst hv0
  clear hv hz0 hb
  rcases hcase with ⟨rfl, ⟨rfl, rfl⟩ | ⟨rfl, rfl⟩ | ⟨n0, n1, n2⟩⟩ | ⟨rfl, rfl, rfl⟩
  · go_wp2_with fail
    go_ret
    exact ⟨rfl, HB1.out⟩
  · go_wp2_with fail
    go_ret
    exact ⟨rfl, HB1.out⟩
  · have m1 : (xk == 1) = false := by simpa using n1
    have m0 : (xk == 0) = false := by simpa using n0
    have d1 : decide (xk = 1) = false := by simpa using n1
    have d0 : decide (xk = 0) = false := by simpa using n0
    by_cases h2 : xk = 2
    · subst h2
      obtain rfl : t = false := by
        rcases n2 with h | h
        · exact absurd rfl h
        · exact h
      go_wp2_with fail
      go_ret
      exact ⟨rfl, HB1.out⟩
    · have m2 : (xk == 2) = false := by simpa using h2
      have d2 : decide (xk = 2) = false := by simpa using h2
      cases t
      all_goals
        go_wp2_with fail
        go_ret
        exact ⟨rfl, HB1.out⟩
  · go_wp2_with fail
    go_ret
    exact ⟨rfl, HB1.out⟩
end Go.Proofs.Ytegdpdafaimmoaa
