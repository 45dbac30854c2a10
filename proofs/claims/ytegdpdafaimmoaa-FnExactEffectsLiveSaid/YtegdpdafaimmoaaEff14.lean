/- One effect, and the program's EffectsLive. -/
import Derived.Test.YtegdpdafaimmoaaEff13
import Derived.Maps.Own
import Derived.Maps.OwnSet
namespace Go.Proofs.Ytegdpdafaimmoaa
open Go.Joins Go.ChangeShapes Go.WideShapes Go.ChangeAt Go.RowKit Go.Deep Go.Maps Go.Sort
set_option linter.unusedVariables false
set_option linter.unusedSimpArgs false

def TkX (r : Option (List (List Sl))) (w0 : World) (l bm n : Nat) (e : Ending) (w' : World) : Prop :=
  (r = none ∧ e = .returned (.bool false) ∧ Below w0.heap.size w0 w') ∨ ∃ qs D V L n', r = some qs ∧ e = .returned (.bool true) ∧ n' ≤ n + 1 ∧ LivS w0 w' l bm n' D V L qs
theorem take_any (w0 w : World) (l bm n c u K : Nat) (ad : Addr) (D : DataW Value) (V : Value) (L : List Value) (ps : List (List Sl)) (x : Ef) (h : LivS w0 w l bm n D V L ps) (hx : SlL w0 (some ad) x.pl) (hu : x.pl.length = u) (hp : placeB x.pl = true) (hk : LvOk K ps) (hK : K ≤ 400) (hn : n ≤ 1000) :
    Calls Try.prog 36 #[.pointer (some ⟨l, 0, none⟩), .agg #[.int .i64 x.k, .slice (some ad) u c]] w (TkX (stepLv ps x) w0 l bm n) := by
  by_cases h1 : x.k = 1 ∧ x.pl ∉ ps
  · rw [h1.1, show stepLv ps x = some (ps ++ [x.pl]) by unfold stepLv; simp [hp, h1.1, h1.2]]
    refine (take_new w0 w l bm n c u K ad D V L ps x h hx hu hp hk hK hn h1.2).mono ?_
    rintro e w' ⟨rfl, D', V', L', hl⟩
    exact .inr ⟨_, D', V', L', n + 1, rfl, rfl, Nat.le_refl _, hl⟩
  · by_cases h0 : x.k = 0 ∧ x.pl ∈ ps
    · rw [h0.1, show stepLv ps x = some (outV x.pl ps) by unfold stepLv; simp [hp, h0.1, h0.2]]
      refine (take_gone w0 w l bm n c u K ad D V L ps x h hx hu hp hk hK h0.2).mono ?_
      rintro e w' ⟨rfl, D', V', L', hl⟩
      exact .inr ⟨_, D', V', L', n, rfl, rfl, Nat.le_succ _, hl⟩
    · by_cases h2 : x.k = 2 ∧ x.pl ∈ ps
      · have hs : stepLv ps x = some ps := by unfold stepLv; simp [hp, h2.1, h2.2]
        rw [hs]
        refine (take_same w0 w l bm n c u ad D V L ps x h hx hu hp true (.inr ⟨rfl, hs, h2.1⟩)).mono ?_
        rintro e w' ⟨rfl, hb⟩
        exact .inr ⟨_, D, V, L, n, rfl, rfl, Nat.le_succ _, h.below hb⟩
      · have hs : stepLv ps x = none := by
          unfold stepLv
          rw [if_neg (by simp [hp])]
          by_cases g1 : x.k = 1
          · rw [if_pos g1, if_pos (Decidable.byContradiction fun hm => h1 ⟨g1, hm⟩)]
          · rw [if_neg g1]
            by_cases g0 : x.k = 0
            · rw [if_pos g0, if_neg (fun hm => h0 ⟨g0, hm⟩)]
            · rw [if_neg g0, if_neg h2]
        rw [hs]
        refine (take_same w0 w l bm n c u ad D V L ps x h hx hu hp false (.inl ⟨rfl, hs⟩)).mono ?_
        rintro e w' ⟨rfl, hb⟩
        exact .inl ⟨rfl, rfl, more h.hb (Nat.le_refl _) hb⟩
/-- What the program's EffectsLive answers. -/
def LiX (r : Option (List (List Sl))) (w : World) (e : Ending) (w' : World) : Prop :=
  Below w.heap.size w w' ∧ ((r = none ∧ e = .returned (.tuple #[.slice none 0 0, .bool false])) ∨ ∃ ps A c, r = some ps ∧ e = .returned (.tuple #[.slice A ps.length c, .bool true]) ∧ PssO w' w.heap.size w'.heap.size A c ps ∧ LvOk 400 ps)
theorem PssO.mono {w : World} {lo hi lo' hi' c : Nat} {A : Option Addr} {ps : List (List Sl)} (h : PssO w lo hi A c ps) (h1 : lo' ≤ lo) (h2 : hi ≤ hi') : PssO w lo' hi' A c ps := ApR.mono h h1 h2
set_option maxRecDepth 100000 in
set_option maxHeartbeats 2000000 in
theorem iLive_any (A : Option Addr) (c n : Nat) (xs : List Ef) (w : World) (hx : EfN w A xs) (hn : xs.length = n) (hl : n ≤ 1048576) :
    Calls Try.prog 11 #[.slice A n c] w (LiX (liveV xs) w) := by
  obtain ⟨r, hr⟩ : ∃ r, liveV xs = r := ⟨_, rfl⟩
  have HN := Lib.hid hn
  have HX := Lib.hid hx
  rw [hr]
  have HNO := Lib.hid (show ∀ w', r = none → Below w.heap.size w w' → LiX r w (.returned (.tuple #[.slice none 0 0, .bool false])) w' from fun w' h hb => ⟨hb, .inl ⟨h, rfl⟩⟩)
  by_cases h4 : 400 < n
  · have hd : decide (400 < (n : Int)) = true := by simp; omega
    have HV := Lib.hid (show r = none by rw [← hr]; unfold liveV; rw [if_pos (by rw [hn]; exact h4)])
    clear hx hn hr
    go_enter Try.func11, Try.ntmps11
    go_wp2_with fail
    refine bodyPost_ret (v := .tuple #[.slice none 0 0, .bool false]) (by simp [results, Try.results11, go_sem, *]) rfl (HNO.out _ HV.out (by go_grown))
  · have hd : decide (400 < (n : Int)) = false := by simp; omega
    have HRR := Lib.hid hr
    have HL0 := Lib.hid (show liveV xs = runLv [] xs by unfold liveV; rw [if_neg (by rw [hn]; exact h4)])
    have h400 : n ≤ 400 := by omega
    have hmm := @run_makeMap Try.prog
    clear hx hn hr h4
    go_enter Try.func11, Try.ntmps11
    go_wp2_with fail
    clear hmm
    have hL0 : LivS w ((w.alloc (.map #[] 0)).alloc (.cells #[.slice none 0 0, .map (some w.heap.size)] 60)) (w.heap.size + 1) w.heap.size 0 (.map []) (.slice none 0 0) [] [] := {
      c0 := by go_simp
      c1 := by go_simp
      fz := fun o => by go_simp
      row := World.ownsRow_nil _ _ _ _
      lv := ⟨rfl, fun i p h => by simp at h⟩
      mp := (World.ownsMap_made w Try.prog 9 RV).alloc _
      key := fun p _ => by simp; rfl
      l0 := by omega
      b0 := Nat.le_refl _
      nl := fun b hb => by simp [Value.ownBlock] at hb
      hb := by go_grown }
    have HLV := Lib.hid hL0
    clear hL0
    go_loopw [14] (fun i wr => ∃ (k nn : Nat) (D : DataW Value) (V : Value) (L : List Value) (ps : List (List Sl)), k ≤ n ∧ nn ≤ k ∧ i = .int .i64 k ∧ Hid (LivS w wr (w.heap.size + 1) w.heap.size nn D V L ps) ∧ Hid (LvOk k ps) ∧ Hid (liveV xs = runLv ps (xs.drop k))) (fun i _ => n - (intOf i).toNat)
    case atStart => exact ⟨0, 0, _, _, _, _, by omega, by omega, rfl, HLV, Lib.hid LvOk.nil, HL0⟩
    case round =>
      obtain ⟨k, nn, D, V, L, ps, hk, hnk, rfl, HL, HK, HR⟩ := hrel
      clear HLV
      by_cases hlt : k < n
      · obtain ⟨b', off, rfl, hblt, hcell⟩ := (HX.out.below HL.out.hb) (by have := HN.out; omega)
        obtain ⟨x, hx⟩ := at_some (show k < xs.length by rw [HN.out]; exact hlt)
        obtain ⟨ad, c0, e0, e1, hat, _, hm0⟩ := hcell k x hx
        obtain ⟨b9, off9, he9, hblt9, hcell9⟩ := HX.out (by have := HN.out; omega)
        obtain ⟨ad9, c09, e09, e19, hat9, _, _⟩ := hcell9 k x hx
        injection he9 with he9
        injection he9 with q1 q2
        subst q1
        subst q2
        have e19' := (HL.out.hb.cell (p := ⟨b', _, none⟩) hblt9).trans e19
        rw [e1] at e19'
        injection e19' with e19'
        injection e19' with q3 q4 q5
        injection q3 with q3
        subst q3
        subst q5
        clear q4 hblt9
        have HR2 := Lib.hid (HR.out.trans (congrArg (runLv ps) (drop_cons hx)))
        obtain ⟨xk, hxk⟩ : ∃ v, x.k = v := ⟨_, rfl⟩
        obtain ⟨u, hu⟩ : ∃ v, x.pl.length = v := ⟨_, rfl⟩
        have HXK := Lib.hid hxk
        have HU := Lib.hid hu
        have k2 := fun w h => iplace_any (some ad) c0 x.pl w h hm0
        rw [hxk] at e0
        rw [hu] at e1 k2
        have hb0 := Below.alloc (Below.refl wr.heap.size wr) (Nat.le_refl _) (.cells #[.int .i64 xk, .slice (some ad) u c0] 55)
        have a0 : (wr.alloc (.cells #[.int .i64 xk, .slice (some ad) u c0] 55)).cell? ⟨wr.heap.size, 0, none⟩ = some (.int .i64 xk) := by rw [World.cell?_alloc_new]; rfl
        have a1 : (wr.alloc (.cells #[.int .i64 xk, .slice (some ad) u c0] 55)).cell? ⟨wr.heap.size, 1, none⟩ = some (.slice (some ad) u c0) := by rw [World.cell?_alloc_new]; rfl
        have HA := Lib.hid (HL.out.below hb0)
        have HH9 := Lib.hid hat9
        obtain ⟨wa, hwa⟩ : ∃ v, wr.alloc (.cells #[.int .i64 xk, .slice (some ad) u c0] 55) = v := ⟨_, rfl⟩
        have hza : wr.heap.size < wa.heap.size := by rw [← hwa]; simp
        rw [hwa] at HA a0 a1
        have hi1 : (0 : Int) ≤ (k : Int) := by omega
        have hi2 : (k : Int) < (n : Int) := by omega
        cases hp : placeB x.pl
        · rw [hp] at k2
          have K2 := Lib.hid k2
          have HV := Lib.hid (HR2.out.trans (runLv_none (by unfold stepLv; simp [hp])))
          clear k2 hx hcell hcell9 hat hat9 e09 e19 hm0 hp hu hxk HR HR2 hb0
          go_wp2_with fail
          (try rw [hwa])
          clear hwa
          refine (K2.out wa (HH9.out.below HA.out.hb)).mono ?_
          rintro e w2 ⟨rfl, hb⟩
          have HB2 := Lib.hid (more HA.out.hb (Nat.le_refl _) hb)
          clear hb
          go_wp2_with fail
          refine bodyPost_ret (v := .tuple #[.slice none 0 0, .bool false]) (by simp [results, Try.results11, go_sem, *]) rfl (HNO.out _ (HRR.out.symm.trans HV.out) HB2.out)
        · rw [hp] at k2
          have K2 := Lib.hid k2
          have K3 := Lib.hid (fun w2 (h : LivS w w2 (w.heap.size + 1) w.heap.size nn D V L ps) => take_any w w2 (w.heap.size + 1) w.heap.size nn c0 u k ad D V L ps x h hat9 hu hp HK.out (by omega) (by omega))
          rw [hxk] at K3
          clear k2 hx hcell hcell9 hat hat9 e09 e19 hm0 hp hu hxk HR hb0
          go_wp2_with fail
          (try rw [hwa])
          clear hwa
          refine (K2.out wa (HH9.out.below HA.out.hb)).mono ?_
          rintro e w2 ⟨rfl, hb⟩
          replace a0 := (hb.cell (p := ⟨wr.heap.size, 0, none⟩) hza).trans a0
          replace a1 := (hb.cell (p := ⟨wr.heap.size, 1, none⟩) hza).trans a1
          have HA2 := Lib.hid (HA.out.below hb)
          clear hb
          go_wp2_with fail
          refine (K3.out w2 HA2.out).mono ?_
          rintro e w3 (⟨hr, rfl, hb⟩ | ⟨qs, D', V', L', n', hr, rfl, hn', hl'⟩)
          · have HV := Lib.hid (HR2.out.trans (runLv_none hr))
            have HB3 := Lib.hid hb
            clear hb hr
            go_wp2_with fail
            refine bodyPost_ret (v := .tuple #[.slice none 0 0, .bool false]) (by simp [results, Try.results11, go_sem, *]) rfl (HNO.out _ (HRR.out.symm.trans HV.out) HB3.out)
          · have HV := Lib.hid (HR2.out.trans (runLv_some hr))
            have HK2 := Lib.hid (HK.out.step hr)
            have HL3 := Lib.hid hl'
            clear hr hl'
            go_wp2_with fail
            go_roundw
            case rel => exact ⟨k + 1, n', D', V', L', qs, by omega, by omega, by go_num, HL3, HK2, HV⟩
            case measure => simp [intOf]; omega
      · obtain rfl : k = n := by omega
        have HV := Lib.hid (show r = some ps by rw [← HRR.out, HR.out, List.drop_eq_nil_of_le (by rw [HN.out]; exact Nat.le_refl _)]; rfl)
        obtain ⟨m, hm⟩ : ∃ m, ps.length = m := ⟨_, rfl⟩
        have hLV := HL.out
        obtain ⟨A2, c2, rfl, hps⟩ : ∃ A2 c2, V = .slice A2 m c2 ∧ PsL wr A2 ps := by
          rcases hLV.row.2 with ⟨h1, h0⟩ | ⟨g, cap, cur, h0, _⟩
          · exact ⟨none, 0, by rw [h1, ← hm, h0], fun h => by omega⟩
          · refine ⟨_, cap, by rw [h0, hm], hLV.lv.lies hLV.hb (base := w.heap.size) (b := g) (c := cap) (n := ps.length) ?_⟩
            unfold OwnP
            rw [← h0]
            exact hLV.row
        have c0 := hLV.c0
        have hlk := HK.out.2.1
        have K4 := Lib.hid (icopyPlaces_any A2 c2 m ps wr hps hm (by omega) (fun p hp => by have := placeB_len (HK.out.2.2 p hp); omega))
        have HMM := Lib.hid hm
        clear hLV hps hm
        go_wp2_with fail
        refine K4.out.mono ?_
        rintro e w4 ⟨A', c', rfl, hcc, hps, hb⟩
        have HP4 := Lib.hid (hps.mono HL.out.hb.size (Nat.le_refl _))
        have HB4 := Lib.hid (more HL.out.hb (Nat.le_refl _) hb)
        clear hps hb
        go_wp2_with fail
        refine bodyPost_ret (v := .tuple #[.slice A' m c', .bool true]) (by simp [results, Try.results11, go_sem, *]) rfl ⟨HB4.out, .inr ⟨ps, A', c', HV.out, by rw [HMM.out], HP4.out, ⟨HK.out.1, Nat.le_trans hlk h400, HK.out.2.2⟩⟩⟩
end Go.Proofs.Ytegdpdafaimmoaa
