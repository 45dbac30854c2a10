/- For the law FnLooksAll: what it draws; numbers within bounds; what looks are. -/
import Derived.Test.YtmfibedcloknlaaGreatDoorLkM4
import Derived.Test.YtmfibedcloknlaaGreatDoorDrTM
import Derived.Test.YtmfibedcloknlaaGreatDoorDrwR
namespace Go.Proofs.YtmfibedcloknlaaGreatDoor
open Go.Joins Go.ChangeShapes Go.WideShapes Go.ChangeAt Go.RowKit Go.Deep
set_option linter.unusedVariables false
set_option linter.unusedSimpArgs false

set_option maxHeartbeats 1000000 in
theorem sameRows_any (A B : Option Addr) (c d n : Nat) (xss : List (List Int)) (w : World) (hx : RwL w A xss) (hy : RwL w B xss) (hn : xss.length = n) (hl : n ≤ maxLen) (hs : ∀ zs ∈ xss, zs.length ≤ maxLen) :
    Calls Tryz.prog 10 #[.slice A n c, .slice B n d] w fun e w' => e = .returned (.bool true) ∧ Below w.heap.size w w' := by
  unfold maxLen at hl
  have HX := Lib.hid hx
  have HY := Lib.hid hy
  have HN := Lib.hid hn
  have HS := Lib.hid hs
  clear hx hy hn hs
  go_enter Tryz.func10, Tryz.ntmps10
  go_wp2_with fail
  go_loopw [5] (fun i wr => ∃ k : Nat, k ≤ n ∧ i = .int .i64 k ∧ Hid (Below w.heap.size w wr)) (fun i _ => n - (intOf i).toNat)
  case atStart => exact ⟨0, by omega, rfl, Lib.hid (Below.refl _ _)⟩
  case round =>
    obtain ⟨k, hk, rfl, HB⟩ := hrel
    by_cases hlt : k < n
    · obtain ⟨x, hx⟩ := at_some (show k < xss.length by rw [HN.out]; exact hlt)
      obtain ⟨b, off, B0, d0, rfl, hblt, e0, hi0⟩ := (HX.out.below HB.out).at_ hx
      obtain ⟨b', off', B1, d1, rfl, hblt', e1, hi1'⟩ := (HY.out.below HB.out).at_ hx
      have hi1 : (0 : Int) ≤ (k : Int) := by omega
      have hi2 : (k : Int) < (n : Int) := by omega
      have hk6 := fun w h1 h2 => eqM_any B0 B1 d0 d1 x x w h1 h2 (HS.out x (List.mem_of_getElem? hx)) (HS.out x (List.mem_of_getElem? hx))
      rw [decide_eq_true rfl] at hk6
      have K6 := Lib.hid hk6
      have HI0 := Lib.hid hi0
      have HI1 := Lib.hid hi1'
      have hB := HB.out
      clear hx hi0 hi1' hk6 HB
      go_wp2_with fail
      go_region_held3 (fun w' => w'.cell? ⟨b, off + k, none⟩ = some (.slice B0 x.length d0) ∧ w'.cell? ⟨b', off' + k, none⟩ = some (.slice B1 x.length d1)) (go_keep) (first | (go_at_call 40; ((with_reducible refine (K6.out _ (HI0.out.below (by go_grown)) (HI1.out.below (by go_grown))).mono ?_); rintro e w' ⟨rfl, hb⟩); replace e0 := (hb.cell (p := ⟨b, off + k, none⟩) (by first | omega | (simp; done) | (simp; omega))).trans e0; replace e1 := (hb.cell (p := ⟨b', off' + k, none⟩) (by first | omega | (simp; done) | (simp; omega))).trans e1; replace hB := more (W1 := _) (B := w.heap.size) (W0 := w) (by go_grown) (Nat.le_refl _) hb; clear hb))
      go_wp2_with fail
      go_roundw
      case rel => exact ⟨k + 1, by omega, by go_num, Lib.hid hB⟩
      case measure => simp [intOf]; omega
    · obtain rfl : k = n := by omega
      go_wp2_with fail
      go_ret
      exact ⟨rfl, HB.out⟩
/-- Whole numbers within bounds. -/
def InZ (lo hi : Int) (r : List Int) : Prop := ∀ z ∈ r, lo ≤ z ∧ z ≤ hi
theorem stepS_in {M tag : Int} {ps : List Pr} {ab : List Int} {s : List Int × List Int} {x : Ru} (h : InZ 0 M s.1) (hx : 0 ≤ x.g ∧ x.g ≤ M) : InZ 0 M (stepS tag ps ab s x).1 := by
  unfold stepS
  split
  · intro z hz
    rcases List.mem_or_eq_of_mem_set hz with hz | rfl
    · exact h z hz
    · exact hx
  · exact h
theorem rowS_in {M tag mark : Int} {ps : List Pr} {ab : List Int} {list : List Ru} (hM : 0 ≤ M) (hm : 0 ≤ mark ∧ mark ≤ M) (hx : ∀ x ∈ list, 0 ≤ x.g ∧ x.g ≤ M) : InZ 0 M (ownS list tag ps ab mark) := by
  have h0 : InZ 0 M [0, 0, 0, 0, mark] := by
    intro z hz
    simp at hz
    rcases hz with rfl | rfl
    · exact ⟨Int.le_refl _, hM⟩
    · exact hm
  unfold ownS
  split
  · exact h0
  · unfold rowS
    have H : ∀ (gs : List Ru) (s : List Int × List Int), (∀ x ∈ gs, 0 ≤ x.g ∧ x.g ≤ M) → InZ 0 M s.1 → InZ 0 M (gs.foldl (stepS tag ps ab) s).1 := by
      intro gs
      induction gs with
      | nil => intro s _ hs; exact hs
      | cons x gs ih => intro s hg hs; exact ih _ (fun y hy => hg y (List.mem_cons_of_mem _ hy)) (stepS_in hs (hg x (by simp)))
    exact H list _ hx h0
theorem lksT_in {M : Int} {list : List Ru} (hM : 0 ≤ M) (hx : ∀ x ∈ list, 0 ≤ x.g ∧ x.g ≤ M) : ∀ (t : Tr) (ab : List Int) (mark : Int), 0 ≤ mark ∧ mark ≤ M → ∀ r ∈ lksT list ab mark t, InZ 0 M r := Tr.by_kids fun t ih ab mark hm r hr => by
  rw [lksT_eq] at hr
  have hown := rowS_in (tag := t.tag) (ps := t.ps) (ab := ab) hM hm hx
  rcases List.mem_cons.1 hr with rfl | hr
  · exact hown
  · have hmk : (0 : Int) ≤ (ownS list t.tag t.ps ab mark)[4]?.getD 0 ∧ (ownS list t.tag t.ps ab mark)[4]?.getD 0 ≤ M := by
      cases h4 : (ownS list t.tag t.ps ab mark)[4]? with
      | none => exact ⟨Int.le_refl _, hM⟩
      | some z => exact hown z (List.mem_of_getElem? h4)
    have H : ∀ (ks : List Tr), (∀ x ∈ ks, x ∈ t.ks) → ∀ (ab : List Int) (mark : Int), 0 ≤ mark ∧ mark ≤ M → ∀ r ∈ lksL list ab mark ks, InZ 0 M r := by
      intro ks
      induction ks with
      | nil => intro _ ab mark _ r hr; rw [lksL_nil] at hr; cases hr
      | cons x ks ih2 =>
        intro hk ab mark hm r hr
        rw [lksL_cons] at hr
        rcases List.mem_append.1 hr with hr | hr
        · exact ih x (hk x (by simp)) ab mark hm r hr
        · exact ih2 (fun y hy => hk y (List.mem_cons_of_mem _ hy)) ab mark hm r hr
    exact H t.ks (fun x hx => hx) _ _ hmk r hr
set_option maxHeartbeats 1000000 in
theorem allWithin_any (A : Option Addr) (c n : Nat) (zs : List Int) (lo hi : Int) (w : World) (hx : IntL w A zs) (hn : zs.length = n) (hl : n ≤ maxLen) (hz : InZ lo hi zs) :
    Calls Tryz.prog 14 #[.slice A n c, .int .i64 lo, .int .i64 hi] w fun e w' => e = .returned (.bool true) ∧ w' = w := by
  unfold maxLen at hl
  have HN := Lib.hid hn
  have HX := Lib.hid hx
  have HZ := Lib.hid hz
  clear hx hn hz
  go_enter Tryz.func14, Tryz.ntmps14
  go_wp2_with fail
  go_loop [7] (fun i => ∃ j : Nat, j ≤ n ∧ i = .int .i64 j) (fun i => n - (intOf i).toNat)
  case atStart => exact ⟨0, by omega, rfl⟩
  case round =>
    obtain ⟨j, hj, rfl⟩ := hrel
    by_cases hlt : j < n
    · obtain ⟨z, hz⟩ := at_some (show j < zs.length by rw [HN.out]; exact hlt)
      obtain ⟨b, off, rfl, hblt, c0⟩ := HX.out.at_ hz
      have hin := HZ.out z (List.mem_of_getElem? hz)
      have k := inRange_any z lo hi w
      rw [decide_eq_true hin] at k
      have K := Lib.hid k
      have hi1 : (0 : Int) ≤ (j : Int) := by omega
      have hi2 : (j : Int) < (n : Int) := by omega
      clear hz k hin
      go_wp2_with fail
      refine K.out.mono ?_
      rintro e w' ⟨rfl, rfl⟩
      go_wp2_with fail
      go_round
      case rel => exact ⟨j + 1, by omega, by go_num⟩
      case measure => simp [intOf]; omega
    · go_wp2_with fail
      go_ret
      exact ⟨rfl, rfl⟩
/-- What DrawLooksAll draws. -/
def DrawLX (w : World) (e : Ending) (w' : World) : Prop :=
  ∃ (A0 : Option Addr) (c0 : Nat) (A1 : Option Addr) (c1 : Nat) (t : Tr) (b c : Nat) (xs : List Ru), e = .returned (.tuple #[.agg #[.int .i64 t.tag, .int .i64 t.key, .string t.text, .slice A0 t.ps.length c0, .slice A1 t.ks.length c1], .slice (some ⟨b, 0, none⟩) xs.length c]) ∧
    TrD w' w.heap.size w'.heap.size [.int .i64 t.tag, .int .i64 t.key, .string t.text, .slice A0 t.ps.length c0, .slice A1 t.ks.length c1] t ∧ GdT t ∧ RuL w' (some ⟨b, 0, none⟩) xs ∧ xs.length ≤ 9 ∧ Below w.heap.size w w'
set_option maxHeartbeats 8000000 in
set_option maxRecDepth 100000 in
theorem DrawLooksAll_any (A : Option Addr) (len cap : Nat) (w : World) (hc : Code w w.heap.size A len) (hl : len ≤ maxLen) :
    Calls Tryz.prog 7 #[.slice A len cap] w (DrawLX w) := by
  have hb0 := Below.alloc (Below.refl w.heap.size w) (Nat.le_refl _) (.cells #[.int .i64 0, .int .i64 0, .string ⟨#[]⟩, .slice none 0 0, .slice none 0 0] 26)
  have HB0 := Lib.hid hb0
  have r0 : (w.alloc (.cells #[.int .i64 0, .int .i64 0, .string ⟨#[]⟩, .slice none 0 0, .slice none 0 0] 26)).cell? ⟨w.heap.size, 0, none⟩ = some (.int .i64 0) := by go_simp
  have r1 : (w.alloc (.cells #[.int .i64 0, .int .i64 0, .string ⟨#[]⟩, .slice none 0 0, .slice none 0 0] 26)).cell? ⟨w.heap.size, 1, none⟩ = some (.int .i64 0) := by go_simp
  have r2 : (w.alloc (.cells #[.int .i64 0, .int .i64 0, .string ⟨#[]⟩, .slice none 0 0, .slice none 0 0] 26)).cell? ⟨w.heap.size, 2, none⟩ = some (.string ⟨#[]⟩) := by go_simp
  have r3 : (w.alloc (.cells #[.int .i64 0, .int .i64 0, .string ⟨#[]⟩, .slice none 0 0, .slice none 0 0] 26)).cell? ⟨w.heap.size, 3, none⟩ = some (.slice none 0 0) := by go_simp
  have r4 : (w.alloc (.cells #[.int .i64 0, .int .i64 0, .string ⟨#[]⟩, .slice none 0 0, .slice none 0 0] 26)).cell? ⟨w.heap.size, 4, none⟩ = some (.slice none 0 0) := by go_simp
  have rf : ∀ o, (w.alloc (.cells #[.int .i64 0, .int .i64 0, .string ⟨#[]⟩, .slice none 0 0, .slice none 0 0] 26)).frozen? ⟨w.heap.size, o, none⟩ = false := fun o => by go_simp
  have hz : w.heap.size < (w.alloc (.cells #[.int .i64 0, .int .i64 0, .string ⟨#[]⟩, .slice none 0 0, .slice none 0 0] 26)).heap.size := by simp
  have HC := Lib.hid (Code.next hc hb0)
  obtain ⟨wc, hwc⟩ : ∃ wc, w.alloc (.cells #[.int .i64 0, .int .i64 0, .string ⟨#[]⟩, .slice none 0 0, .slice none 0 0] 26) = wc := ⟨_, rfl⟩
  rw [hwc] at HC HB0 r0 r1 r2 r3 r4 rf hz
  clear hc hb0
  go_enter Tryz.func7, Tryz.ntmps7
  have HS := Lib.hid (St.new (cap := cap) HC.out hl)
  go_wp2_with fail
  refine (newSource_any A len cap wc).mono ?_
  rintro e w1 ⟨rfl, rfl⟩
  have hb1 := Below.alloc (Below.refl wc.heap.size wc) (Nat.le_refl _) (.cells #[.slice A len cap, .int .i64 0, .int .i64 4000] 105)
  have HB1 := Lib.hid hb1
  have hz1 : wc.heap.size < (wc.alloc (.cells #[.slice A len cap, .int .i64 0, .int .i64 4000] 105)).heap.size := by simp
  replace r0 := (hb1.cell (p := ⟨w.heap.size, 0, none⟩) hz).trans r0
  replace r1 := (hb1.cell (p := ⟨w.heap.size, 1, none⟩) hz).trans r1
  replace r2 := (hb1.cell (p := ⟨w.heap.size, 2, none⟩) hz).trans r2
  replace r3 := (hb1.cell (p := ⟨w.heap.size, 3, none⟩) hz).trans r3
  replace r4 := (hb1.cell (p := ⟨w.heap.size, 4, none⟩) hz).trans r4
  replace rf := fun o => (hb1.frozen (p := ⟨w.heap.size, o, none⟩) hz).trans (rf o)
  clear hb1
  obtain ⟨w1, hw1⟩ : ∃ w1, wc.alloc (.cells #[.slice A len cap, .int .i64 0, .int .i64 4000] 105) = w1 := ⟨_, rfl⟩
  rw [hw1] at HS HB1 r0 r1 r2 r3 r4 rf hz1 ⊢
  clear hw1
  go_wp2_with fail
  refine (whole_any wc.heap.size A len cap w1 HS.out).mono ?_
  rintro e w2 ⟨A0, c0, A1, c1, ⟨tag, key, text, ps, ks⟩, rfl, hT, hGd, hs, hk⟩
  simp only [Tr.tag, Tr.key, Tr.text, Tr.ps, Tr.ks] at hT ⊢
  replace r0 := (hk.cell.1 w.heap.size 0 (by first | omega | (simp; done) | (simp; omega)) (by first | omega | (simp; done) | (simp; omega))).trans r0
  replace r1 := (hk.cell.1 w.heap.size 1 (by first | omega | (simp; done) | (simp; omega)) (by first | omega | (simp; done) | (simp; omega))).trans r1
  replace r2 := (hk.cell.1 w.heap.size 2 (by first | omega | (simp; done) | (simp; omega)) (by first | omega | (simp; done) | (simp; omega))).trans r2
  replace r3 := (hk.cell.1 w.heap.size 3 (by first | omega | (simp; done) | (simp; omega)) (by first | omega | (simp; done) | (simp; omega))).trans r3
  replace r4 := (hk.cell.1 w.heap.size 4 (by first | omega | (simp; done) | (simp; omega)) (by first | omega | (simp; done) | (simp; omega))).trans r4
  replace rf := fun o => (hk.cell.2 w.heap.size o (by first | omega | (simp; done) | (simp; omega)) (by first | omega | (simp; done) | (simp; omega))).trans (rf o)
  have HT := Lib.hid hT
  have HGd := Lib.hid hGd
  have HS2 := Lib.hid hs
  have HK2 := Lib.hid hk
  have HB2 := Lib.hid ((HB0.out.trans (HB1.out.mono (Nat.le_of_lt hz))).trans ((hk.mono (Nat.le_of_lt (Nat.lt_trans hz hz1))).below (Nat.le_of_lt hz)))
  have hz2 : w.heap.size < w2.heap.size := Nat.lt_of_lt_of_le (Nat.lt_trans hz hz1) hk.size
  have hwz2 := hk.size
  clear hT hGd hs hk
  go_wp2_with fail
  refine (rules_any wc.heap.size A len cap w2 HS2.out).mono ?_
  rintro e w3 ⟨b3, c3, xs, rfl, ho, hn9, hs, hk⟩
  have hgs2 : wc.heap.size < w2.heap.size := Nat.lt_of_lt_of_le hz1 hwz2
  replace r0 := (hk.cell.1 w.heap.size 0 (by omega) (by omega)).trans r0
  replace r1 := (hk.cell.1 w.heap.size 1 (by omega) (by omega)).trans r1
  replace r2 := (hk.cell.1 w.heap.size 2 (by omega) (by omega)).trans r2
  replace r3 := (hk.cell.1 w.heap.size 3 (by omega) (by omega)).trans r3
  replace r4 := (hk.cell.1 w.heap.size 4 (by omega) (by omega)).trans r4
  replace rf := fun o => (hk.cell.2 w.heap.size o (by omega) (by omega)).trans (rf o)
  have HT3 := Lib.hid (TrD.kept (fun b h1 h2 => hk.block b (by omega) (by omega)) HT.out)
  have HO3 := Lib.hid ho.lies
  have HOL := Lib.hid (World.ownsRow.lt ho b3 rfl)
  have HB3 := Lib.hid (HB2.out.trans ((hk.mono (show w.heap.size ≤ w2.heap.size by omega)).below (by omega)))
  have HN9 := Lib.hid (And.intro hn9 ho.cap)
  have hz3 : w.heap.size < w3.heap.size := Nat.lt_of_lt_of_le hz2 hk.size
  have hz23 := hk.size
  clear ho hs hk hn9
  go_wp2_with fail
  refine bodyPost_ret (v := .tuple #[.agg #[.int .i64 tag, .int .i64 key, .string text, .slice A0 ps.length c0, .slice A1 ks.length c1], .slice (some ⟨b3, 0, none⟩) xs.length c3]) (by simp [results, Tryz.results7, go_sem, *]) rfl ⟨A0, c0, A1, c1, .mk tag key text ps ks, b3, c3, xs, rfl, ?_, HGd.out, ?_, HN9.out.1, ?_⟩
  · refine TrD.mono (lo := w1.heap.size) (by omega) ?_ (TrD.stored (TrD.stored (TrD.stored (TrD.stored (TrD.stored HT3.out ?_ _) ?_ _) ?_ _) ?_ _) ?_ _)
    all_goals first | omega | (simp; done) | (simp; omega) | (simp [World.setCell])
  · have hne : ∀ o k, (⟨w.heap.size, o, none⟩ : Addr) ≠ ⟨b3, k, none⟩ := fun o k e => by injection e with e1 e2; have := HOL.out.1; omega
    intro h0
    obtain ⟨b, off, e, hlt, hc⟩ := HO3.out h0
    injection e with e
    injection e with e1 e2
    subst e1
    exact ⟨b3, off, by rw [e2], by simpa [World.setCell] using hlt, fun i x hx j u hu => by
      rw [World.cell?_setCell_other _ _ _ _ (hne _ _), World.cell?_setCell_other _ _ _ _ (hne _ _), World.cell?_setCell_other _ _ _ _ (hne _ _), World.cell?_setCell_other _ _ _ _ (hne _ _), World.cell?_setCell_other _ _ _ _ (hne _ _)]
      exact hc i x hx j u hu⟩
  · exact HB3.out.trans ⟨rfl, rfl, rfl, by simp [World.setCell], fun k hk => by repeat rw [heap_setCell_other _ _ _ _ (by show k ≠ w.heap.size; omega)]⟩
end Go.Proofs.YtmfibedcloknlaaGreatDoor
