/- The laws' own marks, found again in cells. -/
import Derived.Test.YtfdejmdhcjfboaaMrk6
namespace Go.Proofs.Ytfdejmdhcjfboaa
open Go.Joins Go.ChangeShapes Go.WideShapes Go.ChangeAt Go.RowKit Go.Deep
set_option linter.unusedVariables false
set_option linter.unusedSimpArgs false

theorem markCs_at {xs : List Ce} {k j : Nat} {x : Ce} (hx : xs[j]? = some x) : (markCs xs k)[j]? = some (markCe x (k + totC (xs.take j))) := by
  induction xs generalizing k j with
  | nil => simp at hx
  | cons y ys ih =>
    cases j with
    | zero => simp at hx; subst hx; simp [markCs, totC]
    | succ j =>
      simp only [List.getElem?_cons_succ] at hx
      simp only [markCs, List.getElem?_cons_succ, List.take_succ_cons, totC]
      rw [ih hx, Nat.add_assoc]
theorem totC_take {xs : List Ce} {j : Nat} {x : Ce} (hx : xs[j]? = some x) : totC (xs.take (j + 1)) = totC (xs.take j) + wC x ∧ totC (xs.take j) + wC x ≤ totC xs := by
  induction xs generalizing j with
  | nil => simp at hx
  | cons y ys ih =>
    cases j with
    | zero => simp at hx; subst hx; simp [totC]
    | succ j =>
      simp only [List.getElem?_cons_succ] at hx
      have := ih hx
      simp only [List.take_succ_cons, totC]
      omega
set_option maxHeartbeats 2000000 in
theorem heldCells_any (A : Option Addr) (c k n r : Nat) (xs : List Ce) (w : World) (hx : CeL w A (markCs xs k)) (hn : xs.length = n) (hl : n ≤ 1048576) (hs : ∀ x ∈ xs, x.pl.length ≤ 1048576 ∧ x.st.length ≤ 1048576) (hk : k + totC xs ≤ 50000000) (hk0 : 0 < k) (hr : k + totC xs = r) :
    Calls Try.prog 45 #[.slice A n c, .int .i64 k] w fun e w' => e = .returned (.int .i64 r) ∧ Below w.heap.size w w' := by
  have HN := Lib.hid hn
  have HX := Lib.hid hx
  have HS := Lib.hid hs
  have HK := Lib.hid hk
  have HRR := Lib.hid hr
  clear hn hx hs hk hr
  go_enter Try.func45, Try.ntmps45
  go_wp2_with fail
  go_loopw [1, 5] (fun m i wr => ∃ (j q : Nat), j ≤ n ∧ i = .int .i64 j ∧ m = .int .i64 q ∧ Hid (q = k + totC (xs.take j)) ∧ 0 < q ∧ q ≤ 50000000 ∧ Hid (Below w.heap.size w wr)) (fun _ i _ => n - (intOf i).toNat)
  case atStart => exact ⟨0, k, by omega, rfl, rfl, Lib.hid rfl, hk0, by have := HK.out; omega, Lib.hid (Below.refl _ _)⟩
  case round =>
    obtain ⟨j, q, hj, rfl, rfl, HQ, hq0, hqb, HB⟩ := hrel
    by_cases hlt : j < n
    · obtain ⟨x, hx⟩ := at_some (show j < xs.length by rw [HN.out]; exact hlt)
      obtain ⟨b, off, rfl, hblt, hcell⟩ := (HX.out.below HB.out) (by rw [markCs_len, HN.out]; omega)
      obtain ⟨A0, c0, A1, c1, hce⟩ := hcell j _ (markCs_at hx)
      rw [← HQ.out] at hce
      obtain ⟨e0, e1, h0, h1⟩ := hce
      have HT := Lib.hid (totC_take hx)
      have hxb := HS.out x (List.mem_of_getElem? hx)
      rw [show (markCe x q).pl.length = x.pl.length from markSl_len _ _] at e0
      rw [show (markCe x q).st.length = x.st.length from markVa_len _ _] at e1
      have hqq : q + 2 * x.pl.length + 3 * x.st.length ≤ 50000000 := by have := HT.out.2; have := HQ.out; have := HK.out; unfold wC at *; omega
      obtain ⟨u, hu⟩ : ∃ u, x.pl.length = u := ⟨_, rfl⟩
      obtain ⟨v, hv⟩ : ∃ v, x.st.length = v := ⟨_, rfl⟩
      have HU := Lib.hid hu
      have HV := Lib.hid hv
      have K0 := Lib.hid (fun w (h : SlL w A0 (markSl x.pl q)) => heldSlots_r A0 c0 q u (q + 2 * u) x.pl w h HU.out (by rw [← HU.out]; exact hxb.1) (by omega) rfl)
      have K1 := Lib.hid (fun w (h : VaL w A1 (markVa x.st (q + 2 * u))) => heldVals_r A1 c1 (q + 2 * u) v (q + 2 * u + 3 * v) x.st w h HV.out (by rw [← HV.out]; exact hxb.2) (by omega) (by omega) rfl)
      rw [hu, hv] at hqq
      rw [hu] at e0
      rw [hv] at e1
      have H0 := Lib.hid h0
      have H1 := Lib.hid h1
      clear hx hu hv h0 h1
      go_wp2_with fail
      refine (K0.out _ H0.out).mono ?_
      rintro e w2 ⟨rfl, rfl⟩
      go_wp2_with fail
      refine (K1.out _ (by have h := H1.out; unfold markCe at h; rw [HU.out] at h; exact h)).mono ?_
      rintro e w3 ⟨rfl, hb⟩
      have HB2 := Lib.hid (more HB.out (Nat.le_refl _) hb)
      clear hb
      go_wp2_with fail
      go_roundw
      case rel => exact ⟨j + 1, q + 2 * u + 3 * v, by omega, by go_num, by go_num, Lib.hid (by have h1 := HT.out; have h2 := HQ.out; have h3 := HU.out; have h4 := HV.out; unfold wC at h1; omega), by omega, by omega, HB2⟩
      case measure => simp [intOf]; omega
    · obtain rfl : j = n := by omega
      have hrr := HRR.out
      have hqr : q = r := by have h := HQ.out; rw [List.take_of_length_le (by rw [HN.out]; exact Nat.le_refl _)] at h; omega
      go_wp2_with fail
      go_ret
      exact ⟨by rw [hqr]; rfl, HB.out⟩
set_option maxHeartbeats 400000 in
theorem markCells_nil (k : Int) (w : World) : Calls Try.prog 37 #[.slice none 0 0, .int .i64 k] w fun e w' => e = .returned (.int .i64 k) ∧ w = w' := by
  go_enter Try.func37, Try.ntmps37
  go_wp2_with fail
  refine wp_loop_rounds 1 ?_
  rw [rounds_succ]
  go_wp2_with fail
  go_ret
  exact ⟨rfl, rfl⟩
set_option maxHeartbeats 400000 in
theorem heldCells_nil (k : Int) (w : World) : Calls Try.prog 45 #[.slice none 0 0, .int .i64 k] w fun e w' => e = .returned (.int .i64 k) ∧ w = w' := by
  go_enter Try.func45, Try.ntmps45
  go_wp2_with fail
  refine wp_loop_rounds 1 ?_
  rw [rounds_succ]
  go_wp2_with fail
  go_ret
  exact ⟨rfl, rfl⟩
def MarksAR (h base c lo hi n k r : Nat) (G K : Nat → Nat) (L : List Value) (xs : List Ce) (w : World) (x : Ending) (w' : World) : Prop :=
  x = .returned (.int .i64 r) ∧ w'.ownsRow base 60 2 (.slice (some ⟨h, 0, none⟩) n c) n L ∧ CapOwn w' lo G K L (markCs xs k) n ∧ Turn lo hi w w'
theorem markCellsA_r (h c base k n lo hi r : Nat) (G K : Nat → Nat) (L : List Value) (xs : List Ce) (w : World) (ho : w.ownsRow base 60 2 (.slice (some ⟨h, 0, none⟩) n c) n L) (hc : CapOwn w lo G K L xs n) (hn : xs.length = n) (hl : n ≤ 1048576)
    (hh : ∀ j, j < 2 * n → G j ≠ h) (hG : ∀ j, j < 2 * n → G j < hi) (hs : ∀ x ∈ xs, x.pl.length ≤ 1048576 ∧ x.st.length ≤ 1048576) (hk : k + totC xs ≤ 50000000) (hk0 : 0 < k) (hr : k + totC xs = r) :
    Calls Try.prog 37 #[.slice (some ⟨h, 0, none⟩) n c, .int .i64 k] w (MarksAR h base c lo hi n k r G K L xs w) := by
  subst hr; exact markCellsA_any h c base k n lo hi G K L xs w ho hc hn hl hh hG hs hk hk0
theorem markCs_mem {xs : List Ce} {k : Nat} : ∀ x ∈ markCs xs k, ∃ y ∈ xs, x.pl.length = y.pl.length ∧ x.st.length = y.st.length := by
  induction xs generalizing k with
  | nil => intro x h; cases h
  | cons y ys ih =>
    intro x h
    rcases List.mem_cons.1 h with rfl | h
    · exact ⟨y, List.mem_cons_self, markSl_len _ _, markVa_len _ _⟩
    · obtain ⟨z, hz, e⟩ := ih x h
      exact ⟨z, List.mem_cons_of_mem _ hz, e⟩
theorem SmallC.mark {xs : List Ce} {k : Nat} (h : SmallC xs) : SmallC (markCs xs k) := fun x hx => by
  obtain ⟨y, hy, e0, e1⟩ := markCs_mem x hx
  have := h y hy
  rw [e0, e1]; exact this
theorem totC_small : ∀ {xs : List Ce}, SmallC xs → totC xs ≤ 5000 * xs.length
  | [], _ => by simp [totC]
  | x :: xs, h => by
    have h1 := totC_small (fun y hy => h y (List.mem_cons_of_mem _ hy) : SmallC xs)
    have h2 := h x List.mem_cons_self
    simp only [totC, wC, List.length_cons]
    omega
end Go.Proofs.Ytfdejmdhcjfboaa
