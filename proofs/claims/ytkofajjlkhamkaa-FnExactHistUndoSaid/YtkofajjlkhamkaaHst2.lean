/- Histories: the laws' copy of stores in a row. -/
import Derived.Test.YtkofajjlkhamkaaHst1
namespace Go.Proofs.Ytkofajjlkhamkaa
open Go.Joins Go.ChangeShapes Go.WideShapes Go.ChangeAt Go.RowKit Go.Deep
set_option linter.unusedVariables false
set_option linter.unusedSimpArgs false

theorem CesOwn.mono {w : World} {lo lo' : Nat} {G : Nat → Nat} {L : List Value} {xs : List Ce} {k : Nat} (h : CesOwn w lo G L xs k) (hl : lo' ≤ lo) : CesOwn w lo' G L xs k :=
  ⟨h.asc, fun i x hi hx => ⟨(h.at_ i x hi hx).1, (h.at_ i x hi hx).2.1, (h.at_ i x hi hx).2.2.mono hl⟩⟩
/-- A store in the call's own memory. -/
def StoOwn (w : World) (lo : Nat) (xs : List Ce) (g : Nat) : Prop := ∃ G L, w.ownsRow lo 60 2 (.slice (some ⟨g, 0, none⟩) xs.length xs.length) xs.length L ∧ CesOwn w lo G L xs xs.length
theorem StoOwn.below {w w' : World} {lo : Nat} {xs : List Ce} {g : Nat} (h : StoOwn w lo xs g) (hb : Below w.heap.size w w') : StoOwn w' lo xs g := by
  obtain ⟨G, L, h1, h2⟩ := h
  exact ⟨G, L, ownsRow_below h1 hb, h2.below hb⟩
theorem StoOwn.mono {w : World} {lo lo' : Nat} {xs : List Ce} {g : Nat} (h : StoOwn w lo xs g) (hl : lo' ≤ lo) : StoOwn w lo' xs g := by
  obtain ⟨G, L, h1, h2⟩ := h
  exact ⟨G, L, World.ownsRow.mono h1 hl, h2.mono hl⟩
theorem ownsRow_stored {w : World} {lo s n c g : Nat} {e : TypeId} {L : List Value} (h : w.ownsRow lo e s (.slice (some ⟨g, 0, none⟩) n c) n L) {p : Addr} (hp : p.block < lo) (u : Value) : (w.setCell p u).ownsRow lo e s (.slice (some ⟨g, 0, none⟩) n c) n L := by
  have hg : w.grownBy (w.setCell p u) (some p.block) := ⟨rfl, rfl, rfl, by simp [World.setCell], fun k _ hk => heap_setCell_other w p k u (fun e => hk (by simp [e]))⟩
  have h0 := (h.lt g rfl).1
  exact h.kept hg (.inr (by simp [Value.ownBlock]; omega))
theorem StoOwn.stored {w : World} {lo : Nat} {xs : List Ce} {g : Nat} (h : StoOwn w lo xs g) {p : Addr} (hp : p.block < lo) (u : Value) : StoOwn (w.setCell p u) lo xs g := by
  obtain ⟨G, L, h1, h2⟩ := h
  exact ⟨G, L, ownsRow_stored h1 hp u, h2.stored hp u⟩
def Sm2 (xs : List Ce) : Prop := xs.length ≤ 1048576 ∧ ∀ x ∈ xs, x.pl.length ≤ 1048576 ∧ x.st.length ≤ 1048576
theorem StoOwn.lies {w : World} {lo : Nat} {xs : List Ce} {g : Nat} (h : StoOwn w lo xs g) (hs : Sm2 xs) : CeL w (some ⟨g, 0, none⟩) xs := by
  obtain ⟨G, L, h1, h2⟩ := h
  exact CeL.of_own h1 h2 rfl hs.2
/-- So many stores of a row are in the call's own memory. -/
def StsOwn (w : World) (lo : Nat) (L : List Value) (xss : List (List Ce)) (k : Nat) : Prop :=
  ∀ i (xs : List Ce), i < k → xss[i]? = some xs → ∃ g, L[i]? = some (.slice (some ⟨g, 0, none⟩) xs.length xs.length) ∧ StoOwn w lo xs g
theorem StsOwn.below {w w' : World} {lo : Nat} {L : List Value} {xss : List (List Ce)} {k : Nat} (h : StsOwn w lo L xss k) (hb : Below w.heap.size w w') : StsOwn w' lo L xss k := fun i xs hi hx => by
  obtain ⟨g, h1, h2⟩ := h i xs hi hx
  exact ⟨g, h1, h2.below hb⟩
theorem StsOwn.stored {w : World} {lo : Nat} {L : List Value} {xss : List (List Ce)} {k : Nat} (h : StsOwn w lo L xss k) {p : Addr} (hp : p.block < lo) (u : Value) : StsOwn (w.setCell p u) lo L xss k := fun i xs hi hx => by
  obtain ⟨g, h1, h2⟩ := h i xs hi hx
  exact ⟨g, h1, h2.stored hp u⟩
theorem StsOwn.mono {w : World} {lo lo' : Nat} {L : List Value} {xss : List (List Ce)} {k : Nat} (h : StsOwn w lo L xss k) (hl : lo' ≤ lo) : StsOwn w lo' L xss k := fun i xs hi hx => by
  obtain ⟨g, h1, h2⟩ := h i xs hi hx
  exact ⟨g, h1, h2.mono hl⟩
theorem StsOwn.more {w : World} {lo g : Nat} {L : List Value} {xss : List (List Ce)} {xs : List Ce} {k : Nat} (h : StsOwn w lo L xss k) (hx : xss[k]? = some xs) (hL : k < L.length) (hc : StoOwn w lo xs g) : StsOwn w lo (L.set k (.slice (some ⟨g, 0, none⟩) xs.length xs.length)) xss (k + 1) := fun i ys hi hy => by
  rcases (by omega : i < k ∨ i = k) with hik | rfl
  · obtain ⟨g', h1, h2⟩ := h i ys hik hy
    exact ⟨g', by rw [List.getElem?_set_ne (by omega)]; exact h1, h2⟩
  · rw [hx] at hy
    injection hy with hy
    subst hy
    exact ⟨g, List.getElem?_set_self (by omega), hc⟩
theorem StL.of_own {w : World} {lo h n m : Nat} {L : List Value} {xss : List (List Ce)} (ho : w.ownsRow h 27 1 (.slice (some ⟨m, 0, none⟩) n n) n L) (hc : StsOwn w lo L xss n) (hn : xss.length = n) (hs : ∀ xs ∈ xss, Sm2 xs) : StL w (some ⟨m, 0, none⟩) xss := fun h0 => by
  refine ⟨m, 0, rfl, (ho.lt m rfl).2, fun i xs hx => ?_⟩
  have hi : i < n := by rw [← hn]; exact (List.getElem?_eq_some_iff.1 hx).1
  obtain ⟨g, a0, a2⟩ := hc i xs hi hx
  have hsz := hs xs (List.mem_of_getElem? hx)
  refine ⟨_, xs.length, ?_, a2.lies hsz, by unfold maxLen; have := hsz.1; omega, Nat.le_refl _⟩
  rw [Nat.zero_add, ho.cellAt i (by omega)]; exact a0
theorem infoSt : (Try.prog.info? 27).map (fun i => (i.zero, i.size, i.bytes)) = some (some (.slice none 0 0), 1, 24) := by kernel_rfl
def StoresX (n : Nat) (xss : List (List Ce)) (w : World) (e : Ending) (w' : World) : Prop :=
  ∃ L, e = .returned (.slice (some ⟨w.heap.size, 0, none⟩) n n) ∧ w'.ownsRow w.heap.size 27 1 (.slice (some ⟨w.heap.size, 0, none⟩) n n) n L ∧ StsOwn w' (w.heap.size + 1) L xss n ∧ Below w.heap.size w w'
set_option maxHeartbeats 2000000 in
theorem toStores_any (A : Option Addr) (c n : Nat) (xss : List (List Ce)) (w : World) (hx : StL w A xss) (hn : xss.length = n) (hl : n ≤ 1048576) (hs : ∀ xs ∈ xss, Sm2 xs) :
    Calls Try.prog 20 #[.slice A n c] w (StoresX n xss w) := by
  have HN := Lib.hid hn
  have HX := Lib.hid hx
  have HS := Lib.hid hs
  clear hx hn hs
  obtain ⟨i0, hi, hz0, hz1, hz2⟩ := info_parts infoSt
  have HZ2 := Lib.hid hz2
  clear hz2
  go_enter Try.func20, Try.ntmps20
  go_wp2_with (at_make; refine wpList_make_full _ rfl _ _ 28 rfl w.heap.size 27 i0 (.slice none 0 0) 1 Try.underlying28 hi hz0 hz1 .i64 .i64 _ _ n rfl rfl rfl rfl (by rw [HZ2.out]; omega) (by unfold maxLen; omega) (Nat.le_refl _) ?_; rintro w1 hown hgrow)
  have hB1 : Below w.heap.size w w1 := grown_below hgrow
  have hg1 : w.heap.size < w1.heap.size := (hown.lt _ rfl).2
  have HO := Lib.hid hown
  clear hown hgrow hi hz0 hz1
  go_loopw [4] (fun i wr => ∃ (k : Nat) (L : List Value), k ≤ n ∧ i = .int .i64 k ∧ wr.ownsRow w.heap.size 27 1 (.slice (some ⟨w.heap.size, 0, none⟩) n n) n L ∧ StsOwn wr (w.heap.size + 1) L xss k ∧ Below w.heap.size w wr) (fun i _ => n - (intOf i).toNat)
  case atStart => exact ⟨0, _, by omega, rfl, HO.out, fun i x h => by omega, hB1⟩
  case round =>
    obtain ⟨k, L, hk, rfl, hown, hces, hB⟩ := hrel
    have HC := Lib.hid hces
    have HO2 := Lib.hid hown
    have hgl : w.heap.size < wr.heap.size := (hown.lt _ rfl).2
    clear hces hown
    by_cases hlt : k < n
    · obtain ⟨b, off, rfl, hblt, hcell⟩ := (HX.out.below hB) (by have := HN.out; omega)
      obtain ⟨x, hx⟩ := at_some (show k < xss.length by rw [HN.out]; exact hlt)
      obtain ⟨A0, c0, e0, hat, hm0, hc0⟩ := hcell k x hx
      have hsz := HS.out x (List.mem_of_getElem? hx)
      have hs := toCells_any A0 c0 x.length x wr hat rfl hsz.1 hsz.2
      have HXK := Lib.hid hx
      clear hcell hx hat hsz
      go_wp2_with fail
      refine hs.mono ?_
      rintro e w2 ⟨G, L', rfl, hr, hce, hb⟩
      have hO3 := ownsRow_below HO2.out hb
      have hLl : L.length = n * 1 := hO3.1
      obtain ⟨u0, d0⟩ : ∃ u, w2.cell? ⟨w.heap.size, k, none⟩ = some u := ⟨_, (hO3.cellAt k (by omega)).trans (List.getElem?_eq_getElem (show k < L.length by omega))⟩
      have f0 := hO3.frozenAt k
      have HO3 := Lib.hid hO3
      have HLl := Lib.hid hLl
      have HB2 := Lib.hid (more hB (Nat.le_refl _) hb)
      have HC2 := Lib.hid (StsOwn.more (HC.out.below hb) HXK.out (by omega) ((show StoOwn w2 wr.heap.size x wr.heap.size from ⟨G, L', hr, hce.mono (by omega)⟩).mono hgl))
      clear hO3 hLl hb hs e0 hce hr
      go_wp2_with fail
      obtain ⟨s1, q1⟩ := HO3.out.stored k (.slice (some ⟨wr.heap.size, 0, none⟩) x.length x.length)
      go_roundw
      case rel => exact ⟨k + 1, _, by omega, by go_num, s1, HC2.out.stored (Nat.lt_succ_self _) _, HB2.out.setCell (Nat.le_refl _) _⟩
      case measure => simp [intOf]; omega
    · obtain rfl : k = n := by omega
      go_wp2_with fail
      go_ret
      exact ⟨L, rfl, HO2.out, HC.out, hB⟩
end Go.Proofs.Ytkofajjlkhamkaa
