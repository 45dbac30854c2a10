/- Ways in rows of their own, marked and found again; what a tree of its own gives. -/
import Derived.Test.YtpkhpaioddommaaDoorMkt3
import Derived.Test.YtpkhpaioddommaaDoorWy1
namespace Go.Proofs.YtpkhpaioddommaaDoor
open Go.Joins Go.ChangeShapes Go.WideShapes Go.ChangeAt Go.RowKit Go.Deep
set_option linter.unusedVariables false
set_option linter.unusedSimpArgs false

theorem way_long : ∀ (t : Tr) (way : List Nat) (i : Nat) (y : List Nat × Tr), (partsT way t)[i]? = some y → y.1.length ≤ way.length + i := Tr.by_kids fun t ih way i y h => by
  have hl : ∀ (ks : List Tr) (j i : Nat), (∀ x ∈ ks, ∀ (way : List Nat) (i : Nat) (y : List Nat × Tr), (partsT way x)[i]? = some y → y.1.length ≤ way.length + i) → (partsL way j ks)[i]? = some y → y.1.length ≤ way.length + i + 1 := by
    intro ks
    induction ks with
    | nil => intro j i _ h; simp only [partsL] at h; simp at h
    | cons x xs ihx =>
      intro j i hx h
      simp only [partsL] at h
      by_cases hi : i < (partsT (way ++ [j]) x).length
      · rw [List.getElem?_append_left hi] at h
        have := hx x (by simp) _ _ _ h
        rw [List.length_append, List.length_singleton] at this
        omega
      · rw [List.getElem?_append_right (by omega)] at h
        have := ihx (j + 1) _ (fun z hz => hx z (List.mem_cons_of_mem _ hz)) h
        omega
  rw [partsT_eq] at h
  cases i with
  | zero => simp at h; subst h; simp
  | succ i =>
    rw [List.getElem?_cons_succ] at h
    have := hl t.ks 0 i ih h
    omega
/-- Whole numbers in a row of the call's own, from block lo up to hi. -/
def IntO (w : World) (lo hi : Nat) (A : Option Addr) (c : Nat) (zs : List Int) : Prop := 0 < zs.length → ∃ g, A = some ⟨g, 0, none⟩ ∧ lo ≤ g ∧ g < hi ∧ w.ownsRow 0 3 1 (.slice (some ⟨g, 0, none⟩) zs.length c) zs.length (zV zs)
theorem IntO.lies {w : World} {lo hi c : Nat} {A : Option Addr} {zs : List Int} (h : IntO w lo hi A c zs) : IntL w A zs := fun h0 => by
  obtain ⟨g, rfl, _, _, ho⟩ := h h0
  exact IntL.of_own ho h0
theorem IntO.below {w w' : World} {lo hi c : Nat} {A : Option Addr} {zs : List Int} (h : IntO w lo hi A c zs) (hb : Below w.heap.size w w') : IntO w' lo hi A c zs := fun h0 => by
  obtain ⟨g, rfl, a, b, ho⟩ := h h0
  exact ⟨g, rfl, a, b, own_moved ho (hb.block g (ho.lt g rfl).2)⟩
theorem IntO.turn {w w' : World} {lo hi l2 h2 c : Nat} {A : Option Addr} {zs : List Int} (h : IntO w lo hi A c zs) (ht : Turn l2 h2 w w') (hr : hi ≤ l2 ∨ h2 ≤ lo) : IntO w' lo hi A c zs := fun h0 => by
  obtain ⟨g, rfl, a, b, ho⟩ := h h0
  exact ⟨g, rfl, a, b, own_moved ho (ht.block g (ho.lt g rfl).2 (by omega))⟩
theorem intV_natI (ns : List Nat) : intV ns = zV (natI ns) := by unfold intV zV natI; rw [List.map_map]; rfl
def zsP (t : Tr) (n : Int) : List Int := (wayP t n).elim [] natI
theorem zsP_len (t : Tr) (n : Int) : (zsP t n).length ≤ 1000 := by
  unfold zsP
  cases h : wayP t n with
  | none => simp
  | some way =>
    simp only [Option.elim_some, natI_len]
    unfold wayP at h
    split at h
    · rename_i hc
      obtain ⟨y, hy, rfl⟩ := Option.map_eq_some_iff.1 h
      have hlen := way_long t [] n.toNat y hy
      simp only [List.length_nil] at hlen
      have hlt := (List.getElem?_eq_some_iff.1 hy).1
      rw [partsT_length] at hlt
      have hs := size_le200 hc.1
      omega
    · cases h
/-- What PartWay answers, in a row of its own. -/
def WyO (zs : List Int) (ok : Bool) (w : World) (e : Ending) (w' : World) : Prop := ∃ (A : Option Addr) (c : Nat), e = .returned (.tuple #[.slice A zs.length c, .bool ok]) ∧ IntO w' w.heap.size w'.heap.size A c zs ∧ Below w.heap.size w w'
theorem WyX.own {t : Tr} {n : Int} {w w' : World} {e : Ending} (h : WyX t n w e w') : WyO (zsP t n) (wayP t n).isSome w e w' := by
  obtain ⟨hb, ⟨hn, rfl⟩ | ⟨way, A, c, hn, rfl, hr⟩⟩ := h
  · unfold zsP
    rw [hn]
    exact ⟨none, 0, rfl, fun h => absurd h (by simp), hb⟩
  · unfold zsP
    rw [hn]
    refine ⟨A, c, by simp [natI_len], fun h0 => ?_, hb⟩
    simp only [Option.elim_some, natI_len] at h0 ⊢
    rcases hr.block with rfl | ⟨g, cur, rfl, hlo, hg⟩
    · rcases hr.2 with ⟨_, h1⟩ | ⟨g, cap, cur, e1, _⟩
      · omega
      · cases e1
    · refine ⟨g, rfl, hlo, (Array.getElem?_eq_some_iff.1 hg).1, ?_⟩
      rw [← intV_natI]
      exact own_zero hr
/-- Numbers marked, in a row of their own. -/
theorem markInts_own (lo hi k n c : Nat) (A : Option Addr) (zs : List Int) (w : World) (hp : IntO w lo hi A c zs) (hn : zs.length = n) (hl : n ≤ 1048576) (hk : k ≤ 50000000) :
    Calls Tryd.prog 42 #[.slice A n c, .int .i64 k] w fun e w' => e = .returned (.int .i64 (k + n : Nat)) ∧ IntO w' lo hi A c (markI n k) ∧ Turn lo hi w w' := by
  rcases Nat.eq_zero_or_pos n with rfl | h0
  · refine (markInts_nil A c k w).mono ?_
    rintro e w' ⟨rfl, rfl⟩
    exact ⟨by simp, fun h => absurd h (by simp [markI]), Turn.refl _ _ _⟩
  · obtain ⟨g, rfl, a, b, ho⟩ := hp (by omega)
    rw [hn] at ho
    refine (markInts_any g c 0 k n _ w ho hl hk).mono ?_
    rintro e w' ⟨rfl, ho, hg⟩
    exact ⟨rfl, fun _ => ⟨g, rfl, a, b, by rw [markI_len]; exact ho⟩, Turn.of_grown hg a b⟩
theorem TrO.later {w w' : World} {lo hi : Nat} {cs : List Value} {t : Tr} (h : TrO w lo hi cs t) (hh : hi ≤ w.heap.size) (hb : Below w.heap.size w w') : TrO w' lo hi cs t := h.kept fun b _ h2 => hb.block b (by omega)
theorem TrO.use {w : World} {lo hi : Nat} {t : Tr} {A0 A1 : Option Addr} {c0 c1 : Nat} (h : TrO w lo hi [.int .i64 t.tag, .int .i64 t.key, .string t.text, .slice A0 t.ps.length c0, .slice A1 t.ks.length c1] t) : PrL w A0 t.ps ∧ TrL w 0 A1 t.ks := by
  obtain ⟨B0, d0, B1, d1, e, hp, _, hk⟩ := h.trc.open_
  simp only [List.cons.injEq, Value.slice.injEq, and_true, true_and] at e
  obtain ⟨⟨rfl, rfl⟩, rfl, rfl⟩ := e
  exact ⟨hp, hk⟩
end Go.Proofs.YtpkhpaioddommaaDoor
