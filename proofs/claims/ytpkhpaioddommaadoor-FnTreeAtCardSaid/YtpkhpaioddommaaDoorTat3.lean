/- Trees: ways split; what a drawn call and its box have laid. -/
import Derived.Test.YtpkhpaioddommaaDoorTat2
import Derived.Test.YtpkhpaioddommaaDoorSmt1
namespace Go.Proofs.YtpkhpaioddommaaDoor
open Go.Joins Go.ChangeShapes Go.WideShapes Go.ChangeAt Go.RowKit Go.Deep
set_option linter.unusedVariables false
set_option linter.unusedSimpArgs false

theorem atT_split {t x : Tr} {z : Int} {zs : List Int} (h : atT t (z :: zs) = some x) : ∃ y, atT t [z] = some y ∧ atT y zs = some x ∧ y ∈ t.ks := by
  rw [atT] at h
  split at h
  · rename_i hc
    cases hy : t.ks[z.toNat]? with
    | none => rw [hy] at h; cases h
    | some y =>
      rw [hy] at h
      refine ⟨y, ?_, h, List.mem_of_getElem? hy⟩
      rw [atT, if_pos hc, hy]
      rfl
  · cases h
theorem atV_split {t x : Tr} {z : Int} {zs : List Int} (h : atV t (z :: zs) = some x) : ∃ y, atV t [z] = some y ∧ atV y zs = some x ∧ y ∈ t.ks := by
  unfold atV at h
  split at h
  · rename_i hok
    obtain ⟨y, h1, h2, h3⟩ := atT_split h
    exact ⟨y, by unfold atV; rw [if_pos hok]; exact h1, by unfold atV; rw [if_pos (kid_valid hok h3)]; exact h2, h3⟩
  · cases h
theorem IntL.first {w : World} {A : Option Addr} {z : Int} {zs : List Int} (h : IntL w A (z :: zs)) : IntL w A [z] := fun _ => by
  obtain ⟨b, off, rfl, hlt, hc⟩ := h (by simp)
  refine ⟨b, off, rfl, hlt, fun k u hu => ?_⟩
  cases k with
  | zero => simp at hu; subst hu; exact hc 0 z (by simp)
  | succ k => simp at hu
theorem IntL.rest {w : World} {b : Nat} {z : Int} {zs : List Int} (h : IntL w (some ⟨b, 0, none⟩) (z :: zs)) : IntL w (some ⟨b, 1, none⟩) zs := fun h0 => by
  obtain ⟨b', off, he, hlt, hc⟩ := h (by simp)
  simp only [Option.some.injEq, Addr.mk.injEq, and_true] at he
  obtain ⟨rfl, rfl⟩ := he
  refine ⟨b, 1, rfl, hlt, fun k u hu => ?_⟩
  have := hc (k + 1) u (by simpa using hu)
  rw [show 0 + (k + 1) = 1 + k by omega] at this
  exact this
theorem IntL.nil {w : World} {A : Option Addr} : IntL w A [] := fun h => absurd h (by simp)
/-- TreeAt's answer where there is a part. -/
def TaS (y : Tr) (w : World) (e : Ending) (w' : World) : Prop := ∃ (D0 D1 : Option Addr) (i0 i1 : Nat), e = .returned (.tuple #[.agg #[.int .i64 y.tag, .int .i64 y.key, .string y.text, .slice D0 y.ps.length i0, .slice D1 y.ks.length i1], .bool true]) ∧ PrL w' D0 y.ps ∧ (∀ b o, D0 = some ⟨b, o, none⟩ → w.heap.size ≤ b) ∧ TrL w' w.heap.size D1 y.ks ∧ Below w.heap.size w w'
theorem TaX.is {t y : Tr} {zs : List Int} {w w' : World} {e : Ending} (h : TaX t zs w e w') (hs : atV t zs = some y) : TaS y w e w' := by
  obtain ⟨hb, ⟨hn, _⟩ | ⟨x, B0, B1, f0, f1, hx, rfl, hp, hl, hk⟩⟩ := h
  · rw [hs] at hn; cases hn
  · rw [hs] at hx
    cases hx
    exact ⟨B0, B1, f0, f1, rfl, hp, hl, hk, hb⟩
theorem TaX.no {t : Tr} {zs : List Int} {w w' : World} {e : Ending} (h : TaX t zs w e w') (hs : atV t zs = none) : e = .returned (.tuple #[.agg #[.int .i64 0, .int .i64 0, .string ⟨#[]⟩, .slice none 0 0, .slice none 0 0], .bool false]) ∧ Below w.heap.size w w' := by
  obtain ⟨hb, ⟨_, he⟩ | ⟨x, B0, B1, f0, f1, hx, rfl, hp, hl, hk⟩⟩ := h
  · exact ⟨he, hb⟩
  · rw [hs] at hx; cases hx
theorem fill_far {w : World} {g b : Nat} (hb : b ≠ g) (u0 u1 u2 u3 u4 : Value) : (((((w.setCell ⟨g, 0, none⟩ (u0)).setCell ⟨g, 1, none⟩ (u1)).setCell ⟨g, 2, none⟩ (u2)).setCell ⟨g, 3, none⟩ (u3)).setCell ⟨g, 4, none⟩ (u4)).heap[b]? = w.heap[b]? := by
  rw [Below.heap_setCell _ _ _ _ hb, Below.heap_setCell _ _ _ _ hb, Below.heap_setCell _ _ _ _ hb, Below.heap_setCell _ _ _ _ hb, Below.heap_setCell _ _ _ _ hb]
/-- A tree in a box of its own, with all that it needs. -/
def Laid (w0 : World) (y : Tr) (g : Nat) (D0 D1 : Option Addr) (i0 i1 : Nat) (we : World) : Prop :=
  Below w0.heap.size w0 we ∧ w0.heap.size ≤ g ∧ we.heap[g]? = some (.cells #[.int .i64 y.tag, .int .i64 y.key, .string y.text, .slice D0 y.ps.length i0, .slice D1 y.ks.length i1] 26) ∧ PrL we D0 y.ps ∧ TrL we 0 D1 y.ks
theorem Below.fill {B g : Nat} {w0 w : World} (h : Below B w0 w) (hg : B ≤ g) (u0 u1 u2 u3 u4 : Value) : Below B w0 (((((w.setCell ⟨g, 0, none⟩ (u0)).setCell ⟨g, 1, none⟩ (u1)).setCell ⟨g, 2, none⟩ (u2)).setCell ⟨g, 3, none⟩ (u3)).setCell ⟨g, 4, none⟩ (u4)) :=
  ((((h.setCell (p := ⟨g, 0, none⟩) hg u0).setCell (p := ⟨g, 1, none⟩) hg u1).setCell (p := ⟨g, 2, none⟩) hg u2).setCell (p := ⟨g, 3, none⟩) hg u3).setCell (p := ⟨g, 4, none⟩) hg u4
theorem fill_at {w : World} {g : Nat} (h : w.heap[g]? = some (.cells #[.int .i64 0, .int .i64 0, .string ⟨#[]⟩, .slice none 0 0, .slice none 0 0] 26)) (u0 u1 u2 u3 u4 : Value) : (((((w.setCell ⟨g, 0, none⟩ (u0)).setCell ⟨g, 1, none⟩ (u1)).setCell ⟨g, 2, none⟩ (u2)).setCell ⟨g, 3, none⟩ (u3)).setCell ⟨g, 4, none⟩ (u4)).heap[g]? = some (.cells #[u0, u1, u2, u3, u4] 26) := by
  simp [World.setCell, Array.getElem?_modify, h]
theorem fill_size {w : World} {g : Nat} (u0 u1 u2 u3 u4 : Value) : (((((w.setCell ⟨g, 0, none⟩ (u0)).setCell ⟨g, 1, none⟩ (u1)).setCell ⟨g, 2, none⟩ (u2)).setCell ⟨g, 3, none⟩ (u3)).setCell ⟨g, 4, none⟩ (u4)).heap.size = w.heap.size := by simp [World.setCell]
/-- The call first, then the box. -/
theorem laidA {w0 u1 : World} {y : Tr} {D0 D1 : Option Addr} {i0 i1 : Nat} (hb : Below w0.heap.size w0 u1) (hp : PrL u1 D0 y.ps) (hk : TrL u1 0 D1 y.ks) :
    Laid w0 y u1.heap.size D0 D1 i0 i1 ((((((u1.alloc (.cells #[.int .i64 0, .int .i64 0, .string ⟨#[]⟩, .slice none 0 0, .slice none 0 0] 26)).setCell ⟨u1.heap.size, 0, none⟩ (.int .i64 y.tag)).setCell ⟨u1.heap.size, 1, none⟩ (.int .i64 y.key)).setCell ⟨u1.heap.size, 2, none⟩ (.string y.text)).setCell ⟨u1.heap.size, 3, none⟩ (.slice D0 y.ps.length i0)).setCell ⟨u1.heap.size, 4, none⟩ (.slice D1 y.ks.length i1)) := by
  have hbu := Below.fill (Below.alloc (Below.refl u1.heap.size u1) (Nat.le_refl _) (.cells #[.int .i64 0, .int .i64 0, .string ⟨#[]⟩, .slice none 0 0, .slice none 0 0] 26)) (Nat.le_refl _) (.int .i64 y.tag) (.int .i64 y.key) (.string y.text) (.slice D0 y.ps.length i0) (.slice D1 y.ks.length i1)
  exact ⟨hb.trans (hbu.mono hb.size), hb.size, fill_at (World.alloc_heap_new u1 _) _ _ _ _ _, hp.below hbu, hk.below hbu⟩
/-- The box first, then the call. -/
theorem laidB {w0 u0 u1 : World} {y : Tr} {D0 D1 : Option Addr} {i0 i1 : Nat} (h0 : Below w0.heap.size w0 u0) (hg0 : u0.heap[w0.heap.size]? = some (.cells #[.int .i64 0, .int .i64 0, .string ⟨#[]⟩, .slice none 0 0, .slice none 0 0] 26)) (hb : Below u0.heap.size u0 u1) (hp : PrL u1 D0 y.ps) (hpl : ∀ b o, D0 = some ⟨b, o, none⟩ → u0.heap.size ≤ b) (hk : TrL u1 u0.heap.size D1 y.ks) :
    Laid w0 y w0.heap.size D0 D1 i0 i1 (((((u1.setCell ⟨w0.heap.size, 0, none⟩ (.int .i64 y.tag)).setCell ⟨w0.heap.size, 1, none⟩ (.int .i64 y.key)).setCell ⟨w0.heap.size, 2, none⟩ (.string y.text)).setCell ⟨w0.heap.size, 3, none⟩ (.slice D0 y.ps.length i0)).setCell ⟨w0.heap.size, 4, none⟩ (.slice D1 y.ks.length i1)) := by
  have hgl := (Array.getElem?_eq_some_iff.1 hg0).1
  have h1 := (hb.block _ hgl).trans hg0
  have hsz := Nat.le_of_eq (fill_size (w := u1) (g := w0.heap.size) (.int .i64 y.tag) (.int .i64 y.key) (.string y.text) (.slice D0 y.ps.length i0) (.slice D1 y.ks.length i1)).symm
  refine ⟨Below.fill (h0.trans (hb.mono h0.size)) (Nat.le_refl _) _ _ _ _ _, Nat.le_refl _, fill_at h1 _ _ _ _ _, ?_, ?_⟩
  · exact PrL.kept (lo := u0.heap.size) hsz (fun b hb _ => fill_far (by omega) _ _ _ _ _) hp hpl
  · exact (TrL.kept (lo := u0.heap.size) hsz (fun b hb _ => fill_far (by omega) _ _ _ _ _) hk).mono (Nat.zero_le _)
/-- What is left is the same, in whatever order it was laid. -/
theorem laterR {P : Prop} {F G : Nat → Option Addr → Option Addr → Nat → Nat → World → Prop} (h : Hid (∀ g a b c d w, F g a b c d w → G g a b c d w) → P) (ht : ∀ g a b c d w, F g a b c d w → G g a b c d w) : P := h (Lib.hid ht)
end Go.Proofs.YtpkhpaioddommaaDoor
