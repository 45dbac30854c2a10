/- What is struck from a map of cells: the closure's answer, and what is left. -/
import Derived.Test.YtfdejmdhcjfboaaKey9
import Derived.Test.YtfdejmdhcjfboaaKey7
import Derived.Lib.SlMapFilter
namespace Go.Proofs.Ytfdejmdhcjfboaa
open Go.Joins Go.ChangeShapes Go.WideShapes Go.ChangeAt Go.RowKit Go.Deep Go.Maps Go.Sort Go.Shelf
set_option linter.unusedVariables false
set_option linter.unusedSimpArgs false

/-- Whether a key begins with a text. -/
def preD (t : List UInt8) (kl : Lit) (_ : DataW Value) : Bool := match kl with | .string s => t.isPrefixOf s | _ => false
theorem same_str {kl : Lit} {s : List UInt8} (h : kl.sameKey (.string s) = true) : kl = .string s := by
  cases kl with
  | string a => simp [Lit.sameKey] at h; rw [h]
  | _ => simp [Lit.sameKey] at h
theorem has_del {D : DataW Value} (hD : IsMap D) (t s : List UInt8) : has (Lib.deleteFuncD (preD t) D) (.string s) = (has D (.string s) && !t.isPrefixOf s) := by
  obtain ⟨es, rfl⟩ := hD
  show ((es.filter fun p => !preD t p.1 p.2).any fun p => p.1.sameKey (.string s)) = ((es.any fun p => p.1.sameKey (.string s)) && !t.isPrefixOf s)
  rw [List.any_filter]
  induction es with
  | nil => rfl
  | cons e es ih =>
    rw [List.any_cons, List.any_cons, ih]
    cases hk : e.1.sameKey (.string s)
    · simp
    · have he := same_str hk
      rw [he]
      show (!t.isPrefixOf s && true || _) = _
      cases t.isPrefixOf s <;> simp
theorem at_del {D : DataW Value} (hD : IsMap D) (t s : List UInt8) (hs : t.isPrefixOf s = false) (z : DataW Value) : (Lib.deleteFuncD (preD t) D).atKey (.string s) z = D.atKey (.string s) z := by
  obtain ⟨es, rfl⟩ := hD
  have : (es.filter fun p => !preD t p.1 p.2).find? (fun p => p.1.sameKey (.string s)) = es.find? (fun p => p.1.sameKey (.string s)) := by
    rw [List.find?_filter]
    congr 1
    funext p
    cases hk : p.1.sameKey (.string s)
    · simp
    · have he := same_str hk
      rw [he]
      have hq : preD t (.string s) p.2 = false := hs
      simp [hq]
  show DataW.atKey (.map (es.filter fun p => !preD t p.1 p.2)) (.string s) z = DataW.atKey (.map es) (.string s) z
  simp only [DataW.atKey, this]

set_option maxHeartbeats 400000 in
theorem cut1_any (s t : ByteArray) (u v : Value) (bx : Nat) (w : World) (hx : w.cell? ⟨bx, 0, none⟩ = some (.string t)) :
    Calls Try.prog 88 #[.string s, .agg #[u, v], .pointer (some ⟨bx, 0, none⟩)] w fun e w' => e = .returned (.bool (t.data.toList.isPrefixOf s.data.toList)) ∧ w.grownBy w' none := by
  have hne := World.block_lt_of_cell? w _ hx
  go_enter Try.func88, Try.ntmps88
  go_wp2_with fail
  refine (Try.strings_HasPrefix s t _).mono ?_
  rintro e w1 ⟨rfl, rfl⟩
  go_wp2_with fail
  go_ret
  exact ⟨rfl, World.grownBy_alloc w _ none⟩
end Go.Proofs.Ytfdejmdhcjfboaa
