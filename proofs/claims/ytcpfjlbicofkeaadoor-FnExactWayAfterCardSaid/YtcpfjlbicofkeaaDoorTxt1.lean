/- Trees: all their texts, by the document's own text. -/
import Derived.Test.YtcpfjlbicofkeaaDoorTre6
import Derived.Test.YtcpfjlbicofkeaaDoorTre11
namespace Go.Proofs.YtcpfjlbicofkeaaDoor
open Go.Joins Go.ChangeShapes Go.WideShapes Go.ChangeAt Go.RowKit Go.Deep
set_option linter.unusedVariables false
set_option linter.unusedSimpArgs false

mutual
  /-- All texts, one behind the other. -/
  def textT : Tr → ByteArray
    | .mk _ _ text _ ks => text ++ textL ks
  def textL : List Tr → ByteArray
    | [] => ⟨#[]⟩
    | x :: xs => textT x ++ textL xs
end
theorem textL_drop {ks : List Tr} {k : Nat} {x : Tr} (hx : ks[k]? = some x) : textL (ks.drop k) = textT x ++ textL (ks.drop (k + 1)) := by
  obtain ⟨hk, he⟩ := List.getElem?_eq_some_iff.1 hx
  rw [List.drop_eq_getElem_cons hk, he]
  simp only [textL]
theorem textT_eq (t : Tr) : textT t = t.text ++ textL t.ks := by
  obtain ⟨_, _, _, _, _⟩ := t
  simp only [textT, Tr.ks, Tr.text]
def textOfV (t : Tr) : ByteArray := if treeOkB t = true then textT t else ⟨#[]⟩
end Go.Proofs.YtcpfjlbicofkeaaDoor
