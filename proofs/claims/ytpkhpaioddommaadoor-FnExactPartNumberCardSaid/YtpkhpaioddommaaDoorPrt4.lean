/- Trees: the program's iterator over the parts of a tree, as a loop over it wants it. -/
import Derived.Test.YtpkhpaioddommaaDoorPrt3
namespace Go.Proofs.YtpkhpaioddommaaDoor
open Go.Joins Go.ChangeShapes Go.WideShapes Go.ChangeAt Go.RowKit Go.Deep
set_option linter.unusedVariables false
set_option linter.unusedSimpArgs false

attribute [local go_sem] Oper.semAt_some
set_option maxHeartbeats 1000000 in
theorem eachPart_any (tag key : Int) (text : ByteArray) (A0 A1 : Option Addr) (n0 c0 n1 c1 : Nat) (w : World) :
    Calls Tryd.prog 61 #[.agg #[.int .i64 tag, .int .i64 key, .string text, .slice A0 n0 c0, .slice A1 n1 c1]] w fun e w' =>
      e = .returned (.func (.func 91) #[] #[.pointer (some ⟨w.heap.size, 0, none⟩)]) ∧ w' = w.alloc (.cells #[.int .i64 tag, .int .i64 key, .string text, .slice A0 n0 c0, .slice A1 n1 c1] 26) := by
  go_enter Tryd.func61, Tryd.ntmps61
  go_wp2
  go_ret
  exact ⟨rfl, rfl⟩
def TREEC (t : Tr) (A0 : Option Addr) (c0 : Nat) (A1 : Option Addr) (c1 : Nat) : Obj := .cells #[.int .i64 t.tag, .int .i64 t.key, .string t.text, .slice A0 t.ps.length c0, .slice A1 t.ks.length c1] 26
set_option maxRecDepth 100000 in
set_option maxHeartbeats 1000000 in
theorem parts_seq (n : Nat) (w0 w : World) (t : Tr) (A0 A1 : Option Addr) (c0 c1 bt : Nat) (hsm : SmT t) (hsz : sizeT t ≤ 1000) (hlow : Below w0.heap.size w0 w) (hp : PrL w0 A0 t.ps) (hk : TrL w0 0 A1 t.ks)
    (hbt : w.heap[bt]? = some (TREEC t A0 c0 A1 c1)) :
    SeqX Fence.wide n Tryd.prog 91 #[.pointer (some ⟨bt, 0, none⟩)] Pt.encs (PtX w0 (w.heap.size + 2) (partsT [] t)) (KpP w0.heap.size (w.heap.size + 2)) (fun xs => xs.map Pt.key = partsT [] t) (fun pre => pre.map Pt.key <+: partsT [] t) (sizeT t) w := by
  intro l J Jx W hW hWz hJ hJx hY h0
  have hbw : bt < w.heap.size := (Array.getElem?_eq_some_iff.1 hbt).1
  have hbx := five_cells (show W.heap[bt]? = some (.cells #[.int .i64 t.tag, .int .i64 t.key, .string t.text, .slice A0 t.ps.length c0, .slice A1 t.ks.length c1] 26 (0, 0)) from (hW.block bt hbw).trans hbt)
  obtain ⟨b0, b1, b2, b3, b4⟩ := hbx
  have K := yieldParts_any l (w.heap.size + 2) (sizeT t) w0 (partsT [] t) J Jx hJ (fun m pre x W1 hj hx hl => YieldAt.wide (hY pre x W1 hj hx hl)) t hsm [] none A0 A1 0 c0 c1 [] W (fun y hy => hy) (by omega) (hlow.trans (hW.mono hlow.size)) (WayR.nil _ _) hp hk (by simpa using hsz) h0 (by simp)
  have hll : ([] : List Nat).length = 0 := rfl
  rw [hll] at K
  have HK := Lib.hid K
  clear K hY hJ hJx hW hp hk hbt h0
  obtain ⟨tag, key, text, ps, ks⟩ := t
  dsimp only [Tr.tag, Tr.key, Tr.text, Tr.ps, Tr.ks] at *
  generalize ps.length = np at *
  generalize ks.length = nk at *
  refine callsIn_wide.2 ?_
  go_enter Tryd.func91, Tryd.ntmps91
  go_wp2_with fail
  refine HK.out.mono ?_
  rintro e w1 ⟨_, ⟨rfl, ys, hy, hj⟩ | ⟨rfl, ys, hy, hx⟩⟩
  · have HY := Lib.hid hy
    have HJ := Lib.hid hj
    clear hy hj HK
    go_wp2_with fail
    go_end0
    exact ⟨⟨_, rfl⟩, .inl ⟨ys, HY.out, HJ.out⟩⟩
  · have HY := Lib.hid hy
    have HX := Lib.hid hx
    clear hy hx HK
    go_wp2_with fail
    go_end0
    exact ⟨⟨_, rfl⟩, .inr ⟨ys, HY.out, HX.out⟩⟩
end Go.Proofs.YtpkhpaioddommaaDoor
