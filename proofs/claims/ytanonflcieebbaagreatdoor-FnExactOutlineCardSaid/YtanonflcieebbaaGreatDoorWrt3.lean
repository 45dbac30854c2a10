/- The program's own writer of trees: a whole tree. -/
import Derived.Test.YtanonflcieebbaaGreatDoorWrt2
import Derived.RangeFuncRecord
namespace Go.Proofs.YtanonflcieebbaaGreatDoor
open Go.Joins Go.ChangeShapes Go.WideShapes Go.ChangeAt Go.RowKit Go.Deep
set_option linter.unusedVariables false
set_option linter.unusedSimpArgs false

theorem ba_nilR (s : ByteArray) : s ++ (⟨#[]⟩ : ByteArray) = s := by apply ByteArray.ext; simp [ByteArray.data_append]
def WtC (t : Tr) : Prop := ∀ (A0 A1 : Option Addr) (c0 c1 B b : Nat) (bs : List Value) (w0 w : World), TabB B w0 → w0.heap.size ≤ B → Below B w0 w → BdW B b bs w → PrL w0 A0 t.ps → TrL w0 0 A1 t.ks → bs.length + (wordsT t).size ≤ 100000000 →
  Calls Tryz.prog 71 #[.pointer (some ⟨b, 0, none⟩), .agg #[.int .i64 t.tag, .int .i64 t.key, .string t.text, .slice A0 t.ps.length c0, .slice A1 t.ks.length c1]] w fun e w' => e = .returned (.tuple #[]) ∧ AddW B b bs (wordsT t) w w'
theorem kd_new (w : World) (c : Array Value) (T : TypeId) : ∃ c' fz, (w.alloc (.cells c T)).heap[w.heap.size]? = some (.cells c' T fz) := ⟨c, (0, 0), World.alloc_heap_new w _⟩
theorem kd_set {w : World} {k : Nat} {T : TypeId} {p : Addr} {v : Value} (h : ∃ c fz, w.heap[k]? = some (.cells c T fz)) : ∃ c fz, (w.setCell p v).heap[k]? = some (.cells c T fz) := by
  obtain ⟨c, fz, h⟩ := h
  by_cases e : p.block = k
  · subst e
    refine ⟨if p.spot.isSome then c else c.setIfInBounds p.off v, fz, ?_⟩
    simp [World.setCell, Array.getElem?_modify, h]
  · exact ⟨c, fz, by simp [World.setCell, Array.getElem?_modify, e, h]⟩
theorem AddW.cellK {B b : Nat} {bs : List Value} {s : ByteArray} {w w' : World} (h : AddW B b bs s w w') {p : Addr} (hne : p.block ≠ b) {T : TypeId} (hk : ∃ c fz, w.heap[p.block]? = some (.cells c T fz)) (hT : T ≠ 5) : w'.cell? p = w.cell? p := by
  obtain ⟨c, fz, hk⟩ := hk
  exact h.cell hne hk hT
theorem AddW.kd {B b : Nat} {bs : List Value} {s : ByteArray} {w w' : World} (h : AddW B b bs s w w') {k : Nat} (hne : k ≠ b) {T : TypeId} (hk : ∃ c fz, w.heap[k]? = some (.cells c T fz)) (hT : T ≠ 5) : ∃ c fz, w'.heap[k]? = some (.cells c T fz) := by
  obtain ⟨c, fz, hk⟩ := hk
  exact ⟨c, fz, h.block hne hk hT⟩
set_option maxRecDepth 100000 in
set_option maxHeartbeats 2000000 in
theorem itree_any (t : Tr) : SmT t → treeOkB t = true → WtC t := by
  induction t using Tr.by_kids with
  | h t ih =>
  intro hsm hok A0 A1 c0 c1 B b bs w0 w hT hsz hb0 hbd hp hk hlen
  obtain ⟨s0, s1, s2, s3, s4⟩ := hsm.open_
  have hn := node_ok hok
  have ihk := fun x hx => ih x hx (s4 x hx) (kid_valid hok hx)
  have hblt := hbd.lt
  have hbge := hbd.ge
  have hBs : B ≤ w.heap.size := by omega
  have hwt := @wordsT_text t
  have hwe := @wordsT_elem t
  obtain ⟨tag, key, text, ps, ks⟩ := t
  dsimp only [Tr.tag, Tr.key, Tr.text, Tr.ps, Tr.ks] at *
  obtain ⟨np, hnp⟩ : ∃ q, ps.length = q := ⟨_, rfl⟩
  obtain ⟨nk, hnk⟩ : ∃ q, ks.length = q := ⟨_, rfl⟩
  rw [hnp] at s1 ⊢
  rw [hnk] at s3 ⊢
  unfold maxLen at s1 s3
  have hbx := Below.alloc (Below.refl w.heap.size w) (Nat.le_refl _) (.cells #[.int .i64 tag, .int .i64 key, .string text, .slice A0 np c0, .slice A1 nk c1] 32)
  have hkx : (w.alloc (.cells #[.int .i64 tag, .int .i64 key, .string text, .slice A0 np c0, .slice A1 nk c1] 32)).heap[w.heap.size]? = some (.cells #[.int .i64 tag, .int .i64 key, .string text, .slice A0 np c0, .slice A1 nk c1] 32) := World.alloc_heap_new w _
  have HD := Lib.hid (hbd.later hbx)
  have HB := Lib.hid (hb0.trans (hbx.mono hBs))
  have hxb : w.heap.size ≠ b := by omega
  have o0 : (w.alloc (.cells #[.int .i64 tag, .int .i64 key, .string text, .slice A0 np c0, .slice A1 nk c1] 32)).cell? ⟨w.heap.size, 0, none⟩ = some (.int .i64 tag) := by go_simp
  have o1 : (w.alloc (.cells #[.int .i64 tag, .int .i64 key, .string text, .slice A0 np c0, .slice A1 nk c1] 32)).cell? ⟨w.heap.size, 1, none⟩ = some (.int .i64 key) := by go_simp
  have o2 : (w.alloc (.cells #[.int .i64 tag, .int .i64 key, .string text, .slice A0 np c0, .slice A1 nk c1] 32)).cell? ⟨w.heap.size, 2, none⟩ = some (.string text) := by go_simp
  have o3 : (w.alloc (.cells #[.int .i64 tag, .int .i64 key, .string text, .slice A0 np c0, .slice A1 nk c1] 32)).cell? ⟨w.heap.size, 3, none⟩ = some (.slice A0 np c0) := by go_simp
  have o4 : (w.alloc (.cells #[.int .i64 tag, .int .i64 key, .string text, .slice A0 np c0, .slice A1 nk c1] 32)).cell? ⟨w.heap.size, 4, none⟩ = some (.slice A1 nk c1) := by go_simp
  have HBX := Lib.hid hbx
  have HKX := Lib.hid hkx
  have HP := Lib.hid hp
  have HK := Lib.hid hk
  have HI := Lib.hid ihk
  have HT := Lib.hid hT
  have HNP := Lib.hid hnp
  have HNK := Lib.hid hnk
  clear hbd hb0 hbx hkx hp hk ih ihk hT hnp hnk hok hsm s0 s2 s4
  generalize wordsT (.mk tag key text ps ks) = wd at hwt hwe hlen ⊢
  obtain ⟨wx, hwx⟩ : ∃ wx, (w.alloc (.cells #[.int .i64 tag, .int .i64 key, .string text, .slice A0 np c0, .slice A1 nk c1] 32)) = wx := ⟨_, rfl⟩
  rw [hwx] at HD HB HBX HKX o0 o1 o2 o3 o4
  have HO4 := Lib.hid o4
  rcases hn with ⟨rfl, h1⟩ | ⟨h0, a0, a1, a2, a3, a4⟩
  · have hw := hwt rfl
    clear hwt hwe
    subst hw
    have K := Lib.hid (quotedW_any B b bs text wx HD.out (by rw [q39_size] at hlen; omega))
    go_enter Tryz.func71, Tryz.ntmps71
    go_wp2_with fail
    refine K.out.mono ?_
    rintro e w' ⟨rfl, ha⟩
    have HA := Lib.hid (AddW.before HBX.out hBs ha)
    clear ha K
    go_wp2_with fail
    (try simp only [Exit.inBlock, Exit.then])
    refine bodyPost_ret (results_none rfl _ _ _) rfl ?_
    exact ⟨rfl, HA.out⟩
  have hw := hwe h0
  clear hwt hwe
  have ht : ((tag : Int) == -1) = false := by simpa using h0
  have HPO := Lib.hid (runP_ok _ _ a4)
  clear a4
  have hz := congrArg ByteArray.size hw
  rw [ByteArray.size_append] at hz
  have hz1 : (⟨#[41]⟩ : ByteArray).size = 1 := rfl
  have hzh : (headW tag key ++ prsW ps).size ≤ wd.size := by rw [ByteArray.size_append] at hz; omega
  have hzk : (headW tag key ++ prsW ps ++ kidsW ks).size + 1 = wd.size := by omega
  have hzh0 : (headW tag key).size ≤ wd.size := by rw [ByteArray.size_append] at hzh; omega
  clear hz hz1
  by_cases hkey : key = -1
  · subst hkey
    have hd0 : headW tag (-1) = (⟨#[40, 116]⟩ : ByteArray) ++ itoaB tag := by unfold headW; rw [if_pos rfl]
    obtain ⟨hd, hhd⟩ : ∃ u, headW tag (-1) = u := ⟨_, rfl⟩
    rw [hhd] at hw hzh hzk hzh0
    have hzt : 2 + (itoaB tag).size ≤ wd.size := by rw [← hhd, hd0, ByteArray.size_append] at hzh0; exact hzh0
    have KT := Lib.hid (numberW_any B b bs ⟨#[40, 116]⟩ tag w0 wx HT.out HB.out HD.out (by omega) (by omega) (by have := hzt; show _ + 2 + _ ≤ _; omega))
    have HW := Lib.hid hw
    go_enter Tryz.func71, Tryz.ntmps71
    go_wp2_with fail
    refine KT.out.mono ?_
    rintro e w1 ⟨rfl, ha⟩
    replace o1 := (ha.cellK (p := ⟨w.heap.size, 1, none⟩) hxb ⟨_, _, HKX.out⟩ (by decide)).trans o1
    replace o3 := (ha.cellK (p := ⟨w.heap.size, 3, none⟩) hxb ⟨_, _, HKX.out⟩ (by decide)).trans o3
    replace o4 := (ha.cellK (p := ⟨w.heap.size, 4, none⟩) hxb ⟨_, _, HKX.out⟩ (by decide)).trans o4
    have HA := Lib.hid ha
    clear ha KT
    have e0 : hd = (⟨#[40, 116]⟩ : ByteArray) ++ itoaB tag := hhd.symm.trans hd0
    rw [← e0] at HA
    clear e0 hd0 hhd
    go_wp2_with fail
    go_loopw [29] (fun i wr => ∃ (k : Nat) (q : ByteArray), k ≤ np ∧ i = .int .i64 k ∧ Hid (q ++ prsW (ps.drop k) = hd ++ prsW ps) ∧ Hid (AddW B b bs q wx wr)) (fun i _ => np - (intOf i).toNat)
    case atStart => exact ⟨0, hd, by omega, rfl, Lib.hid (by rw [List.drop_zero]), HA⟩
    case round =>
      obtain ⟨k, q, hk, rfl, HQ, HAR⟩ := hrel
      have HBR := Lib.hid (HB.out.trans HAR.out.2.1)
      by_cases hlt : k < np
      · obtain ⟨b2, off, rfl, hblt2, hcell⟩ := PrL.at_ HP.out (by have := HNP.out; omega)
        obtain ⟨x, hx⟩ := at_some (show k < ps.length by rw [HNP.out]; exact hlt)
        obtain ⟨e0, e1, e2, e3⟩ := hcell k x hx
        replace e0 := (HBR.out.cell (p := ⟨b2, off + k * 4, none⟩) (Nat.lt_of_lt_of_le hblt2 hsz)).trans e0
        replace e1 := (HBR.out.cell (p := ⟨b2, off + k * 4 + 1, none⟩) (Nat.lt_of_lt_of_le hblt2 hsz)).trans e1
        replace e2 := (HBR.out.cell (p := ⟨b2, off + k * 4 + 2, none⟩) (Nat.lt_of_lt_of_le hblt2 hsz)).trans e2
        replace e3 := (HBR.out.cell (p := ⟨b2, off + k * 4 + 3, none⟩) (Nat.lt_of_lt_of_le hblt2 hsz)).trans e3
        have hpo := HPO.out x (List.mem_of_getElem? hx)
        have hQ := HQ.out
        rw [prsW_drop hx, ← ByteArray.append_assoc] at hQ
        have hsum : (q ++ prW x).size ≤ wd.size := by
          have e := congrArg ByteArray.size hQ
          rw [ByteArray.size_append] at e
          omega
        rw [ByteArray.size_append] at hsum
        have hpz : (prW x).size = 2 + (itoaB x.nm).size + 1 + (valW x.v.k x.v.n x.v.s).size := by
          unfold prW
          rw [ByteArray.size_append, ByteArray.size_append, ByteArray.size_append]
          rfl
        have hbl : (bs ++ Lib.strCells q).length = bs.length + q.size := by rw [List.length_append, Lib.strCells_length]
        have KN := Lib.hid (fun w' (hb : Below wr.heap.size wr w') => numberW_any B b (bs ++ Lib.strCells q) ⟨#[32, 112]⟩ x.nm w0 w' HT.out (HBR.out.trans (hb.mono (by have := HAR.out.size; have := HBX.out.size; omega))) (HAR.out.1.later hb) (by have := hpo.1; omega) (by have := hpo.2.1; omega) (by rw [hbl]; show _ + 2 + _ ≤ _; omega))
        have hpw : prW x = ((((⟨#[32, 112]⟩ : ByteArray) ++ itoaB x.nm) ++ ⟨#[61]⟩) ++ valW x.v.k x.v.n x.v.s) := rfl
        have KV := Lib.hid hpo.2.2
        have HQ2 := Lib.hid hQ
        have HPW := Lib.hid hpw
        have HBL := Lib.hid hbl
        have hwrb : b < wr.heap.size := HAR.out.1.lt
        have hwrw : w.heap.size < wr.heap.size := by have := HAR.out.size; have h2 := (Array.getElem?_eq_some_iff.1 HKX.out).1; omega
        clear hQ hpw hbl hpo hcell hx HQ
        obtain ⟨nm, ⟨vk, vn, vs⟩⟩ := x
        dsimp only at *
        obtain ⟨u1, hu1⟩ : ∃ u, itoaB nm = u := ⟨_, rfl⟩
        obtain ⟨u2, hu2⟩ : ∃ u, valW vk vn vs = u := ⟨_, rfl⟩
        have KV2 := Lib.hid (fun bs2 w2 hb0 hbd hl => valueW_any B b bs2 vk vn vs w0 w2 HT.out hb0 hbd KV.out hl)
        rw [hu1] at KN HPW hpz
        rw [hu2] at KV2 HPW hpz
        clear hu1 hu2 KV
        have hi1 : (0 : Int) ≤ (k : Int) := by omega
        have hi2 : (k : Int) < (np : Int) := by omega
        go_wp2_with fail
        refine (KN.out _ (by go_grown)).mono ?_
        rintro e w2 ⟨rfl, ha⟩
        have x1 := (ha.cellK (p := ⟨wr.heap.size, 1, none⟩) (show wr.heap.size ≠ b by omega) (by first | exact kd_new _ _ _ | exact kd_set (kd_new _ _ _) | exact kd_set (kd_set (kd_set (kd_set (kd_new _ _ _))))) (by decide)).trans (by go_simp : _ = some (.int .i64 vk))
        have x2 := (ha.cellK (p := ⟨wr.heap.size, 2, none⟩) (show wr.heap.size ≠ b by omega) (by first | exact kd_new _ _ _ | exact kd_set (kd_new _ _ _) | exact kd_set (kd_set (kd_set (kd_set (kd_new _ _ _))))) (by decide)).trans (by go_simp : _ = some (.int .i64 vn))
        have x3 := (ha.cellK (p := ⟨wr.heap.size, 3, none⟩) (show wr.heap.size ≠ b by omega) (by first | exact kd_new _ _ _ | exact kd_set (kd_new _ _ _) | exact kd_set (kd_set (kd_set (kd_set (kd_new _ _ _))))) (by decide)).trans (by go_simp : _ = some (.string vs))
        have xk := ha.kd (k := wr.heap.size) (T := 88) (by omega) (by first | exact kd_new _ _ _ | exact kd_set (kd_new _ _ _) | exact kd_set (kd_set (kd_set (kd_set (kd_new _ _ _))))) (by decide)
        have HA1 := Lib.hid (AddW.before (w := wr) (by go_grown) (by have := HAR.out.1.ge; omega) ha)
        have HXK := Lib.hid xk
        clear ha xk KN
        have KE := Lib.hid (ws_add B b _ ⟨#[61]⟩ w2 HA1.out.1 (by rw [List.length_append, HBL.out, Lib.strCells_length, ByteArray.size_append]; show _ + (2 + u1.size) + 1 ≤ _; omega))
        go_wp2_with fail
        refine KE.out.mono ?_
        rintro e w3 ⟨rfl, ha⟩
        replace x1 := (ha.cellK (p := ⟨wr.heap.size, 1, none⟩) (show wr.heap.size ≠ b by omega) HXK.out (by decide)).trans x1
        replace x2 := (ha.cellK (p := ⟨wr.heap.size, 2, none⟩) (show wr.heap.size ≠ b by omega) HXK.out (by decide)).trans x2
        replace x3 := (ha.cellK (p := ⟨wr.heap.size, 3, none⟩) (show wr.heap.size ≠ b by omega) HXK.out (by decide)).trans x3
        have HA2 := Lib.hid (HA1.out.trans ha)
        have KW := Lib.hid (KV2.out _ w3 (HBR.out.trans HA2.out.2.1) ha.1 (by rw [List.length_append, List.length_append, HBL.out, Lib.strCells_length, Lib.strCells_length, ByteArray.size_append]; show _ + (2 + u1.size) + 1 + _ ≤ _; omega))
        clear ha KE HA1
        go_wp2_with fail
        refine KW.out.mono ?_
        rintro e w4 ⟨rfl, ha⟩
        have ha' : AddW B b ((bs ++ Lib.strCells q) ++ Lib.strCells (((⟨#[32, 112]⟩ : ByteArray) ++ u1) ++ ⟨#[61]⟩)) u2 w3 w4 := by rw [strCells_app, ← List.append_assoc]; exact ha
        have HA3 := Lib.hid (HAR.out.trans (HA2.out.trans ha'))
        clear ha ha' KW HA2 x1 x2 x3
        go_wp2_with fail
        go_roundw
        case rel => exact ⟨k + 1, _, by omega, by go_num, Lib.hid (by rw [← HPW.out]; exact HQ2.out), HA3⟩
        case measure => simp [intOf]; omega
      · obtain rfl : k = np := by omega
        have hQ := HQ.out
        rw [← HNP.out, List.drop_length] at hQ
        have h0 : prsW [] = ⟨#[]⟩ := rfl
        rw [h0, ba_nilR] at hQ
        subst hQ
        clear HQ
        replace o4 := (HAR.out.cellK (p := ⟨w.heap.size, 4, none⟩) hxb ⟨_, _, HKX.out⟩ (by decide)).trans HO4.out
        go_wp2_with fail
        have HAS := HAR
        clear HAR HBR HA HP HPO
        go_loopw [49] (fun i wr => ∃ (k : Nat) (q : ByteArray), k ≤ nk ∧ i = .int .i64 k ∧ Hid (q ++ kidsW (ks.drop k) = (hd ++ prsW ps) ++ kidsW ks) ∧ Hid (AddW B b bs q wx wr)) (fun i _ => nk - (intOf i).toNat)
        case atStart => exact ⟨0, hd ++ prsW ps, by omega, rfl, Lib.hid (by rw [List.drop_zero]), HAS⟩
        case round =>
          clear o4 HAS
          obtain ⟨k, q, hk, rfl, HQ, HAR⟩ := hrel
          have HBR := Lib.hid (HB.out.trans HAR.out.2.1)
          by_cases hlt : k < nk
          · obtain ⟨x, hx⟩ := at_some (show k < ks.length by rw [HNK.out]; exact hlt)
            obtain ⟨b2, off, E0, d0, E1, d1, rfl, hblt2, _, e0, e1, e2, e3, e4, hp, _, hks⟩ := HK.out.at_ hx
            replace e0 := (HBR.out.cell (p := ⟨b2, off + k * 5, none⟩) (Nat.lt_of_lt_of_le hblt2 hsz)).trans e0
            replace e1 := (HBR.out.cell (p := ⟨b2, off + k * 5 + 1, none⟩) (Nat.lt_of_lt_of_le hblt2 hsz)).trans e1
            replace e2 := (HBR.out.cell (p := ⟨b2, off + k * 5 + 2, none⟩) (Nat.lt_of_lt_of_le hblt2 hsz)).trans e2
            replace e3 := (HBR.out.cell (p := ⟨b2, off + k * 5 + 3, none⟩) (Nat.lt_of_lt_of_le hblt2 hsz)).trans e3
            replace e4 := (HBR.out.cell (p := ⟨b2, off + k * 5 + 4, none⟩) (Nat.lt_of_lt_of_le hblt2 hsz)).trans e4
            have hI := HI.out x (List.mem_of_getElem? hx)
            have hQ := HQ.out
            rw [kidsW_drop hx, ← ByteArray.append_assoc] at hQ
            have hsum : (q ++ (⟨#[32]⟩ ++ wordsT x)).size + 1 ≤ wd.size := by
              have e := congrArg ByteArray.size hQ
              rw [ByteArray.size_append] at e
              omega
            rw [ByteArray.size_append, ByteArray.size_append] at hsum
            have h32 : (⟨#[32]⟩ : ByteArray).size = 1 := rfl
            rw [h32] at hsum
            have hbl : (bs ++ Lib.strCells q).length = bs.length + q.size := by rw [List.length_append, Lib.strCells_length]
            have hwrb : b < wr.heap.size := HAR.out.1.lt
            have hbw : B ≤ wr.heap.size := by have := HAR.out.1.ge; omega
            have KS := Lib.hid (fun w' (hb : Below wr.heap.size wr w') => ws_add B b (bs ++ Lib.strCells q) ⟨#[32]⟩ w' (HAR.out.1.later hb) (by rw [hbl, h32]; omega))
            have KX := Lib.hid (fun w2 (hb : Below B w0 w2) (hd : BdW B b ((bs ++ Lib.strCells q) ++ Lib.strCells ⟨#[32]⟩) w2) => hI E0 E1 d0 d1 B b _ w0 w2 HT.out hsz hb hd hp hks (by rw [List.length_append, hbl, Lib.strCells_length, h32]; omega))
            have hi1 : (0 : Int) ≤ (k : Int) := by omega
            have hi2 : (k : Int) < (nk : Int) := by omega
            have HQ2 := Lib.hid hQ
            clear hQ hI hx hp hks HQ
            obtain ⟨xt, xk, xs, xp, xq⟩ := x
            dsimp only [Tr.tag, Tr.key, Tr.text, Tr.ps, Tr.ks] at e0 e1 e2 e3 e4 KX
            obtain ⟨xw, hxw⟩ : ∃ u, wordsT (.mk xt xk xs xp xq) = u := ⟨_, rfl⟩
            rw [hxw] at KX HQ2 hsum
            clear hxw
            go_wp2_with fail
            refine (KS.out _ (by go_grown)).mono ?_
            rintro e w2 ⟨rfl, ha⟩
            have x0 := (ha.cellK (p := ⟨wr.heap.size, 0, none⟩) (show wr.heap.size ≠ b by omega) (by first | exact kd_new _ _ _ | exact kd_set (kd_new _ _ _) | exact kd_set (kd_set (kd_set (kd_set (kd_set (kd_new _ _ _)))))) (by decide)).trans (by go_simp : _ = some (.int .i64 xt))
            have x1 := (ha.cellK (p := ⟨wr.heap.size, 1, none⟩) (show wr.heap.size ≠ b by omega) (by first | exact kd_new _ _ _ | exact kd_set (kd_new _ _ _) | exact kd_set (kd_set (kd_set (kd_set (kd_set (kd_new _ _ _)))))) (by decide)).trans (by go_simp : _ = some (.int .i64 xk))
            have x2 := (ha.cellK (p := ⟨wr.heap.size, 2, none⟩) (show wr.heap.size ≠ b by omega) (by first | exact kd_new _ _ _ | exact kd_set (kd_new _ _ _) | exact kd_set (kd_set (kd_set (kd_set (kd_set (kd_new _ _ _)))))) (by decide)).trans (by go_simp : _ = some (.string xs))
            have x3 := (ha.cellK (p := ⟨wr.heap.size, 3, none⟩) (show wr.heap.size ≠ b by omega) (by first | exact kd_new _ _ _ | exact kd_set (kd_new _ _ _) | exact kd_set (kd_set (kd_set (kd_set (kd_set (kd_new _ _ _)))))) (by decide)).trans (by go_simp : _ = some (.slice E0 xp.length d0))
            have x4 := (ha.cellK (p := ⟨wr.heap.size, 4, none⟩) (show wr.heap.size ≠ b by omega) (by first | exact kd_new _ _ _ | exact kd_set (kd_new _ _ _) | exact kd_set (kd_set (kd_set (kd_set (kd_set (kd_new _ _ _)))))) (by decide)).trans (by go_simp : _ = some (.slice E1 xq.length d1))
            have HA1 := Lib.hid (AddW.before (w := wr) (by go_grown) hbw ha)
            clear ha KS
            have KX2 := Lib.hid (KX.out w2 (HBR.out.trans HA1.out.2.1) HA1.out.1)
            clear KX
            go_wp2_with fail
            refine KX2.out.mono ?_
            rintro e w3 ⟨rfl, ha⟩
            have HA2 := Lib.hid (HAR.out.trans (HA1.out.trans ha))
            clear ha KX2 HA1 x0 x1 x2 x3 x4
            go_wp2_with fail
            go_roundw
            case rel => exact ⟨k + 1, _, by omega, by go_num, HQ2, HA2⟩
            case measure => simp [intOf]; omega
          · obtain rfl : k = nk := by omega
            have hQ := HQ.out
            rw [← HNK.out, List.drop_length] at hQ
            have h0 : kidsW [] = ⟨#[]⟩ := by simp only [kidsW]
            rw [h0, ba_nilR] at hQ
            subst hQ
            clear HQ
            have KS := Lib.hid (ws_add B b _ ⟨#[41]⟩ wr HAR.out.1 (by rw [List.length_append, Lib.strCells_length]; show _ + 1 ≤ _; omega))
            go_wp2_with fail
            refine KS.out.mono ?_
            rintro e w' ⟨rfl, ha⟩
            have HA2 := Lib.hid (AddW.before HBX.out hBs (HAR.out.trans ha))
            clear ha KS
            go_wp2_with fail
            go_end0
            exact ⟨rfl, by rw [HW.out]; exact HA2.out⟩
  · have hd0 : headW tag key = ((⟨#[40, 116]⟩ : ByteArray) ++ itoaB tag) ++ (⟨#[32, 107]⟩ ++ itoaB key) := by unfold headW; rw [if_neg hkey]
    obtain ⟨hd, hhd⟩ : ∃ u, headW tag key = u := ⟨_, rfl⟩
    rw [hhd] at hw hzh hzk hzh0
    have hzt : 2 + (itoaB tag).size + (2 + (itoaB key).size) ≤ wd.size := by rw [← hhd, hd0, ByteArray.size_append, ByteArray.size_append, ByteArray.size_append] at hzh0; exact hzh0
    have KT := Lib.hid (numberW_any B b bs ⟨#[40, 116]⟩ tag w0 wx HT.out HB.out HD.out (by omega) (by omega) (by have := hzt; show _ + 2 + _ ≤ _; omega))
    have hkd : ((key : Int) != -1) = true := by simp; omega
    have HW := Lib.hid hw
    go_enter Tryz.func71, Tryz.ntmps71
    go_wp2_with fail
    refine KT.out.mono ?_
    rintro e w1 ⟨rfl, ha⟩
    replace o1 := (ha.cellK (p := ⟨w.heap.size, 1, none⟩) hxb ⟨_, _, HKX.out⟩ (by decide)).trans o1
    replace o3 := (ha.cellK (p := ⟨w.heap.size, 3, none⟩) hxb ⟨_, _, HKX.out⟩ (by decide)).trans o3
    replace o4 := (ha.cellK (p := ⟨w.heap.size, 4, none⟩) hxb ⟨_, _, HKX.out⟩ (by decide)).trans o4
    have KK := Lib.hid (numberW_any B b _ ⟨#[32, 107]⟩ key w0 w1 HT.out (HB.out.trans ha.2.1) ha.1 (by omega) (by omega) (by rw [List.length_append, Lib.strCells_length, ByteArray.size_append]; show _ + (2 + _) + 2 + _ ≤ _; omega))
    have HA0 := Lib.hid ha
    clear ha KT
    go_wp2_with fail
    refine KK.out.mono ?_
    rintro e w2 ⟨rfl, ha⟩
    replace o3 := (ha.cellK (p := ⟨w.heap.size, 3, none⟩) hxb (HA0.out.kd hxb ⟨_, _, HKX.out⟩ (by decide)) (by decide)).trans o3
    replace o4 := (ha.cellK (p := ⟨w.heap.size, 4, none⟩) hxb (HA0.out.kd hxb ⟨_, _, HKX.out⟩ (by decide)) (by decide)).trans o4
    have HA := Lib.hid (HA0.out.trans ha)
    clear ha KK HA0
    have e0 : hd = ((⟨#[40, 116]⟩ : ByteArray) ++ itoaB tag) ++ (⟨#[32, 107]⟩ ++ itoaB key) := hhd.symm.trans hd0
    rw [← e0] at HA
    clear e0 hd0 hhd
    go_wp2_with fail
    go_loopw [29] (fun i wr => ∃ (k : Nat) (q : ByteArray), k ≤ np ∧ i = .int .i64 k ∧ Hid (q ++ prsW (ps.drop k) = hd ++ prsW ps) ∧ Hid (AddW B b bs q wx wr)) (fun i _ => np - (intOf i).toNat)
    case atStart => exact ⟨0, hd, by omega, rfl, Lib.hid (by rw [List.drop_zero]), HA⟩
    case round =>
      obtain ⟨k, q, hk, rfl, HQ, HAR⟩ := hrel
      have HBR := Lib.hid (HB.out.trans HAR.out.2.1)
      by_cases hlt : k < np
      · obtain ⟨b2, off, rfl, hblt2, hcell⟩ := PrL.at_ HP.out (by have := HNP.out; omega)
        obtain ⟨x, hx⟩ := at_some (show k < ps.length by rw [HNP.out]; exact hlt)
        obtain ⟨e0, e1, e2, e3⟩ := hcell k x hx
        replace e0 := (HBR.out.cell (p := ⟨b2, off + k * 4, none⟩) (Nat.lt_of_lt_of_le hblt2 hsz)).trans e0
        replace e1 := (HBR.out.cell (p := ⟨b2, off + k * 4 + 1, none⟩) (Nat.lt_of_lt_of_le hblt2 hsz)).trans e1
        replace e2 := (HBR.out.cell (p := ⟨b2, off + k * 4 + 2, none⟩) (Nat.lt_of_lt_of_le hblt2 hsz)).trans e2
        replace e3 := (HBR.out.cell (p := ⟨b2, off + k * 4 + 3, none⟩) (Nat.lt_of_lt_of_le hblt2 hsz)).trans e3
        have hpo := HPO.out x (List.mem_of_getElem? hx)
        have hQ := HQ.out
        rw [prsW_drop hx, ← ByteArray.append_assoc] at hQ
        have hsum : (q ++ prW x).size ≤ wd.size := by
          have e := congrArg ByteArray.size hQ
          rw [ByteArray.size_append] at e
          omega
        rw [ByteArray.size_append] at hsum
        have hpz : (prW x).size = 2 + (itoaB x.nm).size + 1 + (valW x.v.k x.v.n x.v.s).size := by
          unfold prW
          rw [ByteArray.size_append, ByteArray.size_append, ByteArray.size_append]
          rfl
        have hbl : (bs ++ Lib.strCells q).length = bs.length + q.size := by rw [List.length_append, Lib.strCells_length]
        have KN := Lib.hid (fun w' (hb : Below wr.heap.size wr w') => numberW_any B b (bs ++ Lib.strCells q) ⟨#[32, 112]⟩ x.nm w0 w' HT.out (HBR.out.trans (hb.mono (by have := HAR.out.size; have := HBX.out.size; omega))) (HAR.out.1.later hb) (by have := hpo.1; omega) (by have := hpo.2.1; omega) (by rw [hbl]; show _ + 2 + _ ≤ _; omega))
        have hpw : prW x = ((((⟨#[32, 112]⟩ : ByteArray) ++ itoaB x.nm) ++ ⟨#[61]⟩) ++ valW x.v.k x.v.n x.v.s) := rfl
        have KV := Lib.hid hpo.2.2
        have HQ2 := Lib.hid hQ
        have HPW := Lib.hid hpw
        have HBL := Lib.hid hbl
        have hwrb : b < wr.heap.size := HAR.out.1.lt
        have hwrw : w.heap.size < wr.heap.size := by have := HAR.out.size; have h2 := (Array.getElem?_eq_some_iff.1 HKX.out).1; omega
        clear hQ hpw hbl hpo hcell hx HQ
        obtain ⟨nm, ⟨vk, vn, vs⟩⟩ := x
        dsimp only at *
        obtain ⟨u1, hu1⟩ : ∃ u, itoaB nm = u := ⟨_, rfl⟩
        obtain ⟨u2, hu2⟩ : ∃ u, valW vk vn vs = u := ⟨_, rfl⟩
        have KV2 := Lib.hid (fun bs2 w2 hb0 hbd hl => valueW_any B b bs2 vk vn vs w0 w2 HT.out hb0 hbd KV.out hl)
        rw [hu1] at KN HPW hpz
        rw [hu2] at KV2 HPW hpz
        clear hu1 hu2 KV
        have hi1 : (0 : Int) ≤ (k : Int) := by omega
        have hi2 : (k : Int) < (np : Int) := by omega
        go_wp2_with fail
        refine (KN.out _ (by go_grown)).mono ?_
        rintro e w2 ⟨rfl, ha⟩
        have x1 := (ha.cellK (p := ⟨wr.heap.size, 1, none⟩) (show wr.heap.size ≠ b by omega) (by first | exact kd_new _ _ _ | exact kd_set (kd_new _ _ _) | exact kd_set (kd_set (kd_set (kd_set (kd_new _ _ _))))) (by decide)).trans (by go_simp : _ = some (.int .i64 vk))
        have x2 := (ha.cellK (p := ⟨wr.heap.size, 2, none⟩) (show wr.heap.size ≠ b by omega) (by first | exact kd_new _ _ _ | exact kd_set (kd_new _ _ _) | exact kd_set (kd_set (kd_set (kd_set (kd_new _ _ _))))) (by decide)).trans (by go_simp : _ = some (.int .i64 vn))
        have x3 := (ha.cellK (p := ⟨wr.heap.size, 3, none⟩) (show wr.heap.size ≠ b by omega) (by first | exact kd_new _ _ _ | exact kd_set (kd_new _ _ _) | exact kd_set (kd_set (kd_set (kd_set (kd_new _ _ _))))) (by decide)).trans (by go_simp : _ = some (.string vs))
        have xk := ha.kd (k := wr.heap.size) (T := 88) (by omega) (by first | exact kd_new _ _ _ | exact kd_set (kd_new _ _ _) | exact kd_set (kd_set (kd_set (kd_set (kd_new _ _ _))))) (by decide)
        have HA1 := Lib.hid (AddW.before (w := wr) (by go_grown) (by have := HAR.out.1.ge; omega) ha)
        have HXK := Lib.hid xk
        clear ha xk KN
        have KE := Lib.hid (ws_add B b _ ⟨#[61]⟩ w2 HA1.out.1 (by rw [List.length_append, HBL.out, Lib.strCells_length, ByteArray.size_append]; show _ + (2 + u1.size) + 1 ≤ _; omega))
        go_wp2_with fail
        refine KE.out.mono ?_
        rintro e w3 ⟨rfl, ha⟩
        replace x1 := (ha.cellK (p := ⟨wr.heap.size, 1, none⟩) (show wr.heap.size ≠ b by omega) HXK.out (by decide)).trans x1
        replace x2 := (ha.cellK (p := ⟨wr.heap.size, 2, none⟩) (show wr.heap.size ≠ b by omega) HXK.out (by decide)).trans x2
        replace x3 := (ha.cellK (p := ⟨wr.heap.size, 3, none⟩) (show wr.heap.size ≠ b by omega) HXK.out (by decide)).trans x3
        have HA2 := Lib.hid (HA1.out.trans ha)
        have KW := Lib.hid (KV2.out _ w3 (HBR.out.trans HA2.out.2.1) ha.1 (by rw [List.length_append, List.length_append, HBL.out, Lib.strCells_length, Lib.strCells_length, ByteArray.size_append]; show _ + (2 + u1.size) + 1 + _ ≤ _; omega))
        clear ha KE HA1
        go_wp2_with fail
        refine KW.out.mono ?_
        rintro e w4 ⟨rfl, ha⟩
        have ha' : AddW B b ((bs ++ Lib.strCells q) ++ Lib.strCells (((⟨#[32, 112]⟩ : ByteArray) ++ u1) ++ ⟨#[61]⟩)) u2 w3 w4 := by rw [strCells_app, ← List.append_assoc]; exact ha
        have HA3 := Lib.hid (HAR.out.trans (HA2.out.trans ha'))
        clear ha ha' KW HA2 x1 x2 x3
        go_wp2_with fail
        go_roundw
        case rel => exact ⟨k + 1, _, by omega, by go_num, Lib.hid (by rw [← HPW.out]; exact HQ2.out), HA3⟩
        case measure => simp [intOf]; omega
      · obtain rfl : k = np := by omega
        have hQ := HQ.out
        rw [← HNP.out, List.drop_length] at hQ
        have h0 : prsW [] = ⟨#[]⟩ := rfl
        rw [h0, ba_nilR] at hQ
        subst hQ
        clear HQ
        replace o4 := (HAR.out.cellK (p := ⟨w.heap.size, 4, none⟩) hxb ⟨_, _, HKX.out⟩ (by decide)).trans HO4.out
        go_wp2_with fail
        have HAS := HAR
        clear HAR HBR HA HP HPO
        go_loopw [49] (fun i wr => ∃ (k : Nat) (q : ByteArray), k ≤ nk ∧ i = .int .i64 k ∧ Hid (q ++ kidsW (ks.drop k) = (hd ++ prsW ps) ++ kidsW ks) ∧ Hid (AddW B b bs q wx wr)) (fun i _ => nk - (intOf i).toNat)
        case atStart => exact ⟨0, hd ++ prsW ps, by omega, rfl, Lib.hid (by rw [List.drop_zero]), HAS⟩
        case round =>
          clear o4 HAS
          obtain ⟨k, q, hk, rfl, HQ, HAR⟩ := hrel
          have HBR := Lib.hid (HB.out.trans HAR.out.2.1)
          by_cases hlt : k < nk
          · obtain ⟨x, hx⟩ := at_some (show k < ks.length by rw [HNK.out]; exact hlt)
            obtain ⟨b2, off, E0, d0, E1, d1, rfl, hblt2, _, e0, e1, e2, e3, e4, hp, _, hks⟩ := HK.out.at_ hx
            replace e0 := (HBR.out.cell (p := ⟨b2, off + k * 5, none⟩) (Nat.lt_of_lt_of_le hblt2 hsz)).trans e0
            replace e1 := (HBR.out.cell (p := ⟨b2, off + k * 5 + 1, none⟩) (Nat.lt_of_lt_of_le hblt2 hsz)).trans e1
            replace e2 := (HBR.out.cell (p := ⟨b2, off + k * 5 + 2, none⟩) (Nat.lt_of_lt_of_le hblt2 hsz)).trans e2
            replace e3 := (HBR.out.cell (p := ⟨b2, off + k * 5 + 3, none⟩) (Nat.lt_of_lt_of_le hblt2 hsz)).trans e3
            replace e4 := (HBR.out.cell (p := ⟨b2, off + k * 5 + 4, none⟩) (Nat.lt_of_lt_of_le hblt2 hsz)).trans e4
            have hI := HI.out x (List.mem_of_getElem? hx)
            have hQ := HQ.out
            rw [kidsW_drop hx, ← ByteArray.append_assoc] at hQ
            have hsum : (q ++ (⟨#[32]⟩ ++ wordsT x)).size + 1 ≤ wd.size := by
              have e := congrArg ByteArray.size hQ
              rw [ByteArray.size_append] at e
              omega
            rw [ByteArray.size_append, ByteArray.size_append] at hsum
            have h32 : (⟨#[32]⟩ : ByteArray).size = 1 := rfl
            rw [h32] at hsum
            have hbl : (bs ++ Lib.strCells q).length = bs.length + q.size := by rw [List.length_append, Lib.strCells_length]
            have hwrb : b < wr.heap.size := HAR.out.1.lt
            have hbw : B ≤ wr.heap.size := by have := HAR.out.1.ge; omega
            have KS := Lib.hid (fun w' (hb : Below wr.heap.size wr w') => ws_add B b (bs ++ Lib.strCells q) ⟨#[32]⟩ w' (HAR.out.1.later hb) (by rw [hbl, h32]; omega))
            have KX := Lib.hid (fun w2 (hb : Below B w0 w2) (hd : BdW B b ((bs ++ Lib.strCells q) ++ Lib.strCells ⟨#[32]⟩) w2) => hI E0 E1 d0 d1 B b _ w0 w2 HT.out hsz hb hd hp hks (by rw [List.length_append, hbl, Lib.strCells_length, h32]; omega))
            have hi1 : (0 : Int) ≤ (k : Int) := by omega
            have hi2 : (k : Int) < (nk : Int) := by omega
            have HQ2 := Lib.hid hQ
            clear hQ hI hx hp hks HQ
            obtain ⟨xt, xk, xs, xp, xq⟩ := x
            dsimp only [Tr.tag, Tr.key, Tr.text, Tr.ps, Tr.ks] at e0 e1 e2 e3 e4 KX
            obtain ⟨xw, hxw⟩ : ∃ u, wordsT (.mk xt xk xs xp xq) = u := ⟨_, rfl⟩
            rw [hxw] at KX HQ2 hsum
            clear hxw
            go_wp2_with fail
            refine (KS.out _ (by go_grown)).mono ?_
            rintro e w2 ⟨rfl, ha⟩
            have x0 := (ha.cellK (p := ⟨wr.heap.size, 0, none⟩) (show wr.heap.size ≠ b by omega) (by first | exact kd_new _ _ _ | exact kd_set (kd_new _ _ _) | exact kd_set (kd_set (kd_set (kd_set (kd_set (kd_new _ _ _)))))) (by decide)).trans (by go_simp : _ = some (.int .i64 xt))
            have x1 := (ha.cellK (p := ⟨wr.heap.size, 1, none⟩) (show wr.heap.size ≠ b by omega) (by first | exact kd_new _ _ _ | exact kd_set (kd_new _ _ _) | exact kd_set (kd_set (kd_set (kd_set (kd_set (kd_new _ _ _)))))) (by decide)).trans (by go_simp : _ = some (.int .i64 xk))
            have x2 := (ha.cellK (p := ⟨wr.heap.size, 2, none⟩) (show wr.heap.size ≠ b by omega) (by first | exact kd_new _ _ _ | exact kd_set (kd_new _ _ _) | exact kd_set (kd_set (kd_set (kd_set (kd_set (kd_new _ _ _)))))) (by decide)).trans (by go_simp : _ = some (.string xs))
            have x3 := (ha.cellK (p := ⟨wr.heap.size, 3, none⟩) (show wr.heap.size ≠ b by omega) (by first | exact kd_new _ _ _ | exact kd_set (kd_new _ _ _) | exact kd_set (kd_set (kd_set (kd_set (kd_set (kd_new _ _ _)))))) (by decide)).trans (by go_simp : _ = some (.slice E0 xp.length d0))
            have x4 := (ha.cellK (p := ⟨wr.heap.size, 4, none⟩) (show wr.heap.size ≠ b by omega) (by first | exact kd_new _ _ _ | exact kd_set (kd_new _ _ _) | exact kd_set (kd_set (kd_set (kd_set (kd_set (kd_new _ _ _)))))) (by decide)).trans (by go_simp : _ = some (.slice E1 xq.length d1))
            have HA1 := Lib.hid (AddW.before (w := wr) (by go_grown) hbw ha)
            clear ha KS
            have KX2 := Lib.hid (KX.out w2 (HBR.out.trans HA1.out.2.1) HA1.out.1)
            clear KX
            go_wp2_with fail
            refine KX2.out.mono ?_
            rintro e w3 ⟨rfl, ha⟩
            have HA2 := Lib.hid (HAR.out.trans (HA1.out.trans ha))
            clear ha KX2 HA1 x0 x1 x2 x3 x4
            go_wp2_with fail
            go_roundw
            case rel => exact ⟨k + 1, _, by omega, by go_num, HQ2, HA2⟩
            case measure => simp [intOf]; omega
          · obtain rfl : k = nk := by omega
            have hQ := HQ.out
            rw [← HNK.out, List.drop_length] at hQ
            have h0 : kidsW [] = ⟨#[]⟩ := by simp only [kidsW]
            rw [h0, ba_nilR] at hQ
            subst hQ
            clear HQ
            have KS := Lib.hid (ws_add B b _ ⟨#[41]⟩ wr HAR.out.1 (by rw [List.length_append, Lib.strCells_length]; show _ + 1 ≤ _; omega))
            go_wp2_with fail
            refine KS.out.mono ?_
            rintro e w' ⟨rfl, ha⟩
            have HA2 := Lib.hid (AddW.before HBX.out hBs (HAR.out.trans ha))
            clear ha KS
            go_wp2_with fail
            go_end0
            exact ⟨rfl, by rw [HW.out]; exact HA2.out⟩
end Go.Proofs.YtanonflcieebbaaGreatDoor
