/- Fnd1, Fnd2, Fnd3, Fnd4, App2, Fnd5, Rws1, Fnd6, Fnd7, Rws2 in one text. -/
import Derived.Test.YtagaaeolgecdmaaGreatDoorPrtM
import Derived.Lib.IndexMore
import Derived.Test.YtagaaeolgecdmaaGreatDoorTxt3
import Derived.Test.YtagaaeolgecdmaaGreatDoorShelf2
import Derived.Test.YtagaaeolgecdmaaGreatDoorTxt4
import Derived.Test.YtagaaeolgecdmaaGreatDoorApp1
import Derived.Test.YtagaaeolgecdmaaGreatDoorRngY
import Derived.Test.YtagaaeolgecdmaaGreatDoorRegR
import Derived.Test.YtagaaeolgecdmaaGreatDoorWrtM
import Derived.Test.YtagaaeolgecdmaaGreatDoorTxt1
import Derived.Test.YtagaaeolgecdmaaGreatDoorOutI
import Derived.Laws.EntriesVeiled
import Derived.Maps.OwnIn
import Derived.Test.YtagaaeolgecdmaaGreatDoorMktM
namespace Go.Proofs.YtagaaeolgecdmaaGreatDoor
open Go.Joins Go.ChangeShapes Go.WideShapes Go.ChangeAt Go.RowKit Go.Deep
set_option linter.unusedVariables false
set_option linter.unusedSimpArgs false

/-- A text has another. -/
def hasB (x s : ByteArray) : Bool := Lib.contains x.data.toList s.data.toList
theorem contains_iff (x s : List UInt8) : Lib.contains x s = true ↔ ∃ a b, x = a ++ (s ++ b) := by
  unfold Lib.contains
  constructor
  · intro h
    have h := of_decide_eq_true h
    rcases Lib.index_spec x s with ⟨h1, _⟩ | ⟨i, h1, h2, h3, _⟩
    · omega
    · have h4 : s.isPrefixOf (x.drop i) = true := h3
      obtain ⟨b, hb⟩ := List.isPrefixOf_iff_prefix.1 h4
      exact ⟨x.take i, b, by rw [hb, List.take_append_drop]⟩
  · rintro ⟨a, b, rfl⟩
    apply decide_eq_true
    rcases Lib.index_spec (a ++ (s ++ b)) s with ⟨h1, h2⟩ | ⟨i, h1, h2, h3, _⟩
    · have h4 := h2 a.length (by simp)
      have h5 : Lib.occAt (a ++ (s ++ b)) s a.length = true := by
        show s.isPrefixOf ((a ++ (s ++ b)).drop a.length) = true
        rw [List.drop_left]
        exact List.isPrefixOf_iff_prefix.2 ⟨b, rfl⟩
      rw [h5] at h4
      cases h4
    · omega
theorem hasB_mid {x y z s : ByteArray} (h : hasB y s = true) : hasB (x ++ (y ++ z)) s = true := by
  obtain ⟨a, b, e⟩ := (contains_iff _ _).1 h
  refine (contains_iff _ _).2 ⟨x.data.toList ++ a, b ++ z.data.toList, ?_⟩
  simp only [ByteArray.data_append, Array.toList_append, e, List.append_assoc]
/-- A tree's texts have a text. -/
def hasT (s : ByteArray) (t : Tr) : Bool := hasB (textT t) s
theorem textL_mem : ∀ {ks : List Tr} {x : Tr}, x ∈ ks → ∃ a b, textL ks = a ++ (textT x ++ b)
  | [], x, h => by cases h
  | y :: ys, x, h => by
    rcases List.mem_cons.1 h with rfl | h
    · exact ⟨⟨#[]⟩, textL ys, by simp only [textL]; rw [ba_nil]⟩
    · obtain ⟨a, b, e⟩ := textL_mem h
      exact ⟨textT y ++ a, b, by simp only [textL]; rw [e, ByteArray.append_assoc]⟩
theorem hasT_kid {s : ByteArray} {t x : Tr} (hx : x ∈ t.ks) (h : hasT s x = true) : hasT s t = true := by
  obtain ⟨a, b, e⟩ := textL_mem hx
  unfold hasT at *
  rw [textT_eq, e, ← ByteArray.append_assoc]
  exact hasB_mid h
theorem hasT_none {s : ByteArray} {t : Tr} (h : hasT s t = false) (way : List Nat) : ∀ y ∈ partsT way t, hasT s y.2 = false :=
  partsT_all (P := fun t => hasT s t = false) (fun t ht x hx => by
    cases hh : hasT s x
    · rfl
    · rw [hasT_kid hx hh] at ht; cases ht) t h way
mutual
  /-- The ways of the innermost parts that have it. -/
  def findT (s : ByteArray) (way : List Nat) : Tr → List (List Nat)
    | .mk tag key text ps ks => if hasT s (.mk tag key text ps ks) = true then (if findL s way 0 ks = [] then [way] else findL s way 0 ks) else []
  def findL (s : ByteArray) (way : List Nat) (i : Nat) : List Tr → List (List Nat)
    | [] => []
    | x :: xs => findT s (way ++ [i]) x ++ findL s way (i + 1) xs
end
theorem findT_eq (s : ByteArray) (way : List Nat) (t : Tr) : findT s way t = if hasT s t = true then (if findL s way 0 t.ks = [] then [way] else findL s way 0 t.ks) else [] := by
  obtain ⟨_, _, _, _, ks⟩ := t
  simp only [findT, Tr.ks]
  by_cases h : findL s way 0 ks = [] <;> simp only [h, ↓reduceIte, reduceIte]
theorem findL_nil (s : ByteArray) (way : List Nat) (i : Nat) : findL s way i [] = [] := by simp only [findL]
theorem findL_cons (s : ByteArray) (way : List Nat) (i : Nat) (x : Tr) (xs : List Tr) : findL s way i (x :: xs) = findT s (way ++ [i]) x ++ findL s way (i + 1) xs := by simp only [findL]
theorem findL_drop {s : ByteArray} {way : List Nat} {ks : List Tr} {k : Nat} {x : Tr} (hx : ks[k]? = some x) : findL s way k (ks.drop k) = findT s (way ++ [k]) x ++ findL s way (k + 1) (ks.drop (k + 1)) := by
  obtain ⟨hk, he⟩ := List.getElem?_eq_some_iff.1 hx
  rw [List.drop_eq_getElem_cons hk, he, findL_cons]
theorem findT_nil (s : ByteArray) (way : List Nat) (t : Tr) : findT s way t = [] ↔ hasT s t = false := by
  rw [findT_eq]
  cases h : hasT s t
  · simp
  · rw [if_pos rfl]
    split
    · simp
    · rename_i h2
      simp [h2]
theorem findL_none (s : ByteArray) : ∀ (ks : List Tr) (way : List Nat) (i : Nat), findL s way i ks = [] ↔ ks.any (hasT s) = false
  | [], way, i => by simp [findL]
  | x :: xs, way, i => by
    rw [findL_cons, List.append_eq_nil_iff, findT_nil, findL_none s xs way (i + 1), List.any_cons, Bool.or_eq_false_iff]
/-- A part that has it, and none of whose Kids has it. -/
def inB (s : ByteArray) (t : Tr) : Bool := hasT s t && !(t.ks.any (hasT s))
theorem find_parts_L (s : ByteArray) : ∀ (ks : List Tr) (way : List Nat) (i : Nat), (∀ x ∈ ks, ∀ way, ((partsT way x).filter fun y => inB s y.2).map Prod.fst = findT s way x) → ((partsL way i ks).filter fun y => inB s y.2).map Prod.fst = findL s way i ks
  | [], way, i, _ => by simp only [partsL, findL, List.filter_nil, List.map_nil]
  | x :: xs, way, i, h => by
    rw [findL_cons]
    simp only [partsL, List.filter_append, List.map_append]
    rw [h x (by simp), find_parts_L s xs way (i + 1) (fun y hy => h y (List.mem_cons_of_mem _ hy))]
/-- What is found: the parts that have it and none of whose Kids has it, in order. -/
theorem find_parts (s : ByteArray) : ∀ (t : Tr) (way : List Nat), ((partsT way t).filter fun y => inB s y.2).map Prod.fst = findT s way t := Tr.by_kids fun t ih way => by
  have hl := find_parts_L s t.ks way 0 ih
  cases h : hasT s t
  · have e1 : (partsT way t).filter (fun y => inB s y.2) = [] := by
      apply List.filter_eq_nil_iff.2
      intro y hy
      rw [inB, hasT_none h way y hy]
      simp
    rw [e1, (findT_nil s way t).2 h]
    rfl
  · rw [partsT_eq, findT_eq, h, if_pos rfl]
    cases h2 : t.ks.any (hasT s)
    · have e2 := (findL_none s t.ks way 0).2 h2
      rw [if_pos e2, List.filter_cons_of_pos (by show inB s t = true; rw [inB, h, h2]; rfl), List.map_cons, hl, e2]
    · have e2 : ¬ findL s way 0 t.ks = [] := fun e => by rw [(findL_none s t.ks way 0).1 e] at h2; cases h2
      rw [if_neg e2, List.filter_cons_of_neg (by show ¬ inB s t = true; rw [inB, h, h2]; decide), hl]
/-- Ways of which none begins with another. -/
def Apart (a b : List Nat) : Prop := ¬ a <+: b ∧ ¬ b <+: a
theorem apart_kids {way a b : List Nat} {i j : Nat} (ha : way ++ [i] <+: a) (hb : way ++ [j] <+: b) (hij : i ≠ j) : Apart a b := by
  have key : ∀ {a b : List Nat} {i j : Nat}, way ++ [i] <+: a → way ++ [j] <+: b → i ≠ j → ¬ a <+: b := by
    rintro a b i j ⟨u, rfl⟩ hb hij h
    obtain ⟨v, rfl⟩ := hb
    obtain ⟨z, hz⟩ := h
    simp only [List.append_assoc, List.append_cancel_left_eq, List.cons_append, List.nil_append, List.cons.injEq] at hz
    exact hij hz.1
  exact ⟨key ha hb hij, key hb ha (fun e => hij e.symm)⟩
theorem find_under_L (s : ByteArray) : ∀ (ks : List Tr) (way : List Nat) (i : Nat), (∀ x ∈ ks, ∀ way, ∀ y ∈ findT s way x, way <+: y) → ∀ y ∈ findL s way i ks, ∃ j, i ≤ j ∧ j < i + ks.length ∧ way ++ [j] <+: y
  | [], way, i, _, y, hy => by rw [findL_nil] at hy; cases hy
  | x :: xs, way, i, h, y, hy => by
    rw [findL_cons] at hy
    rcases List.mem_append.1 hy with hy | hy
    · exact ⟨i, Nat.le_refl _, by simp, h x (by simp) _ y hy⟩
    · obtain ⟨j, h1, h2, h3⟩ := find_under_L s xs way (i + 1) (fun z hz => h z (List.mem_cons_of_mem _ hz)) y hy
      exact ⟨j, by omega, by rw [List.length_cons]; omega, h3⟩
theorem find_under (s : ByteArray) : ∀ (t : Tr) (way : List Nat), ∀ y ∈ findT s way t, way <+: y := Tr.by_kids fun t ih way y hy => by
  rw [findT_eq] at hy
  split at hy
  · split at hy
    · obtain rfl := List.mem_singleton.1 hy
      exact List.prefix_refl _
    · obtain ⟨j, _, _, h⟩ := find_under_L s t.ks way 0 ih y hy
      exact List.IsPrefix.trans ⟨[j], rfl⟩ h
  · cases hy
theorem find_apart_L (s : ByteArray) : ∀ (ks : List Tr) (way : List Nat) (i : Nat), (∀ x ∈ ks, ∀ way, (findT s way x).Pairwise Apart) → (findL s way i ks).Pairwise Apart
  | [], way, i, _ => by rw [findL_nil]; exact List.Pairwise.nil
  | x :: xs, way, i, h => by
    rw [findL_cons, List.pairwise_append]
    refine ⟨h x (by simp) _, find_apart_L s xs way (i + 1) (fun z hz => h z (List.mem_cons_of_mem _ hz)), fun a ha b hb => ?_⟩
    obtain ⟨j, hj, _, hp⟩ := find_under_L s xs way (i + 1) (fun z _ way y hy => find_under s z way y hy) b hb
    exact apart_kids (find_under s x _ a ha) hp (by omega)
theorem find_apart (s : ByteArray) : ∀ (t : Tr) (way : List Nat), (findT s way t).Pairwise Apart := Tr.by_kids fun t ih way => by
  rw [findT_eq]
  split
  · split
    · exact List.pairwise_singleton _ _
    · exact find_apart_L s t.ks way 0 ih
  · exact List.Pairwise.nil
theorem find_len (s : ByteArray) (t : Tr) (way : List Nat) : (findT s way t).length ≤ sizeT t := by
  rw [← find_parts, List.length_map, ← partsT_length t way]
  exact List.length_filter_le _ _
/-- What is found is the way of a part. -/
theorem find_mem {s : ByteArray} {t : Tr} {way y : List Nat} (h : y ∈ findT s way t) : ∃ x, (y, x) ∈ partsT way t ∧ inB s x = true := by
  rw [← find_parts] at h
  obtain ⟨⟨a, x⟩, h1, rfl⟩ := List.mem_map.1 h
  obtain ⟨h2, h3⟩ := List.mem_filter.1 h1
  exact ⟨x, h2, h3⟩
end Go.Proofs.YtagaaeolgecdmaaGreatDoor

namespace Go.Proofs.YtagaaeolgecdmaaGreatDoor
open Go.Joins Go.ChangeShapes Go.WideShapes Go.ChangeAt Go.RowKit Go.Deep
set_option linter.unusedVariables false
set_option linter.unusedSimpArgs false

theorem hasB_past {x s : ByteArray} {k : Nat} (h : Lib.NoOcc x.data.toList s.data.toList k) (hk : x.size < k + s.size) : hasB x s = false := by
  cases hh : hasB x s
  · rfl
  · obtain ⟨a, b, e⟩ := (contains_iff _ _).1 hh
    have hl := congrArg List.length e
    simp only [List.length_append, Array.length_toList] at hl
    have h1 : x.size = x.data.size := rfl
    have h2 : s.size = s.data.size := rfl
    have h3 := h a.length (by omega)
    have h5 : Lib.occAt x.data.toList s.data.toList a.length = true := by
      show s.data.toList.isPrefixOf (x.data.toList.drop a.length) = true
      rw [e, List.drop_left]
      exact List.isPrefixOf_iff_prefix.2 ⟨b, rfl⟩
    rw [h5] at h3
    cases h3
theorem occ_extract {x s : ByteArray} {k : Nat} (hk : k + s.size ≤ x.size) : Lib.occAt x.data.toList s.data.toList k = decide (x.extract k (k + s.size) = s) := by
  have h2 : s.size = s.data.toList.length := (Array.length_toList (xs := s.data)).symm
  have he : (x.extract k (k + s.size)).data.toList = (x.data.toList.drop k).take s.size := by
    rw [ByteArray.data_extract, Array.toList_extract]
    simp [List.extract_eq_take_drop]
  have key : Lib.occAt x.data.toList s.data.toList k = true ↔ x.extract k (k + s.size) = s := by
    show s.data.toList.isPrefixOf (x.data.toList.drop k) = true ↔ _
    rw [List.isPrefixOf_iff_prefix, List.prefix_iff_eq_take, ← h2, ← he]
    constructor
    · intro h; exact ByteArray.ext (Array.toList_inj.1 h.symm)
    · intro h; rw [h]
  rw [Bool.eq_iff_iff, key, decide_eq_true_iff]
theorem hasB_hit {x s : ByteArray} {k : Nat} (hk : k ≤ x.size) (h : Lib.occAt x.data.toList s.data.toList k = true) : hasB x s = true := by
  obtain ⟨b, hb⟩ := List.isPrefixOf_iff_prefix.1 (show s.data.toList.isPrefixOf (x.data.toList.drop k) = true from h)
  exact (contains_iff _ _).2 ⟨x.data.toList.take k, b, by rw [hb, List.take_append_drop]⟩
theorem text_beq (a b : ByteArray) : (a.toList == b.toList) = decide (a = b) := by
  rw [Bool.eq_iff_iff, beq_iff_eq, decide_eq_true_iff, Lib.toList_data, Lib.toList_data]
  exact ⟨fun h => ByteArray.ext (Array.toList_inj.1 h), fun h => by rw [h]⟩
set_option maxRecDepth 100000 in
set_option maxHeartbeats 1000000 in
theorem hasText_any (x s : ByteArray) (w : World) (hx : x.size ≤ 1000000000) (hs : s.size ≤ 1000000) :
    Calls Tryz.prog 57 #[.string x, .string s] w fun e w' => e = .returned (.bool (hasB x s)) ∧ w = w' := by
  obtain ⟨m, hm⟩ : ∃ m, s.size = m := ⟨_, rfl⟩
  obtain ⟨n, hn⟩ : ∃ n, x.size = n := ⟨_, rfl⟩
  obtain ⟨r, hr⟩ : ∃ r, hasB x s = r := ⟨_, rfl⟩
  rw [hr]
  rw [hm] at hs
  rw [hn] at hx
  have HR := Lib.hid hr
  have HM := Lib.hid hm
  have HN := Lib.hid hn
  clear hr
  go_enter Tryz.func57, Tryz.ntmps57
  go_wp2_with fail
  go_loop [5] (fun i => ∃ k : Nat, k ≤ n + 1 ∧ i = .int .i64 k ∧ Hid (Lib.NoOcc x.data.toList s.data.toList k)) (fun i => n + 1 - (intOf i).toNat)
  case atStart => exact ⟨0, by omega, rfl, Lib.hid (Lib.NoOcc.zero _ _)⟩
  case round =>
    obtain ⟨k, hk, rfl, HO⟩ := hrel
    have hsum : ((k : Int) + (m : Int) ≤ 9223372036854775807) := by omega
    by_cases hlt : k + m ≤ n
    · have hd := occ_extract (x := x) (s := s) (k := k) (by rw [HM.out, HN.out]; exact hlt)
      rw [HM.out] at hd
      have hle : decide ((k : Int) + (m : Int) ≤ (n : Int)) = true := decide_eq_true (by omega)
      have hsl : ∀ wx, (Instr.slice 9 (.string x) (some (.int .i64 (k : Int))) (some (.int .i64 ((k : Int) + (m : Int)))) none).run Tryz.prog wx = .ok (.string (x.extract k (k + m))) wx := fun wx => by
        rw [run_slice_string wx 9 x .i64 .i64 (k : Int) ((k : Int) + (m : Int)) Tryz.underlying9 (by omega) (by omega) (by rw [HN.out]; omega)]
        rfl
      cases ho : Lib.occAt x.data.toList s.data.toList k
      · rw [ho] at hd
        have hv : ((x.extract k (k + m)).toList == s.toList) = false := (text_beq _ _).trans hd.symm
        have HO2 := Lib.hid (HO.out.succ ho)
        clear hd ho
        go_wp2_with fail
        go_round
        case rel => exact ⟨k + 1, by omega, by go_num, HO2⟩
        case measure => simp [intOf]; omega
      · rw [ho] at hd
        have hv : ((x.extract k (k + m)).toList == s.toList) = true := (text_beq _ _).trans hd.symm
        obtain rfl : r = true := HR.out.symm.trans (hasB_hit (by rw [HN.out]; omega) ho)
        clear hd ho
        go_wp2_with fail
        go_ret
        exact ⟨rfl, rfl⟩
    · have hle : decide ((k : Int) + (m : Int) ≤ (n : Int)) = false := decide_eq_false (by omega)
      obtain rfl : r = false := HR.out.symm.trans (hasB_past HO.out (by rw [HM.out, HN.out]; omega))
      go_wp2_with fail
      go_ret
      exact ⟨rfl, rfl⟩
end Go.Proofs.YtagaaeolgecdmaaGreatDoor

namespace Go.Proofs.YtagaaeolgecdmaaGreatDoor
open Go.Joins Go.ChangeShapes Go.WideShapes Go.ChangeAt Go.RowKit Go.Deep
set_option linter.unusedVariables false
set_option linter.unusedSimpArgs false

theorem textT_smallF {t : Tr} (hsz : sizeT t ≤ 1000) (hB : ∀ y ∈ partsT [] t, y.2.text.size ≤ 1000) : (textT t).size ≤ 1000000 := by
  have h := textsP_le (B := 1000) (partsT [] t) hB
  rw [textsP_T, partsT_length] at h
  omega
set_option maxRecDepth 100000 in
set_option maxHeartbeats 1000000 in
theorem ihas_any (t : Tr) (s : ByteArray) (m : Int) (hsm : SmT t) (hsz : sizeT t ≤ 1000) (hB : ∀ y ∈ partsT [] t, y.2.text.size ≤ 1000) : ∀ (A0 A1 : Option Addr) (c0 c1 bs : Nat) (w : World), PrL w A0 t.ps → TrL w 0 A1 t.ks → w.cell? ⟨bs, 0, none⟩ = some (.string s) → w.cell? ⟨0, 0, none⟩ = some (.int .i64 m) →
    Calls Tryz.prog 42 #[.agg #[.int .i64 t.tag, .int .i64 t.key, .string t.text, .slice A0 t.ps.length c0, .slice A1 t.ks.length c1], .pointer (some ⟨bs, 0, none⟩)] w fun e w' => e = .returned (.bool (hasT s t)) ∧ Below w.heap.size w w' := by
  intro A0 A1 c0 c1 bs w hp hk hs hg
  have hsl := World.block_lt_of_cell? w _ hs
  have hgl := World.block_lt_of_cell? w _ hg
  have k1 := fun w hp hk => itextOf_any t hsm hsz hB A0 A1 c0 c1 w hp hk
  have hts := textT_smallF hsz hB
  obtain ⟨r, hr⟩ : ∃ r, hasT s t = r := ⟨_, rfl⟩
  have hr' : Lib.contains (textT t).data.toList s.data.toList = r := hr
  rw [hr]
  generalize textT t = tx at *
  have hb0 := Below.alloc (Below.refl w.heap.size w) (Nat.le_refl _) (.cells #[.int .i64 t.tag, .int .i64 t.key, .string t.text, .slice A0 t.ps.length c0, .slice A1 t.ks.length c1] 32)
  have K1 := Lib.hid k1
  have HP := Lib.hid (hp.below hb0)
  have HK := Lib.hid (hk.below hb0)
  obtain ⟨tag, key, text, ps, ks⟩ := t
  dsimp only [Tr.tag, Tr.key, Tr.text, Tr.ps, Tr.ks] at *
  generalize ps.length = np at *
  generalize ks.length = nk at *
  have K2 := Lib.hid (fun w hm => Tryz.strings_Contains tx s m w (by omega) hm)
  rw [hr'] at K2
  clear hp hk k1 hr hr' hts hB hsz hsm hb0
  have e0 : (w.alloc (.cells #[.int .i64 tag, .int .i64 key, .string text, .slice A0 np c0, .slice A1 nk c1] 32)).cell? ⟨bs, 0, none⟩ = some (.string s) := (Below.cell (Below.alloc (Below.refl w.heap.size w) (Nat.le_refl _) _) (p := ⟨bs, 0, none⟩) hsl).trans hs
  have e1 : (w.alloc (.cells #[.int .i64 tag, .int .i64 key, .string text, .slice A0 np c0, .slice A1 nk c1] 32)).cell? ⟨0, 0, none⟩ = some (.int .i64 m) := (Below.cell (Below.alloc (Below.refl w.heap.size w) (Nat.le_refl _) _) (p := ⟨0, 0, none⟩) hgl).trans hg
  go_enter Tryz.func42, Tryz.ntmps42
  go_wp2_with fail
  have hB : Below w.heap.size w (w.alloc (.cells #[.int .i64 tag, .int .i64 key, .string text, .slice A0 np c0, .slice A1 nk c1] 32)) := Below.alloc (Below.refl w.heap.size w) (Nat.le_refl _) _
  have hzs : w.heap.size < (w.alloc (.cells #[.int .i64 tag, .int .i64 key, .string text, .slice A0 np c0, .slice A1 nk c1] 32)).heap.size := by simp
  have o0 : (w.alloc (.cells #[.int .i64 tag, .int .i64 key, .string text, .slice A0 np c0, .slice A1 nk c1] 32)).cell? ⟨w.heap.size, 0, none⟩ = some (.int .i64 tag) := by rw [World.cell?_alloc_new]; rfl
  have o1 : (w.alloc (.cells #[.int .i64 tag, .int .i64 key, .string text, .slice A0 np c0, .slice A1 nk c1] 32)).cell? ⟨w.heap.size, 1, none⟩ = some (.int .i64 key) := by rw [World.cell?_alloc_new]; rfl
  have o2 : (w.alloc (.cells #[.int .i64 tag, .int .i64 key, .string text, .slice A0 np c0, .slice A1 nk c1] 32)).cell? ⟨w.heap.size, 2, none⟩ = some (.string text) := by rw [World.cell?_alloc_new]; rfl
  have o3 : (w.alloc (.cells #[.int .i64 tag, .int .i64 key, .string text, .slice A0 np c0, .slice A1 nk c1] 32)).cell? ⟨w.heap.size, 3, none⟩ = some (.slice A0 np c0) := by rw [World.cell?_alloc_new]; rfl
  have o4 : (w.alloc (.cells #[.int .i64 tag, .int .i64 key, .string text, .slice A0 np c0, .slice A1 nk c1] 32)).cell? ⟨w.heap.size, 4, none⟩ = some (.slice A1 nk c1) := by rw [World.cell?_alloc_new]; rfl
  go_region_held3 (fun w' => w'.cell? ⟨bs, 0, none⟩ = some (.string s) ∧ w'.cell? ⟨w.heap.size, 0, none⟩ = some (.int .i64 tag) ∧ w'.cell? ⟨w.heap.size, 1, none⟩ = some (.int .i64 key) ∧ w'.cell? ⟨w.heap.size, 2, none⟩ = some (.string text) ∧ w'.cell? ⟨w.heap.size, 3, none⟩ = some (.slice A0 np c0) ∧ w'.cell? ⟨w.heap.size, 4, none⟩ = some (.slice A1 nk c1)) (go_keep) (first | (go_at_call 44; ((with_reducible refine (K1.out _ (HP.out.below (by go_grown)) (HK.out.below (by go_grown))).mono ?_); rintro e w' ⟨rfl, hb⟩); replace e0 := (hb.cell (p := ⟨bs, 0, none⟩) (by first | omega | (simp; done) | (simp; omega))).trans e0; replace e1 := (hb.cell (p := ⟨0, 0, none⟩) (by first | omega | (simp; done) | (simp; omega))).trans e1; replace o0 := (hb.cell (p := ⟨w.heap.size, 0, none⟩) (by first | omega | (simp; done) | (simp; omega))).trans o0; replace o1 := (hb.cell (p := ⟨w.heap.size, 1, none⟩) (by first | omega | (simp; done) | (simp; omega))).trans o1; replace o2 := (hb.cell (p := ⟨w.heap.size, 2, none⟩) (by first | omega | (simp; done) | (simp; omega))).trans o2; replace o3 := (hb.cell (p := ⟨w.heap.size, 3, none⟩) (by first | omega | (simp; done) | (simp; omega))).trans o3; replace o4 := (hb.cell (p := ⟨w.heap.size, 4, none⟩) (by first | omega | (simp; done) | (simp; omega))).trans o4; replace hB := more (W1 := _) (B := w.heap.size) (W0 := w) (by go_grown) (Nat.le_refl _) hb; clear hb) | (go_at_call 43; ((with_reducible refine (K2.out _ (by first | exact e1 | simpa using e1)).mono ?_); rintro e w' ⟨rfl, rfl⟩)))
  go_wp2_with fail
  go_ret
  exact ⟨rfl, hB⟩
set_option maxRecDepth 100000 in
set_option maxHeartbeats 1000000 in
theorem ihasIn_any (ks : List Tr) (s : ByteArray) (m : Int) (n : Nat) (hn : ks.length = n) (hl : n ≤ 1000) (hk : ∀ x ∈ ks, SmT x ∧ sizeT x ≤ 1000 ∧ ∀ y ∈ partsT [] x, y.2.text.size ≤ 1000) : ∀ (A1 : Option Addr) (c1 bs : Nat) (w : World), TrL w 0 A1 ks → w.cell? ⟨bs, 0, none⟩ = some (.string s) → w.cell? ⟨0, 0, none⟩ = some (.int .i64 m) →
    Calls Tryz.prog 74 #[.slice A1 n c1, .func (.func 42) #[] #[.pointer (some ⟨bs, 0, none⟩)]] w fun e w' => (∃ r : Int, e = .returned (.int .i64 r) ∧ decide (r ≥ 0) = ks.any (hasT s)) ∧ Below w.heap.size w w' := by
  intro A1 c1 bs w ht hs hg
  have hsl := World.block_lt_of_cell? w _ hs
  have hgl := World.block_lt_of_cell? w _ hg
  have HN := Lib.hid hn
  have HT := Lib.hid ht
  have HK := Lib.hid hk
  clear hn ht hk
  go_enter Tryz.func74, Tryz.ntmps74
  go_wp2_with fail
  go_loopw [8] (fun i wr => ∃ k : Nat, k ≤ n ∧ i = .int .i64 k ∧ Hid ((ks.take k).any (hasT s) = false) ∧ Hid (Below w.heap.size w wr)) (fun i _ => n - (intOf i).toNat)
  case atStart => exact ⟨0, by omega, rfl, Lib.hid rfl, Lib.hid (Below.refl _ _)⟩
  case round =>
    obtain ⟨k, hk, rfl, HQ, HB⟩ := hrel
    have e0 := (HB.out.cell (p := ⟨bs, 0, none⟩) hsl).trans hs
    have e1 := (HB.out.cell (p := ⟨0, 0, none⟩) hgl).trans hg
    by_cases hlt : k < n
    · obtain ⟨x, hx⟩ := at_some (show k < ks.length by rw [HN.out]; exact hlt)
      obtain ⟨b, off, B0, d0, B1, d1, rfl, hblt, _, f0, f1, f2, f3, f4, hp, _, hks⟩ := (HT.out.kept HB.out.size (fun b _ hlt => HB.out.block b hlt)).at_ hx
      obtain ⟨q1, q2, q3⟩ := HK.out x (List.mem_of_getElem? hx)
      have K := Lib.hid (ihas_any x s m q1 q2 q3 B0 B1 d0 d1 bs wr hp hks e0 e1)
      have HX := Lib.hid hx
      have hi1 : (0 : Int) ≤ (k : Int) := by omega
      have hi2 : (k : Int) < (n : Int) := by omega
      obtain ⟨v, hv⟩ : ∃ v, hasT s x = v := ⟨_, rfl⟩
      rw [hv] at K
      have HV := Lib.hid hv
      clear hx hp hks q1 q2 q3 hv
      obtain ⟨xt, xk, xs, xp, xq⟩ := x
      dsimp only [Tr.tag, Tr.key, Tr.text, Tr.ps, Tr.ks] at f0 f1 f2 f3 f4 K
      cases v
      · go_wp2_with fail
        refine K.out.mono ?_
        rintro e w2 ⟨rfl, hb⟩
        have HB2 := Lib.hid (more HB.out (Nat.le_refl _) hb)
        clear hb
        go_wp2_with fail
        go_roundw
        case rel => exact ⟨k + 1, by omega, by go_num, Lib.hid (by rw [List.take_add_one, HX.out, List.any_append, HQ.out]; simp [HV.out]), HB2⟩
        case measure => simp [intOf]; omega
      · go_wp2_with fail
        refine K.out.mono ?_
        rintro e w2 ⟨rfl, hb⟩
        have HB2 := Lib.hid (more HB.out (Nat.le_refl _) hb)
        clear hb
        go_wp2_with fail
        go_ret
        refine ⟨⟨_, rfl, ?_⟩, HB2.out⟩
        rw [decide_eq_true (by omega)]
        exact (List.any_eq_true.2 ⟨_, List.mem_of_getElem? HX.out, HV.out⟩).symm
    · obtain rfl : k = n := by omega
      go_wp2_with fail
      go_ret
      refine ⟨⟨_, rfl, ?_⟩, HB.out⟩
      have h := HQ.out
      rw [List.take_of_length_le (by rw [HN.out]; exact Nat.le_refl _)] at h
      rw [h]
      rfl
set_option maxRecDepth 100000 in
set_option maxHeartbeats 1000000 in
theorem ianyHas_any (ks : List Tr) (s : ByteArray) (m : Int) (n : Nat) (hn : ks.length = n) (hl : n ≤ 1000) (hk : ∀ x ∈ ks, SmT x ∧ sizeT x ≤ 1000 ∧ ∀ y ∈ partsT [] x, y.2.text.size ≤ 1000) : ∀ (A1 : Option Addr) (c1 bs : Nat) (w : World), TrL w 0 A1 ks → w.cell? ⟨bs, 0, none⟩ = some (.string s) → w.cell? ⟨0, 0, none⟩ = some (.int .i64 m) →
    Calls Tryz.prog 45 #[.slice A1 n c1, .func (.func 42) #[] #[.pointer (some ⟨bs, 0, none⟩)]] w fun e w' => e = .returned (.bool (ks.any (hasT s))) ∧ Below w.heap.size w w' := by
  intro A1 c1 bs w ht hs hg
  have K := Lib.hid (ihasIn_any ks s m n hn hl hk A1 c1 bs w ht hs hg)
  obtain ⟨v, hv⟩ : ∃ v, ks.any (hasT s) = v := ⟨_, rfl⟩
  rw [hv] at K ⊢
  clear hn hl hk ht hs hg hv
  go_enter Tryz.func45, Tryz.ntmps45
  go_wp2_with fail
  refine K.out.mono ?_
  rintro e w' ⟨⟨r, rfl, hr⟩, hb⟩
  have HB := Lib.hid hb
  clear hb
  go_wp2_with fail
  go_ret
  exact ⟨rfl, HB.out⟩
end Go.Proofs.YtagaaeolgecdmaaGreatDoor

namespace Go.Proofs.YtagaaeolgecdmaaGreatDoor
open Go.Joins Go.ChangeShapes Go.WideShapes Go.ChangeAt Go.RowKit Go.Deep
set_option linter.unusedVariables false
set_option linter.unusedSimpArgs false

def wV (x : Pt) : Value := .slice x.Aw x.way.length x.cw
/-- The parts that are found. -/
def fnd (s : ByteArray) (pre : List Pt) : List Pt := pre.filter fun y => inB s y.t
theorem fnd_add_yes {s : ByteArray} {pre : List Pt} {x : Pt} (h : inB s x.t = true) : fnd s (pre ++ [x]) = fnd s pre ++ [x] := by
  simp [fnd, List.filter_append, h]
theorem fnd_add_no {s : ByteArray} {pre : List Pt} {x : Pt} (h : inB s x.t = false) : fnd s (pre ++ [x]) = fnd s pre := by
  simp [fnd, List.filter_append, h]
theorem fnd_ways {s : ByteArray} {pre : List Pt} {t : Tr} (h : pre.map Pt.key = partsT [] t) : (fnd s pre).map Pt.way = findT s [] t := by
  rw [← find_parts, ← h]
  unfold fnd
  rw [List.filter_map, List.map_map]
  rfl
/-- What FindText answers: ways in rows of their own. -/
def FdX (xss : List (List Nat)) (w : World) (e : Ending) (w' : World) : Prop := ∃ (ps : List Pt) (A : Option Addr) (c : Nat), e = .returned (.slice A xss.length c) ∧ ps.map Pt.way = xss ∧ w'.ownsRow w.heap.size 50 1 (.slice A xss.length c) xss.length (ps.map wV) ∧ (∀ y ∈ ps, WayR w.heap.size w' y.Aw y.cw y.way) ∧ Below w.heap.size w w'
def findV (s : ByteArray) (t : Tr) : List (List Nat) := if treeOkB t && decide (1 ≤ s.size ∧ s.size ≤ 12) then findT s [] t else []
/-- What is found so far. -/
structure FwI (s : ByteArray) (t : Tr) (w : World) (fn : Value) (lb fb bs : Nat) (v : Value) (pre : List Pt) (W : World) : Prop where
  bx : Boxed W lb 39 v
  own : W.ownsRow w.heap.size 50 1 v (fnd s pre).length ((fnd s pre).map wV)
  way : ∀ y ∈ fnd s pre, WayR w.heap.size W y.Aw y.cw y.way
  key : ∀ y ∈ pre, y.key ∈ partsT [] t
  str : Boxed W bs 9 (.string s)
  fun_ : Boxed W fb 47 fn
  low : Below w.heap.size w W
theorem FwI.put {s : ByteArray} {t : Tr} {w W : World} {fn v : Value} {lb fb bs l : Nat} {pre : List Pt} {o : Obj} (h : FwI s t w fn lb fb bs v pre W) (o' : Obj) (hB : w.heap.size ≤ l) (hl : W.heap[l]? = some o) (ho : o.isCells = false) : FwI s t w fn lb fb bs v pre (W.putObj l o') :=
  ⟨boxed_put o' h.bx hl ho, own_at h.own (fun g cur _ hg => World.putObj_heap_other (by rintro rfl; rw [hg] at hl; injection hl with hl; rw [← hl] at ho; cases ho)), fun y hy => (h.way y hy).put o' hl ho, h.key, boxed_put o' h.str hl ho, boxed_put o' h.fun_ hl ho, h.low.grown (grownBy_putObj' W l o') h.low.size (fun k e => by cases e; omega)⟩
theorem FwI.later {s : ByteArray} {t : Tr} {w W W' : World} {fn v : Value} {lb fb bs : Nat} {pre : List Pt} (h : FwI s t w fn lb fb bs v pre W) (hb : Below W.heap.size W W') : FwI s t w fn lb fb bs v pre W' :=
  ⟨boxed_later h.bx hb, ownsRow_below h.own hb, fun y hy => (h.way y hy).later hb, h.key, boxed_later h.str hb, boxed_later h.fun_ hb, h.low.trans (hb.mono h.low.size)⟩
theorem len_sizeL : ∀ ks : List Tr, ks.length ≤ sizeL ks
  | [] => by simp
  | x :: xs => by
    have h1 := len_sizeL xs
    have h2 := sizeT_pos x
    simp only [sizeL, List.length_cons]
    omega
theorem FwI.skip {s : ByteArray} {t : Tr} {w W : World} {fn v : Value} {lb fb bs : Nat} {pre : List Pt} {x : Pt} (h : FwI s t w fn lb fb bs v pre W) (hn : inB s x.t = false) (hm : x.key ∈ partsT [] t) : FwI s t w fn lb fb bs v (pre ++ [x]) W := by
  have e := fnd_add_no (pre := pre) hn
  refine ⟨h.bx, by rw [e]; exact h.own, by rw [e]; exact h.way, fun y hy => ?_, h.str, h.fun_, h.low⟩
  rcases List.mem_append.1 hy with hy | hy
  · exact h.key y hy
  · simp at hy; subst hy; exact hm
theorem keeps_below {B : Nat} {W W' : World} (hb : Below W.heap.size W W') : KeepsFrom B W W' := ⟨hb.size, fun k o _ hk _ => (hb.block k (Array.getElem?_eq_some_iff.1 hk).1).trans hk⟩
theorem find_end {s : ByteArray} {t : Tr} {w W u8 : World} {fn v v' : Value} {lb fb bs lo B : Nat} {pre : List Pt} {x : Pt} (h : FwI s t w fn lb fb bs v pre W) (hgr : Gr W u8 v v') (hown8 : u8.ownsRow w.heap.size 50 1 v' (fnd s pre ++ [x]).length ((fnd s pre ++ [x]).map wV))
    (hin : inB s x.t = true) (hm : x.key ∈ partsT [] t) (hway : WayR w.heap.size W x.Aw x.cw x.way) (hlbw : w.heap.size ≤ lb) (hlo : lb < lo) (hfb : lb ≠ fb) (hbs : lb ≠ bs) :
    KeepsFrom B W (u8.setCell ⟨lb, 0, none⟩ v') ∧ KpP w.heap.size lo W (u8.setCell ⟨lb, 0, none⟩ v') ∧ FwI s t w fn lb fb bs v' (pre ++ [x]) (u8.setCell ⟨lb, 0, none⟩ v') := by
  have hne : ∀ g, v.ownBlock = some g → w.heap.size ≤ g := fun g e => (World.ownsRow.lt h.own g e).1
  have hrow : ∀ (g : Nat) (cur : Array Value) (e : TypeId), W.heap[g]? = some (Obj.cells cur e (0, 0)) → e ≠ 50 → v.ownBlock ≠ some g := fun g cur e hg he e2 => by
    obtain ⟨cur2, hc⟩ := own_cells h.own e2
    rw [hg] at hc
    injection hc with hc
    injection hc with _ hc _
    exact he hc
  have hlb : ∀ (g : Nat) (cur : Array Value) (e : TypeId), W.heap[g]? = some (Obj.cells cur e (0, 0)) → e ≠ 39 → g ≠ lb := fun g cur e hg he e2 => by
    rw [e2, show W.heap[lb]? = _ from h.bx] at hg
    injection hg with hg
    injection hg with _ hg _
    exact he hg.symm
  have h2 : ∀ g, g < W.heap.size → g ≠ lb → v.ownBlock ≠ some g → (u8.setCell ⟨lb, 0, none⟩ v').heap[g]? = W.heap[g]? := fun g a c d =>
    (heap_setCell_other _ _ g _ c).trans (hgr.1.block g a (fun e => d e.symm))
  have h3 : ∀ (g : Nat) (cur : Array Value) (e : TypeId), W.heap[g]? = some (Obj.cells cur e (0, 0)) → e ≠ 50 → e ≠ 39 → (u8.setCell ⟨lb, 0, none⟩ v').heap[g]? = W.heap[g]? := fun g cur e hg e1 e2 =>
    h2 g (Array.getElem?_eq_some_iff.1 hg).1 (hlb g cur e hg e2) (hrow g cur e hg e1)
  have hsz : W.heap.size ≤ (u8.setCell ⟨lb, 0, none⟩ v').heap.size := by have := hgr.1.size; simp only [World.size_setCell]; omega
  have hwz := h.low.size
  have hbelow : Below w.heap.size W (u8.setCell ⟨lb, 0, none⟩ v') :=
    ⟨hgr.1.os, hgr.1.tape, hgr.1.output, hsz, fun g hg => h2 g (by omega) (by omega) (fun e => by have := hne g e; omega)⟩
  have hb8 : Boxed u8 lb 39 v := (hgr.1.block lb h.bx.lt (fun e => hrow lb _ 39 h.bx (by decide) e.symm)).trans h.bx
  have e := fnd_add_yes (pre := pre) hin
  refine ⟨⟨hsz, fun k o _ hk ho => ?_⟩, ⟨hbelow, fun g cur e hg he hc => ?_⟩, ⟨hb8.set v', ?_, ?_, fun y hy => ?_, ?_, ?_, h.low.trans hbelow⟩⟩
  · refine (h2 k (Array.getElem?_eq_some_iff.1 hk).1 (fun e => ?_) (fun e => ?_)).trans hk
    · subst e; rw [show W.heap[k]? = _ from h.bx] at hk; injection hk with hk; rw [← hk] at ho; cases ho
    · obtain ⟨cur, hc⟩ := own_cells h.own e; rw [hc] at hk; injection hk with hk; rw [← hk] at ho; cases ho
  · exact h3 g cur e hc (by rcases he with rfl | rfl <;> decide) (by rcases he with rfl | rfl <;> decide)
  · rw [e]
    refine own_at hown8 (fun g cur e hg => heap_setCell_other _ _ g _ (fun e2 => ?_))
    rw [show g = lb from e2, show u8.heap[lb]? = _ from hb8] at hg
    injection hg with hg
    injection hg with _ hg _
    cases hg
  · rw [e]
    intro y hy
    have hw : WayR w.heap.size W y.Aw y.cw y.way := by
      rcases List.mem_append.1 hy with hy | hy
      · exact h.way y hy
      · simp at hy; subst hy; exact hway
    exact hw.moved fun g cur _ hg => h3 g cur 3 hg (by decide) (by decide)
  · rcases List.mem_append.1 hy with hy | hy
    · exact h.key y hy
    · simp at hy; subst hy; exact hm
  · exact (h3 bs _ 9 h.str (by decide) (by decide)).trans h.str
  · exact (h3 fb _ 47 h.fun_ (by decide) (by decide)).trans h.fun_
theorem infoRw : (Tryz.prog.info? 50).map (fun i => (i.zero, i.size, i.bytes)) = some (some (.slice none 0 0), 1, 24) := by kernel_rfl
theorem own_ways {w : World} {base n : Nat} {v : Value} {L : List Value} (h : w.ownsRow base 50 1 v n L) : ∃ A c, v = .slice A n c := by
  rcases h.2 with ⟨rfl, h0⟩ | ⟨g, cap, cur, rfl, hg, hh, r⟩
  · exact ⟨none, 0, by rw [h0]⟩
  · exact ⟨_, cap, rfl⟩
theorem empty_beq (s : ByteArray) : (s.toList == []) = decide (s.size = 0) := by
  rw [Bool.eq_iff_iff, beq_iff_eq, decide_eq_true_iff, Lib.toList_data]
  constructor
  · intro h
    have := congrArg List.length h
    simpa using this
  · intro h
    exact List.eq_nil_of_length_eq_zero (by rw [Array.length_toList]; exact h)
attribute [local go_sem] Oper.semAt_some
set_option maxRecDepth 100000 in
set_option maxHeartbeats 8000000 in
theorem iFindText_any (t : Tr) (s : ByteArray) (m : Int) (hsm : SmT t) (hkw : KwT t) (hss : s.size ≤ 1048576) : ∀ (A0 A1 : Option Addr) (c0 c1 : Nat) (w : World), Vs w → w.cell? ⟨0, 0, none⟩ = some (.int .i64 m) → PrL w A0 t.ps → TrL w 0 A1 t.ks →
    Calls Tryz.prog 16 #[.agg #[.int .i64 t.tag, .int .i64 t.key, .string t.text, .slice A0 t.ps.length c0, .slice A1 t.ks.length c1], .string s] w (FdX (findV s t) w) := by
  intro A0 A1 c0 c1 w hvw hg hp hk
  have hgl := World.block_lt_of_cell? w _ hg
  have hsh : ShOk Vs := ⟨fun w w' h hb => h.next hb, fun s w hl hv => ishown_any s w hl hv⟩
  have k1 := fun w hv hp hk => iTreeOk_any Vs hsh t hsm hkw A0 A1 c0 c1 w hv hp hk
  have HSZ := Lib.hid (@sizeI_small t)
  have hpart : treeOkB t = true → ∀ y ∈ partsT [] t, treeOkB y.2 = true := fun h y hy => partsT_all (P := fun t => treeOkB t = true) (fun t ht x hx => kid_valid ht hx) t h [] y hy
  have hb1 : Below w.heap.size w ((w.alloc (.cells #[.int .i64 t.tag, .int .i64 t.key, .string t.text, .slice A0 t.ps.length c0, .slice A1 t.ks.length c1] 32)).alloc (.cells #[.string s] 9)) := (Below.alloc (Below.refl _ w) (Nat.le_refl _) _).alloc (by simp) _
  have a0 : (((w.alloc (.cells #[.int .i64 t.tag, .int .i64 t.key, .string t.text, .slice A0 t.ps.length c0, .slice A1 t.ks.length c1] 32)).alloc (.cells #[.string s] 9))).cell? ⟨w.heap.size, 0, none⟩ = some (.int .i64 t.tag) := by rw [Below.cell (Below.alloc (Below.refl (w.alloc (.cells #[.int .i64 t.tag, .int .i64 t.key, .string t.text, .slice A0 t.ps.length c0, .slice A1 t.ks.length c1] 32)).heap.size _) (Nat.le_refl _) _) (p := ⟨w.heap.size, 0, none⟩) (by simp), World.cell?_alloc_new]; rfl
  have a1 : (((w.alloc (.cells #[.int .i64 t.tag, .int .i64 t.key, .string t.text, .slice A0 t.ps.length c0, .slice A1 t.ks.length c1] 32)).alloc (.cells #[.string s] 9))).cell? ⟨w.heap.size, 1, none⟩ = some (.int .i64 t.key) := by rw [Below.cell (Below.alloc (Below.refl (w.alloc (.cells #[.int .i64 t.tag, .int .i64 t.key, .string t.text, .slice A0 t.ps.length c0, .slice A1 t.ks.length c1] 32)).heap.size _) (Nat.le_refl _) _) (p := ⟨w.heap.size, 1, none⟩) (by simp), World.cell?_alloc_new]; rfl
  have a2 : (((w.alloc (.cells #[.int .i64 t.tag, .int .i64 t.key, .string t.text, .slice A0 t.ps.length c0, .slice A1 t.ks.length c1] 32)).alloc (.cells #[.string s] 9))).cell? ⟨w.heap.size, 2, none⟩ = some (.string t.text) := by rw [Below.cell (Below.alloc (Below.refl (w.alloc (.cells #[.int .i64 t.tag, .int .i64 t.key, .string t.text, .slice A0 t.ps.length c0, .slice A1 t.ks.length c1] 32)).heap.size _) (Nat.le_refl _) _) (p := ⟨w.heap.size, 2, none⟩) (by simp), World.cell?_alloc_new]; rfl
  have a3 : (((w.alloc (.cells #[.int .i64 t.tag, .int .i64 t.key, .string t.text, .slice A0 t.ps.length c0, .slice A1 t.ks.length c1] 32)).alloc (.cells #[.string s] 9))).cell? ⟨w.heap.size, 3, none⟩ = some (.slice A0 t.ps.length c0) := by rw [Below.cell (Below.alloc (Below.refl (w.alloc (.cells #[.int .i64 t.tag, .int .i64 t.key, .string t.text, .slice A0 t.ps.length c0, .slice A1 t.ks.length c1] 32)).heap.size _) (Nat.le_refl _) _) (p := ⟨w.heap.size, 3, none⟩) (by simp), World.cell?_alloc_new]; rfl
  have a4 : (((w.alloc (.cells #[.int .i64 t.tag, .int .i64 t.key, .string t.text, .slice A0 t.ps.length c0, .slice A1 t.ks.length c1] 32)).alloc (.cells #[.string s] 9))).cell? ⟨w.heap.size, 4, none⟩ = some (.slice A1 t.ks.length c1) := by rw [Below.cell (Below.alloc (Below.refl (w.alloc (.cells #[.int .i64 t.tag, .int .i64 t.key, .string t.text, .slice A0 t.ps.length c0, .slice A1 t.ks.length c1] 32)).heap.size _) (Nat.le_refl _) _) (p := ⟨w.heap.size, 4, none⟩) (by simp), World.cell?_alloc_new]; rfl
  have hz1 : w.heap.size + 1 < ((w.alloc (.cells #[.int .i64 t.tag, .int .i64 t.key, .string t.text, .slice A0 t.ps.length c0, .slice A1 t.ks.length c1] 32)).alloc (.cells #[.string s] 9)).heap.size := by simp
  have hst : Boxed ((w.alloc (.cells #[.int .i64 t.tag, .int .i64 t.key, .string t.text, .slice A0 t.ps.length c0, .slice A1 t.ks.length c1] 32)).alloc (.cells #[.string s] 9)) (w.heap.size + 1) 9 (.string s) := by
    have := Boxed.new (w.alloc (.cells #[.int .i64 t.tag, .int .i64 t.key, .string t.text, .slice A0 t.ps.length c0, .slice A1 t.ks.length c1] 32)) 9 (.string s)
    rw [World.size_alloc] at this
    exact this
  obtain ⟨X, hX⟩ : ∃ X, FdX (findV s t) w = X := ⟨_, rfl⟩
  have HX := Lib.hid hX
  rw [hX]
  obtain ⟨ok, hok⟩ : ∃ v, treeOkB t = v := ⟨_, rfl⟩
  rw [hok] at k1
  have HOK := Lib.hid hok
  have HPT := Lib.hid hpart
  obtain ⟨w1, hw1⟩ : ∃ q, (w.alloc (.cells #[.int .i64 t.tag, .int .i64 t.key, .string t.text, .slice A0 t.ps.length c0, .slice A1 t.ks.length c1] 32)).alloc (.cells #[.string s] 9) = q := ⟨_, rfl⟩
  rw [hw1] at hb1 a0 a1 a2 a3 a4 hz1 hst
  have K1 := Lib.hid (k1 w1 (hvw.next hb1) (hp.below hb1) (hk.below hb1))
  have HB1 := Lib.hid hb1
  have HP := Lib.hid hp
  have HK := Lib.hid hk
  have HS := Lib.hid hsm
  have HG := Lib.hid hg
  have HW1 := Lib.hid hw1
  have HST := Lib.hid hst
  clear hw1 k1 hb1 hp hk hvw hsm hok hX hpart hg hst
  refine callsIn_wide (n := 3) |>.1 ?_
  refine callsIn_of_wp_marks Tryz.func16 rfl trivial ?_ rfl; simp only [Tryz.ntmps16, List.size_toArray, List.length_cons, List.length_nil, Nat.reduceAdd, Nat.reduceSub, Array.replicate_succ, Array.replicate_zero, List.push_toArray, List.append_toArray, List.nil_append, List.cons_append]
  gi_wp2
  rw [HW1.out]
  refine ⟨trivial, (callsIn_wide.2 K1.out).mono ?_⟩
  rintro e w2 ⟨rfl, hb⟩
  replace a0 := (hb.cell (p := ⟨w.heap.size, 0, none⟩) (show w.heap.size < w1.heap.size by omega)).trans a0
  replace a1 := (hb.cell (p := ⟨w.heap.size, 1, none⟩) (show w.heap.size < w1.heap.size by omega)).trans a1
  replace a2 := (hb.cell (p := ⟨w.heap.size, 2, none⟩) (show w.heap.size < w1.heap.size by omega)).trans a2
  replace a3 := (hb.cell (p := ⟨w.heap.size, 3, none⟩) (show w.heap.size < w1.heap.size by omega)).trans a3
  replace a4 := (hb.cell (p := ⟨w.heap.size, 4, none⟩) (show w.heap.size < w1.heap.size by omega)).trans a4
  have HB2 := Lib.hid (HB1.out.trans (hb.mono HB1.out.size))
  have HST2 := Lib.hid (boxed_later HST.out hb)
  have hz2 : w.heap.size + 1 < w2.heap.size := Nat.lt_of_lt_of_le hz1 hb.size
  have hsc := HST2.out.cell
  have heq := empty_beq s
  clear hb HB1 K1 HW1 hz1 HST
  cases ok
  · have hv : findV s t = [] := by unfold findV; rw [HOK.out]; rfl
    gi_wp2
    refine ⟨_, results_tmp rfl _ _ _, ?_⟩
    rw [← HX.out, hv]
    exact ⟨[], none, 0, rfl, rfl, World.ownsRow_nil _ _ _ _, by simp, HB2.out⟩
  by_cases h0 : s.size = 0
  · have hv : findV s t = [] := by unfold findV; rw [decide_eq_false (by omega), Bool.and_false]; rfl
    rw [decide_eq_true h0] at heq
    gi_wp2
    refine ⟨_, results_tmp rfl _ _ _, ?_⟩
    rw [← HX.out, hv]
    exact ⟨[], none, 0, rfl, rfl, World.ownsRow_nil _ _ _ _, by simp, HB2.out⟩
  rw [decide_eq_false h0] at heq
  by_cases h1 : 12 < s.size
  · have hv : findV s t = [] := by unfold findV; rw [decide_eq_false (by omega), Bool.and_false]; rfl
    have hgt : decide ((12 : Int) < (s.size : Int)) = true := decide_eq_true (by omega)
    gi_wp2
    refine ⟨_, results_tmp rfl _ _ _, ?_⟩
    rw [← HX.out, hv]
    exact ⟨[], none, 0, rfl, rfl, World.ownsRow_nil _ _ _ _, by simp, HB2.out⟩
  have hgt : decide ((12 : Int) < (s.size : Int)) = false := decide_eq_false (by omega)
  have hv : findV s t = findT s [] t := by unfold findV; rw [HOK.out, decide_eq_true (by omega)]; rfl
  have HV := Lib.hid hv
  have hsz := HSZ.out HOK.out
  have hfb := Boxed.new w2 47 Value.nilFunc
  have hfc := hfb.cell
  have hff := hfb.frozen
  have hz3 : w.heap.size < w2.heap.size := (by omega)
  clear hv
  gi_wp2
  obtain ⟨w4, hw4⟩ : ∃ q, (w2.alloc (.cells #[.func (.func 42) #[] #[.pointer (some ⟨w.heap.size + 1, 0, none⟩)]] 47)).alloc (.cells #[.slice none 0 0] 39) = q := ⟨_, rfl⟩
  rw [hw4]
  refine ⟨trivial, (callsIn_wide.2 (eachPart_any _ _ _ _ _ _ _ _ _ _)).mono ?_⟩
  rintro e w5 ⟨rfl, hw5⟩
  have hzz : w4.heap.size = w2.heap.size + 2 := by rw [← hw4]; simp
  have hb4 : Below w2.heap.size w2 w4 := by rw [← hw4]; exact (Below.alloc (Below.refl _ w2) (Nat.le_refl _) _).alloc (by simp) _
  have hb5 : Below w4.heap.size w4 w5 := by rw [hw5]; exact Below.alloc (Below.refl _ _) (Nat.le_refl _) _
  have hz5 : w5.heap.size = w2.heap.size + 3 := by rw [hw5]; simp [hzz]
  have hbt : w5.heap[w2.heap.size + 2]? = some (TREEC t A0 c0 A1 c1) := by
    rw [hw5, ← hzz]
    exact World.alloc_heap_new w4 _
  have hfb4 : Boxed w4 w2.heap.size 47 (.func (.func 42) #[] #[.pointer (some ⟨w.heap.size + 1, 0, none⟩)]) := by
    rw [← hw4]
    exact (Boxed.new w2 47 _).alloc _
  have hlb4 : Boxed w4 (w2.heap.size + 1) 39 (.slice none 0 0) := by
    rw [← hw4]
    have := Boxed.new (w2.alloc (.cells #[.func (.func 42) #[] #[.pointer (some ⟨w.heap.size + 1, 0, none⟩)]] 47)) 39 (.slice none 0 0)
    rw [World.size_alloc] at this
    exact this
  have HST5 := Lib.hid (boxed_later (boxed_later HST2.out hb4) hb5)
  have HFB5 := Lib.hid (boxed_later hfb4 hb5)
  have HLB5 := Lib.hid (boxed_later hlb4 hb5)
  have HBT := Lib.hid hbt
  have HB5 := Lib.hid (HB2.out.trans ((hb4.trans (hb5.mono hb4.size)).mono HB2.out.size))
  rw [hzz]
  clear hw4 hw5 hb4 hb5 hbt hfb4 hlb4 hfb hfc hff a0 a1 a2 a3 a4 HB2 HST2 hzz heq hsc
  obtain ⟨lb, hlb⟩ : ∃ q, w2.heap.size = q := ⟨_, rfl⟩
  rw [hlb] at HFB5 HLB5 HBT hz2 hz3 hz5 ⊢
  clear hlb
  gi_wp2
  refine wpIn_rangeX (α := Pt) rfl (by decide) (gf := 63) (lb := #[.pointer (some ⟨lb + 2, 0, none⟩)]) rfl trivial (enters_of Tryz.func63 (by kernel_rfl) rfl)
    (parts_seq 2 w w5 t A0 A1 c0 c1 (lb + 2) HS.out (by omega) HB5.out HP.out HK.out HBT.out) (PtX.spares (by omega)) PtX.stays (fun W W' h hb => KpP.later hb (by omega)) KpP.trans (fun W l o o' hl h ho _ => KpP.put (w := w5) (by omega) W l o o' hl h ho) (fun x => rfl)
    (fun pre W => ∃ v, FwI s t w (.func (.func 42) #[] #[.pointer (some ⟨w.heap.size + 1, 0, none⟩)]) (lb + 1) lb (w.heap.size + 1) v pre W) (fun _ _ _ => False)
    (fun pre W l o o' ⟨v, h⟩ hl ho hc => ⟨v, h.put o' (by omega) ho hc⟩) (fun pre W W' ⟨v, h⟩ hb => ⟨v, h.later hb⟩) (fun _ _ _ _ _ _ h _ _ _ => h) (fun _ _ _ _ h _ => h)
    ⟨.slice none 0 0, HLB5.out, World.ownsRow_nil _ _ _ _, by simp [fnd], by simp, HST5.out, HFB5.out, HB5.out⟩
    (fun x a' W => ∃ bx : Nat, W.heap[bx]? = some (TREEC x.t x.A0 x.c0 x.A1 x.c1) ∧ a' = { tmps := #[.agg #[.int .i64 t.tag, .int .i64 t.key, .string t.text, .slice A0 t.ps.length c0, .slice A1 t.ks.length c1], .string s, .pointer (some ⟨w.heap.size, 0, none⟩), .pointer (some ⟨w.heap.size + 1, 0, none⟩), .slice none 0 0, .pointer (some ⟨lb, 0, none⟩), .pointer (some ⟨lb + 1, 0, none⟩), .slice x.Aw x.way.length x.cw, .pointer (some ⟨bx, 0, none⟩), .agg #[.int .i64 t.tag, .int .i64 t.key, .string t.text, .slice A0 t.ps.length c0, .slice A1 t.ks.length c1], .bool true, .bool false, .bool false, .string s, .bool false, .bool false, .bool false, .string s, .int .i64 s.size, .bool false, .bool false, .func (.func 42) #[] #[.pointer (some ⟨w.heap.size + 1, 0, none⟩)], .agg #[.int .i64 t.tag, .int .i64 t.key, .string t.text, .slice A0 t.ps.length c0, .slice A1 t.ks.length c1], .func (.func 63) #[] #[.pointer (some ⟨lb + 2, 0, none⟩)], .slice x.Aw x.way.length x.cw, x.tree, undef, undef, undef, undef, undef, undef, undef, undef, undef, undef, undef, undef, undef, undef, undef], defers := [] }) ?_ ?_ ?_ ?_ ?_
  · rintro x a' _ W l o o' ⟨bx, hbx, e⟩ hl ho hc
    exact ⟨bx, (World.putObj_heap_other (by rintro rfl; rw [ho] at hbx; injection hbx with hbx; rw [hbx] at hc; cases hc)).trans hbx, e⟩
  · intro l x W K hK
    dsimp only [Pt.encs, Pt.tree]
    gi_wp2
    exact hK _ _ (Below.alloc (Below.refl _ _) (Nat.le_refl _) _) ⟨W.heap.size, World.alloc_heap_new W _, rfl⟩
  · rintro l pre x a' W ⟨v, hI⟩ hx ⟨bx, hbx, rfl⟩ hlen
    have hxm := hx.mem
    have hokx : treeOkB x.t = true := HPT.out HOK.out _ hxm
    have hgW : W.cell? ⟨0, 0, none⟩ = some (.int .i64 m) := (hI.low.cell (p := ⟨0, 0, none⟩) hgl).trans HG.out
    have hkl : x.t.ks.length ≤ 1000 := by have h1 := len_sizeL x.t.ks; have h2 := sizeT_eq x.t; have h3 := size_small hokx; omega
    have k1 := ihas_any x.t s m hx.sm (by have := size_small hokx; omega) (texts_small hokx) x.A0 x.A1 x.c0 x.c1 (w.heap.size + 1) W (hx.ps.below hx.low) ((hx.ks).below hx.low) hI.str.cell hgW
    have k2 := fun W' (hb : Below W.heap.size W W') => ianyHas_any x.t.ks s m x.t.ks.length rfl hkl (fun k hk => ⟨hx.sm.open_.2.2.2.2 k hk, by have := size_small (kid_valid hokx hk); omega, texts_small (kid_valid hokx hk)⟩) x.A1 x.c1 (w.heap.size + 1) W' ((hx.ks.below hx.low).below hb) ((hb.cell (p := ⟨w.heap.size + 1, 0, none⟩) hI.str.lt).trans hI.str.cell) ((hb.cell (p := ⟨0, 0, none⟩) (World.block_lt_of_cell? W _ hgW)).trans hgW)
    obtain ⟨r1, hr1⟩ : ∃ r, hasT s x.t = r := ⟨_, rfl⟩
    obtain ⟨r2, hr2⟩ : ∃ r, x.t.ks.any (hasT s) = r := ⟨_, rfl⟩
    have hin : inB s x.t = (r1 && !r2) := by unfold inB; rw [hr1, hr2]
    rw [hr1] at k1
    rw [hr2] at k2
    obtain ⟨d0, d1, d2, d3, d4⟩ := five_cells (show W.heap[bx]? = some (.cells #[.int .i64 x.t.tag, .int .i64 x.t.key, .string x.t.text, .slice x.A0 x.t.ps.length x.c0, .slice x.A1 x.t.ks.length x.c1] 32 (0, 0)) from hbx)
    have hbl := (Array.getElem?_eq_some_iff.1 hbx).1
    have hf := hI.fun_.cell
    have K1 := Lib.hid k1
    have K2 := Lib.hid k2
    have HI := Lib.hid hI
    have HXX := Lib.hid hx
    have HIN := Lib.hid hin
    have HXM := Lib.hid hxm
    clear hI hx hin hxm hokx k1 k2 hgW hkl hr1 hr2 hbx
    gi_wp2
    refine ⟨trivial, (CallsIn.inRound l (callsIn_wide.2 K1.out)).mono ?_⟩
    rintro e W2 ⟨rfl, hb⟩
    replace d0 := (hb.cell (p := ⟨bx, 0, none⟩) hbl).trans d0
    replace d1 := (hb.cell (p := ⟨bx, 1, none⟩) hbl).trans d1
    replace d2 := (hb.cell (p := ⟨bx, 2, none⟩) hbl).trans d2
    replace d3 := (hb.cell (p := ⟨bx, 3, none⟩) hbl).trans d3
    replace d4 := (hb.cell (p := ⟨bx, 4, none⟩) hbl).trans d4
    replace hf := (hb.cell (p := ⟨lb, 0, none⟩) HI.out.fun_.lt).trans hf
    have HI2 := Lib.hid (HI.out.later hb)
    have HB2 := Lib.hid hb
    clear hb K1
    cases r1
    · gi_wp2
      refine ⟨trivial, ?_⟩
      gi_wp2
      exact ⟨keeps_below HB2.out, KpP.later HB2.out HI.out.low.size, v, HI2.out.skip HIN.out HXM.out⟩
    · gi_wp2
      refine ⟨trivial, (CallsIn.inRound l (callsIn_wide.2 (K2.out _ HB2.out))).mono ?_⟩
      rintro e W3 ⟨rfl, hb⟩
      have HI3 := Lib.hid (HI2.out.later hb)
      have HB3 := Lib.hid (more HB2.out (Nat.le_refl _) hb)
      clear hb K2 HI2
      cases r2
      · have hl := HI3.out.bx.cell
        have hpl : (fnd s pre).length ≤ 1000 := by
          have h1 : (fnd s pre).length ≤ pre.length := List.length_filter_le _ _
          omega
        have hcw : (W3.alloc (.cells #[wV x] 50)).cell? ⟨W3.heap.size, 0, none⟩ = some (wV x) := by rw [World.cell?_alloc_new]; rfl
        have hb4 := Below.alloc (Below.refl W3.heap.size W3) (Nat.le_refl _) (.cells #[wV x] 50)
        have hown4 := ownsRow_below HI3.out.own hb4
        have hwz3 := HI3.out.low.size
        have HCW := Lib.hid hcw
        have HB4 := Lib.hid hb4
        have HO4 := Lib.hid hown4
        clear hcw hb4 hown4
        obtain ⟨i0, hi0, hz0, hz1, hz2⟩ := info_parts infoRw
        gi_wp2_with (gi_at_builtin; refine wpListIn_append_own_at _ rfl (.tmp 36) (.tmp 38) 39 rfl w.heap.size 50 i0 _ 1 24 Tryz.underlying39 hi0 hz0 hz1 hz2 rfl (by omega) v (fnd s pre).length ((fnd s pre).map wV) rfl HO4.out ⟨W3.heap.size, 0, none⟩ 1 1 [wV x] rfl rfl (fun j u hu => by
          match j with
          | 0 => simp at hu; subst hu; exact HCW.out
          | j + 1 => simp at hu) (fun u hu => by simp at hu; subst hu; rfl) (by simp only [maxLen]; omega) (by omega) (by simp; omega) ?_)
        intro v' u8 hown8 hg8 _ hat8
        have hgr : Gr W u8 v v' := Gr.trans (Gr.of_below (more HB3.out (Nat.le_refl _) HB4.out) v) ⟨hg8, hat8.imp id fun e => ⟨_, e, by simp⟩⟩
        have hown9 : u8.ownsRow w.heap.size 50 1 v' (fnd s pre ++ [x]).length ((fnd s pre ++ [x]).map wV) := by
          rw [List.length_append, List.map_append]
          exact hown8
        obtain ⟨A9, c9, hv9⟩ := own_ways hown8
        subst hv9
        have hend := find_end (B := w5.heap.size) (lo := w5.heap.size + 2) HI.out hgr hown9 HIN.out HXM.out (row_mono HXX.out.way (by omega)) (by omega) (by omega) (by omega) (by omega)
        have hvlb : v.ownBlock ≠ some (lb + 1) := fun e => by
          obtain ⟨cur, hc⟩ := own_cells HI.out.own e
          rw [show W.heap[lb + 1]? = _ from HI.out.bx] at hc
          injection hc with hc
          injection hc with _ hc _
          cases hc
        have hb8 : Boxed u8 (lb + 1) 39 v := (hgr.1.block (lb + 1) HI.out.bx.lt (fun e => hvlb e.symm)).trans HI.out.bx
        have h8c := hb8.cell
        have h8f := hb8.frozen
        have HEND := Lib.hid hend
        clear hend hgr hown9 hown8 hg8 hat8 hvlb hb8
        gi_wp2
        exact ⟨HEND.out.1, HEND.out.2.1, _, HEND.out.2.2⟩
      · gi_wp2
        exact ⟨keeps_below HB3.out, KpP.later HB3.out HI.out.low.size, v, HI3.out.skip HIN.out HXM.out⟩
  · rintro D xs W hD hS ⟨v, hI⟩ hK
    have hw := fnd_ways (s := s) hS
    obtain ⟨A9, c9, hv9⟩ := own_ways hI.own
    subst hv9
    have hl9 : (fnd s xs).length = (findT s [] t).length := by rw [← hw, List.length_map]
    have hc := hI.bx.cell
    have hfd : FdX (findT s [] t) w (.returned (.slice A9 (findT s [] t).length c9)) (W.putObj D (.deferred none)) :=
      ⟨fnd s xs, A9, c9, rfl, hw, by
        rw [← hl9]
        exact own_at hI.own (fun g2 cur _ hg => World.putObj_heap_other (by rintro rfl; rw [hg] at hK; cases hK)),
        fun y hy => (hI.way y hy).put _ hK rfl, hI.low.grown (grownBy_putObj' W D (.deferred none)) hI.low.size (fun k e => by cases e; omega)⟩
    rw [← HV.out, HX.out] at hfd
    rw [hl9, ← HV.out] at hc
    have HKD := Lib.hid hK
    have HFD := Lib.hid hfd
    clear hI hK hw hS hl9 hfd
    gi_wp2
    refine ⟨by simp, .inl ⟨_, _, rfl, run_takeDeferred HKD.out, ?_⟩⟩
    refine ⟨_, results_tmp rfl _ _ _, ?_⟩
    exact HFD.out
  · rintro D c pre W _ _ h _
    exact h.elim
end Go.Proofs.YtagaaeolgecdmaaGreatDoor

namespace Go.Proofs.YtagaaeolgecdmaaGreatDoor
open Go.Joins Go.ChangeShapes Go.WideShapes Go.ChangeAt Go.RowKit Go.Deep
set_option linter.unusedVariables false
set_option linter.unusedSimpArgs false

theorem intV_one (ns : List Nat) : ∀ u ∈ intV ns, u.oneCell' = true := fun u hu => by obtain ⟨z, _, rfl⟩ := List.mem_map.1 hu; rfl
theorem way_form {w : World} {base n : Nat} {v : Value} {xs : List Value} (h : w.ownsRow base 3 1 v n xs) (h0 : v.ownBlock ≠ none) : ∃ g c, v = .slice (some ⟨g, 0, none⟩) n c := by
  rcases h.2 with ⟨rfl, _⟩ | ⟨g, cap, cur, rfl, _⟩
  · simp [Value.ownBlock] at h0
  · exact ⟨g, cap, rfl⟩
/-- A way's copy, in a list of operations. -/
theorem wp_clone_way {w : World} {ops : Array Oper} {rest : List Oper} {o : Oper} {a : Act} {Q : Exit → Act → World → Prop} (hgd : o.guard = none) (s x : Operand) (ho : o.op = .call { callee := .builtin .append, args := #[s, x], argTypes := #[50, 50] }) (base b : Nat) (hs : a.eval s = .slice (some ⟨b, 0, none⟩) 0 0) (hown : w.ownsRow base 3 1 (.slice (some ⟨b, 0, none⟩) 0 0) 0 []) (lo g cw wl : Nat) (way : List Nat) (hx : a.eval x = .slice (some ⟨g, 0, none⟩) wl cw) (hwl : way.length = wl) (hway : WayR lo w (some ⟨g, 0, none⟩) cw way) (hl : wl ≤ 1000) (hbase : base ≤ w.heap.size)
    (h : ∀ b2 c2 w2, WayR base w2 (some ⟨b2, 0, none⟩) c2 way → w.grownBy w2 (some b) → wpList Tryz.prog ops Q rest (a.put o.dst (.slice (some ⟨b2, 0, none⟩) wl c2)) w2) : wpList Tryz.prog ops Q (o :: rest) a w := by
  obtain ⟨i0, hi0, hz0, hz1, hz2⟩ := info_parts infoInt
  refine wpList_append_own_at w hgd s x _ ho base 3 i0 _ 1 8 Tryz.underlying50 hi0 hz0 hz1 hz2 rfl (by omega) (.slice (some ⟨b, 0, none⟩) 0 0) 0 [] hs hown ⟨g, 0, none⟩ wl cw (intV way) hx (by rw [← hwl]; exact intV_length way) (fun j u hu => by
    have h1 := hway.cellAt j (by have := (List.getElem?_eq_some_iff.1 hu).1; rw [intV_length] at this; omega)
    rw [Addr.add_lit, Nat.zero_add]
    exact h1.trans hu) (intV_one way) (by simp only [maxLen]; omega) (by omega) hbase ?_
  intro v' w' hown' hg _ hat
  rw [Nat.zero_add, List.nil_append] at hown'
  obtain ⟨g2, c2, rfl⟩ := way_form hown' (by rcases hat with e | e <;> rw [e] <;> simp [Value.ownBlock])
  exact h g2 c2 w' (by unfold WayR; rw [hwl]; exact hown') hg
/-- A way's copy, in a region that draws its order. -/
theorem step_clone_way {w : World} {ops : Array Oper} {o : Oper} {a : Act} {K : Act → World → Prop} {Q : Exit → Act → World → Prop} {E : Prop} (hgd : o.guard = none) (s x : Operand) (ho : o.op = .call { callee := .builtin .append, args := #[s, x], argTypes := #[50, 50] }) (base b : Nat) (hs : a.eval s = .slice (some ⟨b, 0, none⟩) 0 0) (hown : w.ownsRow base 3 1 (.slice (some ⟨b, 0, none⟩) 0 0) 0 []) (lo g cw wl : Nat) (way : List Nat) (hx : a.eval x = .slice (some ⟨g, 0, none⟩) wl cw) (hwl : way.length = wl) (hway : WayR lo w (some ⟨g, 0, none⟩) cw way) (hl : wl ≤ 1000) (hbase : base ≤ w.heap.size)
    (h : ∀ b2 c2 w2, WayR base w2 (some ⟨b2, 0, none⟩) c2 way → w.grownBy w2 (some b) → K (a.put o.dst (.slice (some ⟨b2, 0, none⟩) wl c2)) w2) : if Region.wanted o (yielded ops a.tmps) = true then Oper.wp Tryz.prog o a w K Q else E := by
  have hw : Region.wanted o (yielded ops a.tmps) = true := by simp [Region.wanted, hgd]
  rw [if_pos hw]
  obtain ⟨i0, hi0, hz0, hz1, hz2⟩ := info_parts infoInt
  obtain ⟨v', w', hr, hown', hg, _, hat⟩ := run_append_own_at (P := Tryz.prog) w base 50 o.type 3 i0 _ 1 8 Tryz.underlying50 hi0 hz0 hz1 hz2 rfl (by omega) (.slice (some ⟨b, 0, none⟩) 0 0) 0 [] hown ⟨g, 0, none⟩ wl cw (intV way) (by rw [← hwl]; exact intV_length way) (fun j u hu => by
    have h1 := hway.cellAt j (by have := (List.getElem?_eq_some_iff.1 hu).1; rw [intV_length] at this; omega)
    rw [Addr.add_lit, Nat.zero_add]
    exact h1.trans hu) (intV_one way) (by simp only [maxLen]; omega) (by omega) hbase
  unfold Oper.wp execOp
  simp only [ho, resolve, invoke, builtin, Sem.run_bind, Sem.run_pure, Result.andThen_ok, List.map_toArray, List.map_cons, List.map_nil, hs, hx, hr]
  rw [Nat.zero_add, List.nil_append] at hown'
  obtain ⟨g2, c2, rfl⟩ := way_form hown' (by rcases hat with e | e <;> rw [e] <;> simp [Value.ownBlock])
  exact h g2 c2 w' (by unfold WayR; rw [hwl]; exact hown') hg
/-- A way's next number, in a list of operations. -/
theorem wp_add_way {w : World} {ops : Array Oper} {rest : List Oper} {o : Oper} {a : Act} {Q : Exit → Act → World → Prop} (hgd : o.guard = none) (s x : Operand) (ho : o.op = .call { callee := .builtin .append, args := #[s, x], argTypes := #[50, 50] }) (base b c n : Nat) (way : List Nat) (hs : a.eval s = .slice (some ⟨b, 0, none⟩) n c) (hn : way.length = n) (hway : WayR base w (some ⟨b, 0, none⟩) c way) (ad : Addr) (c3 k : Nat) (hx : a.eval x = .slice (some ad) 1 c3) (hc : w.cell? ad = some (.int .i64 k)) (hl : n ≤ 1000) (hbase : base ≤ w.heap.size)
    (h : ∀ b2 c2 w2, WayR base w2 (some ⟨b2, 0, none⟩) c2 (way ++ [k]) → w.grownBy w2 (some b) → wpList Tryz.prog ops Q rest (a.put o.dst (.slice (some ⟨b2, 0, none⟩) (n + 1) c2)) w2) : wpList Tryz.prog ops Q (o :: rest) a w := by
  obtain ⟨i0, hi0, hz0, hz1, hz2⟩ := info_parts infoInt
  refine wpList_append_own_at w hgd s x _ ho base 3 i0 _ 1 8 Tryz.underlying50 hi0 hz0 hz1 hz2 rfl (by omega) (.slice (some ⟨b, 0, none⟩) n c) n (intV way) hs (by rw [← hn]; exact hway) ad 1 c3 [.int .i64 k] hx rfl (fun j u hu => by
    match j with
    | 0 => simp at hu; subst hu; simpa [Addr.add] using hc
    | j + 1 => simp at hu) (fun u hu => by simp at hu; subst hu; rfl) (by simp only [maxLen]; omega) (by omega) hbase ?_
  intro v' w' hown' hg _ hat
  rw [intV_append] at hown'
  obtain ⟨g2, c2, rfl⟩ := way_form hown' (by rcases hat with e | e <;> rw [e] <;> simp [Value.ownBlock])
  exact h g2 c2 w' (by unfold WayR; rw [List.length_append, hn]; exact hown') hg
/-- A way's next number, in a region that draws its order. -/
theorem step_add_way {w : World} {ops : Array Oper} {o : Oper} {a : Act} {K : Act → World → Prop} {Q : Exit → Act → World → Prop} {E : Prop} (hgd : o.guard = none) (s x : Operand) (ho : o.op = .call { callee := .builtin .append, args := #[s, x], argTypes := #[50, 50] }) (base b c n : Nat) (way : List Nat) (hs : a.eval s = .slice (some ⟨b, 0, none⟩) n c) (hn : way.length = n) (hway : WayR base w (some ⟨b, 0, none⟩) c way) (ad : Addr) (c3 k : Nat) (hx : a.eval x = .slice (some ad) 1 c3) (hc : w.cell? ad = some (.int .i64 k)) (hl : n ≤ 1000) (hbase : base ≤ w.heap.size)
    (h : ∀ b2 c2 w2, WayR base w2 (some ⟨b2, 0, none⟩) c2 (way ++ [k]) → w.grownBy w2 (some b) → K (a.put o.dst (.slice (some ⟨b2, 0, none⟩) (n + 1) c2)) w2) : if Region.wanted o (yielded ops a.tmps) = true then Oper.wp Tryz.prog o a w K Q else E := by
  have hw : Region.wanted o (yielded ops a.tmps) = true := by simp [Region.wanted, hgd]
  rw [if_pos hw]
  obtain ⟨i0, hi0, hz0, hz1, hz2⟩ := info_parts infoInt
  obtain ⟨v', w', hr, hown', hg, _, hat⟩ := run_append_own_at (P := Tryz.prog) w base 50 o.type 3 i0 _ 1 8 Tryz.underlying50 hi0 hz0 hz1 hz2 rfl (by omega) (.slice (some ⟨b, 0, none⟩) n c) n (intV way) (by rw [← hn]; exact hway) ad 1 c3 [.int .i64 k] rfl (fun j u hu => by
    match j with
    | 0 => simp at hu; subst hu; simpa [Addr.add] using hc
    | j + 1 => simp at hu) (fun u hu => by simp at hu; subst hu; rfl) (by simp only [maxLen]; omega) (by omega) hbase
  unfold Oper.wp execOp
  simp only [ho, resolve, invoke, builtin, Sem.run_bind, Sem.run_pure, Result.andThen_ok, List.map_toArray, List.map_cons, List.map_nil, hs, hx, hr]
  rw [intV_append] at hown'
  obtain ⟨g2, c2, rfl⟩ := way_form hown' (by rcases hat with e | e <;> rw [e] <;> simp [Value.ownBlock])
  exact h g2 c2 w' (by unfold WayR; rw [List.length_append, hn]; exact hown') hg
/-- A row more, in a list of operations. -/
theorem wp_add_row {w : World} {ops : Array Oper} {rest : List Oper} {o : Oper} {a : Act} {Q : Exit → Act → World → Prop} (hgd : o.guard = none) (s x : Operand) (ho : o.op = .call { callee := .builtin .append, args := #[s, x], argTypes := #[39, 39] }) (base n : Nat) (v y : Value) (L : List Value) (hs : a.eval s = v) (hn : L.length = n) (hown : w.ownsRow base 50 1 v n L) (ad : Addr) (c3 : Nat) (hx : a.eval x = .slice (some ad) 1 c3) (hc : w.cell? ad = some y) (hy : y.oneCell' = true) (hl : n ≤ 100000) (hbase : base ≤ w.heap.size)
    (h : ∀ A2 c2 w2, w2.ownsRow base 50 1 (.slice A2 (n + 1) c2) (n + 1) (L ++ [y]) → Gr w w2 v (.slice A2 (n + 1) c2) → wpList Tryz.prog ops Q rest (a.put o.dst (.slice A2 (n + 1) c2)) w2) : wpList Tryz.prog ops Q (o :: rest) a w := by
  obtain ⟨i0, hi0, hz0, hz1, hz2⟩ := info_parts infoRw
  refine wpList_append_own_at w hgd s x _ ho base 50 i0 _ 1 24 Tryz.underlying39 hi0 hz0 hz1 hz2 rfl (by omega) v n L hs hown ad 1 c3 [y] hx rfl (fun j u hu => by
    match j with
    | 0 => simp at hu; subst hu; simpa [Addr.add] using hc
    | j + 1 => simp at hu) (fun u hu => by simp at hu; subst hu; exact hy) (by simp only [maxLen]; omega) (by omega) hbase ?_
  intro v' w' hown' hg _ hat
  obtain ⟨A2, c2, rfl⟩ := own_ways hown'
  exact h A2 c2 w' hown' ⟨hg, hat.imp id fun e => ⟨_, e, Nat.le_refl _⟩⟩
/-- A row more, in a region that draws its order. -/
theorem step_add_row {w : World} {ops : Array Oper} {o : Oper} {a : Act} {K : Act → World → Prop} {Q : Exit → Act → World → Prop} {E : Prop} (hgd : o.guard = none) (s x : Operand) (ho : o.op = .call { callee := .builtin .append, args := #[s, x], argTypes := #[39, 39] }) (base n : Nat) (v y : Value) (L : List Value) (hs : a.eval s = v) (hn : L.length = n) (hown : w.ownsRow base 50 1 v n L) (ad : Addr) (c3 : Nat) (hx : a.eval x = .slice (some ad) 1 c3) (hc : w.cell? ad = some y) (hy : y.oneCell' = true) (hl : n ≤ 100000) (hbase : base ≤ w.heap.size)
    (h : ∀ A2 c2 w2, w2.ownsRow base 50 1 (.slice A2 (n + 1) c2) (n + 1) (L ++ [y]) → Gr w w2 v (.slice A2 (n + 1) c2) → K (a.put o.dst (.slice A2 (n + 1) c2)) w2) : if Region.wanted o (yielded ops a.tmps) = true then Oper.wp Tryz.prog o a w K Q else E := by
  have hw : Region.wanted o (yielded ops a.tmps) = true := by simp [Region.wanted, hgd]
  rw [if_pos hw]
  obtain ⟨i0, hi0, hz0, hz1, hz2⟩ := info_parts infoRw
  obtain ⟨v', w', hr, hown', hg, _, hat⟩ := run_append_own_at (P := Tryz.prog) w base 39 o.type 50 i0 _ 1 24 Tryz.underlying39 hi0 hz0 hz1 hz2 rfl (by omega) v n L hown ad 1 c3 [y] rfl (fun j u hu => by
    match j with
    | 0 => simp at hu; subst hu; simpa [Addr.add] using hc
    | j + 1 => simp at hu) (fun u hu => by simp at hu; subst hu; exact hy) (by simp only [maxLen]; omega) (by omega) hbase
  unfold Oper.wp execOp
  simp only [ho, resolve, invoke, builtin, Sem.run_bind, Sem.run_pure, Result.andThen_ok, List.map_toArray, List.map_cons, List.map_nil, hs, hx, hr]
  obtain ⟨A2, c2, rfl⟩ := own_ways hown'
  exact h A2 c2 w' hown' ⟨hg, hat.imp id fun e => ⟨_, e, Nat.le_refl _⟩⟩
end Go.Proofs.YtagaaeolgecdmaaGreatDoor

namespace Go.Proofs.YtagaaeolgecdmaaGreatDoor
open Go.Joins Go.ChangeShapes Go.WideShapes Go.ChangeAt Go.RowKit Go.Deep
set_option linter.unusedVariables false
set_option linter.unusedSimpArgs false

/-- Ways in rows of their own, of which L are the values. -/
def RowsV (lo : Nat) (w : World) (L : List Value) (xss : List (List Nat)) : Prop := L.length = xss.length ∧ ∀ (i : Nat) (zs : List Nat), xss[i]? = some zs → ∃ A c, L[i]? = some (.slice A zs.length c) ∧ WayR lo w A c zs
theorem RowsV.nil (lo : Nat) (w : World) : RowsV lo w [] [] := ⟨rfl, fun i zs h => by simp at h⟩
theorem RowsV.append {lo : Nat} {w : World} {L M : List Value} {xs ys : List (List Nat)} (h : RowsV lo w L xs) (k : RowsV lo w M ys) : RowsV lo w (L ++ M) (xs ++ ys) := by
  refine ⟨by rw [List.length_append, List.length_append, h.1, k.1], fun i zs hz => ?_⟩
  by_cases hi : i < xs.length
  · rw [List.getElem?_append_left hi] at hz
    obtain ⟨A, c, h1, h2⟩ := h.2 i zs hz
    exact ⟨A, c, by rw [List.getElem?_append_left (by rw [h.1]; exact hi)]; exact h1, h2⟩
  · rw [List.getElem?_append_right (by omega)] at hz
    obtain ⟨A, c, h1, h2⟩ := k.2 _ zs hz
    exact ⟨A, c, by rw [List.getElem?_append_right (by rw [h.1]; omega), h.1]; exact h1, h2⟩
theorem way_gr {lo base n : Nat} {w w' : World} {A : Option Addr} {c : Nat} {ns : List Nat} {v v' : Value} {L : List Value} (h : WayR lo w A c ns) (hg : Gr w w' v v') (ho : w.ownsRow base 50 1 v n L) : WayR lo w' A c ns :=
  h.moved fun g cur _ hb => hg.1.block g (Array.getElem?_eq_some_iff.1 hb).1 (fun e => by
    obtain ⟨cur2, hc⟩ := own_cells ho e.symm
    rw [hb] at hc
    injection hc with hc
    injection hc with _ hc _
    exact absurd hc (by decide))
theorem RowsV.gr {lo base n : Nat} {w w' : World} {v v' : Value} {L M : List Value} {xss : List (List Nat)} (h : RowsV lo w M xss) (hg : Gr w w' v v') (ho : w.ownsRow base 50 1 v n L) : RowsV lo w' M xss :=
  ⟨h.1, fun i zs hz => (by obtain ⟨A, c, h1, h2⟩ := h.2 i zs hz; exact ⟨A, c, h1, way_gr h2 hg ho⟩)⟩
theorem box_gr {base n g : Nat} {w w' : World} {v v' : Value} {L : List Value} {cur : Array Value} {e : TypeId} (hb : w.heap[g]? = some (.cells cur e (0, 0))) (he : e ≠ 50) (hg : Gr w w' v v') (ho : w.ownsRow base 50 1 v n L) : w'.heap[g]? = some (.cells cur e (0, 0)) :=
  (hg.1.block g (Array.getElem?_eq_some_iff.1 hb).1 (fun e2 => by
    obtain ⟨cur2, hc⟩ := own_cells ho e2.symm
    rw [hb] at hc
    injection hc with hc
    injection hc with _ hc _
    exact he hc)).trans hb
theorem findL_append (s : ByteArray) (way : List Nat) : ∀ (xs ys : List Tr) (i : Nat), findL s way i (xs ++ ys) = findL s way i xs ++ findL s way (i + xs.length) ys
  | [], ys, i => by rw [findL_nil, List.nil_append, List.nil_append]; rfl
  | x :: xs, ys, i => by
    rw [List.cons_append, findL_cons, findL_cons, findL_append s way xs ys (i + 1), List.append_assoc, List.length_cons, show i + 1 + xs.length = i + (xs.length + 1) by omega]
theorem findL_take {s : ByteArray} {way : List Nat} {ks : List Tr} {k : Nat} {x : Tr} (hx : ks[k]? = some x) : findL s way 0 (ks.take (k + 1)) = findL s way 0 (ks.take k) ++ findT s (way ++ [k]) x := by
  have hk := (List.getElem?_eq_some_iff.1 hx).1
  rw [List.take_add_one, hx, findL_append, Option.toList_some, findL_cons, findL_nil, List.append_nil, List.length_take, Nat.zero_add, Nat.min_eq_left (by omega)]
theorem later6 {P : Prop} {F G : Nat → Nat → Nat → Nat → Nat → Nat → World → Prop} (h : Hid (∀ a b c d e f w, F a b c d e f w → G a b c d e f w) → P) (ht : ∀ a b c d e f w, F a b c d e f w → G a b c d e f w) : P := h (Lib.hid ht)
theorem findL_len (s : ByteArray) : ∀ (ks : List Tr) (way : List Nat) (i : Nat), (findL s way i ks).length ≤ sizeL ks
  | [], way, i => by rw [findL_nil]; simp
  | x :: xs, way, i => by
    rw [findL_cons, List.length_append]
    have h1 := find_len s x (way ++ [i])
    have h2 := findL_len s xs way (i + 1)
    simp only [sizeL]
    omega
theorem sizeL_append : ∀ xs ys : List Tr, sizeL (xs ++ ys) = sizeL xs + sizeL ys
  | [], ys => by simp [sizeL]
  | x :: xs, ys => by simp only [List.cons_append, sizeL]; rw [sizeL_append xs ys]; omega
theorem sizeL_take {ks : List Tr} {k : Nat} {x : Tr} (hx : ks[k]? = some x) : sizeL (ks.take k) + sizeT x ≤ sizeL ks := by
  have h1 := sizeL_append (ks.take k) (ks.drop k)
  rw [List.take_append_drop, sizeL_drop hx] at h1
  omega
/-- What textWays answers. -/
def TwR (s : ByteArray) (way : List Nat) (t : Tr) (base : Nat) (v : Value) (L : List Value) (w : World) (e : Ending) (w' : World) : Prop := ∃ v' L2, e = .returned v' ∧ w'.ownsRow base 50 1 v' (L ++ L2).length (L ++ L2) ∧ RowsV base w' L2 (findT s way t) ∧ (findT s way t = [] → v' = v) ∧ Gr w w' v v'
def TwT (s : ByteArray) (w0 : World) (base : Nat) (t : Tr) : Prop := ∀ (way : List Nat) (g cw : Nat) (A0 A1 : Option Addr) (c0 c1 : Nat) (v : Value) (L : List Value) (w : World), base ≤ w.heap.size → Below w0.heap.size w0 w → WayR w0.heap.size w (some ⟨g, 0, none⟩) cw way → PrL w0 A0 t.ps → TrL w0 0 A1 t.ks → w.ownsRow base 50 1 v L.length L → L.length + sizeT t ≤ 1000 → way.length + sizeT t ≤ 1000 →
  Calls Tryz.prog 41 #[.agg #[.int .i64 t.tag, .int .i64 t.key, .string t.text, .slice A0 t.ps.length c0, .slice A1 t.ks.length c1], .slice (some ⟨g, 0, none⟩) way.length cw, .string s, v] w (TwR s way t base v L w)
set_option maxRecDepth 100000 in
set_option maxHeartbeats 8000000 in
theorem stextWays_any (s : ByteArray) (hss : s.size ≤ 12) (w0 : World) (base : Nat) (hbase : w0.heap.size ≤ base) (t : Tr) : SmT t → (textT t).size ≤ 1000000 → TwT s w0 base t := by
  induction t using Tr.by_kids with
  | h t ih =>
  intro hsm htx way g cw A0 A1 c0 c1 v L w hbw hlow hway hp hk hown hlen hwl
  obtain ⟨s0, s1, s2, s3, s4⟩ := hsm.open_
  have k1 := fun w hk => stextOf_any t hsm A0 A1 c0 c1 w hk (by unfold maxLen; omega)
  have hkt : ∀ x ∈ t.ks, (textT x).size ≤ 1000000 := fun x hx => by
    obtain ⟨a, b, e⟩ := textL_mem hx
    have h1 := congrArg ByteArray.size (textT_eq t)
    rw [ByteArray.size_append, e, ByteArray.size_append, ByteArray.size_append] at h1
    omega
  have k2 := hasText_any (textT t) s w (by omega) (by omega)
  have k2 := fun w => hasText_any (textT t) s w (by omega) (by omega)
  have hft := findT_eq s way t
  have hst := sizeT_eq t
  have hhas : hasB (textT t) s = hasT s t := rfl
  rw [hhas] at k2
  obtain ⟨r, hr⟩ : ∃ r, hasT s t = r := ⟨_, rfl⟩
  rw [hr] at k2 hft
  have HI := Lib.hid (fun x hx => ih x hx (s4 x hx) (hkt x hx))
  have HKS := Lib.hid (len_sizeL t.ks)
  have hT : ∀ e w', (∃ v' L2, e = .returned v' ∧ w'.ownsRow base 50 1 v' (L ++ L2).length (L ++ L2) ∧ RowsV base w' L2 (findT s way t) ∧ (findT s way t = [] → v' = v) ∧ Gr w w' v v') → TwR s way t base v L w e w' := fun e w' h => h
  obtain ⟨R, hR⟩ : ∃ R, TwR s way t base v L w = R := ⟨_, rfl⟩
  rw [hR] at hT ⊢
  have HT := Lib.hid hT
  generalize textT t = tx at *
  generalize findT s way t = ft at *
  have hb1 := Below.alloc (Below.refl w.heap.size w) (Nat.le_refl _) (.cells #[.int .i64 t.tag, .int .i64 t.key, .string t.text, .slice A0 t.ps.length c0, .slice A1 t.ks.length c1] 32)
  have hbx : (w.alloc (.cells #[.int .i64 t.tag, .int .i64 t.key, .string t.text, .slice A0 t.ps.length c0, .slice A1 t.ks.length c1] 32)).heap[w.heap.size]? = some (.cells #[.int .i64 t.tag, .int .i64 t.key, .string t.text, .slice A0 t.ps.length c0, .slice A1 t.ks.length c1] 32) := World.alloc_heap_new w _
  obtain ⟨w1, hw1⟩ : ∃ q, w.alloc (.cells #[.int .i64 t.tag, .int .i64 t.key, .string t.text, .slice A0 t.ps.length c0, .slice A1 t.ks.length c1] 32) = q := ⟨_, rfl⟩
  rw [hw1] at hb1 hbx
  have hlow1 := hlow.trans (hb1.mono hlow.size)
  have K1 := Lib.hid (k1 w1 (hk.below hlow1))
  have K2 := Lib.hid k2
  have HB1 := Lib.hid hb1
  have HBX := Lib.hid hbx
  have HW1 := Lib.hid hw1
  have HP := Lib.hid hp
  have HK := Lib.hid hk
  have HWAY := Lib.hid hway
  have HOWN := Lib.hid hown
  have HLOW := Lib.hid hlow
  have HF := Lib.hid hft
  have HST := Lib.hid hst
  clear hb1 hbx hw1 hp hk hway hown hlow hlow1 k1 k2 hft hst hhas hkt hsm htx s0 s1 s2 s3 s4 ih hR hr hT
  obtain ⟨tag, key, text, ps, ks⟩ := t
  dsimp only [Tr.tag, Tr.key, Tr.text, Tr.ps, Tr.ks] at *
  go_enter Tryz.func41, Tryz.ntmps41
  go_wp2_with fail
  rw [HW1.out]
  refine K1.out.mono ?_
  rintro e w2 ⟨rfl, hb⟩
  have hbx2 := (hb.block w.heap.size (Array.getElem?_eq_some_iff.1 HBX.out).1).trans HBX.out
  have HB2 := Lib.hid (more HB1.out (Nat.le_refl _) hb)
  clear hb K1 HW1
  go_wp2_with fail
  refine (K2.out w2).mono ?_
  rintro e w3 ⟨rfl, rfl⟩
  clear K2
  have HBX2 := Lib.hid hbx2
  have c4 := (five_cells hbx2).2.2.2.2
  clear hbx2 HBX
  cases r
  · have hf := HF.out
    rw [if_neg (by decide)] at hf
    go_wp2_with fail
    exact HT.out _ _ ⟨v, [], rfl, by rw [List.append_nil]; exact ownsRow_below HOWN.out HB2.out, by rw [hf]; exact RowsV.nil _ _, fun _ => rfl, Gr.of_below HB2.out v⟩
  obtain ⟨n, hn⟩ : ∃ n, ks.length = n := ⟨_, rfl⟩
  rw [hn] at c4 HBX2 HKS
  have HN := Lib.hid hn
  have hkn : n ≤ 1000 := by have h1 := HKS.out; have h2 := HST.out; omega
  have hbs2 : w.heap.size < w2.heap.size := (Array.getElem?_eq_some_iff.1 HBX2.out).1
  clear hn
  go_wp2_with fail
  go_loopw [9, 10] (fun m i wr => ∃ (k : Nat) (u : Value) (L2 : List Value), k ≤ n ∧ i = .int .i64 k ∧ u = m ∧ Hid (RowsV base wr L2 (findL s way 0 (ks.take k))) ∧ Hid (wr.ownsRow base 50 1 u (L ++ L2).length (L ++ L2)) ∧ Hid (findL s way 0 (ks.take k) = [] → u = v) ∧ Hid (Gr w wr v u) ∧ wr.heap[w.heap.size]? = some (.cells #[.int .i64 tag, .int .i64 key, .string text, .slice A0 ps.length c0, .slice A1 n c1] 32)) (fun _ i _ => n - (intOf i).toNat)
  case atStart => exact ⟨0, v, [], by omega, rfl, rfl, Lib.hid (by rw [List.take_zero, findL_nil]; exact RowsV.nil _ _), Lib.hid (by rw [List.append_nil]; exact ownsRow_below HOWN.out HB2.out), Lib.hid (fun _ => rfl), Lib.hid (Gr.of_below HB2.out v), HBX2.out⟩
  case round =>
    obtain ⟨k, u, L2, hk, rfl, rfl, HRO, HOW, HNI, HGR, hbxr⟩ := hrel
    have d4 := (five_cells hbxr).2.2.2.2
    by_cases hlt : k < n
    · obtain ⟨x, hx⟩ := at_some (show k < ks.length by rw [HN.out]; exact hlt)
      have hne : ∀ g, u.ownBlock = some g → base ≤ g := fun g e => (World.ownsRow.lt HOW.out g e).1
      have hwz0 := HLOW.out.size
      have hvg : ∀ g, v.ownBlock = some g → w0.heap.size ≤ g := fun g e => by have := (World.ownsRow.lt HOWN.out g e).1; omega
      have hlowr : Below w0.heap.size w0 wr := HLOW.out.trans (HGR.out.below hwz0 hvg)
      obtain ⟨b, off, B0, d0, B1, d1, rfl, hblt, _, e0, e1, e2, e3, e4, hp, _, hks⟩ := HK.out.at_ hx
      replace e0 := (hlowr.cell (p := ⟨b, _, none⟩) hblt).trans e0
      replace e1 := (hlowr.cell (p := ⟨b, _, none⟩) hblt).trans e1
      replace e2 := (hlowr.cell (p := ⟨b, _, none⟩) hblt).trans e2
      replace e3 := (hlowr.cell (p := ⟨b, _, none⟩) hblt).trans e3
      replace e4 := (hlowr.cell (p := ⟨b, _, none⟩) hblt).trans e4
      have hszg := HGR.out.1.size
      have hwz := hlowr.size
      have HWG := Lib.hid (way_gr HWAY.out HGR.out HOWN.out)
      have hlx : (L ++ L2).length + sizeT x ≤ 1000 := by
        have h1 := HRO.out.1
        have h2 := findL_len s (ks.take k) way 0
        have h3 := sizeL_take hx
        have h4 := HST.out
        rw [List.length_append]
        omega
      have hwx : (way ++ [k]).length + sizeT x ≤ 1000 := by
        have h3 := sizeL_take hx
        have h4 := HST.out
        rw [List.length_append, List.length_singleton]
        omega
      have KI := Lib.hid (fun g c W hbW hlW hwW hoW => HI.out x (List.mem_of_getElem? hx) (way ++ [k]) g c B0 B1 d0 d1 u (L ++ L2) W hbW hlW hwW hp hks hoW hlx hwx)
      have HX := Lib.hid hx
      have HLR := Lib.hid hlowr
      have hi1 : (0 : Int) ≤ (k : Int) := by omega
      have hi2 : (k : Int) < (n : Int) := by omega
      have hbw2 : b < wr.heap.size := by omega
      have hww2 : w.heap.size < wr.heap.size := (Array.getElem?_eq_some_iff.1 hbxr).1
      have hwl1 : way.length ≤ 1000 := by omega
      clear hx hp hks hlx hwx hlowr
      obtain ⟨xt, xk, xs, xp, xq⟩ := x
      dsimp only [Tr.tag, Tr.key, Tr.text, Tr.ps, Tr.ks] at e0 e1 e2 e3 e4 KI HX
      have SF : Hid (∀ W, Below wr.heap.size wr W → (fun w' : World => w'.cell? ⟨w.heap.size, 4, none⟩ = some (.slice (some ⟨b, off, none⟩) n c1) ∧ w'.cell? ⟨b, off + k * 5, none⟩ = some (.int .i64 xt) ∧ w'.cell? ⟨b, off + k * 5 + 1, none⟩ = some (.int .i64 xk) ∧ w'.cell? ⟨b, off + k * 5 + 2, none⟩ = some (.string xs) ∧ w'.cell? ⟨b, off + k * 5 + 3, none⟩ = some (.slice B0 xp.length d0) ∧ w'.cell? ⟨b, off + k * 5 + 4, none⟩ = some (.slice B1 xq.length d1)) W) := Lib.hid (fun W hb => ⟨(hb.cell (p := ⟨w.heap.size, 4, none⟩) hww2).trans d4, (hb.cell (p := ⟨b, _, none⟩) hbw2).trans e0, (hb.cell (p := ⟨b, _, none⟩) hbw2).trans e1, (hb.cell (p := ⟨b, _, none⟩) hbw2).trans e2, (hb.cell (p := ⟨b, _, none⟩) hbw2).trans e3, (hb.cell (p := ⟨b, _, none⟩) hbw2).trans e4⟩)
      go_wp2_with fail
      apply later6 (F := fun b5 b2 c2 b9 b3 c3 u4 => Below wr.heap.size wr u4 ∧ WayR wr.heap.size u4 (some ⟨b3, 0, none⟩) c3 (way ++ [k]))
      · intro hTail
        have HU := Lib.hid (Below.drew (Below.refl wr.heap.size wr))
        refine wp_region_held_drew (S := (fun w' : World => w'.cell? ⟨w.heap.size, 4, none⟩ = some (.slice (some ⟨b, off, none⟩) n c1) ∧ w'.cell? ⟨b, off + k * 5, none⟩ = some (.int .i64 xt) ∧ w'.cell? ⟨b, off + k * 5 + 1, none⟩ = some (.int .i64 xk) ∧ w'.cell? ⟨b, off + k * 5 + 2, none⟩ = some (.string xs) ∧ w'.cell? ⟨b, off + k * 5 + 3, none⟩ = some (.slice B0 xp.length d0) ∧ w'.cell? ⟨b, off + k * 5 + 4, none⟩ = some (.slice B1 xq.length d1))) (by kernel_rfl) (SF.out _ HU.out) (fun hHeld => ?_)
        obtain ⟨u0, hu0⟩ : ∃ q, wr.drew = q := ⟨_, rfl⟩
        rw [hu0] at HU hHeld ⊢
        clear hu0
        refine wpAnyH_take (i := 0) (oi := _) (v := ?_) rfl (by kernel_rfl) (by kernel_rfl) (by kernel_rfl) (fun _ _ _ h => h) (Or.inl ⟨by kernel_rfl, ?_⟩) (by assumption) ?_
        rotate_left
        · (intro w hSw; (try dsimp only at hSw); go_simp)
          try with_reducible rfl
        (try simp only [Act.put, List.getElem_toArray, List.getElem_cons_zero, List.getElem_cons_succ, List.setIfInBounds_toArray, List.set_cons_zero, List.set_cons_succ])
        refine wpAnyH_take (i := 1) (oi := _) (v := ?_) rfl (by kernel_rfl) (by kernel_rfl) (by kernel_rfl) (fun _ _ _ h => h) (Or.inl ⟨by kernel_rfl, ?_⟩) (by assumption) ?_
        rotate_left
        · (intro w hSw; (try dsimp only at hSw); go_simp)
          try with_reducible rfl
        (try simp only [Act.put, List.getElem_toArray, List.getElem_cons_zero, List.getElem_cons_succ, List.setIfInBounds_toArray, List.set_cons_zero, List.set_cons_succ])
        refine wpAnyH_take (i := 2) (oi := _) (v := ?_) rfl (by kernel_rfl) (by kernel_rfl) (by kernel_rfl) (fun _ _ _ h => h) (Or.inl ⟨by kernel_rfl, ?_⟩) (by assumption) ?_
        rotate_left
        · (intro w hSw; (try dsimp only at hSw); go_simp)
          try with_reducible rfl
        (try simp only [Act.put, List.getElem_toArray, List.getElem_cons_zero, List.getElem_cons_succ, List.setIfInBounds_toArray, List.set_cons_zero, List.set_cons_succ])
        refine wpAnyH_take (i := 3) (oi := _) (v := ?_) rfl (by kernel_rfl) (by kernel_rfl) (by kernel_rfl) (fun _ _ _ h => h) (Or.inl ⟨by kernel_rfl, ?_⟩) (by assumption) ?_
        rotate_left
        · (intro w hSw; (try dsimp only at hSw); go_simp)
          try with_reducible rfl
        (try simp only [Act.put, List.getElem_toArray, List.getElem_cons_zero, List.getElem_cons_succ, List.setIfInBounds_toArray, List.set_cons_zero, List.set_cons_succ])
        refine wpAnyH_take (i := 4) (oi := _) (v := ?_) rfl (by kernel_rfl) (by kernel_rfl) (by kernel_rfl) (fun _ _ _ h => h) (Or.inl ⟨by kernel_rfl, ?_⟩) (by assumption) ?_
        rotate_left
        · (intro w hSw; (try dsimp only at hSw); go_simp)
          try with_reducible rfl
        (try simp only [Act.put, List.getElem_toArray, List.getElem_cons_zero, List.getElem_cons_succ, List.setIfInBounds_toArray, List.set_cons_zero, List.set_cons_succ])
        refine wpAnyH_take (i := 6) (oi := _) (v := ?_) rfl (by kernel_rfl) (by kernel_rfl) (by kernel_rfl) (fun _ _ _ h => h) (Or.inl ⟨by kernel_rfl, ?_⟩) (by assumption) ?_
        rotate_left
        · (intro w hSw; (try dsimp only at hSw); go_simp)
          try with_reducible rfl
        (try simp only [Act.put, List.getElem_toArray, List.getElem_cons_zero, List.getElem_cons_succ, List.setIfInBounds_toArray, List.set_cons_zero, List.set_cons_succ])
        refine wpAnyH_take (i := 8) (oi := _) (v := ?_) rfl (by kernel_rfl) (by kernel_rfl) (by kernel_rfl) (fun _ _ _ h => h) (Or.inl ⟨by kernel_rfl, ?_⟩) (by assumption) ?_
        rotate_left
        · (intro w hSw; (try dsimp only at hSw); go_simp)
          try with_reducible rfl
        (try simp only [Act.put, List.getElem_toArray, List.getElem_cons_zero, List.getElem_cons_succ, List.setIfInBounds_toArray, List.set_cons_zero, List.set_cons_succ])
        refine wpAnyH_take (i := 11) (oi := _) (v := ?_) rfl (by kernel_rfl) (by kernel_rfl) (by kernel_rfl) (fun _ _ _ h => h) (Or.inl ⟨by kernel_rfl, ?_⟩) (by assumption) ?_
        rotate_left
        · (intro w hSw; (try dsimp only at hSw); go_simp)
          try with_reducible rfl
        (try simp only [Act.put, List.getElem_toArray, List.getElem_cons_zero, List.getElem_cons_succ, List.setIfInBounds_toArray, List.set_cons_zero, List.set_cons_succ])
        refine wpAnyH_take (i := 12) (oi := _) (v := ?_) rfl (by kernel_rfl) (by kernel_rfl) (by kernel_rfl) (fun _ _ _ h => h) (Or.inl ⟨by kernel_rfl, ?_⟩) (by assumption) ?_
        rotate_left
        · (intro w hSw; (try dsimp only at hSw); go_simp)
          try with_reducible rfl
        (try simp only [Act.put, List.getElem_toArray, List.getElem_cons_zero, List.getElem_cons_succ, List.setIfInBounds_toArray, List.set_cons_zero, List.set_cons_succ])
        refine wpAnyH_ready (rs := [5, 9]) (by kernel_rfl) (by simp) ?_
        refine AllReadyH.cons (o := _) rfl (fun K hK => ?_) ?_
        · skip
          go_simp
          (try have h59 := World.block_lt_of_cell? _ _ HC9.out)
          (try dsimp only at h59)
          have hb := Below.alloc (Below.refl u0.heap.size u0) (Nat.le_refl _) (.cells #[] 3)
          have HOA := Lib.hid (show (u0.alloc (.cells #[] 3)).ownsRow wr.heap.size 3 1 (.slice (some ⟨u0.heap.size, 0, none⟩) 0 0) 0 [] from ⟨rfl, .inr ⟨u0.heap.size, 0, #[], rfl, HU.out.size, World.alloc_heap_new u0 _, Nat.le_refl _, by decide, rfl, rfl⟩⟩)
          (try have HC9 := Lib.hid ((hb.cell (p := ⟨b9, 0, none⟩) (World.block_lt_of_cell? _ _ HC9.out)).trans HC9.out))
          replace HU := Lib.hid (more HU.out (Nat.le_refl _) hb)
          refine hK.out _ _ (SF.out _ HU.out) (fun hHeld2 => ?_)
          clear hHeld2 hK K hHeld
          have hHeld := SF.out _ HU.out
          (try simp only [Act.put, List.getElem_toArray, List.getElem_cons_zero, List.getElem_cons_succ, List.setIfInBounds_toArray, List.set_cons_zero, List.set_cons_succ])
          obtain ⟨b5, hb5⟩ : ∃ q, u0.heap.size = q := ⟨_, rfl⟩
          obtain ⟨u1, hN⟩ : ∃ q, u0.alloc (.cells #[] 3) = q := ⟨_, rfl⟩
          rw [hN] at HOA HU hHeld ⊢
          (try rw [hN] at HC9)
          rw [hb5] at HOA ⊢
          (try rw [hb5] at h59)
          clear hN hb hb5
          refine wpAnyH_ready (rs := [7, 9]) (by kernel_rfl) (by simp) ?_
          refine AllReadyH.cons (o := _) rfl (fun K hK => ?_) ?_
          · skip
            refine step_clone_way (by rfl) (.tmp 30) (.tmp 31) (by rfl) wr.heap.size b5 (by rfl) HOA.out w0.heap.size g cw way.length way (by rfl) rfl ((HWG.out).later HU.out) (by omega) HU.out.size ?_
            intro b2 c2 u2 hw2 hg2
            replace HU := Lib.hid (HU.out.grown hg2 HU.out.size (fun k e => by cases e; exact (HOA.out.lt b5 rfl).1))
            (try replace HC9 := Lib.hid ((World.cell?_of_block (a := ⟨b9, 0, none⟩) (hg2.block b9 (World.block_lt_of_cell? _ _ HC9.out) (fun e => by injection e with e; omega))).trans HC9.out))
            have HW2 := Lib.hid hw2
            refine hK.out _ _ (SF.out _ HU.out) (fun hHeld2 => ?_)
            clear hHeld2 hK K hHeld
            have hHeld := SF.out _ HU.out
            (try simp only [Act.put, List.getElem_toArray, List.getElem_cons_zero, List.getElem_cons_succ, List.setIfInBounds_toArray, List.set_cons_zero, List.set_cons_succ])
            clear hw2 hg2
            refine wpAnyH_ready (rs := [9]) (by kernel_rfl) (by simp) ?_
            refine AllReadyH.cons (o := _) rfl (fun K hK => ?_) AllReadyH.nil
            go_simp
            (try have h59 : b5 < u2.heap.size := (HOA.out.lt b5 rfl).2)
            have hb := Below.alloc (Below.refl u2.heap.size u2) (Nat.le_refl _) (.cells #[.int .i64 k] 3)
            have HC9 := Lib.hid (show (u2.alloc (.cells #[.int .i64 k] 3)).cell? ⟨u2.heap.size, 0, none⟩ = some (.int .i64 k) by rw [World.cell?_alloc_new]; rfl)
            (try replace HOA := Lib.hid (ownsRow_below HOA.out hb))
            (try replace HW2 := Lib.hid (HW2.out.later hb))
            replace HU := Lib.hid (more HU.out (Nat.le_refl _) hb)
            refine hK.out _ _ (SF.out _ HU.out) (fun hHeld2 => ?_)
            clear hHeld2 hK K hHeld
            have hHeld := SF.out _ HU.out
            (try simp only [Act.put, List.getElem_toArray, List.getElem_cons_zero, List.getElem_cons_succ, List.setIfInBounds_toArray, List.set_cons_zero, List.set_cons_succ])
            obtain ⟨b9, hb9⟩ : ∃ q, u2.heap.size = q := ⟨_, rfl⟩
            obtain ⟨u3, hN⟩ : ∃ q, u2.alloc (.cells #[.int .i64 k] 3) = q := ⟨_, rfl⟩
            rw [hN] at HC9 HU hHeld ⊢
            (try rw [hN] at HOA)
            (try rw [hN] at HW2)
            rw [hb9] at HC9 ⊢
            (try rw [hb9] at h59)
            clear hN hb hb9
            refine wpAnyH_ready (rs := [10]) (by kernel_rfl) (by simp) ?_
            refine AllReadyH.cons (o := _) rfl (fun K hK => ?_) AllReadyH.nil
            refine step_add_way (by rfl) (.tmp 32) (.tmp 34) (by rfl) wr.heap.size b2 c2 way.length way (by rfl) rfl HW2.out ⟨b9, 0, none⟩ 1 k (by rfl) HC9.out (by omega) HU.out.size ?_
            intro b3 c3 u4 hw3 hg3
            replace HU := Lib.hid (HU.out.grown hg3 HU.out.size (fun k e => by cases e; exact (HW2.out.lt b2 rfl).1))
            have HW3 := Lib.hid hw3
            refine hK.out _ _ (SF.out _ HU.out) (fun hHeld2 => ?_)
            clear hHeld2 hK K hHeld
            have hHeld := SF.out _ HU.out
            (try simp only [Act.put, List.getElem_toArray, List.getElem_cons_zero, List.getElem_cons_succ, List.setIfInBounds_toArray, List.set_cons_zero, List.set_cons_succ])
            clear hw3 hg3 HC9 HOA HW2
            exact hTail.out b5 b2 c2 b9 b3 c3 u4 ⟨HU.out, HW3.out⟩
          refine AllReadyH.cons (o := _) rfl (fun K hK => ?_) AllReadyH.nil
          go_simp
          (try have h59 : b5 < u1.heap.size := (HOA.out.lt b5 rfl).2)
          have hb := Below.alloc (Below.refl u1.heap.size u1) (Nat.le_refl _) (.cells #[.int .i64 k] 3)
          have HC9 := Lib.hid (show (u1.alloc (.cells #[.int .i64 k] 3)).cell? ⟨u1.heap.size, 0, none⟩ = some (.int .i64 k) by rw [World.cell?_alloc_new]; rfl)
          (try replace HOA := Lib.hid (ownsRow_below HOA.out hb))
          (try replace HW2 := Lib.hid (HW2.out.later hb))
          replace HU := Lib.hid (more HU.out (Nat.le_refl _) hb)
          refine hK.out _ _ (SF.out _ HU.out) (fun hHeld2 => ?_)
          clear hHeld2 hK K hHeld
          have hHeld := SF.out _ HU.out
          (try simp only [Act.put, List.getElem_toArray, List.getElem_cons_zero, List.getElem_cons_succ, List.setIfInBounds_toArray, List.set_cons_zero, List.set_cons_succ])
          obtain ⟨b9, hb9⟩ : ∃ q, u1.heap.size = q := ⟨_, rfl⟩
          obtain ⟨u5, hN⟩ : ∃ q, u1.alloc (.cells #[.int .i64 k] 3) = q := ⟨_, rfl⟩
          rw [hN] at HC9 HU hHeld ⊢
          (try rw [hN] at HOA)
          (try rw [hN] at HW2)
          rw [hb9] at HC9 ⊢
          (try rw [hb9] at h59)
          clear hN hb hb9
          refine wpAnyH_ready (rs := [7]) (by kernel_rfl) (by simp) ?_
          refine AllReadyH.cons (o := _) rfl (fun K hK => ?_) AllReadyH.nil
          refine step_clone_way (by rfl) (.tmp 30) (.tmp 31) (by rfl) wr.heap.size b5 (by rfl) HOA.out w0.heap.size g cw way.length way (by rfl) rfl ((HWG.out).later HU.out) (by omega) HU.out.size ?_
          intro b2 c2 u6 hw2 hg2
          replace HU := Lib.hid (HU.out.grown hg2 HU.out.size (fun k e => by cases e; exact (HOA.out.lt b5 rfl).1))
          (try replace HC9 := Lib.hid ((World.cell?_of_block (a := ⟨b9, 0, none⟩) (hg2.block b9 (World.block_lt_of_cell? _ _ HC9.out) (fun e => by injection e with e; omega))).trans HC9.out))
          have HW2 := Lib.hid hw2
          refine hK.out _ _ (SF.out _ HU.out) (fun hHeld2 => ?_)
          clear hHeld2 hK K hHeld
          have hHeld := SF.out _ HU.out
          (try simp only [Act.put, List.getElem_toArray, List.getElem_cons_zero, List.getElem_cons_succ, List.setIfInBounds_toArray, List.set_cons_zero, List.set_cons_succ])
          clear hw2 hg2
          refine wpAnyH_ready (rs := [10]) (by kernel_rfl) (by simp) ?_
          refine AllReadyH.cons (o := _) rfl (fun K hK => ?_) AllReadyH.nil
          refine step_add_way (by rfl) (.tmp 32) (.tmp 34) (by rfl) wr.heap.size b2 c2 way.length way (by rfl) rfl HW2.out ⟨b9, 0, none⟩ 1 k (by rfl) HC9.out (by omega) HU.out.size ?_
          intro b3 c3 u7 hw3 hg3
          replace HU := Lib.hid (HU.out.grown hg3 HU.out.size (fun k e => by cases e; exact (HW2.out.lt b2 rfl).1))
          have HW3 := Lib.hid hw3
          refine hK.out _ _ (SF.out _ HU.out) (fun hHeld2 => ?_)
          clear hHeld2 hK K hHeld
          have hHeld := SF.out _ HU.out
          (try simp only [Act.put, List.getElem_toArray, List.getElem_cons_zero, List.getElem_cons_succ, List.setIfInBounds_toArray, List.set_cons_zero, List.set_cons_succ])
          clear hw3 hg3 HC9 HOA HW2
          exact hTail.out b5 b2 c2 b9 b3 c3 u7 ⟨HU.out, HW3.out⟩
        refine AllReadyH.cons (o := _) rfl (fun K hK => ?_) AllReadyH.nil
        go_simp
        (try have h59 : b5 < u0.heap.size := (HOA.out.lt b5 rfl).2)
        have hb := Below.alloc (Below.refl u0.heap.size u0) (Nat.le_refl _) (.cells #[.int .i64 k] 3)
        have HC9 := Lib.hid (show (u0.alloc (.cells #[.int .i64 k] 3)).cell? ⟨u0.heap.size, 0, none⟩ = some (.int .i64 k) by rw [World.cell?_alloc_new]; rfl)
        (try replace HOA := Lib.hid (ownsRow_below HOA.out hb))
        (try replace HW2 := Lib.hid (HW2.out.later hb))
        replace HU := Lib.hid (more HU.out (Nat.le_refl _) hb)
        refine hK.out _ _ (SF.out _ HU.out) (fun hHeld2 => ?_)
        clear hHeld2 hK K hHeld
        have hHeld := SF.out _ HU.out
        (try simp only [Act.put, List.getElem_toArray, List.getElem_cons_zero, List.getElem_cons_succ, List.setIfInBounds_toArray, List.set_cons_zero, List.set_cons_succ])
        obtain ⟨b9, hb9⟩ : ∃ q, u0.heap.size = q := ⟨_, rfl⟩
        obtain ⟨u8, hN⟩ : ∃ q, u0.alloc (.cells #[.int .i64 k] 3) = q := ⟨_, rfl⟩
        rw [hN] at HC9 HU hHeld ⊢
        (try rw [hN] at HOA)
        (try rw [hN] at HW2)
        rw [hb9] at HC9 ⊢
        (try rw [hb9] at h59)
        clear hN hb hb9
        refine wpAnyH_ready (rs := [5]) (by kernel_rfl) (by simp) ?_
        refine AllReadyH.cons (o := _) rfl (fun K hK => ?_) AllReadyH.nil
        go_simp
        (try have h59 := World.block_lt_of_cell? _ _ HC9.out)
        (try dsimp only at h59)
        have hb := Below.alloc (Below.refl u8.heap.size u8) (Nat.le_refl _) (.cells #[] 3)
        have HOA := Lib.hid (show (u8.alloc (.cells #[] 3)).ownsRow wr.heap.size 3 1 (.slice (some ⟨u8.heap.size, 0, none⟩) 0 0) 0 [] from ⟨rfl, .inr ⟨u8.heap.size, 0, #[], rfl, HU.out.size, World.alloc_heap_new u8 _, Nat.le_refl _, by decide, rfl, rfl⟩⟩)
        (try have HC9 := Lib.hid ((hb.cell (p := ⟨b9, 0, none⟩) (World.block_lt_of_cell? _ _ HC9.out)).trans HC9.out))
        replace HU := Lib.hid (more HU.out (Nat.le_refl _) hb)
        refine hK.out _ _ (SF.out _ HU.out) (fun hHeld2 => ?_)
        clear hHeld2 hK K hHeld
        have hHeld := SF.out _ HU.out
        (try simp only [Act.put, List.getElem_toArray, List.getElem_cons_zero, List.getElem_cons_succ, List.setIfInBounds_toArray, List.set_cons_zero, List.set_cons_succ])
        obtain ⟨b5, hb5⟩ : ∃ q, u8.heap.size = q := ⟨_, rfl⟩
        obtain ⟨u9, hN⟩ : ∃ q, u8.alloc (.cells #[] 3) = q := ⟨_, rfl⟩
        rw [hN] at HOA HU hHeld ⊢
        (try rw [hN] at HC9)
        rw [hb5] at HOA ⊢
        (try rw [hb5] at h59)
        clear hN hb hb5
        refine wpAnyH_ready (rs := [7]) (by kernel_rfl) (by simp) ?_
        refine AllReadyH.cons (o := _) rfl (fun K hK => ?_) AllReadyH.nil
        refine step_clone_way (by rfl) (.tmp 30) (.tmp 31) (by rfl) wr.heap.size b5 (by rfl) HOA.out w0.heap.size g cw way.length way (by rfl) rfl ((HWG.out).later HU.out) (by omega) HU.out.size ?_
        intro b2 c2 ua hw2 hg2
        replace HU := Lib.hid (HU.out.grown hg2 HU.out.size (fun k e => by cases e; exact (HOA.out.lt b5 rfl).1))
        (try replace HC9 := Lib.hid ((World.cell?_of_block (a := ⟨b9, 0, none⟩) (hg2.block b9 (World.block_lt_of_cell? _ _ HC9.out) (fun e => by injection e with e; omega))).trans HC9.out))
        have HW2 := Lib.hid hw2
        refine hK.out _ _ (SF.out _ HU.out) (fun hHeld2 => ?_)
        clear hHeld2 hK K hHeld
        have hHeld := SF.out _ HU.out
        (try simp only [Act.put, List.getElem_toArray, List.getElem_cons_zero, List.getElem_cons_succ, List.setIfInBounds_toArray, List.set_cons_zero, List.set_cons_succ])
        clear hw2 hg2
        refine wpAnyH_ready (rs := [10]) (by kernel_rfl) (by simp) ?_
        refine AllReadyH.cons (o := _) rfl (fun K hK => ?_) AllReadyH.nil
        refine step_add_way (by rfl) (.tmp 32) (.tmp 34) (by rfl) wr.heap.size b2 c2 way.length way (by rfl) rfl HW2.out ⟨b9, 0, none⟩ 1 k (by rfl) HC9.out (by omega) HU.out.size ?_
        intro b3 c3 ub hw3 hg3
        replace HU := Lib.hid (HU.out.grown hg3 HU.out.size (fun k e => by cases e; exact (HW2.out.lt b2 rfl).1))
        have HW3 := Lib.hid hw3
        refine hK.out _ _ (SF.out _ HU.out) (fun hHeld2 => ?_)
        clear hHeld2 hK K hHeld
        have hHeld := SF.out _ HU.out
        (try simp only [Act.put, List.getElem_toArray, List.getElem_cons_zero, List.getElem_cons_succ, List.setIfInBounds_toArray, List.set_cons_zero, List.set_cons_succ])
        clear hw3 hg3 HC9 HOA HW2
        exact hTail.out b5 b2 c2 b9 b3 c3 ub ⟨HU.out, HW3.out⟩
      · rintro b5 b2 c2 b9 b3 c3 u4 ⟨hbu, hw4⟩
        have hHeld := SF.out _ hbu
        have HBU := Lib.hid hbu
        have HOU := Lib.hid (ownsRow_below HOW.out hbu)
        have hszu := hbu.size
        have K5 := Lib.hid (KI.out b3 c3 u4 (by omega) (HLR.out.trans (hbu.mono hwz)) (row_mono hw4 hwz) HOU.out)
        clear hbu hw4
        refine wpAnyH_ready (rs := [13]) (by kernel_rfl) (by simp) ?_
        refine AllReadyH.cons (o := _) rfl (fun K hK => ?_) AllReadyH.nil
        go_simp
        simp only [List.length_append, List.length_singleton] at K5
        refine K5.out.mono ?_
        rintro e w5 ⟨v', L3, rfl, ho3, hr3, hn3, hg3⟩
        have hgr := (Gr.of_below HBU.out u).trans hg3
        have hbx5 := box_gr hbxr (by decide) hgr HOW.out
        have hub : u.ownBlock ≠ some b := fun e => by have := hne b e; omega
        have hS5 : (fun w' : World => w'.cell? ⟨w.heap.size, 4, none⟩ = some (.slice (some ⟨b, off, none⟩) n c1) ∧ w'.cell? ⟨b, off + k * 5, none⟩ = some (.int .i64 xt) ∧ w'.cell? ⟨b, off + k * 5 + 1, none⟩ = some (.int .i64 xk) ∧ w'.cell? ⟨b, off + k * 5 + 2, none⟩ = some (.string xs) ∧ w'.cell? ⟨b, off + k * 5 + 3, none⟩ = some (.slice B0 xp.length d0) ∧ w'.cell? ⟨b, off + k * 5 + 4, none⟩ = some (.slice B1 xq.length d1)) w5 := ⟨(five_cells hbx5).2.2.2.2, (hgr.cell hbw2 hub).trans e0, (hgr.cell hbw2 hub).trans e1, (hgr.cell hbw2 hub).trans e2, (hgr.cell hbw2 hub).trans e3, (hgr.cell hbw2 hub).trans e4⟩
        refine hK.out _ _ hS5 (fun hHeld2 => ?_)
        clear hHeld2 hK K hHeld
        have hHeld := hS5
        have HR3 := Lib.hid ((HRO.out.gr hgr HOW.out).append hr3)
        have HO3 := Lib.hid ho3
        have HN3 := Lib.hid hn3
        have HG3 := Lib.hid (HGR.out.trans hgr)
        have HBX5 := Lib.hid hbx5
        clear hr3 ho3 hn3 hg3 hgr hbx5 hS5 hub
        (try simp only [Act.put, List.getElem_toArray, List.getElem_cons_zero, List.getElem_cons_succ, List.setIfInBounds_toArray, List.set_cons_zero, List.set_cons_succ])
        refine wpAnyH_take (i := 14) (oi := _) (v := ?_) rfl (by kernel_rfl) (by kernel_rfl) (by kernel_rfl) (fun _ _ _ h => h) (Or.inl ⟨by kernel_rfl, ?_⟩) (by assumption) ?_
        rotate_left
        · (intro w hSw; (try dsimp only at hSw); go_simp)
          try with_reducible rfl
        (try simp only [Act.put, List.getElem_toArray, List.getElem_cons_zero, List.getElem_cons_succ, List.setIfInBounds_toArray, List.set_cons_zero, List.set_cons_succ])
        refine wpAnyH_done (by kernel_rfl) ?_ _
        have hbx5 := HBX5.out
        go_wp2_with fail
        go_roundw
        case rel => exact ⟨k + 1, v', L2 ++ L3, by omega, by go_num, rfl, Lib.hid (by rw [findL_take HX.out]; exact HR3.out), Lib.hid (by rw [← List.append_assoc]; exact HO3.out), Lib.hid (fun h => by rw [findL_take HX.out, List.append_eq_nil_iff] at h; rw [HN3.out h.2, HNI.out h.1]), HG3, HBX5.out⟩
        case measure => simp [intOf]; omega
    · obtain rfl : k = n := by omega
      have hro := HRO.out
      have hni := HNI.out
      rw [List.take_of_length_le (by rw [HN.out]; exact Nat.le_refl _)] at hro hni
      have hf := HF.out.trans (if_pos trivial)
      obtain ⟨A9, c9, hv9⟩ := own_ways HOW.out
      obtain ⟨A8, c8, hv8⟩ := own_ways HOWN.out
      have hmm : (L ++ L2).length = L.length + (findL s way 0 ks).length := by rw [List.length_append, hro.1]
      by_cases hz : findL s way 0 ks = []
      · simp only [hz, ↓reduceIte] at hf
        have hun : u = v := hni hz
        subst hun
        rw [hz] at hro
        obtain rfl : L2 = [] := List.eq_nil_of_length_eq_zero hro.1
        rw [List.append_nil] at HOW hmm
        have hgt : decide (L.length < L.length) = false := decide_eq_false (by omega)
        have HFE := Lib.hid hf
        subst hv8
        have HWG := Lib.hid (way_gr HWAY.out HGR.out HOWN.out)
        have hszg := HGR.out.1.size
        have hlq0 : L.length ≤ 1000 := by omega
        have hwl0 : way.length ≤ 1000 := by omega
        obtain ⟨i1, hi1, hx0, hx1, hx2⟩ := info_parts infoInt
        obtain ⟨i2, hi2, hy0, hy1, hy2⟩ := info_parts infoRw
        have HO0 := Lib.hid (show (wr.alloc (.cells #[] 3)).ownsRow base 3 1 (.slice (some ⟨wr.heap.size, 0, none⟩) 0 0) 0 [] from ⟨rfl, .inr ⟨wr.heap.size, 0, #[], rfl, by omega, World.alloc_heap_new wr _, Nat.le_refl _, by decide, rfl, rfl⟩⟩)
        have HBA := Lib.hid (Below.alloc (Below.refl wr.heap.size wr) (Nat.le_refl _) (.cells #[] 3))
        obtain ⟨lq, hlq⟩ : ∃ q, L.length = q := ⟨_, rfl⟩
        obtain ⟨wl, hwlq⟩ : ∃ q, way.length = q := ⟨_, rfl⟩
        rw [hlq] at HOW HGR hgt hlq0 HT ⊢
        rw [hwlq] at hwl0 ⊢
        have HLQ := Lib.hid hlq
        have HWL := Lib.hid hwlq
        clear hro hni hf hmm hv9 HNI HRO hz hlq hwlq
        go_wp2_with (at_builtin; refine wp_clone_way rfl (.tmp 46) (.tmp 47) rfl base wr.heap.size rfl HO0.out w0.heap.size g cw wl way rfl HWL.out (HWG.out.later HBA.out) hwl0 (by simp; omega) ?_)
        intro b2 c2 w4 hw4 hg4
        have hb4 : Below wr.heap.size wr w4 := HBA.out.grown hg4 (by simp) (fun k e => by cases e; omega)
        have hb5 := Below.alloc (Below.refl w4.heap.size w4) (Nat.le_refl _) (.cells #[.slice (some ⟨b2, 0, none⟩) wl c2] 50)
        have hc5 : (w4.alloc (.cells #[.slice (some ⟨b2, 0, none⟩) wl c2] 50)).cell? ⟨w4.heap.size, 0, none⟩ = some (.slice (some ⟨b2, 0, none⟩) wl c2) := by rw [World.cell?_alloc_new]; rfl
        have HW5 := Lib.hid (hw4.later hb5)
        have HB5 := Lib.hid (more hb4 (Nat.le_refl _) hb5)
        have HO5 := Lib.hid (ownsRow_below HOW.out HB5.out)
        have HC5 := Lib.hid hc5
        have hsz5 := HB5.out.size
        have hlq9 : L.length = lq := HLQ.out
        clear hw4 hg4 hb4 hb5 hc5 HO0 HBA
        go_wp2_with (at_builtin; refine wp_add_row rfl (.tmp 45) (.tmp 49) rfl base lq _ (.slice (some ⟨b2, 0, none⟩) wl c2) L rfl HLQ.out HO5.out ⟨w4.heap.size, 0, none⟩ 1 rfl HC5.out rfl (by omega) (by omega) ?_)
        intro A2 c9 w6 hown6 hgr6
        have hw6 := way_gr HW5.out hgr6 HO5.out
        have hfin := (HGR.out.trans (Gr.of_below HB5.out _)).trans hgr6
        have HO6 := Lib.hid hown6
        have HW6 := Lib.hid hw6
        have HFI := Lib.hid hfin
        clear hown6 hgr6 hw6 hfin
        go_wp2_with fail
        refine HT.out _ _ ⟨_, [.slice (some ⟨b2, 0, none⟩) wl c2], rfl, by rw [List.length_append, hlq9]; exact HO6.out, ?_, fun h => ?_, HFI.out⟩
        · rw [HFE.out]
          refine ⟨rfl, fun i zs hz => ?_⟩
          match i with
          | 0 => simp at hz; subst hz; exact ⟨_, _, by rw [HWL.out]; rfl, HW6.out⟩
          | i + 1 => simp at hz
        · rw [HFE.out] at h
          cases h
      · simp only [hz, ↓reduceIte] at hf
        have hpos : 0 < (findL s way 0 ks).length := List.length_pos_iff.2 hz
        have hgt : decide (L.length < (L ++ L2).length) = true := decide_eq_true (by omega)
        have HR3 := Lib.hid hro
        have HFE := Lib.hid hf
        rw [hv9] at HOW HGR ⊢
        rw [hv8] at HGR HT ⊢
        generalize hmq : (L ++ L2).length = mq at *
        generalize hlq : L.length = lq at *
        clear hro hni hf hmm hv9 hv8 HNI HRO
        go_wp2_with fail
        refine HT.out _ _ ⟨_, L2, rfl, by rw [hmq]; exact HOW.out, by rw [HFE.out]; exact HR3.out, fun h => ?_, HGR.out⟩
        rw [HFE.out] at h
        exact absurd h hz
end Go.Proofs.YtagaaeolgecdmaaGreatDoor

namespace Go.Proofs.YtagaaeolgecdmaaGreatDoor
open Go.Joins Go.ChangeShapes Go.WideShapes Go.ChangeAt Go.RowKit Go.Deep
set_option linter.unusedVariables false
set_option linter.unusedSimpArgs false

/-- Whole numbers in a row of the call's own, from block lo up to hi. -/
def ZsO (w : World) (lo hi : Nat) (A : Option Addr) (c : Nat) (zs : List Int) : Prop := 0 < zs.length → ∃ g, A = some ⟨g, 0, none⟩ ∧ lo ≤ g ∧ g < hi ∧ w.ownsRow 0 3 1 (.slice (some ⟨g, 0, none⟩) zs.length c) zs.length (zV zs)
theorem ZsO.lies {w : World} {lo hi c : Nat} {A : Option Addr} {zs : List Int} (h : ZsO w lo hi A c zs) : IntL w A zs := fun h0 => by
  obtain ⟨g, rfl, _, _, ho⟩ := h h0
  exact IntL.of_own ho h0
theorem ZsO.below {w w' : World} {lo hi c : Nat} {A : Option Addr} {zs : List Int} (h : ZsO w lo hi A c zs) (hb : Below w.heap.size w w') : ZsO w' lo hi A c zs := fun h0 => by
  obtain ⟨g, rfl, a, b, ho⟩ := h h0
  exact ⟨g, rfl, a, b, own_moved ho (hb.block g (ho.lt g rfl).2)⟩
theorem ZsO.turn {w w' : World} {lo hi l2 h2 c : Nat} {A : Option Addr} {zs : List Int} (h : ZsO w lo hi A c zs) (ht : Turn l2 h2 w w') (hr : hi ≤ l2 ∨ h2 ≤ lo) : ZsO w' lo hi A c zs := fun h0 => by
  obtain ⟨g, rfl, a, b, ho⟩ := h h0
  exact ⟨g, rfl, a, b, own_moved ho (ht.block g (ho.lt g rfl).2 (by omega))⟩
/-- Numbers marked, in a row of their own. -/
theorem markZs_own (lo hi k n c : Nat) (A : Option Addr) (zs : List Int) (w : World) (hp : ZsO w lo hi A c zs) (hn : zs.length = n) (hl : n ≤ 1048576) (hk : k ≤ 50000000) :
    Calls Tryz.prog 47 #[.slice A n c, .int .i64 k] w fun e w' => e = .returned (.int .i64 (k + n : Nat)) ∧ ZsO w' lo hi A c (markI n k) ∧ Turn lo hi w w' := by
  rcases Nat.eq_zero_or_pos n with rfl | h0
  · refine (markInts_nil A c k w).mono ?_
    rintro e w' ⟨rfl, rfl⟩
    exact ⟨by simp, fun h => absurd h (by simp [markI]), Turn.refl _ _ _⟩
  · obtain ⟨g, rfl, a, b, ho⟩ := hp (by omega)
    rw [hn] at ho
    refine (markInts_any g c 0 k n _ w ho hl hk).mono ?_
    rintro e w' ⟨rfl, ho, hg⟩
    exact ⟨rfl, fun _ => ⟨g, rfl, a, b, by rw [markI_len]; exact ho⟩, Turn.of_grown hg a b⟩
/-- Rows of numbers in memory, in a row. -/
def RwL (w : World) (A : Option Addr) (xss : List (List Int)) : Prop := 0 < xss.length → ∃ b off, A = some ⟨b, off, none⟩ ∧ b < w.heap.size ∧ ∀ k zs, xss[k]? = some zs → ∃ B c, w.cell? ⟨b, off + k, none⟩ = some (.slice B zs.length c) ∧ IntL w B zs
theorem RwL.below {w w' : World} {A : Option Addr} {xss : List (List Int)} (h : RwL w A xss) (hb : Below w.heap.size w w') : RwL w' A xss := fun h0 => by
  obtain ⟨b, off, e, hlt, hc⟩ := h h0
  refine ⟨b, off, e, Nat.lt_of_lt_of_le hlt hb.size, fun k zs hz => ?_⟩
  obtain ⟨B, c, h1, h2⟩ := hc k zs hz
  exact ⟨B, c, (hb.cell (p := ⟨b, _, none⟩) hlt).trans h1, h2.below hb⟩
theorem RwL.at_ {w : World} {A : Option Addr} {xss : List (List Int)} (h : RwL w A xss) {k : Nat} {zs : List Int} (hz : xss[k]? = some zs) : ∃ b off B c, A = some ⟨b, off, none⟩ ∧ b < w.heap.size ∧ w.cell? ⟨b, off + k, none⟩ = some (.slice B zs.length c) ∧ IntL w B zs := by
  obtain ⟨b, off, e, hlt, hc⟩ := h (by have := (List.getElem?_eq_some_iff.1 hz).1; omega)
  obtain ⟨B, c, h1, h2⟩ := hc k zs hz
  exact ⟨b, off, B, c, e, hlt, h1, h2⟩
set_option maxHeartbeats 1000000 in
theorem eqRows_any (A B : Option Addr) (c d n : Nat) (xss : List (List Int)) (w : World) (hx : RwL w A xss) (hy : RwL w B xss) (hn : xss.length = n) (hl : n ≤ maxLen) (hs : ∀ zs ∈ xss, zs.length ≤ maxLen) :
    Calls Tryz.prog 17 #[.slice A n c, .slice B n d] w fun e w' => e = .returned (.bool true) ∧ Below w.heap.size w w' := by
  unfold maxLen at hl
  have HX := Lib.hid hx
  have HY := Lib.hid hy
  have HN := Lib.hid hn
  have HS := Lib.hid hs
  clear hx hy hn hs
  go_enter Tryz.func17, Tryz.ntmps17
  go_wp2_with fail
  go_loopw [5] (fun i wr => ∃ k : Nat, k ≤ n ∧ i = .int .i64 k ∧ Hid (Below w.heap.size w wr)) (fun i _ => n - (intOf i).toNat)
  case atStart => exact ⟨0, by omega, rfl, Lib.hid (Below.refl _ _)⟩
  case round =>
    obtain ⟨k, hk, rfl, HB⟩ := hrel
    by_cases hlt : k < n
    · obtain ⟨x, hx⟩ := at_some (show k < xss.length by rw [HN.out]; exact hlt)
      obtain ⟨b, off, B0, d0, rfl, hblt, e0, hi0⟩ := (HX.out.below HB.out).at_ hx
      obtain ⟨b', off', B1, d1, rfl, hblt', e1, hi1'⟩ := (HY.out.below HB.out).at_ hx
      have hi1 : (0 : Int) ≤ (k : Int) := by omega
      have hi2 : (k : Int) < (n : Int) := by omega
      have hk6 := fun w h1 h2 => eqL_any B0 B1 d0 d1 x x w h1 h2 (HS.out x (List.mem_of_getElem? hx)) (HS.out x (List.mem_of_getElem? hx))
      rw [decide_eq_true rfl] at hk6
      have K6 := Lib.hid hk6
      have HI0 := Lib.hid hi0
      have HI1 := Lib.hid hi1'
      have hB := HB.out
      clear hx hi0 hi1' hk6 HB
      go_wp2_with fail
      go_region_held3 (fun w' => w'.cell? ⟨b, off + k, none⟩ = some (.slice B0 x.length d0) ∧ w'.cell? ⟨b', off' + k, none⟩ = some (.slice B1 x.length d1)) (go_keep) (first | (go_at_call 46; ((with_reducible refine (K6.out _ (HI0.out.below (by go_grown)) (HI1.out.below (by go_grown))).mono ?_); rintro e w' ⟨rfl, hb⟩); replace e0 := (hb.cell (p := ⟨b, off + k, none⟩) (by first | omega | (simp; done) | (simp; omega))).trans e0; replace e1 := (hb.cell (p := ⟨b', off' + k, none⟩) (by first | omega | (simp; done) | (simp; omega))).trans e1; replace hB := more (W1 := _) (B := w.heap.size) (W0 := w) (by go_grown) (Nat.le_refl _) hb; clear hb))
      go_wp2_with fail
      go_roundw
      case rel => exact ⟨k + 1, by omega, by go_num, Lib.hid hB⟩
      case measure => simp [intOf]; omega
    · obtain rfl : k = n := by omega
      go_wp2_with fail
      go_ret
      exact ⟨rfl, HB.out⟩
/-- Rows of numbers in a row, each in blocks of its own. -/
structure RwD (w : World) (lo hi g : Nat) (L : List Value) (P Q : Nat → Nat) (xss : List (List Int)) : Prop where
  row : ∀ i zs, xss[i]? = some zs → ∃ B c, L[i]? = some (.slice B zs.length c) ∧ ZsO w (P i) (Q i) B c zs
  inn : ∀ i, i < xss.length → lo ≤ P i ∧ P i ≤ Q i ∧ Q i ≤ hi ∧ (g < P i ∨ Q i ≤ g)
  apart : ∀ i j, i < xss.length → j < xss.length → i ≠ j → Q i ≤ P j ∨ Q j ≤ P i
def RwO (w : World) (lo hi : Nat) (A : Option Addr) (c : Nat) (xss : List (List Int)) : Prop := 0 < xss.length → ∃ g L P Q, A = some ⟨g, 0, none⟩ ∧ lo ≤ g ∧ g < hi ∧ w.ownsRow 0 50 1 (.slice (some ⟨g, 0, none⟩) xss.length c) xss.length L ∧ RwD w lo hi g L P Q xss
theorem RwO.lies {w : World} {lo hi c : Nat} {A : Option Addr} {xss : List (List Int)} (h : RwO w lo hi A c xss) : RwL w A xss := fun h0 => by
  obtain ⟨g, L, P, Q, rfl, _, _, ho, hd⟩ := h h0
  refine ⟨g, 0, rfl, (ho.lt g rfl).2, fun k zs hz => ?_⟩
  obtain ⟨B, c2, h1, h2⟩ := hd.row k zs hz
  refine ⟨B, c2, ?_, h2.lies⟩
  rw [Nat.zero_add, ho.cellAt k (by have := (List.getElem?_eq_some_iff.1 hz).1; omega)]
  exact h1
theorem RwO.below {w w' : World} {lo hi c : Nat} {A : Option Addr} {xss : List (List Int)} (h : RwO w lo hi A c xss) (hb : Below w.heap.size w w') : RwO w' lo hi A c xss := fun h0 => by
  obtain ⟨g, L, P, Q, rfl, a, b, ho, hd⟩ := h h0
  exact ⟨g, L, P, Q, rfl, a, b, own_moved ho (hb.block g (ho.lt g rfl).2), ⟨fun i zs hz => (by obtain ⟨B, c2, h1, h2⟩ := hd.row i zs hz; exact ⟨B, c2, h1, h2.below hb⟩), hd.inn, hd.apart⟩⟩
theorem RwO.turn {w w' : World} {lo hi l2 h2 c : Nat} {A : Option Addr} {xss : List (List Int)} (h : RwO w lo hi A c xss) (ht : Turn l2 h2 w w') (hr : hi ≤ l2 ∨ h2 ≤ lo) : RwO w' lo hi A c xss := fun h0 => by
  obtain ⟨g, L, P, Q, rfl, a, b, ho, hd⟩ := h h0
  refine ⟨g, L, P, Q, rfl, a, b, own_moved ho (ht.block g (ho.lt g rfl).2 (by omega)), ⟨fun i zs hz => ?_, hd.inn, hd.apart⟩⟩
  obtain ⟨B, c2, h1, h3⟩ := hd.row i zs hz
  obtain ⟨q1, q2, q3, _⟩ := hd.inn i (List.getElem?_eq_some_iff.1 hz).1
  exact ⟨B, c2, h1, h3.turn ht (by omega)⟩
def totR : List (List Int) → Nat
  | [] => 0
  | z :: zs => z.length + totR zs
def markRs : List (List Int) → Nat → List (List Int)
  | [], _ => []
  | z :: zs, k => markI z.length k :: markRs zs (k + z.length)
theorem markRs_len : ∀ (xs : List (List Int)) (k : Nat), (markRs xs k).length = xs.length
  | [], _ => rfl
  | x :: xs, k => by simp [markRs, markRs_len xs]
theorem set_takeG {α : Type} {ys zs : List α} {j : Nat} {y : α} (h1 : ys.take j = zs.take j) (h2 : zs[j]? = some y) (h3 : j < ys.length) : (ys.set j y).take (j + 1) = zs.take (j + 1) := by
  apply List.ext_getElem?
  intro i
  rw [List.getElem?_take, List.getElem?_take]
  by_cases hi : i < j + 1
  · rw [if_pos hi, if_pos hi]
    by_cases hij : i = j
    · subst hij
      rw [List.getElem?_set_self h3, h2]
    · rw [List.getElem?_set_ne (fun e => hij e.symm)]
      have e := congrArg (fun l => l[i]?) h1
      simp only [List.getElem?_take, if_pos (show i < j by omega)] at e
      exact e
  · rw [if_neg hi, if_neg hi]
theorem set_dropG {α : Type} {ys : List α} {j : Nat} (y : α) : (ys.set j y).drop (j + 1) = ys.drop (j + 1) := by
  apply List.ext_getElem?
  intro i
  rw [List.getElem?_drop, List.getElem?_drop, List.getElem?_set_ne (by omega)]
theorem RwD.step {w w5 : World} {lo hi g j : Nat} {L : List Value} {P Q : Nat → Nat} {yss : List (List Int)} {z y : List Int} {B : Option Addr} {c : Nat} (h : RwD w lo hi g L P Q yss) (hj : yss[j]? = some z) (hL : L[j]? = some (.slice B z.length c)) (hy : y.length = z.length) (hk : ZsO w5 (P j) (Q j) B c y) (ht : Turn (P j) (Q j) w w5) : RwD w5 lo hi g L P Q (yss.set j y) := by
  have hjl := (List.getElem?_eq_some_iff.1 hj).1
  refine ⟨fun i zs hz => ?_, fun i hi => h.inn i (by simpa using hi), fun i k hi hk2 => h.apart i k (by simpa using hi) (by simpa using hk2)⟩
  by_cases hij : i = j
  · subst hij
    rw [List.getElem?_set_self hjl] at hz
    injection hz with hz
    subst hz
    exact ⟨B, c, by rw [hy]; exact hL, hk⟩
  · rw [List.getElem?_set_ne (fun e => hij e.symm)] at hz
    obtain ⟨B2, c2, h1, h2⟩ := h.row i zs hz
    exact ⟨B2, c2, h1, h2.turn ht (h.apart i j (List.getElem?_eq_some_iff.1 hz).1 hjl hij)⟩
set_option maxRecDepth 100000 in
set_option maxHeartbeats 2000000 in
theorem markRows_any (lo hi c k n : Nat) (A : Option Addr) (xss : List (List Int)) (w : World) (hp : RwO w lo hi A c xss) (hn : xss.length = n) (hl : n ≤ 1048576) (hs : ∀ zs ∈ xss, zs.length ≤ 1048576) (hkb : k + totR xss ≤ 50000000) :
    Calls Tryz.prog 18 #[.slice A n c, .int .i64 k] w fun e w' => e = .returned (.int .i64 (k + totR xss : Nat)) ∧ RwO w' lo hi A c (markRs xss k) ∧ Turn lo hi w w' := by
  have HN := Lib.hid hn
  have HS := Lib.hid hs
  have HK := Lib.hid hkb
  have HH := Lib.hid hp
  clear hn hs hkb hp
  go_enter Tryz.func18, Tryz.ntmps18
  go_wp2_with fail
  go_loopw [1, 5] (fun mm i wr => ∃ (j q : Nat) (yss : List (List Int)), j ≤ n ∧ i = .int .i64 j ∧ mm = .int .i64 q ∧ Hid (q + totR (xss.drop j) = k + totR xss) ∧ Hid ((markRs xss k).drop j = markRs (xss.drop j) q) ∧ Hid (yss.length = n ∧ yss.take j = (markRs xss k).take j ∧ yss.drop j = xss.drop j) ∧
    Hid (RwO wr lo hi A c yss) ∧ Hid (Turn lo hi w wr)) (fun _ i _ => n - (intOf i).toNat)
  case atStart => exact ⟨0, k, xss, by omega, rfl, rfl, Lib.hid rfl, Lib.hid rfl, Lib.hid ⟨HN.out, rfl, rfl⟩, HH, Lib.hid (Turn.refl _ _ _)⟩
  case round =>
    obtain ⟨j, q, yss, hj, rfl, rfl, HQ, HM, HY, HO, HT⟩ := hrel
    by_cases hlt : j < n
    · obtain ⟨x, hx⟩ := at_some (show j < xss.length by rw [HN.out]; exact hlt)
      have hdc := drop_cons hx
      have hyl : yss.length = n := HY.out.1
      have hyx : yss[j]? = some x := by
        have e : (yss.drop j)[0]? = some x := by rw [HY.out.2.2, hdc]; rfl
        rw [List.getElem?_drop] at e
        exact e
      have HQ2 := Lib.hid (show q + x.length + totR (xss.drop (j + 1)) = k + totR xss by have := HQ.out; rw [hdc] at this; simp only [totR] at this; omega)
      have HM2 := Lib.hid (show (markRs xss k).drop j = markI x.length q :: markRs (xss.drop (j + 1)) (q + x.length) by rw [HM.out, hdc]; simp only [markRs])
      obtain ⟨g, L, P, Q, rfl, r1, r2, hown, hd⟩ := HO.out (by omega)
      obtain ⟨B, c2, hLj, hzs⟩ := hd.row j x hyx
      obtain ⟨i1, i2, i3, i4⟩ := hd.inn j (by omega)
      rw [hyl] at hown
      have e0 := (hown.cellAt j (by omega)).trans hLj
      have hxl := HS.out x (List.mem_of_getElem? hx)
      have hqb : q + x.length ≤ 50000000 := by have := HQ2.out; have := HK.out; omega
      have hi1 : (0 : Int) ≤ (j : Int) := by omega
      have hi2 : (j : Int) < (n : Int) := by omega
      have KM := Lib.hid (markZs_own (P j) (Q j) q x.length c2 B x wr hzs rfl hxl (by omega))
      have HD := Lib.hid hd
      have HOW := Lib.hid hown
      have HYX := Lib.hid hyx
      have HLJ := Lib.hid hLj
      have HX := Lib.hid hx
      clear hx hyx hdc hown hd hLj hzs HH
      go_wp2_with fail
      refine KM.out.mono ?_
      rintro e w2 ⟨rfl, hz2, ht2⟩
      have HZ2 := Lib.hid hz2
      have HT2 := Lib.hid ht2
      have hgl := HOW.out.lt g rfl
      have hrow2 := own_moved HOW.out (ht2.block g hgl.2 i4)
      have HR2 := Lib.hid hrow2
      clear hz2 ht2 hrow2 e0
      go_wp2_with fail
      go_roundw
      case rel =>
        refine ⟨j + 1, q + x.length, yss.set j (markI x.length q), by omega, by go_num, by go_num, Lib.hid HQ2.out, Lib.hid ?_, Lib.hid ⟨by rw [List.length_set]; exact HY.out.1, set_takeG HY.out.2.1 ?_ (by omega), by rw [set_dropG]; have := HY.out.2.2; rw [drop_cons HX.out, drop_cons HYX.out] at this; injection this⟩, Lib.hid (fun _ => ⟨g, L, P, Q, rfl, r1, r2, by rw [List.length_set, hyl]; exact HR2.out, RwD.step HD.out HYX.out HLJ.out (markI_len _ _) HZ2.out HT2.out⟩), Lib.hid (HT.out.trans (HT2.out.mono i1 i3))⟩
        · have e := congrArg (List.drop 1) HM2.out
          rw [List.drop_drop] at e
          simpa [Nat.add_comm] using e
        · have e := congrArg (fun l => l[0]?) HM2.out
          simp only [List.getElem?_drop, List.getElem?_cons_zero, Nat.add_zero] at e
          exact e
      case measure => simp [intOf]; omega
    · obtain rfl : j = n := by omega
      have e : yss = markRs xss k := by
        have h := HY.out.2.1
        rw [List.take_of_length_le (by rw [HY.out.1]; exact Nat.le_refl _), List.take_of_length_le (by rw [markRs_len, HN.out]; exact Nat.le_refl _)] at h
        exact h
      have hq := HQ.out
      rw [List.drop_eq_nil_of_le (by rw [HN.out]; exact Nat.le_refl _)] at hq
      simp only [totR, Nat.add_zero] at hq
      subst hq
      subst e
      go_wp2_with fail
      go_ret
      exact ⟨rfl, HO.out, HT.out⟩
set_option maxRecDepth 100000 in
set_option maxHeartbeats 2000000 in
theorem heldRows_any (A : Option Addr) (c k n : Nat) (xss : List (List Int)) (w : World) (hx : RwL w A (markRs xss k)) (hn : xss.length = n) (hl : n ≤ 1048576) (hs : ∀ zs ∈ xss, zs.length ≤ 1048576) (hkb : k + totR xss ≤ 50000000) :
    Calls Tryz.prog 19 #[.slice A n c, .int .i64 k] w fun e w' => e = .returned (.int .i64 (k + totR xss : Nat)) ∧ w = w' := by
  have HN := Lib.hid hn
  have HS := Lib.hid hs
  have HK := Lib.hid hkb
  have HX := Lib.hid hx
  clear hn hs hkb hx
  go_enter Tryz.func19, Tryz.ntmps19
  go_wp2_with fail
  go_loop [1, 5] (fun mm i => ∃ (j q : Nat), j ≤ n ∧ i = .int .i64 j ∧ mm = .int .i64 q ∧ Hid (q + totR (xss.drop j) = k + totR xss) ∧ Hid ((markRs xss k).drop j = markRs (xss.drop j) q)) (fun _ i => n - (intOf i).toNat)
  case atStart => exact ⟨0, k, by omega, rfl, rfl, Lib.hid rfl, Lib.hid rfl⟩
  case round =>
    obtain ⟨j, q, hj, rfl, rfl, HQ, HM⟩ := hrel
    by_cases hlt : j < n
    · obtain ⟨x, hx⟩ := at_some (show j < xss.length by rw [HN.out]; exact hlt)
      have hdc := drop_cons hx
      have HQ2 := Lib.hid (show q + x.length + totR (xss.drop (j + 1)) = k + totR xss by have := HQ.out; rw [hdc] at this; simp only [totR] at this; omega)
      have HM2 := Lib.hid (show (markRs xss k).drop j = markI x.length q :: markRs (xss.drop (j + 1)) (q + x.length) by rw [HM.out, hdc]; simp only [markRs])
      have hmx : (markRs xss k)[j]? = some (markI x.length q) := by
        have e := congrArg (fun l => l[0]?) HM2.out
        simp only [List.getElem?_drop, List.getElem?_cons_zero, Nat.add_zero] at e
        exact e
      obtain ⟨b, off, B0, d0, rfl, hblt, e0, hi0⟩ := HX.out.at_ hmx
      rw [markI_len] at e0
      have hxl := HS.out x (List.mem_of_getElem? hx)
      have hqb : q + x.length ≤ 50000000 := by have := HQ2.out; have := HK.out; omega
      have hi1 : (0 : Int) ≤ (j : Int) := by omega
      have hi2 : (j : Int) < (n : Int) := by omega
      have KH := Lib.hid (heldInts_any B0 d0 q x.length w hi0 hxl (by omega))
      clear hx hdc hmx hi0
      go_wp2_with fail
      refine KH.out.mono ?_
      rintro e w' ⟨rfl, rfl⟩
      obtain ⟨q2, hq2⟩ : ∃ u, q + x.length = u := ⟨_, rfl⟩
      have hneg : decide ((q2 : Int) < 0) = false := by simp
      have HQ3 := Lib.hid hq2
      rw [hq2]
      clear hq2
      go_wp2_with fail
      go_round
      case rel => exact ⟨j + 1, q2, by omega, by go_num, rfl, Lib.hid (by rw [← HQ3.out]; exact HQ2.out), Lib.hid (by
        have e := congrArg (List.drop 1) HM2.out
        rw [List.drop_drop] at e
        rw [← HQ3.out]
        simpa [Nat.add_comm] using e)⟩
      case measure => simp [intOf]; omega
    · obtain rfl : j = n := by omega
      have hq := HQ.out
      rw [List.drop_eq_nil_of_le (by rw [HN.out]; exact Nat.le_refl _)] at hq
      simp only [totR, Nat.add_zero] at hq
      subst hq
      go_wp2_with fail
      go_ret
      exact ⟨rfl, rfl⟩
end Go.Proofs.YtagaaeolgecdmaaGreatDoor

namespace Go.Proofs.YtagaaeolgecdmaaGreatDoor
open Go.Joins Go.ChangeShapes Go.WideShapes Go.ChangeAt Go.RowKit Go.Deep
set_option linter.unusedVariables false
set_option linter.unusedSimpArgs false

def natZ (ns : List Nat) : List Int := ns.map fun (n : Nat) => (n : Int)
theorem natZ_len (ns : List Nat) : (natZ ns).length = ns.length := by simp [natZ]
theorem intV_natZ (ns : List Nat) : intV ns = zV (natZ ns) := by unfold intV zV natZ; rw [List.map_map]; rfl
theorem same_prefix {lo g c d : Nat} {w : World} {a b : List Nat} (ha : WayR lo w (some ⟨g, 0, none⟩) c a) (hb : WayR lo w (some ⟨g, 0, none⟩) d b) (hl : a.length ≤ b.length) : a <+: b := by
  refine List.prefix_iff_eq_take.2 (List.ext_getElem? fun i => ?_)
  rw [List.getElem?_take]
  by_cases hi : i < a.length
  · rw [if_pos hi]
    have h1 := World.ownsRow.cellAt ha i (by omega)
    have h2 := World.ownsRow.cellAt hb i (by omega)
    rw [h1] at h2
    unfold intV at h2
    rw [List.getElem?_map, List.getElem?_map, List.getElem?_eq_getElem hi, List.getElem?_eq_getElem (show i < b.length by omega)] at h2
    simp only [Option.map_some, Option.some.injEq, Value.int.injEq, true_and] at h2
    rw [List.getElem?_eq_getElem hi, List.getElem?_eq_getElem (show i < b.length by omega)]
    exact congrArg some (by exact_mod_cast h2)
  · rw [if_neg hi, List.getElem?_eq_none (by omega)]
theorem way_some {lo c : Nat} {w : World} {A : Option Addr} {a : List Nat} (h : WayR lo w A c a) (h0 : 0 < a.length) : ∃ g, A = some ⟨g, 0, none⟩ ∧ lo ≤ g ∧ g < w.heap.size ∧ ∃ cur, w.heap[g]? = some (.cells cur 3 (0, 0)) := by
  rcases h.2 with ⟨e, hn⟩ | ⟨g, cap, cur, e, hb, hh, _⟩
  · omega
  · injection e with e
    exact ⟨g, e, hb, (Array.getElem?_eq_some_iff.1 hh).1, cur, hh⟩
def blk (lo : Nat) (y : Option Pt) : Nat := match y with
  | none => lo
  | some y => if y.way.length = 0 then lo else match y.Aw with
    | none => lo
    | some a => a.block
def blkN (y : Option Pt) : Nat := match y with
  | none => 0
  | some y => if y.way.length = 0 then 0 else 1
theorem FdX.rows {s : ByteArray} {t : Tr} {w w' : World} {e : Ending} (h : FdX (findV s t) w e w') : ∃ A c, e = .returned (.slice A (findV s t).length c) ∧ RwO w' w.heap.size w'.heap.size A c ((findV s t).map natZ) ∧ Below w.heap.size w w' := by
  have hap : (findV s t).Pairwise Apart := by
    unfold findV
    split
    · exact find_apart s t []
    · exact List.Pairwise.nil
  obtain ⟨ps, A, c, he, hw, ho, hway, hb⟩ := h
  generalize findV s t = xss at *
  subst hw
  refine ⟨A, c, he, fun h0 => ?_, hb⟩
  rw [List.length_map] at h0
  rcases ho.2 with ⟨_, hn⟩ | ⟨g, cap, cur, e2, hbg, hh, _⟩
  · omega
  injection e2 with e2
  subst e2
  have hgs := (Array.getElem?_eq_some_iff.1 hh).1
  have key : ∀ (i : Nat) (y : Pt), ps[i]? = some y → 0 < y.way.length → ∃ k, y.Aw = some ⟨k, 0, none⟩ ∧ w.heap.size ≤ k ∧ k < w'.heap.size ∧ k ≠ g ∧ blk w.heap.size ps[i]? = k ∧ blkN ps[i]? = 1 := fun i y hy hp => by
    obtain ⟨k, ek, h1, h2, cur2, h3⟩ := way_some (hway y (List.mem_of_getElem? hy)) hp
    refine ⟨k, ek, h1, h2, fun e3 => ?_, ?_, ?_⟩
    · rw [e3, hh] at h3
      injection h3 with h3
      injection h3 with _ h3 _
      cases h3
    · rw [hy]
      show (if y.way.length = 0 then _ else _) = _
      rw [if_neg (by omega), ek]
    · rw [hy]
      show (if y.way.length = 0 then _ else _) = _
      rw [if_neg (by omega)]
  have key0 : ∀ (i : Nat) (y : Pt), ps[i]? = some y → y.way.length = 0 → blk w.heap.size ps[i]? = w.heap.size ∧ blkN ps[i]? = 0 := fun i y hy hp => by
    rw [hy]
    exact ⟨if_pos hp, if_pos hp⟩
  refine ⟨g, ps.map wV, fun i => blk w.heap.size ps[i]?, fun i => blk w.heap.size ps[i]? + blkN ps[i]?, rfl, hbg, hgs, ?_, ⟨fun i zs hz => ?_, fun i hi => ?_, fun i j hi hj hij => ?_⟩⟩
  · rw [List.length_map]
    exact row_mono ho (Nat.zero_le _)
  · rw [List.getElem?_map, List.getElem?_map] at hz
    cases hy : ps[i]? with
    | none => rw [hy] at hz; cases hz
    | some y =>
      rw [hy] at hz
      simp only [Option.map_some, Option.some.injEq] at hz
      subst hz
      refine ⟨y.Aw, y.cw, by rw [List.getElem?_map, hy, natZ_len]; rfl, fun hp => ?_⟩
      rw [natZ_len] at hp ⊢
      obtain ⟨k, ek, h1, h2, _, h3, h4⟩ := key i y hy hp
      rw [hy] at h3 h4
      refine ⟨k, ek, by show blk _ _ ≤ k; rw [h3]; exact Nat.le_refl _, by show k < blk _ _ + blkN _; rw [h3, h4]; omega, ?_⟩
      have h5 := hway y (List.mem_of_getElem? hy)
      rw [ek] at h5
      rw [← intV_natZ]
      exact row_mono h5 (Nat.zero_le _)
  · simp only [List.length_map] at hi
    have hy := List.getElem?_eq_getElem hi
    by_cases hp : 0 < ps[i].way.length
    · obtain ⟨k, ek, h1, h2, h5, h3, h4⟩ := key i _ hy hp
      simp only [h3, h4]
      omega
    · obtain ⟨h3, h4⟩ := key0 i _ hy (by omega)
      have := hb.size
      simp only [h3, h4]
      omega
  · simp only [List.length_map] at hi hj
    have hy := List.getElem?_eq_getElem hi
    have hz := List.getElem?_eq_getElem hj
    have hpw : Apart ps[i].way ps[j].way := by
      rw [List.pairwise_iff_getElem] at hap
      rcases Nat.lt_or_gt_of_ne hij with h | h
      · have := hap i j (by simpa using hi) (by simpa using hj) h
        simpa using this
      · have := hap j i (by simpa using hj) (by simpa using hi) h
        simp only [List.getElem_map] at this
        exact ⟨this.2, this.1⟩
    have hpi : 0 < ps[i].way.length := Nat.pos_of_ne_zero fun e => hpw.1 (by rw [List.eq_nil_of_length_eq_zero e]; exact List.nil_prefix)
    have hpj : 0 < ps[j].way.length := Nat.pos_of_ne_zero fun e => hpw.2 (by rw [List.eq_nil_of_length_eq_zero e]; exact List.nil_prefix)
    obtain ⟨k, ek, h1, h2, h5, h3, h4⟩ := key i _ hy hpi
    obtain ⟨l, el, g1, g2, g5, g3, g4⟩ := key j _ hz hpj
    simp only [h3, h4, g3, g4]
    have hkl : k ≠ l := fun e => by
      subst e
      have q1 := hway _ (List.mem_of_getElem? hy)
      have q2 := hway _ (List.mem_of_getElem? hz)
      rw [ek] at q1
      rw [el] at q2
      rcases Nat.le_total ps[i].way.length ps[j].way.length with h | h
      · exact hpw.1 (same_prefix q1 q2 h)
      · exact hpw.2 (same_prefix q2 q1 h)
    omega
end Go.Proofs.YtagaaeolgecdmaaGreatDoor

namespace Go.Proofs.YtagaaeolgecdmaaGreatDoor
open Go.Joins Go.ChangeShapes Go.WideShapes Go.ChangeAt Go.RowKit Go.Deep
set_option linter.unusedVariables false
set_option linter.unusedSimpArgs false

def SdX (xss : List (List Nat)) (w : World) (e : Ending) (w' : World) : Prop := ∃ (A : Option Addr) (c : Nat), e = .returned (.slice A xss.length c) ∧ RwL w' A (xss.map natZ) ∧ Below w.heap.size w w'
theorem RowsV.lies {w w' : World} {lo base g c : Nat} {L : List Value} {xss : List (List Nat)} (h : RowsV lo w L xss) (ho : w.ownsRow base 50 1 (.slice (some ⟨g, 0, none⟩) L.length c) L.length L) : RwL w (some ⟨g, 0, none⟩) (xss.map natZ) := fun h0 => by
  refine ⟨g, 0, rfl, (ho.lt g rfl).2, fun k zs hz => ?_⟩
  rw [List.getElem?_map] at hz
  cases hy : xss[k]? with
  | none => rw [hy] at hz; cases hz
  | some y =>
    rw [hy] at hz
    simp only [Option.map_some, Option.some.injEq] at hz
    subst hz
    obtain ⟨A, c2, h1, h2⟩ := h.2 k y hy
    refine ⟨A, c2, ?_, fun hp => ?_⟩
    · rw [Nat.zero_add, ho.cellAt k (by have := (List.getElem?_eq_some_iff.1 h1).1; omega), natZ_len]
      exact h1
    · rw [natZ_len] at hp
      obtain ⟨q, e, _⟩ := way_some h2 hp
      subst e
      have h5 : w.ownsRow lo 3 1 (.slice (some ⟨q, 0, none⟩) (natZ y).length c2) (natZ y).length (zV (natZ y)) := by rw [natZ_len, ← intV_natZ]; exact h2
      exact (IntL.of_own h5) (by rw [natZ_len]; exact hp)
set_option maxRecDepth 100000 in
set_option maxHeartbeats 4000000 in
theorem sFindText_any (t : Tr) (s : ByteArray) (hss : s.size ≤ 1048576) (hsm : SmT t) : ∀ (A0 A1 : Option Addr) (c0 c1 : Nat) (w : World), PrL w A0 t.ps → TrL w 0 A1 t.ks →
    Calls Tryz.prog 15 #[.agg #[.int .i64 t.tag, .int .i64 t.key, .string t.text, .slice A0 t.ps.length c0, .slice A1 t.ks.length c1], .string s] w (SdX (findV s t) w) := by
  intro A0 A1 c0 c1 w hp hk
  have k1 := fun w hp hk => svalidTree_any t hsm A0 A1 c0 c1 w hp hk
  have k3 := fun w => inRange_any (s.size : Int) 1 12 w
  have hT : ∀ e w', (∃ (A : Option Addr) (c : Nat), e = .returned (.slice A (findV s t).length c) ∧ RwL w' A ((findV s t).map natZ) ∧ Below w.heap.size w w') → SdX (findV s t) w e w' := fun e w' h => h
  obtain ⟨R, hR⟩ : ∃ R, SdX (findV s t) w = R := ⟨_, rfl⟩
  rw [hR] at hT ⊢
  have hb0 := Below.alloc (Below.refl w.heap.size w) (Nat.le_refl _) (.cells #[.int .i64 t.tag, .int .i64 t.key, .string t.text, .slice A0 t.ps.length c0, .slice A1 t.ks.length c1] 32)
  have hbx : (w.alloc (.cells #[.int .i64 t.tag, .int .i64 t.key, .string t.text, .slice A0 t.ps.length c0, .slice A1 t.ks.length c1] 32)).heap[w.heap.size]? = some (.cells #[.int .i64 t.tag, .int .i64 t.key, .string t.text, .slice A0 t.ps.length c0, .slice A1 t.ks.length c1] 32) := World.alloc_heap_new w _
  have k2 := fun (h : treeOkB t = true) (h12 : s.size ≤ 12) => stextWays_any s h12 w w.heap.size (Nat.le_refl _) t hsm (by have := textT_small h; omega)
  have hfv : findV s t = if treeOkB t && decide (1 ≤ s.size ∧ s.size ≤ 12) then findT s [] t else [] := rfl
  have hsv : treeOkB t = true → sizeT t ≤ 200 := size_small
  obtain ⟨ok, hok⟩ : ∃ v, treeOkB t = v := ⟨_, rfl⟩
  rw [hok] at k1 k2 hfv hsv
  obtain ⟨w1, hw1⟩ : ∃ q, w.alloc (.cells #[.int .i64 t.tag, .int .i64 t.key, .string t.text, .slice A0 t.ps.length c0, .slice A1 t.ks.length c1] 32) = q := ⟨_, rfl⟩
  rw [hw1] at hb0 hbx
  have K1 := Lib.hid (k1 w1 (hp.below hb0) (hk.below hb0))
  have HB0 := Lib.hid hb0
  have HP := Lib.hid hp
  have HK := Lib.hid hk
  have HT := Lib.hid hT
  have K2 := Lib.hid k2
  have HF := Lib.hid hfv
  have HS := Lib.hid hsv
  have HW1 := Lib.hid hw1
  have hbl := (Array.getElem?_eq_some_iff.1 hbx).1
  clear hp hk k1 hT k2 hfv hsv hw1 hok hsm hb0 hR
  unfold TwT TwR at K2
  obtain ⟨tag, key, text, ps, ks⟩ := t
  dsimp only [Tr.tag, Tr.key, Tr.text, Tr.ps, Tr.ks] at *
  go_enter Tryz.func15, Tryz.ntmps15
  go_wp2_with fail
  rw [HW1.out]
  refine K1.out.mono ?_
  rintro e w2 ⟨rfl, hb⟩
  have hbx2 := (hb.block w.heap.size hbl).trans hbx
  have HB2 := Lib.hid (more HB0.out (Nat.le_refl _) hb)
  obtain ⟨e0, e1, e2, e3, e4⟩ := five_cells hbx2
  have hz2 : w.heap.size < w2.heap.size := Nat.lt_of_lt_of_le hbl hb.size
  clear hb hbx hbx2 K1 HW1
  cases ok
  · have hf := HF.out
    rw [Bool.false_and, if_neg (by decide)] at hf
    go_wp2_with fail
    refine HT.out _ _ ⟨none, 0, ?_, ?_, HB2.out⟩
    · rw [hf]; rfl
    · rw [hf]; exact fun h => absurd h (by simp)
  obtain ⟨r, hr⟩ : ∃ r, decide (1 ≤ s.size ∧ s.size ≤ 12) = r := ⟨_, rfl⟩
  have hr2 : decide ((1 : Int) ≤ (s.size : Int) ∧ (s.size : Int) ≤ 12) = r := by rw [← hr]; exact decide_eq_decide.2 ⟨fun h => by omega, fun h => by omega⟩
  rw [hr2] at k3
  have K3 := Lib.hid k3
  clear k3 hr2
  go_wp2_with fail
  refine (K3.out _).mono ?_
  rintro e w' ⟨rfl, rfl⟩
  cases r
  · have hf := HF.out
    rw [hr, Bool.and_false, if_neg (by decide)] at hf
    go_wp2_with fail
    refine HT.out _ _ ⟨none, 0, ?_, ?_, HB2.out⟩
    · rw [hf]; rfl
    · rw [hf]; exact fun h => absurd h (by simp)
  have hf := HF.out
  rw [hr, Bool.and_true, if_pos rfl] at hf
  have hs12 := of_decide_eq_true hr
  have hs2 := HS.out trivial
  go_wp2_with fail
  obtain ⟨w3, hw3⟩ : ∃ q, (w2.alloc (.cells #[] 3)).alloc (.cells #[] 50) = q := ⟨_, rfl⟩
  have hb3 : Below w2.heap.size w2 w3 := by rw [← hw3]; exact (Below.alloc (Below.refl _ w2) (Nat.le_refl _) _).alloc (by simp) _
  have hway : WayR w.heap.size w3 (some ⟨w2.heap.size, 0, none⟩) 0 [] := by
    refine ⟨rfl, .inr ⟨w2.heap.size, 0, #[], rfl, by omega, ?_, Nat.le_refl _, by decide, rfl, rfl⟩⟩
    rw [← hw3, Below.heap_alloc _ _ _ (by simp)]
    exact World.alloc_heap_new w2 _
  have hown : w3.ownsRow w.heap.size 50 1 (.slice (some ⟨w2.heap.size + 1, 0, none⟩) 0 0) 0 [] := by
    refine ⟨rfl, .inr ⟨w2.heap.size + 1, 0, #[], rfl, by omega, ?_, Nat.le_refl _, by decide, rfl, rfl⟩⟩
    have := World.alloc_heap_new (w2.alloc (.cells #[] 3)) (.cells #[] 50)
    rw [World.size_alloc, hw3] at this
    exact this
  rw [hw3]
  have HB3 := Lib.hid (more HB2.out (Nat.le_refl _) hb3)
  have hz3 := hb3.size
  have K5 := Lib.hid (K2.out trivial (by omega) [] w2.heap.size 0 A0 A1 c0 c1 (.slice (some ⟨w2.heap.size + 1, 0, none⟩) 0 0) [] w3 (by omega) HB3.out hway HP.out HK.out hown (by simp; omega) (by simp; omega))
  clear hway hown hw3 hb3 K2
  refine K5.out.mono ?_
  rintro e w4 ⟨v', L2, rfl, ho, hr4, hn, hg⟩
  have hbel : Below w.heap.size w w4 := HB3.out.trans (hg.below HB3.out.size (fun g e => by simp [Value.ownBlock] at e; omega))
  rw [List.nil_append] at ho
  obtain ⟨A, c, hv⟩ := own_ways ho
  subst hv
  have hlen : L2.length = (findT s [] (.mk tag key text ps ks)).length := hr4.1
  have hrw : RwL w4 A ((findT s [] (.mk tag key text ps ks)).map natZ) := fun h0 => by
    rcases ho.2 with ⟨_, h1⟩ | ⟨g, cap, cur, e2, _⟩
    · rw [List.length_map] at h0; omega
    · injection e2 with e2
      subst e2
      exact hr4.lies (w' := w4) ho h0
  have HBE := Lib.hid hbel
  have HRW := Lib.hid hrw
  have HLE := Lib.hid hlen
  clear hbel hrw hlen ho hr4 hn hg K5
  go_wp2_with fail
  refine HT.out _ _ ⟨A, c, ?_, ?_, HBE.out⟩
  · rw [hf, ← HLE.out]; rfl
  · rw [hf]; exact HRW.out
end Go.Proofs.YtagaaeolgecdmaaGreatDoor

namespace Go.Proofs.YtagaaeolgecdmaaGreatDoor
open Go.Joins Go.ChangeShapes Go.WideShapes Go.ChangeAt Go.RowKit Go.Deep
set_option linter.unusedVariables false
set_option linter.unusedSimpArgs false

set_option maxHeartbeats 1000000 in
theorem sameRows_any (A B : Option Addr) (c d n : Nat) (xss : List (List Int)) (w : World) (hx : RwL w A xss) (hy : RwL w B xss) (hn : xss.length = n) (hl : n ≤ maxLen) (hs : ∀ zs ∈ xss, zs.length ≤ maxLen) :
    Calls Tryz.prog 21 #[.slice A n c, .slice B n d] w fun e w' => e = .returned (.bool true) ∧ Below w.heap.size w w' := by
  unfold maxLen at hl
  have HX := Lib.hid hx
  have HY := Lib.hid hy
  have HN := Lib.hid hn
  have HS := Lib.hid hs
  clear hx hy hn hs
  go_enter Tryz.func21, Tryz.ntmps21
  go_wp2_with fail
  go_loopw [5] (fun i wr => ∃ k : Nat, k ≤ n ∧ i = .int .i64 k ∧ Hid (Below w.heap.size w wr)) (fun i _ => n - (intOf i).toNat)
  case atStart => exact ⟨0, by omega, rfl, Lib.hid (Below.refl _ _)⟩
  case round =>
    obtain ⟨k, hk, rfl, HB⟩ := hrel
    by_cases hlt : k < n
    · obtain ⟨x, hx⟩ := at_some (show k < xss.length by rw [HN.out]; exact hlt)
      obtain ⟨b, off, B0, d0, rfl, hblt, e0, hi0⟩ := (HX.out.below HB.out).at_ hx
      obtain ⟨b', off', B1, d1, rfl, hblt', e1, hi1'⟩ := (HY.out.below HB.out).at_ hx
      have hi1 : (0 : Int) ≤ (k : Int) := by omega
      have hi2 : (k : Int) < (n : Int) := by omega
      have hk6 := fun w h1 h2 => eqM_any B0 B1 d0 d1 x x w h1 h2 (HS.out x (List.mem_of_getElem? hx)) (HS.out x (List.mem_of_getElem? hx))
      rw [decide_eq_true rfl] at hk6
      have K6 := Lib.hid hk6
      have HI0 := Lib.hid hi0
      have HI1 := Lib.hid hi1'
      have hB := HB.out
      clear hx hi0 hi1' hk6 HB
      go_wp2_with fail
      go_region_held3 (fun w' => w'.cell? ⟨b, off + k, none⟩ = some (.slice B0 x.length d0) ∧ w'.cell? ⟨b', off' + k, none⟩ = some (.slice B1 x.length d1)) (go_keep) (first | (go_at_call 53; ((with_reducible refine (K6.out _ (HI0.out.below (by go_grown)) (HI1.out.below (by go_grown))).mono ?_); rintro e w' ⟨rfl, hb⟩); replace e0 := (hb.cell (p := ⟨b, off + k, none⟩) (by first | omega | (simp; done) | (simp; omega))).trans e0; replace e1 := (hb.cell (p := ⟨b', off' + k, none⟩) (by first | omega | (simp; done) | (simp; omega))).trans e1; replace hB := more (W1 := _) (B := w.heap.size) (W0 := w) (by go_grown) (Nat.le_refl _) hb; clear hb))
      go_wp2_with fail
      go_roundw
      case rel => exact ⟨k + 1, by omega, by go_num, Lib.hid hB⟩
      case measure => simp [intOf]; omega
    · obtain rfl : k = n := by omega
      go_wp2_with fail
      go_ret
      exact ⟨rfl, HB.out⟩
set_option maxRecDepth 100000 in
set_option maxHeartbeats 1000000 in
theorem hasText2_any (x s : ByteArray) (w : World) (hx : x.size ≤ 1000000000) (hs : s.size ≤ 1000000) :
    Calls Tryz.prog 24 #[.string x, .string s] w fun e w' => e = .returned (.bool (hasB x s)) ∧ w = w' := by
  obtain ⟨r, hr⟩ : ∃ r, hasB x s = r := ⟨_, rfl⟩
  have k := hasText_any x s w hx hs
  rw [hr] at k ⊢
  have K := Lib.hid k
  clear k hr
  go_enter Tryz.func24, Tryz.ntmps24
  go_wp2_with fail
  refine K.out.mono ?_
  rintro e w' ⟨rfl, rfl⟩
  go_wp2_with fail
  go_ret
  exact ⟨rfl, rfl⟩
end Go.Proofs.YtagaaeolgecdmaaGreatDoor
