/- The law FnExactFindAll answers true at every tree and rule, and leaves them as they were, where the library's variables stand. -/
import Derived.Test.YtmfibedcloknlaaGreatDoorFnaM
import Derived.Test.YtmfibedcloknlaaGreatDoorFnbM
import Derived.Test.YtmfibedcloknlaaGreatDoorTre4
import Derived.Test.YtmfibedcloknlaaGreatDoorTre17
import Derived.Deep.RegionHeld3
namespace Go.Proofs.YtmfibedcloknlaaGreatDoor.fnExactFindAll
open Go.Joins Go.ChangeShapes Go.WideShapes Go.ChangeAt Go.RowKit Go.Deep
open List renaming getElem_toArray → qa, getElem_cons_zero → qb, getElem_cons_succ → qc, setIfInBounds_toArray → qd, set_cons_zero → qe, set_cons_succ → qf
set_option linter.unusedVariables false
set_option linter.unusedSimpArgs false

/-- Rows that stand below L, as a world held them. -/
def RwQ (L : Nat) (w : World) (A : Option Addr) (xss : List (List Int)) : Prop := ∃ w3 : World, w3.heap.size = L ∧ RwL w3 A xss ∧ Below L w3 w
theorem RwQ.start {w : World} {L : Nat} {A : Option Addr} {xss : List (List Int)} (h : RwL w A xss) (hL : w.heap.size = L) : RwQ L w A xss := ⟨w, hL, h, Below.refl _ _⟩
theorem RwQ.below {w w' : World} {L : Nat} {A : Option Addr} {xss : List (List Int)} (h : RwQ L w A xss) (hb : Below w.heap.size w w') : RwQ L w' A xss := by
  obtain ⟨w3, e, h1, h2⟩ := h
  have hs := h2.size
  exact ⟨w3, e, h1, h2.trans (hb.mono (by omega))⟩
theorem RwQ.turn {w w' : World} {L lo hi : Nat} {A : Option Addr} {xss : List (List Int)} (h : RwQ L w A xss) (ht : Turn lo hi w w') (hl : L ≤ lo) : RwQ L w' A xss := by
  obtain ⟨w3, e, h1, h2⟩ := h
  have hs := h2.size
  exact ⟨w3, e, h1, h2.trans (ht.below hl (by omega))⟩
theorem RwQ.lies {w : World} {L : Nat} {A : Option Addr} {xss : List (List Int)} (h : RwQ L w A xss) : RwL w A xss := by
  obtain ⟨w3, rfl, h1, h2⟩ := h
  exact h1.below h2
theorem totR_le : ∀ zs : List (List Int), (∀ z ∈ zs, z.length ≤ 200) → totR zs ≤ 200 * zs.length
  | [], _ => by simp [totR]
  | z :: zs, h => by
    have h1 := h z (by simp)
    have h2 := totR_le zs (fun y hy => h y (List.mem_cons_of_mem _ hy))
    simp only [totR, List.length_cons]
    omega
theorem lkx_lies {xss : List (List Int)} {w w' : World} {e : Ending} (h : LkX xss w e w') : ∃ A c, e = .returned (.slice A xss.length c) ∧ RwL w' A xss ∧ Below w.heap.size w w' := by
  obtain ⟨A, c, rfl, h1, h2⟩ := h
  exact ⟨A, c, rfl, h1.rows.lies, h2⟩
theorem way_len : ∀ t : Tr, ∀ (way : List Nat), ∀ y ∈ partsT way t, y.1.length + 1 ≤ way.length + sizeT t := Tr.by_kids fun t ih way y hy => by
  rw [partsT_eq] at hy
  rcases List.mem_cons.1 hy with rfl | hy
  · have := sizeT_pos t
    dsimp only
    omega
  · have hL : ∀ (ks : List Tr), (∀ x ∈ ks, x ∈ t.ks) → ∀ i, y ∈ partsL way i ks → y.1.length + 1 ≤ way.length + sizeT t := by
      intro ks
      induction ks with
      | nil => intro _ i h; rw [partsL_nil] at h; cases h
      | cons x xs ihx =>
        intro hm i h
        rw [show partsL way i (x :: xs) = partsT (way ++ [i]) x ++ partsL way (i + 1) xs by simp only [partsL]] at h
        rcases List.mem_append.1 h with h | h
        · have h1 := ih x (hm x (by simp)) _ y h
          have h2 := sizeT_kid (hm x (by simp))
          rw [List.length_append, List.length_singleton] at h1
          omega
        · exact ihx (fun z hz => hm z (List.mem_cons_of_mem _ hz)) _ h
    exact hL t.ks (fun x hx => hx) 0 hy
theorem faV_len (x : Ru) (t : Tr) : (faV x t).length ≤ 200 := by
  unfold faV
  split
  · rename_i h
    rw [Bool.and_eq_true] at h
    unfold findA
    rw [List.length_map]
    exact Nat.le_trans (selP_sub _ _).length_le (by rw [partsT_length]; exact size_small9 h.1)
  · simp
theorem faV_ways (x : Ru) (t : Tr) : ∀ y ∈ faV x t, y.length ≤ 200 := by
  unfold faV
  split
  · rename_i h
    rw [Bool.and_eq_true] at h
    intro y hy
    obtain ⟨q, hq, rfl⟩ := List.mem_map.1 hy
    have h1 := way_len t [] q ((selP_sub _ _).subset hq)
    have h2 := size_small9 h.1
    simp only [List.length_nil] at h1
    omega
  · simp
set_option maxRecDepth 100000 in
set_option maxHeartbeats 8000000 in
theorem walk (t : Tr) (x : Ru) (A0 A1 : Option Addr) (c0 c1 : Nat) (w : World) (hT : Vs w) (hsm : SmT t) (hkw : szT t ≤ 1048576 → KwT t) (hp : PrL w A0 t.ps) (hk : TrL w 0 A1 t.ks) (hst : x.v.s.size ≤ maxLen) :
    Calls Tryz.prog 6 #[.agg #[.int .i64 t.tag, .int .i64 t.key, .string t.text, .slice A0 t.ps.length c0, .slice A1 t.ks.length c1], .agg #[.int .i64 x.t, .int .i64 x.a, .int .i64 x.nm, .int .i64 x.v.k, .int .i64 x.v.n, .string x.v.s, .int .i64 x.l, .int .i64 x.g]] w fun e w' => e = .returned (.bool true) ∧ Below w.heap.size w w' := by
  have hz := szTree_any t hsm 1048576 A0 A1 c0 c1
  have hzr := fun left w h h0 => szRu_any x left w h h0 hst
  have hzrp := szRu_pos x
  have k1 := fun h => toTree_any t (BdT.of_sz t h)
  have k1o := fun h => toTree_own t (BdT.of_sz t h)
  have k2 := fun A0 A1 c0 c1 w hp hk => (sFindAll_any t x hsm A0 A1 c0 c1 w hp hk).mono (fun e w' h => lkx_lies h)
  have k3 := fun h A0 A1 c0 c1 w hv hp hk => (iFindAll_any Vs ⟨fun w w' h hb => h.next hb, fun s w hl hv => ishown_any s w hl hv⟩ t x hsm (hkw h) A0 A1 c0 c1 w hv hp hk).mono (fun e w' h => FaX.rows h)
  have k4 := eqTree_any t hsm
  have hml := faV_len x t
  have hmw := faV_ways x t
  obtain ⟨ws, hws⟩ : ∃ q, faV x t = q := ⟨_, rfl⟩
  rw [hws] at k2 k3 hml hmw
  obtain ⟨zs, hzs⟩ : ∃ q, ws.map natI = q := ⟨_, rfl⟩
  rw [hzs] at k2 k3
  have hnz : ws.length = zs.length := by rw [← hzs, List.length_map]
  have hzw : ∀ z ∈ zs, z.length ≤ 200 := fun z hz => by rw [← hzs] at hz; obtain ⟨y, hy, rfl⟩ := List.mem_map.1 hz; rw [natI_len]; exact hmw y hy
  rw [hnz] at k3 hml
  have htr := totR_le zs hzw
  have k6 := fun A B c d w ha hb => eqRows_any A B c d zs.length zs w ha hb rfl (by unfold maxLen; omega) (fun z hz => by have := hzw z hz; unfold maxLen; omega)
  have ki := fun lo hi A c w ho => markRows_any lo hi c 1 zs.length A zs w ho rfl (by omega) (fun z hz => by have := hzw z hz; omega) (by omega)
  have kh := fun A c w ho => (heldRows_any A c 1 zs.length zs w ho rfl (by omega) (fun z hz => by have := hzw z hz; omega) (by omega)).mono (fun e w' h => (show e = .returned (.int .i64 (1 + totR zs : Nat)) ∧ Below w.heap.size w w' from ⟨h.1, h.2 ▸ Below.refl _ _⟩))
  have km := fun h lo hi g0 g1 w ho hh => markTree_any t (BdT.of_sz t h) lo hi 1 t.ps.length t.ks.length (some ⟨g0, 0, none⟩) (some ⟨g1, 0, none⟩) w ho hh (by omega) (by have := wT_le t; rw [wT_eq] at this; omega)
  unfold ToT ToX at k1
  unfold ToOT ToO at k1o
  unfold EqT at k4
  unfold MktX at km
  have uo := fun w lo hi g0 g1 (h : TrO w lo hi [.int .i64 t.tag, .int .i64 t.key, .string t.text, .slice (some ⟨g0, 0, none⟩) t.ps.length t.ps.length, .slice (some ⟨g1, 0, none⟩) t.ks.length t.ks.length] t) => h.use
  have hzp := szT_pos t
  obtain ⟨u, hu⟩ : ∃ u, szT t = u := ⟨_, rfl⟩
  rw [hu] at hz hzp k1 k1o k3 km
  obtain ⟨ur, hur⟩ : ∃ u, szRu x = u := ⟨_, rfl⟩
  rw [hur] at hzr hzrp
  obtain ⟨nz, hnz2⟩ : ∃ m, zs.length = m := ⟨_, rfl⟩
  rw [hnz2] at k2 k3 k6 ki kh hml
  obtain ⟨m, hm⟩ : ∃ m, totR zs = m := ⟨_, rfl⟩
  rw [hm] at ki kh
  clear hsm hkw hu hm hzs hnz hnz2 hzw htr hmw hws hur hst
  obtain ⟨wk, hwk⟩ : ∃ q, wL t.ks = q := ⟨_, rfl⟩
  rw [hwk] at km
  clear hwk
  obtain ⟨tag, key, text, ps, ks⟩ := t
  dsimp only [Tr.tag, Tr.key, Tr.text, Tr.ps, Tr.ks] at *
  generalize ps.length = np at *
  generalize ks.length = n at *
  have hb0 : Below w.heap.size w ((w.alloc (.cells #[.int .i64 tag, .int .i64 key, .string text, .slice A0 np c0, .slice A1 n c1] 50)).alloc (.cells #[.int .i64 x.t, .int .i64 x.a, .int .i64 x.nm, .int .i64 x.v.k, .int .i64 x.v.n, .string x.v.s, .int .i64 x.l, .int .i64 x.g] 64)) := (Below.alloc (Below.refl w.heap.size w) (Nat.le_refl _) _).alloc (by simp) _
  have HB0 := Lib.hid hb0
  have HP := Lib.hid (hp.below hb0)
  have HK := Lib.hid (hk.below hb0)
  have HT := Lib.hid (hT.next hb0)
  have hbr : w.heap.size + 1 < ((w.alloc (.cells #[.int .i64 tag, .int .i64 key, .string text, .slice A0 np c0, .slice A1 n c1] 50)).alloc (.cells #[.int .i64 x.t, .int .i64 x.a, .int .i64 x.nm, .int .i64 x.v.k, .int .i64 x.v.n, .string x.v.s, .int .i64 x.l, .int .i64 x.g] 64)).heap.size := by simp
  have hba : w.heap.size < ((w.alloc (.cells #[.int .i64 tag, .int .i64 key, .string text, .slice A0 np c0, .slice A1 n c1] 50)).alloc (.cells #[.int .i64 x.t, .int .i64 x.a, .int .i64 x.nm, .int .i64 x.v.k, .int .i64 x.v.n, .string x.v.s, .int .i64 x.l, .int .i64 x.g] 64)).heap.size := Nat.lt_of_succ_lt hbr
  have f0 : ((w.alloc (.cells #[.int .i64 tag, .int .i64 key, .string text, .slice A0 np c0, .slice A1 n c1] 50)).alloc (.cells #[.int .i64 x.t, .int .i64 x.a, .int .i64 x.nm, .int .i64 x.v.k, .int .i64 x.v.n, .string x.v.s, .int .i64 x.l, .int .i64 x.g] 64)).cell? ⟨w.heap.size, 0, none⟩ = some (.int .i64 tag) := by rw [Below.cell (Below.alloc (Below.refl (w.alloc (.cells #[.int .i64 tag, .int .i64 key, .string text, .slice A0 np c0, .slice A1 n c1] 50)).heap.size _) (Nat.le_refl _) _) (p := ⟨w.heap.size, 0, none⟩) (by simp), World.cell?_alloc_new]; rfl
  have f1 : ((w.alloc (.cells #[.int .i64 tag, .int .i64 key, .string text, .slice A0 np c0, .slice A1 n c1] 50)).alloc (.cells #[.int .i64 x.t, .int .i64 x.a, .int .i64 x.nm, .int .i64 x.v.k, .int .i64 x.v.n, .string x.v.s, .int .i64 x.l, .int .i64 x.g] 64)).cell? ⟨w.heap.size, 1, none⟩ = some (.int .i64 key) := by rw [Below.cell (Below.alloc (Below.refl (w.alloc (.cells #[.int .i64 tag, .int .i64 key, .string text, .slice A0 np c0, .slice A1 n c1] 50)).heap.size _) (Nat.le_refl _) _) (p := ⟨w.heap.size, 1, none⟩) (by simp), World.cell?_alloc_new]; rfl
  have f2 : ((w.alloc (.cells #[.int .i64 tag, .int .i64 key, .string text, .slice A0 np c0, .slice A1 n c1] 50)).alloc (.cells #[.int .i64 x.t, .int .i64 x.a, .int .i64 x.nm, .int .i64 x.v.k, .int .i64 x.v.n, .string x.v.s, .int .i64 x.l, .int .i64 x.g] 64)).cell? ⟨w.heap.size, 2, none⟩ = some (.string text) := by rw [Below.cell (Below.alloc (Below.refl (w.alloc (.cells #[.int .i64 tag, .int .i64 key, .string text, .slice A0 np c0, .slice A1 n c1] 50)).heap.size _) (Nat.le_refl _) _) (p := ⟨w.heap.size, 2, none⟩) (by simp), World.cell?_alloc_new]; rfl
  have f3 : ((w.alloc (.cells #[.int .i64 tag, .int .i64 key, .string text, .slice A0 np c0, .slice A1 n c1] 50)).alloc (.cells #[.int .i64 x.t, .int .i64 x.a, .int .i64 x.nm, .int .i64 x.v.k, .int .i64 x.v.n, .string x.v.s, .int .i64 x.l, .int .i64 x.g] 64)).cell? ⟨w.heap.size, 3, none⟩ = some (.slice A0 np c0) := by rw [Below.cell (Below.alloc (Below.refl (w.alloc (.cells #[.int .i64 tag, .int .i64 key, .string text, .slice A0 np c0, .slice A1 n c1] 50)).heap.size _) (Nat.le_refl _) _) (p := ⟨w.heap.size, 3, none⟩) (by simp), World.cell?_alloc_new]; rfl
  have f4 : ((w.alloc (.cells #[.int .i64 tag, .int .i64 key, .string text, .slice A0 np c0, .slice A1 n c1] 50)).alloc (.cells #[.int .i64 x.t, .int .i64 x.a, .int .i64 x.nm, .int .i64 x.v.k, .int .i64 x.v.n, .string x.v.s, .int .i64 x.l, .int .i64 x.g] 64)).cell? ⟨w.heap.size, 4, none⟩ = some (.slice A1 n c1) := by rw [Below.cell (Below.alloc (Below.refl (w.alloc (.cells #[.int .i64 tag, .int .i64 key, .string text, .slice A0 np c0, .slice A1 n c1] 50)).heap.size _) (Nat.le_refl _) _) (p := ⟨w.heap.size, 4, none⟩) (by simp), World.cell?_alloc_new]; rfl
  have y0 : ((w.alloc (.cells #[.int .i64 tag, .int .i64 key, .string text, .slice A0 np c0, .slice A1 n c1] 50)).alloc (.cells #[.int .i64 x.t, .int .i64 x.a, .int .i64 x.nm, .int .i64 x.v.k, .int .i64 x.v.n, .string x.v.s, .int .i64 x.l, .int .i64 x.g] 64)).cell? ⟨w.heap.size + 1, 0, none⟩ = some (.int .i64 x.t) := by have h : ((w.alloc (.cells #[.int .i64 tag, .int .i64 key, .string text, .slice A0 np c0, .slice A1 n c1] 50)).alloc (.cells #[.int .i64 x.t, .int .i64 x.a, .int .i64 x.nm, .int .i64 x.v.k, .int .i64 x.v.n, .string x.v.s, .int .i64 x.l, .int .i64 x.g] 64)).cell? ⟨(w.alloc (.cells #[.int .i64 tag, .int .i64 key, .string text, .slice A0 np c0, .slice A1 n c1] 50)).heap.size, 0, none⟩ = some (.int .i64 x.t) := (by rw [World.cell?_alloc_new]; rfl); rw [World.size_alloc] at h; exact h
  have y1 : ((w.alloc (.cells #[.int .i64 tag, .int .i64 key, .string text, .slice A0 np c0, .slice A1 n c1] 50)).alloc (.cells #[.int .i64 x.t, .int .i64 x.a, .int .i64 x.nm, .int .i64 x.v.k, .int .i64 x.v.n, .string x.v.s, .int .i64 x.l, .int .i64 x.g] 64)).cell? ⟨w.heap.size + 1, 1, none⟩ = some (.int .i64 x.a) := by have h : ((w.alloc (.cells #[.int .i64 tag, .int .i64 key, .string text, .slice A0 np c0, .slice A1 n c1] 50)).alloc (.cells #[.int .i64 x.t, .int .i64 x.a, .int .i64 x.nm, .int .i64 x.v.k, .int .i64 x.v.n, .string x.v.s, .int .i64 x.l, .int .i64 x.g] 64)).cell? ⟨(w.alloc (.cells #[.int .i64 tag, .int .i64 key, .string text, .slice A0 np c0, .slice A1 n c1] 50)).heap.size, 1, none⟩ = some (.int .i64 x.a) := (by rw [World.cell?_alloc_new]; rfl); rw [World.size_alloc] at h; exact h
  have y2 : ((w.alloc (.cells #[.int .i64 tag, .int .i64 key, .string text, .slice A0 np c0, .slice A1 n c1] 50)).alloc (.cells #[.int .i64 x.t, .int .i64 x.a, .int .i64 x.nm, .int .i64 x.v.k, .int .i64 x.v.n, .string x.v.s, .int .i64 x.l, .int .i64 x.g] 64)).cell? ⟨w.heap.size + 1, 2, none⟩ = some (.int .i64 x.nm) := by have h : ((w.alloc (.cells #[.int .i64 tag, .int .i64 key, .string text, .slice A0 np c0, .slice A1 n c1] 50)).alloc (.cells #[.int .i64 x.t, .int .i64 x.a, .int .i64 x.nm, .int .i64 x.v.k, .int .i64 x.v.n, .string x.v.s, .int .i64 x.l, .int .i64 x.g] 64)).cell? ⟨(w.alloc (.cells #[.int .i64 tag, .int .i64 key, .string text, .slice A0 np c0, .slice A1 n c1] 50)).heap.size, 2, none⟩ = some (.int .i64 x.nm) := (by rw [World.cell?_alloc_new]; rfl); rw [World.size_alloc] at h; exact h
  have y3 : ((w.alloc (.cells #[.int .i64 tag, .int .i64 key, .string text, .slice A0 np c0, .slice A1 n c1] 50)).alloc (.cells #[.int .i64 x.t, .int .i64 x.a, .int .i64 x.nm, .int .i64 x.v.k, .int .i64 x.v.n, .string x.v.s, .int .i64 x.l, .int .i64 x.g] 64)).cell? ⟨w.heap.size + 1, 3, none⟩ = some (.int .i64 x.v.k) := by have h : ((w.alloc (.cells #[.int .i64 tag, .int .i64 key, .string text, .slice A0 np c0, .slice A1 n c1] 50)).alloc (.cells #[.int .i64 x.t, .int .i64 x.a, .int .i64 x.nm, .int .i64 x.v.k, .int .i64 x.v.n, .string x.v.s, .int .i64 x.l, .int .i64 x.g] 64)).cell? ⟨(w.alloc (.cells #[.int .i64 tag, .int .i64 key, .string text, .slice A0 np c0, .slice A1 n c1] 50)).heap.size, 3, none⟩ = some (.int .i64 x.v.k) := (by rw [World.cell?_alloc_new]; rfl); rw [World.size_alloc] at h; exact h
  have y4 : ((w.alloc (.cells #[.int .i64 tag, .int .i64 key, .string text, .slice A0 np c0, .slice A1 n c1] 50)).alloc (.cells #[.int .i64 x.t, .int .i64 x.a, .int .i64 x.nm, .int .i64 x.v.k, .int .i64 x.v.n, .string x.v.s, .int .i64 x.l, .int .i64 x.g] 64)).cell? ⟨w.heap.size + 1, 4, none⟩ = some (.int .i64 x.v.n) := by have h : ((w.alloc (.cells #[.int .i64 tag, .int .i64 key, .string text, .slice A0 np c0, .slice A1 n c1] 50)).alloc (.cells #[.int .i64 x.t, .int .i64 x.a, .int .i64 x.nm, .int .i64 x.v.k, .int .i64 x.v.n, .string x.v.s, .int .i64 x.l, .int .i64 x.g] 64)).cell? ⟨(w.alloc (.cells #[.int .i64 tag, .int .i64 key, .string text, .slice A0 np c0, .slice A1 n c1] 50)).heap.size, 4, none⟩ = some (.int .i64 x.v.n) := (by rw [World.cell?_alloc_new]; rfl); rw [World.size_alloc] at h; exact h
  have y5 : ((w.alloc (.cells #[.int .i64 tag, .int .i64 key, .string text, .slice A0 np c0, .slice A1 n c1] 50)).alloc (.cells #[.int .i64 x.t, .int .i64 x.a, .int .i64 x.nm, .int .i64 x.v.k, .int .i64 x.v.n, .string x.v.s, .int .i64 x.l, .int .i64 x.g] 64)).cell? ⟨w.heap.size + 1, 5, none⟩ = some (.string x.v.s) := by have h : ((w.alloc (.cells #[.int .i64 tag, .int .i64 key, .string text, .slice A0 np c0, .slice A1 n c1] 50)).alloc (.cells #[.int .i64 x.t, .int .i64 x.a, .int .i64 x.nm, .int .i64 x.v.k, .int .i64 x.v.n, .string x.v.s, .int .i64 x.l, .int .i64 x.g] 64)).cell? ⟨(w.alloc (.cells #[.int .i64 tag, .int .i64 key, .string text, .slice A0 np c0, .slice A1 n c1] 50)).heap.size, 5, none⟩ = some (.string x.v.s) := (by rw [World.cell?_alloc_new]; rfl); rw [World.size_alloc] at h; exact h
  have y6 : ((w.alloc (.cells #[.int .i64 tag, .int .i64 key, .string text, .slice A0 np c0, .slice A1 n c1] 50)).alloc (.cells #[.int .i64 x.t, .int .i64 x.a, .int .i64 x.nm, .int .i64 x.v.k, .int .i64 x.v.n, .string x.v.s, .int .i64 x.l, .int .i64 x.g] 64)).cell? ⟨w.heap.size + 1, 6, none⟩ = some (.int .i64 x.l) := by have h : ((w.alloc (.cells #[.int .i64 tag, .int .i64 key, .string text, .slice A0 np c0, .slice A1 n c1] 50)).alloc (.cells #[.int .i64 x.t, .int .i64 x.a, .int .i64 x.nm, .int .i64 x.v.k, .int .i64 x.v.n, .string x.v.s, .int .i64 x.l, .int .i64 x.g] 64)).cell? ⟨(w.alloc (.cells #[.int .i64 tag, .int .i64 key, .string text, .slice A0 np c0, .slice A1 n c1] 50)).heap.size, 6, none⟩ = some (.int .i64 x.l) := (by rw [World.cell?_alloc_new]; rfl); rw [World.size_alloc] at h; exact h
  have y7 : ((w.alloc (.cells #[.int .i64 tag, .int .i64 key, .string text, .slice A0 np c0, .slice A1 n c1] 50)).alloc (.cells #[.int .i64 x.t, .int .i64 x.a, .int .i64 x.nm, .int .i64 x.v.k, .int .i64 x.v.n, .string x.v.s, .int .i64 x.l, .int .i64 x.g] 64)).cell? ⟨w.heap.size + 1, 7, none⟩ = some (.int .i64 x.g) := by have h : ((w.alloc (.cells #[.int .i64 tag, .int .i64 key, .string text, .slice A0 np c0, .slice A1 n c1] 50)).alloc (.cells #[.int .i64 x.t, .int .i64 x.a, .int .i64 x.nm, .int .i64 x.v.k, .int .i64 x.v.n, .string x.v.s, .int .i64 x.l, .int .i64 x.g] 64)).cell? ⟨(w.alloc (.cells #[.int .i64 tag, .int .i64 key, .string text, .slice A0 np c0, .slice A1 n c1] 50)).heap.size, 7, none⟩ = some (.int .i64 x.g) := (by rw [World.cell?_alloc_new]; rfl); rw [World.size_alloc] at h; exact h
  have HX := Lib.hid (Below.refl ((w.alloc (.cells #[.int .i64 tag, .int .i64 key, .string text, .slice A0 np c0, .slice A1 n c1] 50)).alloc (.cells #[.int .i64 x.t, .int .i64 x.a, .int .i64 x.nm, .int .i64 x.v.k, .int .i64 x.v.n, .string x.v.s, .int .i64 x.l, .int .i64 x.g] 64)).heap.size ((w.alloc (.cells #[.int .i64 tag, .int .i64 key, .string text, .slice A0 np c0, .slice A1 n c1] 50)).alloc (.cells #[.int .i64 x.t, .int .i64 x.a, .int .i64 x.nm, .int .i64 x.v.k, .int .i64 x.v.n, .string x.v.s, .int .i64 x.l, .int .i64 x.g] 64)))
  obtain ⟨w0, hw0⟩ : ∃ v, ((w.alloc (.cells #[.int .i64 tag, .int .i64 key, .string text, .slice A0 np c0, .slice A1 n c1] 50)).alloc (.cells #[.int .i64 x.t, .int .i64 x.a, .int .i64 x.nm, .int .i64 x.v.k, .int .i64 x.v.n, .string x.v.s, .int .i64 x.l, .int .i64 x.g] 64)) = v := ⟨_, rfl⟩
  rw [hw0] at HB0 HP HK HT hba hbr f0 f1 f2 f3 f4 y0 y1 y2 y3 y4 y5 y6 y7 HX
  have hZ := fun w hp hk => hz w hp hk (by omega) (by omega)
  clear hp hk hT hz hb0
  by_cases hl : (1048576 : Int) < u
  · rw [leftV_neg hl] at hZ
    have HZ := Lib.hid hZ
    clear hZ k1 k1o k2 k3 k4 k6 ki kh km uo hzr
    go_enter Tryz.func6, Tryz.ntmps6
    go_wp2_with fail
    (try rw [hw0])
    refine (HZ.out _ HP.out HK.out).mono ?_
    rintro e w1 ⟨rfl, hb⟩
    go_wp2_with fail
    go_ret
    exact ⟨rfl, HB0.out.trans (hb.mono HB0.out.size)⟩
  rw [leftV_pos (by omega)] at hZ
  have hle : u ≤ 1048576 := by omega
  obtain ⟨y, hzz⟩ : ∃ y, (1048576 : Int) - u = y := ⟨_, rfl⟩
  have hy0 : 0 ≤ y := by omega
  rw [hzz] at hZ
  have HZ := Lib.hid hZ
  have hZ2 := fun w => hzr y w (by omega) hy0
  clear hzr hZ
  by_cases hl2 : y < ur
  · rw [leftV_neg hl2] at hZ2
    have HZ2 := Lib.hid hZ2
    clear hZ2 k1 k1o k2 k3 k4 k6 ki kh km uo
    go_enter Tryz.func6, Tryz.ntmps6
    go_wp2_with fail
    (try rw [hw0])
    refine (HZ.out _ HP.out HK.out).mono ?_
    rintro e w1 ⟨rfl, hb⟩
    have HB1 := Lib.hid hb
    replace y0 := (hb.cell (p := ⟨w.heap.size + 1, 0, none⟩) hbr).trans y0
    replace y1 := (hb.cell (p := ⟨w.heap.size + 1, 1, none⟩) hbr).trans y1
    replace y2 := (hb.cell (p := ⟨w.heap.size + 1, 2, none⟩) hbr).trans y2
    replace y3 := (hb.cell (p := ⟨w.heap.size + 1, 3, none⟩) hbr).trans y3
    replace y4 := (hb.cell (p := ⟨w.heap.size + 1, 4, none⟩) hbr).trans y4
    replace y5 := (hb.cell (p := ⟨w.heap.size + 1, 5, none⟩) hbr).trans y5
    replace y6 := (hb.cell (p := ⟨w.heap.size + 1, 6, none⟩) hbr).trans y6
    replace y7 := (hb.cell (p := ⟨w.heap.size + 1, 7, none⟩) hbr).trans y7
    clear hb
    go_wp2_with fail
    refine (HZ2.out _).mono ?_
    rintro e w2 ⟨rfl, hb⟩
    have HB2 := Lib.hid (more HB1.out (Nat.le_refl _) hb)
    clear hb
    go_wp2_with fail
    go_ret
    exact ⟨rfl, HB0.out.trans (HB2.out.mono HB0.out.size)⟩
  rw [leftV_pos (by omega)] at hZ2
  obtain ⟨y9, hzz2⟩ : ∃ y2, y - ur = y2 := ⟨_, rfl⟩
  have hy2 : 0 ≤ y9 := by omega
  rw [hzz2] at hZ2
  have HZ2 := Lib.hid hZ2
  have KR := Lib.hid (fun w => toRu_any x w)
  have K1 := Lib.hid (fun w hp hk => k1 hle A0 A1 c0 c1 w hp hk)
  have K1O := Lib.hid (fun w hp hk => k1o hle A0 A1 c0 c1 w hp hk)
  have K2 := Lib.hid (fun g0 g1 w hp hk => k2 (some ⟨g0, 0, none⟩) (some ⟨g1, 0, none⟩) np n w hp hk)
  have K3 := Lib.hid (fun g0 g1 w hv hp hk => k3 hle (some ⟨g0, 0, none⟩) (some ⟨g1, 0, none⟩) np n w hv hp hk)
  have K4 := Lib.hid (fun g0 g1 h0 h1 w hp hk hq hj => k4 (some ⟨g0, 0, none⟩) (some ⟨g1, 0, none⟩) (some ⟨h0, 0, none⟩) (some ⟨h1, 0, none⟩) np n np n w hp hk hq hj)
  have K6 := Lib.hid k6
  have KI := Lib.hid ki
  have KH := Lib.hid kh
  have KM := Lib.hid (fun lo hi g0 g1 w ho hh => km hle lo hi g0 g1 w ho hh)
  have UO := Lib.hid uo
  clear hZ2 k1 k1o k2 k3 k4 k6 ki kh km uo hzz hzz2 hl hl2 hle hzp hml hzrp
  obtain ⟨ba, hbaq⟩ : ∃ q, w.heap.size = q := ⟨_, rfl⟩
  rw [hbaq] at f0 f1 f2 f3 f4 hba y0 y1 y2 y3 y4 y5 y6 y7 hbr
  obtain ⟨br, hbrq⟩ : ∃ q, ba + 1 = q := ⟨_, rfl⟩
  rw [hbrq] at y0 y1 y2 y3 y4 y5 y6 y7 hbr
  go_enter Tryz.func6, Tryz.ntmps6
  go_wp2_with fail
  (try rw [hw0])
  (try rw [hbaq])
  (try rw [hbrq])
  refine (HZ.out _ HP.out HK.out).mono ?_
  rintro e w1 ⟨rfl, hb⟩
  replace f0 := (hb.cell (p := ⟨ba, 0, none⟩) (by first | omega | (dsimp only; omega))).trans f0
  replace f1 := (hb.cell (p := ⟨ba, 1, none⟩) (by first | omega | (dsimp only; omega))).trans f1
  replace f2 := (hb.cell (p := ⟨ba, 2, none⟩) (by first | omega | (dsimp only; omega))).trans f2
  replace f3 := (hb.cell (p := ⟨ba, 3, none⟩) (by first | omega | (dsimp only; omega))).trans f3
  replace f4 := (hb.cell (p := ⟨ba, 4, none⟩) (by first | omega | (dsimp only; omega))).trans f4
  replace y0 := (hb.cell (p := ⟨br, 0, none⟩) (by first | omega | (dsimp only; omega))).trans y0
  replace y1 := (hb.cell (p := ⟨br, 1, none⟩) (by first | omega | (dsimp only; omega))).trans y1
  replace y2 := (hb.cell (p := ⟨br, 2, none⟩) (by first | omega | (dsimp only; omega))).trans y2
  replace y3 := (hb.cell (p := ⟨br, 3, none⟩) (by first | omega | (dsimp only; omega))).trans y3
  replace y4 := (hb.cell (p := ⟨br, 4, none⟩) (by first | omega | (dsimp only; omega))).trans y4
  replace y5 := (hb.cell (p := ⟨br, 5, none⟩) (by first | omega | (dsimp only; omega))).trans y5
  replace y6 := (hb.cell (p := ⟨br, 6, none⟩) (by first | omega | (dsimp only; omega))).trans y6
  replace y7 := (hb.cell (p := ⟨br, 7, none⟩) (by first | omega | (dsimp only; omega))).trans y7
  replace HX := Lib.hid (more HX.out (Nat.le_refl _) hb)
  have hsz1 : w0.heap.size ≤ w1.heap.size := hb.size
  replace hba : ba < w1.heap.size := Nat.lt_of_lt_of_le hba hsz1
  replace hbr : br < w1.heap.size := Nat.lt_of_lt_of_le hbr hsz1
  clear hb hsz1 HZ
  go_wp2_with fail
  refine (HZ2.out _).mono ?_
  rintro e w1b ⟨rfl, hb⟩
  replace f0 := (hb.cell (p := ⟨ba, 0, none⟩) (by first | omega | (dsimp only; omega))).trans f0
  replace f1 := (hb.cell (p := ⟨ba, 1, none⟩) (by first | omega | (dsimp only; omega))).trans f1
  replace f2 := (hb.cell (p := ⟨ba, 2, none⟩) (by first | omega | (dsimp only; omega))).trans f2
  replace f3 := (hb.cell (p := ⟨ba, 3, none⟩) (by first | omega | (dsimp only; omega))).trans f3
  replace f4 := (hb.cell (p := ⟨ba, 4, none⟩) (by first | omega | (dsimp only; omega))).trans f4
  replace y0 := (hb.cell (p := ⟨br, 0, none⟩) (by first | omega | (dsimp only; omega))).trans y0
  replace y1 := (hb.cell (p := ⟨br, 1, none⟩) (by first | omega | (dsimp only; omega))).trans y1
  replace y2 := (hb.cell (p := ⟨br, 2, none⟩) (by first | omega | (dsimp only; omega))).trans y2
  replace y3 := (hb.cell (p := ⟨br, 3, none⟩) (by first | omega | (dsimp only; omega))).trans y3
  replace y4 := (hb.cell (p := ⟨br, 4, none⟩) (by first | omega | (dsimp only; omega))).trans y4
  replace y5 := (hb.cell (p := ⟨br, 5, none⟩) (by first | omega | (dsimp only; omega))).trans y5
  replace y6 := (hb.cell (p := ⟨br, 6, none⟩) (by first | omega | (dsimp only; omega))).trans y6
  replace y7 := (hb.cell (p := ⟨br, 7, none⟩) (by first | omega | (dsimp only; omega))).trans y7
  replace HX := Lib.hid (more HX.out (Nat.le_refl _) hb)
  have hsz2 : w1.heap.size ≤ w1b.heap.size := hb.size
  replace hba : ba < w1b.heap.size := Nat.lt_of_lt_of_le hba hsz2
  replace hbr : br < w1b.heap.size := Nat.lt_of_lt_of_le hbr hsz2
  clear hb hsz2 HZ2
  go_wp2_with fail
  refine wp_region_held_drew (S := fun w' => Below w1b.heap.size w1b w' ∧ w'.cell? ⟨ba, 0, none⟩ = some (.int .i64 tag) ∧ w'.cell? ⟨ba, 1, none⟩ = some (.int .i64 key) ∧ w'.cell? ⟨ba, 2, none⟩ = some (.string text) ∧ w'.cell? ⟨ba, 3, none⟩ = some (.slice A0 np c0) ∧ w'.cell? ⟨ba, 4, none⟩ = some (.slice A1 n c1) ∧ w'.cell? ⟨br, 0, none⟩ = some (.int .i64 x.t) ∧ w'.cell? ⟨br, 1, none⟩ = some (.int .i64 x.a) ∧ w'.cell? ⟨br, 2, none⟩ = some (.int .i64 x.nm) ∧ w'.cell? ⟨br, 3, none⟩ = some (.int .i64 x.v.k) ∧ w'.cell? ⟨br, 4, none⟩ = some (.int .i64 x.v.n) ∧ w'.cell? ⟨br, 5, none⟩ = some (.string x.v.s) ∧ w'.cell? ⟨br, 6, none⟩ = some (.int .i64 x.l) ∧ w'.cell? ⟨br, 7, none⟩ = some (.int .i64 x.g)) (by kernel_rfl) ?_ (fun hHeld => ?_)
  · exact ⟨Below.drew (Below.refl _ _), f0, f1, f2, f3, f4, y0, y1, y2, y3, y4, y5, y6, y7⟩
  refine wpAnyH_take (i := 0) (oi := _) (v := ?_) rfl (by kernel_rfl) (by kernel_rfl) (by kernel_rfl) (fun _ _ _ h => h) (Or.inl ⟨by kernel_rfl, ?_⟩) (by assumption) ?_
  rotate_left
  · (intro w hSw; (try dsimp only at hSw); go_simp)
    try with_reducible rfl
  (try simp only [Act.put, qa, qb, qc, qd, qe, qf])
  refine wpAnyH_take (i := 2) (oi := _) (v := ?_) rfl (by kernel_rfl) (by kernel_rfl) (by kernel_rfl) (fun _ _ _ h => h) (Or.inl ⟨by kernel_rfl, ?_⟩) (by assumption) ?_
  rotate_left
  · (intro w hSw; (try dsimp only at hSw); go_simp)
    try with_reducible rfl
  (try simp only [Act.put, qa, qb, qc, qd, qe, qf])
  refine wpAnyH_ready (rs := [1]) (by kernel_rfl) (by simp) ?_
  refine AllReadyH.cons (o := _) rfl (fun K hK => ?_) AllReadyH.nil
  go_simp
  have hB0 := hHeld.1
  refine (K1.out _ (HP.out.below (more HX.out (Nat.le_refl _) hB0)) (HK.out.below (more HX.out (Nat.le_refl _) hB0))).mono ?_
  rintro e v0 ⟨g0, g1, rfl, hp, _, hk, hb⟩
  refine hK.out _ _ ?_ (fun hHeld2 => ?_)
  · obtain ⟨_, f0, f1, f2, f3, f4, y0, y1, y2, y3, y4, y5, y6, y7⟩ := hHeld
    exact ⟨hB0.trans (hb.mono hB0.size), (hb.cell (p := ⟨ba, 0, none⟩) (Nat.lt_of_lt_of_le hba hB0.size)).trans f0, (hb.cell (p := ⟨ba, 1, none⟩) (Nat.lt_of_lt_of_le hba hB0.size)).trans f1, (hb.cell (p := ⟨ba, 2, none⟩) (Nat.lt_of_lt_of_le hba hB0.size)).trans f2, (hb.cell (p := ⟨ba, 3, none⟩) (Nat.lt_of_lt_of_le hba hB0.size)).trans f3, (hb.cell (p := ⟨ba, 4, none⟩) (Nat.lt_of_lt_of_le hba hB0.size)).trans f4, (hb.cell (p := ⟨br, 0, none⟩) (Nat.lt_of_lt_of_le hbr hB0.size)).trans y0, (hb.cell (p := ⟨br, 1, none⟩) (Nat.lt_of_lt_of_le hbr hB0.size)).trans y1, (hb.cell (p := ⟨br, 2, none⟩) (Nat.lt_of_lt_of_le hbr hB0.size)).trans y2, (hb.cell (p := ⟨br, 3, none⟩) (Nat.lt_of_lt_of_le hbr hB0.size)).trans y3, (hb.cell (p := ⟨br, 4, none⟩) (Nat.lt_of_lt_of_le hbr hB0.size)).trans y4, (hb.cell (p := ⟨br, 5, none⟩) (Nat.lt_of_lt_of_le hbr hB0.size)).trans y5, (hb.cell (p := ⟨br, 6, none⟩) (Nat.lt_of_lt_of_le hbr hB0.size)).trans y6, (hb.cell (p := ⟨br, 7, none⟩) (Nat.lt_of_lt_of_le hbr hB0.size)).trans y7⟩
  have P1 := Lib.hid hp
  have Q1 := Lib.hid (hk.mono (Nat.zero_le _))
  clear hp hk
  clear hK K hb hB0 hHeld
  have hHeld := hHeld2
  clear hHeld2
  (try simp only [Act.put, qa, qb, qc, qd, qe, qf])
  refine wpAnyH_ready (rs := [3]) (by kernel_rfl) (by simp) ?_
  refine AllReadyH.cons (o := _) rfl (fun K hK => ?_) AllReadyH.nil
  go_simp
  have hB0 := hHeld.1
  refine (KR.out _).mono ?_
  rintro e v1 ⟨rfl, hb⟩
  refine hK.out _ _ ?_ (fun hHeld2 => ?_)
  · obtain ⟨_, f0, f1, f2, f3, f4, y0, y1, y2, y3, y4, y5, y6, y7⟩ := hHeld
    exact ⟨hB0.trans (hb.mono hB0.size), (hb.cell (p := ⟨ba, 0, none⟩) (Nat.lt_of_lt_of_le hba hB0.size)).trans f0, (hb.cell (p := ⟨ba, 1, none⟩) (Nat.lt_of_lt_of_le hba hB0.size)).trans f1, (hb.cell (p := ⟨ba, 2, none⟩) (Nat.lt_of_lt_of_le hba hB0.size)).trans f2, (hb.cell (p := ⟨ba, 3, none⟩) (Nat.lt_of_lt_of_le hba hB0.size)).trans f3, (hb.cell (p := ⟨ba, 4, none⟩) (Nat.lt_of_lt_of_le hba hB0.size)).trans f4, (hb.cell (p := ⟨br, 0, none⟩) (Nat.lt_of_lt_of_le hbr hB0.size)).trans y0, (hb.cell (p := ⟨br, 1, none⟩) (Nat.lt_of_lt_of_le hbr hB0.size)).trans y1, (hb.cell (p := ⟨br, 2, none⟩) (Nat.lt_of_lt_of_le hbr hB0.size)).trans y2, (hb.cell (p := ⟨br, 3, none⟩) (Nat.lt_of_lt_of_le hbr hB0.size)).trans y3, (hb.cell (p := ⟨br, 4, none⟩) (Nat.lt_of_lt_of_le hbr hB0.size)).trans y4, (hb.cell (p := ⟨br, 5, none⟩) (Nat.lt_of_lt_of_le hbr hB0.size)).trans y5, (hb.cell (p := ⟨br, 6, none⟩) (Nat.lt_of_lt_of_le hbr hB0.size)).trans y6, (hb.cell (p := ⟨br, 7, none⟩) (Nat.lt_of_lt_of_le hbr hB0.size)).trans y7⟩
  replace P1 := Lib.hid (P1.out.below hb)
  replace Q1 := Lib.hid (Q1.out.below hb)
  clear hK K hb hB0 hHeld
  have hHeld := hHeld2
  clear hHeld2
  (try simp only [Act.put, qa, qb, qc, qd, qe, qf])
  refine wpAnyH_ready (rs := [4]) (by kernel_rfl) (by simp) ?_
  refine AllReadyH.cons (o := _) rfl (fun K hK => ?_) AllReadyH.nil
  go_simp
  have hB0 := hHeld.1
  refine (K2.out _ _ _ P1.out Q1.out).mono ?_
  rintro e v2 ⟨R0, r0, rfl, ho, hb⟩
  refine hK.out _ _ ?_ (fun hHeld2 => ?_)
  · obtain ⟨_, f0, f1, f2, f3, f4, y0, y1, y2, y3, y4, y5, y6, y7⟩ := hHeld
    exact ⟨hB0.trans (hb.mono hB0.size), (hb.cell (p := ⟨ba, 0, none⟩) (Nat.lt_of_lt_of_le hba hB0.size)).trans f0, (hb.cell (p := ⟨ba, 1, none⟩) (Nat.lt_of_lt_of_le hba hB0.size)).trans f1, (hb.cell (p := ⟨ba, 2, none⟩) (Nat.lt_of_lt_of_le hba hB0.size)).trans f2, (hb.cell (p := ⟨ba, 3, none⟩) (Nat.lt_of_lt_of_le hba hB0.size)).trans f3, (hb.cell (p := ⟨ba, 4, none⟩) (Nat.lt_of_lt_of_le hba hB0.size)).trans f4, (hb.cell (p := ⟨br, 0, none⟩) (Nat.lt_of_lt_of_le hbr hB0.size)).trans y0, (hb.cell (p := ⟨br, 1, none⟩) (Nat.lt_of_lt_of_le hbr hB0.size)).trans y1, (hb.cell (p := ⟨br, 2, none⟩) (Nat.lt_of_lt_of_le hbr hB0.size)).trans y2, (hb.cell (p := ⟨br, 3, none⟩) (Nat.lt_of_lt_of_le hbr hB0.size)).trans y3, (hb.cell (p := ⟨br, 4, none⟩) (Nat.lt_of_lt_of_le hbr hB0.size)).trans y4, (hb.cell (p := ⟨br, 5, none⟩) (Nat.lt_of_lt_of_le hbr hB0.size)).trans y5, (hb.cell (p := ⟨br, 6, none⟩) (Nat.lt_of_lt_of_le hbr hB0.size)).trans y6, (hb.cell (p := ⟨br, 7, none⟩) (Nat.lt_of_lt_of_le hbr hB0.size)).trans y7⟩
  have HR0 := Lib.hid ho
  clear ho P1 Q1
  clear hK K hb hB0 hHeld
  have hHeld := hHeld2
  clear hHeld2
  (try simp only [Act.put, qa, qb, qc, qd, qe, qf])
  refine wpAnyH_take (i := 5) (oi := _) (v := ?_) rfl (by kernel_rfl) (by kernel_rfl) (by kernel_rfl) (fun _ _ _ h => h) (Or.inl ⟨by kernel_rfl, ?_⟩) (by assumption) ?_
  rotate_left
  · (intro w hSw; (try dsimp only at hSw); go_simp)
    try with_reducible rfl
  (try simp only [Act.put, qa, qb, qc, qd, qe, qf])
  refine wpAnyH_done (by kernel_rfl) ?_ _
  have hb := hHeld.1
  clear hHeld
  obtain ⟨w3, hlast⟩ : ∃ v, v2 = v := ⟨_, rfl⟩
  rw [hlast] at hb ⊢
  rw [hlast] at HR0
  obtain ⟨L, hL⟩ : ∃ q, w3.heap.size = q := ⟨_, rfl⟩
  have HR := Lib.hid (RwQ.start HR0.out hL)
  clear hlast HR0
  replace f0 := (hb.cell (p := ⟨ba, 0, none⟩) (by first | omega | (dsimp only; omega))).trans f0
  replace f1 := (hb.cell (p := ⟨ba, 1, none⟩) (by first | omega | (dsimp only; omega))).trans f1
  replace f2 := (hb.cell (p := ⟨ba, 2, none⟩) (by first | omega | (dsimp only; omega))).trans f2
  replace f3 := (hb.cell (p := ⟨ba, 3, none⟩) (by first | omega | (dsimp only; omega))).trans f3
  replace f4 := (hb.cell (p := ⟨ba, 4, none⟩) (by first | omega | (dsimp only; omega))).trans f4
  replace y0 := (hb.cell (p := ⟨br, 0, none⟩) (by first | omega | (dsimp only; omega))).trans y0
  replace y1 := (hb.cell (p := ⟨br, 1, none⟩) (by first | omega | (dsimp only; omega))).trans y1
  replace y2 := (hb.cell (p := ⟨br, 2, none⟩) (by first | omega | (dsimp only; omega))).trans y2
  replace y3 := (hb.cell (p := ⟨br, 3, none⟩) (by first | omega | (dsimp only; omega))).trans y3
  replace y4 := (hb.cell (p := ⟨br, 4, none⟩) (by first | omega | (dsimp only; omega))).trans y4
  replace y5 := (hb.cell (p := ⟨br, 5, none⟩) (by first | omega | (dsimp only; omega))).trans y5
  replace y6 := (hb.cell (p := ⟨br, 6, none⟩) (by first | omega | (dsimp only; omega))).trans y6
  replace y7 := (hb.cell (p := ⟨br, 7, none⟩) (by first | omega | (dsimp only; omega))).trans y7
  replace HX := Lib.hid (more HX.out (Nat.le_refl _) hb)
  have hsz3 : w1b.heap.size ≤ w3.heap.size := hb.size
  replace hba : ba < w3.heap.size := Nat.lt_of_lt_of_le hba hsz3
  replace hbr : br < w3.heap.size := Nat.lt_of_lt_of_le hbr hsz3
  have hLw : L ≤ w3.heap.size := by omega
  clear hb hsz3
  have hbaL : ba < L := by omega
  have hbrL : br < L := by omega
  have hB0L : w0.heap.size ≤ L := by have := HX.out.size; omega
  go_wp2_with fail
  refine (K1O.out _ (HP.out.below HX.out) (HK.out.below HX.out)).mono ?_
  rintro e w4 ⟨g2, g3, rfl, hto, hb⟩
  replace f0 := (hb.cell (p := ⟨ba, 0, none⟩) (by first | omega | (dsimp only; omega))).trans f0
  replace f1 := (hb.cell (p := ⟨ba, 1, none⟩) (by first | omega | (dsimp only; omega))).trans f1
  replace f2 := (hb.cell (p := ⟨ba, 2, none⟩) (by first | omega | (dsimp only; omega))).trans f2
  replace f3 := (hb.cell (p := ⟨ba, 3, none⟩) (by first | omega | (dsimp only; omega))).trans f3
  replace f4 := (hb.cell (p := ⟨ba, 4, none⟩) (by first | omega | (dsimp only; omega))).trans f4
  replace y0 := (hb.cell (p := ⟨br, 0, none⟩) (by first | omega | (dsimp only; omega))).trans y0
  replace y1 := (hb.cell (p := ⟨br, 1, none⟩) (by first | omega | (dsimp only; omega))).trans y1
  replace y2 := (hb.cell (p := ⟨br, 2, none⟩) (by first | omega | (dsimp only; omega))).trans y2
  replace y3 := (hb.cell (p := ⟨br, 3, none⟩) (by first | omega | (dsimp only; omega))).trans y3
  replace y4 := (hb.cell (p := ⟨br, 4, none⟩) (by first | omega | (dsimp only; omega))).trans y4
  replace y5 := (hb.cell (p := ⟨br, 5, none⟩) (by first | omega | (dsimp only; omega))).trans y5
  replace y6 := (hb.cell (p := ⟨br, 6, none⟩) (by first | omega | (dsimp only; omega))).trans y6
  replace y7 := (hb.cell (p := ⟨br, 7, none⟩) (by first | omega | (dsimp only; omega))).trans y7
  replace HX := Lib.hid (more HX.out (Nat.le_refl _) hb)
  replace HR := Lib.hid (HR.out.below hb)
  have hsz4 : w3.heap.size ≤ w4.heap.size := hb.size
  replace hba : ba < w4.heap.size := Nat.lt_of_lt_of_le hba hsz4
  replace hbr : br < w4.heap.size := Nat.lt_of_lt_of_le hbr hsz4
  have hba4 := Below.alloc (Below.refl w4.heap.size w4) (Nat.le_refl _) (.cells #[.int .i64 tag, .int .i64 key, .string text, .slice (some ⟨g2, 0, none⟩) np np, .slice (some ⟨g3, 0, none⟩) n n] 26)
  have HO := Lib.hid (hto.later (Nat.le_refl _) hba4)
  obtain ⟨H, hH⟩ : ∃ q, w4.heap.size = q := ⟨_, rfl⟩
  have hLH : L ≤ H := by omega
  rw [hL, show w4.heap.size = H from hH] at HO
  have d0 : (w4.alloc (.cells #[.int .i64 tag, .int .i64 key, .string text, .slice (some ⟨g2, 0, none⟩) np np, .slice (some ⟨g3, 0, none⟩) n n] 26)).cell? ⟨w4.heap.size, 0, none⟩ = some (.int .i64 tag) := by rw [World.cell?_alloc_new]; rfl
  have d1 : (w4.alloc (.cells #[.int .i64 tag, .int .i64 key, .string text, .slice (some ⟨g2, 0, none⟩) np np, .slice (some ⟨g3, 0, none⟩) n n] 26)).cell? ⟨w4.heap.size, 1, none⟩ = some (.int .i64 key) := by rw [World.cell?_alloc_new]; rfl
  have d2 : (w4.alloc (.cells #[.int .i64 tag, .int .i64 key, .string text, .slice (some ⟨g2, 0, none⟩) np np, .slice (some ⟨g3, 0, none⟩) n n] 26)).cell? ⟨w4.heap.size, 2, none⟩ = some (.string text) := by rw [World.cell?_alloc_new]; rfl
  have d3 : (w4.alloc (.cells #[.int .i64 tag, .int .i64 key, .string text, .slice (some ⟨g2, 0, none⟩) np np, .slice (some ⟨g3, 0, none⟩) n n] 26)).cell? ⟨w4.heap.size, 3, none⟩ = some (.slice (some ⟨g2, 0, none⟩) np np) := by rw [World.cell?_alloc_new]; rfl
  have d4 : (w4.alloc (.cells #[.int .i64 tag, .int .i64 key, .string text, .slice (some ⟨g2, 0, none⟩) np np, .slice (some ⟨g3, 0, none⟩) n n] 26)).cell? ⟨w4.heap.size, 4, none⟩ = some (.slice (some ⟨g3, 0, none⟩) n n) := by rw [World.cell?_alloc_new]; rfl
  have HHQ := Lib.hid hH
  clear hb hsz4 hto hH
  go_wp2_with fail
  have hb := hba4
  clear hba4
  obtain ⟨bx, hbx⟩ : ∃ q, w4.heap.size = q := ⟨_, rfl⟩
  have hHx : H ≤ bx := by have := HHQ.out; omega
  have hx5 : bx < (w4.alloc (.cells #[.int .i64 tag, .int .i64 key, .string text, .slice (some ⟨g2, 0, none⟩) np np, .slice (some ⟨g3, 0, none⟩) n n] 26)).heap.size := by simp; omega
  obtain ⟨w5, hw5⟩ : ∃ v, w4.alloc (.cells #[.int .i64 tag, .int .i64 key, .string text, .slice (some ⟨g2, 0, none⟩) np np, .slice (some ⟨g3, 0, none⟩) n n] 26) = v := ⟨_, rfl⟩
  rw [hw5] at HO d0 d1 d2 d3 d4 hb hx5 ⊢
  replace f0 := (hb.cell (p := ⟨ba, 0, none⟩) (by first | omega | (dsimp only; omega))).trans f0
  replace f1 := (hb.cell (p := ⟨ba, 1, none⟩) (by first | omega | (dsimp only; omega))).trans f1
  replace f2 := (hb.cell (p := ⟨ba, 2, none⟩) (by first | omega | (dsimp only; omega))).trans f2
  replace f3 := (hb.cell (p := ⟨ba, 3, none⟩) (by first | omega | (dsimp only; omega))).trans f3
  replace f4 := (hb.cell (p := ⟨ba, 4, none⟩) (by first | omega | (dsimp only; omega))).trans f4
  replace y0 := (hb.cell (p := ⟨br, 0, none⟩) (by first | omega | (dsimp only; omega))).trans y0
  replace y1 := (hb.cell (p := ⟨br, 1, none⟩) (by first | omega | (dsimp only; omega))).trans y1
  replace y2 := (hb.cell (p := ⟨br, 2, none⟩) (by first | omega | (dsimp only; omega))).trans y2
  replace y3 := (hb.cell (p := ⟨br, 3, none⟩) (by first | omega | (dsimp only; omega))).trans y3
  replace y4 := (hb.cell (p := ⟨br, 4, none⟩) (by first | omega | (dsimp only; omega))).trans y4
  replace y5 := (hb.cell (p := ⟨br, 5, none⟩) (by first | omega | (dsimp only; omega))).trans y5
  replace y6 := (hb.cell (p := ⟨br, 6, none⟩) (by first | omega | (dsimp only; omega))).trans y6
  replace y7 := (hb.cell (p := ⟨br, 7, none⟩) (by first | omega | (dsimp only; omega))).trans y7
  replace HX := Lib.hid (more HX.out (Nat.le_refl _) hb)
  replace HR := Lib.hid (HR.out.below hb)
  have hsz5 : w4.heap.size ≤ w5.heap.size := hb.size
  replace hba : ba < w5.heap.size := Nat.lt_of_lt_of_le hba hsz5
  replace hbr : br < w5.heap.size := Nat.lt_of_lt_of_le hbr hsz5
  rw [hbx] at d0 d1 d2 d3 d4 ⊢
  clear hb hsz5 hw5
  have hH5 : H ≤ w5.heap.size := by omega
  clear hbx hL hLw HHQ
  have hx5q : bx < w5.heap.size := hx5
  go_wp2_with fail
  refine wp_region_held_drew (S := fun w' => Below w5.heap.size w5 w' ∧ w'.cell? ⟨ba, 0, none⟩ = some (.int .i64 tag) ∧ w'.cell? ⟨ba, 1, none⟩ = some (.int .i64 key) ∧ w'.cell? ⟨ba, 2, none⟩ = some (.string text) ∧ w'.cell? ⟨ba, 3, none⟩ = some (.slice A0 np c0) ∧ w'.cell? ⟨ba, 4, none⟩ = some (.slice A1 n c1) ∧ w'.cell? ⟨br, 0, none⟩ = some (.int .i64 x.t) ∧ w'.cell? ⟨br, 1, none⟩ = some (.int .i64 x.a) ∧ w'.cell? ⟨br, 2, none⟩ = some (.int .i64 x.nm) ∧ w'.cell? ⟨br, 3, none⟩ = some (.int .i64 x.v.k) ∧ w'.cell? ⟨br, 4, none⟩ = some (.int .i64 x.v.n) ∧ w'.cell? ⟨br, 5, none⟩ = some (.string x.v.s) ∧ w'.cell? ⟨br, 6, none⟩ = some (.int .i64 x.l) ∧ w'.cell? ⟨br, 7, none⟩ = some (.int .i64 x.g) ∧ w'.cell? ⟨bx, 0, none⟩ = some (.int .i64 tag) ∧ w'.cell? ⟨bx, 1, none⟩ = some (.int .i64 key) ∧ w'.cell? ⟨bx, 2, none⟩ = some (.string text) ∧ w'.cell? ⟨bx, 3, none⟩ = some (.slice (some ⟨g2, 0, none⟩) np np) ∧ w'.cell? ⟨bx, 4, none⟩ = some (.slice (some ⟨g3, 0, none⟩) n n)) (by kernel_rfl) ?_ (fun hHeld => ?_)
  · exact ⟨Below.drew (Below.refl _ _), f0, f1, f2, f3, f4, y0, y1, y2, y3, y4, y5, y6, y7, d0, d1, d2, d3, d4⟩
  refine wpAnyH_take (i := 0) (oi := _) (v := ?_) rfl (by kernel_rfl) (by kernel_rfl) (by kernel_rfl) (fun _ _ _ h => h) (Or.inl ⟨by kernel_rfl, ?_⟩) (by assumption) ?_
  rotate_left
  · (intro w hSw; (try dsimp only at hSw); go_simp)
    try with_reducible rfl
  (try simp only [Act.put, qa, qb, qc, qd, qe, qf])
  refine wpAnyH_take (i := 1) (oi := _) (v := ?_) rfl (by kernel_rfl) (by kernel_rfl) (by kernel_rfl) (fun _ _ _ h => h) (Or.inl ⟨by kernel_rfl, ?_⟩) (by assumption) ?_
  rotate_left
  · (intro w hSw; (try dsimp only at hSw); go_simp)
    try with_reducible rfl
  (try simp only [Act.put, qa, qb, qc, qd, qe, qf])
  refine wpAnyH_ready (rs := [2]) (by kernel_rfl) (by simp) ?_
  refine AllReadyH.cons (o := _) rfl (fun K hK => ?_) AllReadyH.nil
  go_simp
  have hB0 := hHeld.1
  refine (KR.out _).mono ?_
  rintro e v0 ⟨rfl, hb⟩
  refine hK.out _ _ ?_ (fun hHeld2 => ?_)
  · obtain ⟨_, f0, f1, f2, f3, f4, y0, y1, y2, y3, y4, y5, y6, y7, d0, d1, d2, d3, d4⟩ := hHeld
    exact ⟨hB0.trans (hb.mono hB0.size), (hb.cell (p := ⟨ba, 0, none⟩) (Nat.lt_of_lt_of_le hba hB0.size)).trans f0, (hb.cell (p := ⟨ba, 1, none⟩) (Nat.lt_of_lt_of_le hba hB0.size)).trans f1, (hb.cell (p := ⟨ba, 2, none⟩) (Nat.lt_of_lt_of_le hba hB0.size)).trans f2, (hb.cell (p := ⟨ba, 3, none⟩) (Nat.lt_of_lt_of_le hba hB0.size)).trans f3, (hb.cell (p := ⟨ba, 4, none⟩) (Nat.lt_of_lt_of_le hba hB0.size)).trans f4, (hb.cell (p := ⟨br, 0, none⟩) (Nat.lt_of_lt_of_le hbr hB0.size)).trans y0, (hb.cell (p := ⟨br, 1, none⟩) (Nat.lt_of_lt_of_le hbr hB0.size)).trans y1, (hb.cell (p := ⟨br, 2, none⟩) (Nat.lt_of_lt_of_le hbr hB0.size)).trans y2, (hb.cell (p := ⟨br, 3, none⟩) (Nat.lt_of_lt_of_le hbr hB0.size)).trans y3, (hb.cell (p := ⟨br, 4, none⟩) (Nat.lt_of_lt_of_le hbr hB0.size)).trans y4, (hb.cell (p := ⟨br, 5, none⟩) (Nat.lt_of_lt_of_le hbr hB0.size)).trans y5, (hb.cell (p := ⟨br, 6, none⟩) (Nat.lt_of_lt_of_le hbr hB0.size)).trans y6, (hb.cell (p := ⟨br, 7, none⟩) (Nat.lt_of_lt_of_le hbr hB0.size)).trans y7, (hb.cell (p := ⟨bx, 0, none⟩) (Nat.lt_of_lt_of_le hx5 hB0.size)).trans d0, (hb.cell (p := ⟨bx, 1, none⟩) (Nat.lt_of_lt_of_le hx5 hB0.size)).trans d1, (hb.cell (p := ⟨bx, 2, none⟩) (Nat.lt_of_lt_of_le hx5 hB0.size)).trans d2, (hb.cell (p := ⟨bx, 3, none⟩) (Nat.lt_of_lt_of_le hx5 hB0.size)).trans d3, (hb.cell (p := ⟨bx, 4, none⟩) (Nat.lt_of_lt_of_le hx5 hB0.size)).trans d4⟩
  clear hK K hb hB0 hHeld
  have hHeld := hHeld2
  clear hHeld2
  (try simp only [Act.put, qa, qb, qc, qd, qe, qf])
  refine wpAnyH_ready (rs := [3]) (by kernel_rfl) (by simp) ?_
  refine AllReadyH.cons (o := _) rfl (fun K hK => ?_) AllReadyH.nil
  go_simp
  have hB0 := hHeld.1
  obtain ⟨hpx, hkx⟩ := UO.out _ _ _ _ _ (HO.out.later hH5 hB0)
  obtain ⟨l5, hl5⟩ : ∃ q, v0.heap.size = q := ⟨_, rfl⟩
  have h5l : w5.heap.size ≤ l5 := by rw [← hl5]; exact hB0.size
  refine (K3.out _ _ _ (HT.out.next (more HX.out (Nat.le_refl _) hB0)) hpx hkx).mono ?_
  rintro e v1 ⟨S0, s0, rfl, ho, hb⟩
  refine hK.out _ _ ?_ (fun hHeld2 => ?_)
  · obtain ⟨_, f0, f1, f2, f3, f4, y0, y1, y2, y3, y4, y5, y6, y7, d0, d1, d2, d3, d4⟩ := hHeld
    exact ⟨hB0.trans (hb.mono hB0.size), (hb.cell (p := ⟨ba, 0, none⟩) (Nat.lt_of_lt_of_le hba hB0.size)).trans f0, (hb.cell (p := ⟨ba, 1, none⟩) (Nat.lt_of_lt_of_le hba hB0.size)).trans f1, (hb.cell (p := ⟨ba, 2, none⟩) (Nat.lt_of_lt_of_le hba hB0.size)).trans f2, (hb.cell (p := ⟨ba, 3, none⟩) (Nat.lt_of_lt_of_le hba hB0.size)).trans f3, (hb.cell (p := ⟨ba, 4, none⟩) (Nat.lt_of_lt_of_le hba hB0.size)).trans f4, (hb.cell (p := ⟨br, 0, none⟩) (Nat.lt_of_lt_of_le hbr hB0.size)).trans y0, (hb.cell (p := ⟨br, 1, none⟩) (Nat.lt_of_lt_of_le hbr hB0.size)).trans y1, (hb.cell (p := ⟨br, 2, none⟩) (Nat.lt_of_lt_of_le hbr hB0.size)).trans y2, (hb.cell (p := ⟨br, 3, none⟩) (Nat.lt_of_lt_of_le hbr hB0.size)).trans y3, (hb.cell (p := ⟨br, 4, none⟩) (Nat.lt_of_lt_of_le hbr hB0.size)).trans y4, (hb.cell (p := ⟨br, 5, none⟩) (Nat.lt_of_lt_of_le hbr hB0.size)).trans y5, (hb.cell (p := ⟨br, 6, none⟩) (Nat.lt_of_lt_of_le hbr hB0.size)).trans y6, (hb.cell (p := ⟨br, 7, none⟩) (Nat.lt_of_lt_of_le hbr hB0.size)).trans y7, (hb.cell (p := ⟨bx, 0, none⟩) (Nat.lt_of_lt_of_le hx5 hB0.size)).trans d0, (hb.cell (p := ⟨bx, 1, none⟩) (Nat.lt_of_lt_of_le hx5 hB0.size)).trans d1, (hb.cell (p := ⟨bx, 2, none⟩) (Nat.lt_of_lt_of_le hx5 hB0.size)).trans d2, (hb.cell (p := ⟨bx, 3, none⟩) (Nat.lt_of_lt_of_le hx5 hB0.size)).trans d3, (hb.cell (p := ⟨bx, 4, none⟩) (Nat.lt_of_lt_of_le hx5 hB0.size)).trans d4⟩
  rw [hl5] at ho
  have HS := Lib.hid ho
  have hl6 : l5 ≤ v1.heap.size := by rw [← hl5]; exact hb.size
  clear ho hpx hkx hl5
  clear hK K hb hB0 hHeld
  have hHeld := hHeld2
  clear hHeld2
  (try simp only [Act.put, qa, qb, qc, qd, qe, qf])
  refine wpAnyH_take (i := 4) (oi := _) (v := ?_) rfl (by kernel_rfl) (by kernel_rfl) (by kernel_rfl) (fun _ _ _ h => h) (Or.inl ⟨by kernel_rfl, ?_⟩) (by assumption) ?_
  rotate_left
  · (intro w hSw; (try dsimp only at hSw); go_simp)
    try with_reducible rfl
  (try simp only [Act.put, qa, qb, qc, qd, qe, qf])
  refine wpAnyH_done (by kernel_rfl) ?_ _
  have hb := hHeld.1
  clear hHeld
  obtain ⟨w6, hlast⟩ : ∃ v, v1 = v := ⟨_, rfl⟩
  rw [hlast] at hb ⊢
  rw [hlast] at HS hl6
  clear hlast
  replace f0 := (hb.cell (p := ⟨ba, 0, none⟩) (by first | omega | (dsimp only; omega))).trans f0
  replace f1 := (hb.cell (p := ⟨ba, 1, none⟩) (by first | omega | (dsimp only; omega))).trans f1
  replace f2 := (hb.cell (p := ⟨ba, 2, none⟩) (by first | omega | (dsimp only; omega))).trans f2
  replace f3 := (hb.cell (p := ⟨ba, 3, none⟩) (by first | omega | (dsimp only; omega))).trans f3
  replace f4 := (hb.cell (p := ⟨ba, 4, none⟩) (by first | omega | (dsimp only; omega))).trans f4
  replace y0 := (hb.cell (p := ⟨br, 0, none⟩) (by first | omega | (dsimp only; omega))).trans y0
  replace y1 := (hb.cell (p := ⟨br, 1, none⟩) (by first | omega | (dsimp only; omega))).trans y1
  replace y2 := (hb.cell (p := ⟨br, 2, none⟩) (by first | omega | (dsimp only; omega))).trans y2
  replace y3 := (hb.cell (p := ⟨br, 3, none⟩) (by first | omega | (dsimp only; omega))).trans y3
  replace y4 := (hb.cell (p := ⟨br, 4, none⟩) (by first | omega | (dsimp only; omega))).trans y4
  replace y5 := (hb.cell (p := ⟨br, 5, none⟩) (by first | omega | (dsimp only; omega))).trans y5
  replace y6 := (hb.cell (p := ⟨br, 6, none⟩) (by first | omega | (dsimp only; omega))).trans y6
  replace y7 := (hb.cell (p := ⟨br, 7, none⟩) (by first | omega | (dsimp only; omega))).trans y7
  replace d0 := (hb.cell (p := ⟨bx, 0, none⟩) (by first | omega | (dsimp only; omega))).trans d0
  replace d1 := (hb.cell (p := ⟨bx, 1, none⟩) (by first | omega | (dsimp only; omega))).trans d1
  replace d2 := (hb.cell (p := ⟨bx, 2, none⟩) (by first | omega | (dsimp only; omega))).trans d2
  replace d3 := (hb.cell (p := ⟨bx, 3, none⟩) (by first | omega | (dsimp only; omega))).trans d3
  replace d4 := (hb.cell (p := ⟨bx, 4, none⟩) (by first | omega | (dsimp only; omega))).trans d4
  replace HX := Lib.hid (more HX.out (Nat.le_refl _) hb)
  replace HR := Lib.hid (HR.out.below hb)
  replace HO := Lib.hid (HO.out.later (Nat.le_of_lt (Nat.lt_of_le_of_lt hHx (by omega))) hb)
  have hsz6 : w5.heap.size ≤ w6.heap.size := hb.size
  replace hba : ba < w6.heap.size := Nat.lt_of_lt_of_le hba hsz6
  replace hbr : br < w6.heap.size := Nat.lt_of_lt_of_le hbr hsz6
  replace hx5 : bx < w6.heap.size := Nat.lt_of_lt_of_le hx5 hsz6
  have hx5l : bx < l5 := Nat.lt_of_lt_of_le hx5q h5l
  have hH5l : H ≤ l5 := Nat.le_trans hH5 h5l
  have hH6 : H ≤ w6.heap.size := by omega
  obtain ⟨h6, hh6⟩ : ∃ q, w6.heap.size = q := ⟨_, rfl⟩
  rw [hh6] at HS
  have hh6le : h6 ≤ w6.heap.size := by omega
  clear hb hsz6 hh6 h5l hx5q hH5
  go_wp2_with fail
  refine (K6.out _ _ _ _ _ HS.out.lies HR.out.lies).mono ?_
  rintro e w7 ⟨rfl, hb⟩
  replace f0 := (hb.cell (p := ⟨ba, 0, none⟩) (by first | omega | (dsimp only; omega))).trans f0
  replace f1 := (hb.cell (p := ⟨ba, 1, none⟩) (by first | omega | (dsimp only; omega))).trans f1
  replace f2 := (hb.cell (p := ⟨ba, 2, none⟩) (by first | omega | (dsimp only; omega))).trans f2
  replace f3 := (hb.cell (p := ⟨ba, 3, none⟩) (by first | omega | (dsimp only; omega))).trans f3
  replace f4 := (hb.cell (p := ⟨ba, 4, none⟩) (by first | omega | (dsimp only; omega))).trans f4
  replace y0 := (hb.cell (p := ⟨br, 0, none⟩) (by first | omega | (dsimp only; omega))).trans y0
  replace y1 := (hb.cell (p := ⟨br, 1, none⟩) (by first | omega | (dsimp only; omega))).trans y1
  replace y2 := (hb.cell (p := ⟨br, 2, none⟩) (by first | omega | (dsimp only; omega))).trans y2
  replace y3 := (hb.cell (p := ⟨br, 3, none⟩) (by first | omega | (dsimp only; omega))).trans y3
  replace y4 := (hb.cell (p := ⟨br, 4, none⟩) (by first | omega | (dsimp only; omega))).trans y4
  replace y5 := (hb.cell (p := ⟨br, 5, none⟩) (by first | omega | (dsimp only; omega))).trans y5
  replace y6 := (hb.cell (p := ⟨br, 6, none⟩) (by first | omega | (dsimp only; omega))).trans y6
  replace y7 := (hb.cell (p := ⟨br, 7, none⟩) (by first | omega | (dsimp only; omega))).trans y7
  replace d0 := (hb.cell (p := ⟨bx, 0, none⟩) (by first | omega | (dsimp only; omega))).trans d0
  replace d1 := (hb.cell (p := ⟨bx, 1, none⟩) (by first | omega | (dsimp only; omega))).trans d1
  replace d2 := (hb.cell (p := ⟨bx, 2, none⟩) (by first | omega | (dsimp only; omega))).trans d2
  replace d3 := (hb.cell (p := ⟨bx, 3, none⟩) (by first | omega | (dsimp only; omega))).trans d3
  replace d4 := (hb.cell (p := ⟨bx, 4, none⟩) (by first | omega | (dsimp only; omega))).trans d4
  replace HX := Lib.hid (more HX.out (Nat.le_refl _) hb)
  replace HR := Lib.hid (HR.out.below hb)
  replace HO := Lib.hid (HO.out.later (Nat.le_of_lt (Nat.lt_of_le_of_lt hHx (by omega))) hb)
  replace HS := Lib.hid (HS.out.below hb)
  have hsz7 : w6.heap.size ≤ w7.heap.size := hb.size
  replace hba : ba < w7.heap.size := Nat.lt_of_lt_of_le hba hsz7
  replace hbr : br < w7.heap.size := Nat.lt_of_lt_of_le hbr hsz7
  replace hx5 : bx < w7.heap.size := Nat.lt_of_lt_of_le hx5 hsz7
  have hH7 : H ≤ w7.heap.size := by omega
  have hl7 : l5 ≤ w7.heap.size := by omega
  clear hb hsz7 hH6 hl6
  go_wp2_with fail
  refine wp_region_held_drew (S := fun w' => Below w7.heap.size w7 w' ∧ w'.cell? ⟨ba, 0, none⟩ = some (.int .i64 tag) ∧ w'.cell? ⟨ba, 1, none⟩ = some (.int .i64 key) ∧ w'.cell? ⟨ba, 2, none⟩ = some (.string text) ∧ w'.cell? ⟨ba, 3, none⟩ = some (.slice A0 np c0) ∧ w'.cell? ⟨ba, 4, none⟩ = some (.slice A1 n c1) ∧ w'.cell? ⟨br, 0, none⟩ = some (.int .i64 x.t) ∧ w'.cell? ⟨br, 1, none⟩ = some (.int .i64 x.a) ∧ w'.cell? ⟨br, 2, none⟩ = some (.int .i64 x.nm) ∧ w'.cell? ⟨br, 3, none⟩ = some (.int .i64 x.v.k) ∧ w'.cell? ⟨br, 4, none⟩ = some (.int .i64 x.v.n) ∧ w'.cell? ⟨br, 5, none⟩ = some (.string x.v.s) ∧ w'.cell? ⟨br, 6, none⟩ = some (.int .i64 x.l) ∧ w'.cell? ⟨br, 7, none⟩ = some (.int .i64 x.g) ∧ w'.cell? ⟨bx, 0, none⟩ = some (.int .i64 tag) ∧ w'.cell? ⟨bx, 1, none⟩ = some (.int .i64 key) ∧ w'.cell? ⟨bx, 2, none⟩ = some (.string text) ∧ w'.cell? ⟨bx, 3, none⟩ = some (.slice (some ⟨g2, 0, none⟩) np np) ∧ w'.cell? ⟨bx, 4, none⟩ = some (.slice (some ⟨g3, 0, none⟩) n n)) (by kernel_rfl) ?_ (fun hHeld => ?_)
  · exact ⟨Below.drew (Below.refl _ _), f0, f1, f2, f3, f4, y0, y1, y2, y3, y4, y5, y6, y7, d0, d1, d2, d3, d4⟩
  refine wpAnyH_take (i := 0) (oi := _) (v := ?_) rfl (by kernel_rfl) (by kernel_rfl) (by kernel_rfl) (fun _ _ _ h => h) (Or.inl ⟨by kernel_rfl, ?_⟩) (by assumption) ?_
  rotate_left
  · (intro w hSw; (try dsimp only at hSw); go_simp)
    try with_reducible rfl
  (try simp only [Act.put, qa, qb, qc, qd, qe, qf])
  refine wpAnyH_take (i := 1) (oi := _) (v := ?_) rfl (by kernel_rfl) (by kernel_rfl) (by kernel_rfl) (fun _ _ _ h => h) (Or.inl ⟨by kernel_rfl, ?_⟩) (by assumption) ?_
  rotate_left
  · (intro w hSw; (try dsimp only at hSw); go_simp)
    try with_reducible rfl
  (try simp only [Act.put, qa, qb, qc, qd, qe, qf])
  refine wpAnyH_ready (rs := [2]) (by kernel_rfl) (by simp) ?_
  refine AllReadyH.cons (o := _) rfl (fun K hK => ?_) AllReadyH.nil
  go_simp
  have hB0 := hHeld.1
  refine (K1.out _ (HP.out.below (more HX.out (Nat.le_refl _) hB0)) (HK.out.below (more HX.out (Nat.le_refl _) hB0))).mono ?_
  rintro e v0 ⟨g0, g1, rfl, hp, _, hk, hb⟩
  refine hK.out _ _ ?_ (fun hHeld2 => ?_)
  · obtain ⟨_, f0, f1, f2, f3, f4, y0, y1, y2, y3, y4, y5, y6, y7, d0, d1, d2, d3, d4⟩ := hHeld
    exact ⟨hB0.trans (hb.mono hB0.size), (hb.cell (p := ⟨ba, 0, none⟩) (Nat.lt_of_lt_of_le hba hB0.size)).trans f0, (hb.cell (p := ⟨ba, 1, none⟩) (Nat.lt_of_lt_of_le hba hB0.size)).trans f1, (hb.cell (p := ⟨ba, 2, none⟩) (Nat.lt_of_lt_of_le hba hB0.size)).trans f2, (hb.cell (p := ⟨ba, 3, none⟩) (Nat.lt_of_lt_of_le hba hB0.size)).trans f3, (hb.cell (p := ⟨ba, 4, none⟩) (Nat.lt_of_lt_of_le hba hB0.size)).trans f4, (hb.cell (p := ⟨br, 0, none⟩) (Nat.lt_of_lt_of_le hbr hB0.size)).trans y0, (hb.cell (p := ⟨br, 1, none⟩) (Nat.lt_of_lt_of_le hbr hB0.size)).trans y1, (hb.cell (p := ⟨br, 2, none⟩) (Nat.lt_of_lt_of_le hbr hB0.size)).trans y2, (hb.cell (p := ⟨br, 3, none⟩) (Nat.lt_of_lt_of_le hbr hB0.size)).trans y3, (hb.cell (p := ⟨br, 4, none⟩) (Nat.lt_of_lt_of_le hbr hB0.size)).trans y4, (hb.cell (p := ⟨br, 5, none⟩) (Nat.lt_of_lt_of_le hbr hB0.size)).trans y5, (hb.cell (p := ⟨br, 6, none⟩) (Nat.lt_of_lt_of_le hbr hB0.size)).trans y6, (hb.cell (p := ⟨br, 7, none⟩) (Nat.lt_of_lt_of_le hbr hB0.size)).trans y7, (hb.cell (p := ⟨bx, 0, none⟩) (Nat.lt_of_lt_of_le hx5 hB0.size)).trans d0, (hb.cell (p := ⟨bx, 1, none⟩) (Nat.lt_of_lt_of_le hx5 hB0.size)).trans d1, (hb.cell (p := ⟨bx, 2, none⟩) (Nat.lt_of_lt_of_le hx5 hB0.size)).trans d2, (hb.cell (p := ⟨bx, 3, none⟩) (Nat.lt_of_lt_of_le hx5 hB0.size)).trans d3, (hb.cell (p := ⟨bx, 4, none⟩) (Nat.lt_of_lt_of_le hx5 hB0.size)).trans d4⟩
  have P1 := Lib.hid hp
  have Q1 := Lib.hid (hk.mono (Nat.zero_le _))
  clear hp hk
  clear hK K hb hB0 hHeld
  have hHeld := hHeld2
  clear hHeld2
  (try simp only [Act.put, qa, qb, qc, qd, qe, qf])
  refine wpAnyH_ready (rs := [3]) (by kernel_rfl) (by simp) ?_
  refine AllReadyH.cons (o := _) rfl (fun K hK => ?_) AllReadyH.nil
  go_simp
  have hB0 := hHeld.1
  obtain ⟨hpx, hkx⟩ := UO.out _ _ _ _ _ (HO.out.later hH7 hB0)
  refine (K4.out _ _ _ _ _ hpx hkx P1.out Q1.out).mono ?_
  rintro e v1 ⟨rfl, hb⟩
  refine hK.out _ _ ?_ (fun hHeld2 => ?_)
  · obtain ⟨_, f0, f1, f2, f3, f4, y0, y1, y2, y3, y4, y5, y6, y7, d0, d1, d2, d3, d4⟩ := hHeld
    exact ⟨hB0.trans (hb.mono hB0.size), (hb.cell (p := ⟨ba, 0, none⟩) (Nat.lt_of_lt_of_le hba hB0.size)).trans f0, (hb.cell (p := ⟨ba, 1, none⟩) (Nat.lt_of_lt_of_le hba hB0.size)).trans f1, (hb.cell (p := ⟨ba, 2, none⟩) (Nat.lt_of_lt_of_le hba hB0.size)).trans f2, (hb.cell (p := ⟨ba, 3, none⟩) (Nat.lt_of_lt_of_le hba hB0.size)).trans f3, (hb.cell (p := ⟨ba, 4, none⟩) (Nat.lt_of_lt_of_le hba hB0.size)).trans f4, (hb.cell (p := ⟨br, 0, none⟩) (Nat.lt_of_lt_of_le hbr hB0.size)).trans y0, (hb.cell (p := ⟨br, 1, none⟩) (Nat.lt_of_lt_of_le hbr hB0.size)).trans y1, (hb.cell (p := ⟨br, 2, none⟩) (Nat.lt_of_lt_of_le hbr hB0.size)).trans y2, (hb.cell (p := ⟨br, 3, none⟩) (Nat.lt_of_lt_of_le hbr hB0.size)).trans y3, (hb.cell (p := ⟨br, 4, none⟩) (Nat.lt_of_lt_of_le hbr hB0.size)).trans y4, (hb.cell (p := ⟨br, 5, none⟩) (Nat.lt_of_lt_of_le hbr hB0.size)).trans y5, (hb.cell (p := ⟨br, 6, none⟩) (Nat.lt_of_lt_of_le hbr hB0.size)).trans y6, (hb.cell (p := ⟨br, 7, none⟩) (Nat.lt_of_lt_of_le hbr hB0.size)).trans y7, (hb.cell (p := ⟨bx, 0, none⟩) (Nat.lt_of_lt_of_le hx5 hB0.size)).trans d0, (hb.cell (p := ⟨bx, 1, none⟩) (Nat.lt_of_lt_of_le hx5 hB0.size)).trans d1, (hb.cell (p := ⟨bx, 2, none⟩) (Nat.lt_of_lt_of_le hx5 hB0.size)).trans d2, (hb.cell (p := ⟨bx, 3, none⟩) (Nat.lt_of_lt_of_le hx5 hB0.size)).trans d3, (hb.cell (p := ⟨bx, 4, none⟩) (Nat.lt_of_lt_of_le hx5 hB0.size)).trans d4⟩
  clear hpx hkx P1 Q1
  clear hK K hb hB0 hHeld
  have hHeld := hHeld2
  clear hHeld2
  (try simp only [Act.put, qa, qb, qc, qd, qe, qf])
  refine wpAnyH_take (i := 4) (oi := _) (v := ?_) rfl (by kernel_rfl) (by kernel_rfl) (by kernel_rfl) (fun _ _ _ h => h) (Or.inl ⟨by kernel_rfl, ?_⟩) (by assumption) ?_
  rotate_left
  · (intro w hSw; (try dsimp only at hSw); go_simp)
    try with_reducible rfl
  (try simp only [Act.put, qa, qb, qc, qd, qe, qf])
  refine wpAnyH_done (by kernel_rfl) ?_ _
  have hb := hHeld.1
  clear hHeld
  obtain ⟨w8, hlast⟩ : ∃ v, v1 = v := ⟨_, rfl⟩
  rw [hlast] at hb ⊢
  clear hlast
  replace f0 := (hb.cell (p := ⟨ba, 0, none⟩) (by first | omega | (dsimp only; omega))).trans f0
  replace f1 := (hb.cell (p := ⟨ba, 1, none⟩) (by first | omega | (dsimp only; omega))).trans f1
  replace f2 := (hb.cell (p := ⟨ba, 2, none⟩) (by first | omega | (dsimp only; omega))).trans f2
  replace f3 := (hb.cell (p := ⟨ba, 3, none⟩) (by first | omega | (dsimp only; omega))).trans f3
  replace f4 := (hb.cell (p := ⟨ba, 4, none⟩) (by first | omega | (dsimp only; omega))).trans f4
  replace y0 := (hb.cell (p := ⟨br, 0, none⟩) (by first | omega | (dsimp only; omega))).trans y0
  replace y1 := (hb.cell (p := ⟨br, 1, none⟩) (by first | omega | (dsimp only; omega))).trans y1
  replace y2 := (hb.cell (p := ⟨br, 2, none⟩) (by first | omega | (dsimp only; omega))).trans y2
  replace y3 := (hb.cell (p := ⟨br, 3, none⟩) (by first | omega | (dsimp only; omega))).trans y3
  replace y4 := (hb.cell (p := ⟨br, 4, none⟩) (by first | omega | (dsimp only; omega))).trans y4
  replace y5 := (hb.cell (p := ⟨br, 5, none⟩) (by first | omega | (dsimp only; omega))).trans y5
  replace y6 := (hb.cell (p := ⟨br, 6, none⟩) (by first | omega | (dsimp only; omega))).trans y6
  replace y7 := (hb.cell (p := ⟨br, 7, none⟩) (by first | omega | (dsimp only; omega))).trans y7
  replace d0 := (hb.cell (p := ⟨bx, 0, none⟩) (by first | omega | (dsimp only; omega))).trans d0
  replace d1 := (hb.cell (p := ⟨bx, 1, none⟩) (by first | omega | (dsimp only; omega))).trans d1
  replace d2 := (hb.cell (p := ⟨bx, 2, none⟩) (by first | omega | (dsimp only; omega))).trans d2
  replace d3 := (hb.cell (p := ⟨bx, 3, none⟩) (by first | omega | (dsimp only; omega))).trans d3
  replace d4 := (hb.cell (p := ⟨bx, 4, none⟩) (by first | omega | (dsimp only; omega))).trans d4
  replace HX := Lib.hid (more HX.out (Nat.le_refl _) hb)
  replace HR := Lib.hid (HR.out.below hb)
  replace HO := Lib.hid (HO.out.later (Nat.le_of_lt (Nat.lt_of_le_of_lt hHx (by omega))) hb)
  replace HS := Lib.hid (HS.out.below hb)
  have hsz8 : w7.heap.size ≤ w8.heap.size := hb.size
  replace hba : ba < w8.heap.size := Nat.lt_of_lt_of_le hba hsz8
  replace hbr : br < w8.heap.size := Nat.lt_of_lt_of_le hbr hsz8
  replace hx5 : bx < w8.heap.size := Nat.lt_of_lt_of_le hx5 hsz8
  have hH8 : H ≤ w8.heap.size := by omega
  have hl8 : l5 ≤ w8.heap.size := by omega
  clear hb hsz8 hH7 hl7
  go_wp2_with fail
  obtain ⟨u9, hu9⟩ : ∃ q : Nat, 1 + 4 * np + wk = q := ⟨_, rfl⟩
  have hneg : decide ((u9 : Int) < 0) = false := by simp
  refine (KM.out _ _ _ _ w8 HO.out hH8).mono ?_
  rintro e w9 ⟨rfl, _, ht⟩
  replace f0 := (World.cell?_of_block (a := ⟨ba, 0, none⟩) (ht.block ba (by first | omega | (dsimp only; omega)) (by first | omega | (dsimp only; omega)))).trans f0
  replace f1 := (World.cell?_of_block (a := ⟨ba, 1, none⟩) (ht.block ba (by first | omega | (dsimp only; omega)) (by first | omega | (dsimp only; omega)))).trans f1
  replace f2 := (World.cell?_of_block (a := ⟨ba, 2, none⟩) (ht.block ba (by first | omega | (dsimp only; omega)) (by first | omega | (dsimp only; omega)))).trans f2
  replace f3 := (World.cell?_of_block (a := ⟨ba, 3, none⟩) (ht.block ba (by first | omega | (dsimp only; omega)) (by first | omega | (dsimp only; omega)))).trans f3
  replace f4 := (World.cell?_of_block (a := ⟨ba, 4, none⟩) (ht.block ba (by first | omega | (dsimp only; omega)) (by first | omega | (dsimp only; omega)))).trans f4
  replace y0 := (World.cell?_of_block (a := ⟨br, 0, none⟩) (ht.block br (by first | omega | (dsimp only; omega)) (by first | omega | (dsimp only; omega)))).trans y0
  replace y1 := (World.cell?_of_block (a := ⟨br, 1, none⟩) (ht.block br (by first | omega | (dsimp only; omega)) (by first | omega | (dsimp only; omega)))).trans y1
  replace y2 := (World.cell?_of_block (a := ⟨br, 2, none⟩) (ht.block br (by first | omega | (dsimp only; omega)) (by first | omega | (dsimp only; omega)))).trans y2
  replace y3 := (World.cell?_of_block (a := ⟨br, 3, none⟩) (ht.block br (by first | omega | (dsimp only; omega)) (by first | omega | (dsimp only; omega)))).trans y3
  replace y4 := (World.cell?_of_block (a := ⟨br, 4, none⟩) (ht.block br (by first | omega | (dsimp only; omega)) (by first | omega | (dsimp only; omega)))).trans y4
  replace y5 := (World.cell?_of_block (a := ⟨br, 5, none⟩) (ht.block br (by first | omega | (dsimp only; omega)) (by first | omega | (dsimp only; omega)))).trans y5
  replace y6 := (World.cell?_of_block (a := ⟨br, 6, none⟩) (ht.block br (by first | omega | (dsimp only; omega)) (by first | omega | (dsimp only; omega)))).trans y6
  replace y7 := (World.cell?_of_block (a := ⟨br, 7, none⟩) (ht.block br (by first | omega | (dsimp only; omega)) (by first | omega | (dsimp only; omega)))).trans y7
  replace d0 := (World.cell?_of_block (a := ⟨bx, 0, none⟩) (ht.block bx (by first | omega | (dsimp only; omega)) (by first | omega | (dsimp only; omega)))).trans d0
  replace d1 := (World.cell?_of_block (a := ⟨bx, 1, none⟩) (ht.block bx (by first | omega | (dsimp only; omega)) (by first | omega | (dsimp only; omega)))).trans d1
  replace d2 := (World.cell?_of_block (a := ⟨bx, 2, none⟩) (ht.block bx (by first | omega | (dsimp only; omega)) (by first | omega | (dsimp only; omega)))).trans d2
  replace d3 := (World.cell?_of_block (a := ⟨bx, 3, none⟩) (ht.block bx (by first | omega | (dsimp only; omega)) (by first | omega | (dsimp only; omega)))).trans d3
  replace d4 := (World.cell?_of_block (a := ⟨bx, 4, none⟩) (ht.block bx (by first | omega | (dsimp only; omega)) (by first | omega | (dsimp only; omega)))).trans d4
  replace HX := Lib.hid (HX.out.trans (ht.below (by omega) (by have := HX.out.size; omega)))
  replace HR := Lib.hid (HR.out.turn ht (by omega))
  replace HS := Lib.hid (HS.out.turn ht (by omega))
  have hsz9 : w8.heap.size ≤ w9.heap.size := ht.size
  replace hba : ba < w9.heap.size := Nat.lt_of_lt_of_le hba hsz9
  replace hbr : br < w9.heap.size := Nat.lt_of_lt_of_le hbr hsz9
  replace hx5 : bx < w9.heap.size := Nat.lt_of_lt_of_le hx5 hsz9
  have hl9 : l5 ≤ w9.heap.size := by omega
  clear ht hsz9 HO
  clear hH8 hl8
  rw [hu9]
  go_wp2_with fail
  refine (K6.out _ _ _ _ _ HS.out.lies HR.out.lies).mono ?_
  rintro e w10 ⟨rfl, hb⟩
  replace f0 := (hb.cell (p := ⟨ba, 0, none⟩) (by first | omega | (dsimp only; omega))).trans f0
  replace f1 := (hb.cell (p := ⟨ba, 1, none⟩) (by first | omega | (dsimp only; omega))).trans f1
  replace f2 := (hb.cell (p := ⟨ba, 2, none⟩) (by first | omega | (dsimp only; omega))).trans f2
  replace f3 := (hb.cell (p := ⟨ba, 3, none⟩) (by first | omega | (dsimp only; omega))).trans f3
  replace f4 := (hb.cell (p := ⟨ba, 4, none⟩) (by first | omega | (dsimp only; omega))).trans f4
  replace y0 := (hb.cell (p := ⟨br, 0, none⟩) (by first | omega | (dsimp only; omega))).trans y0
  replace y1 := (hb.cell (p := ⟨br, 1, none⟩) (by first | omega | (dsimp only; omega))).trans y1
  replace y2 := (hb.cell (p := ⟨br, 2, none⟩) (by first | omega | (dsimp only; omega))).trans y2
  replace y3 := (hb.cell (p := ⟨br, 3, none⟩) (by first | omega | (dsimp only; omega))).trans y3
  replace y4 := (hb.cell (p := ⟨br, 4, none⟩) (by first | omega | (dsimp only; omega))).trans y4
  replace y5 := (hb.cell (p := ⟨br, 5, none⟩) (by first | omega | (dsimp only; omega))).trans y5
  replace y6 := (hb.cell (p := ⟨br, 6, none⟩) (by first | omega | (dsimp only; omega))).trans y6
  replace y7 := (hb.cell (p := ⟨br, 7, none⟩) (by first | omega | (dsimp only; omega))).trans y7
  replace d0 := (hb.cell (p := ⟨bx, 0, none⟩) (by first | omega | (dsimp only; omega))).trans d0
  replace d1 := (hb.cell (p := ⟨bx, 1, none⟩) (by first | omega | (dsimp only; omega))).trans d1
  replace d2 := (hb.cell (p := ⟨bx, 2, none⟩) (by first | omega | (dsimp only; omega))).trans d2
  replace d3 := (hb.cell (p := ⟨bx, 3, none⟩) (by first | omega | (dsimp only; omega))).trans d3
  replace d4 := (hb.cell (p := ⟨bx, 4, none⟩) (by first | omega | (dsimp only; omega))).trans d4
  replace HX := Lib.hid (more HX.out (Nat.le_refl _) hb)
  replace HR := Lib.hid (HR.out.below hb)
  replace HS := Lib.hid (HS.out.below hb)
  have hsz10 : w9.heap.size ≤ w10.heap.size := hb.size
  replace hba : ba < w10.heap.size := Nat.lt_of_lt_of_le hba hsz10
  replace hbr : br < w10.heap.size := Nat.lt_of_lt_of_le hbr hsz10
  replace hx5 : bx < w10.heap.size := Nat.lt_of_lt_of_le hx5 hsz10
  have hl10 : l5 ≤ w10.heap.size := by omega
  clear hb hsz10 hl9
  go_wp2_with fail
  refine (KI.out _ _ _ _ w10 HS.out).mono ?_
  rintro e w11 ⟨rfl, ho, ht⟩
  replace f0 := (World.cell?_of_block (a := ⟨ba, 0, none⟩) (ht.block ba (by first | omega | (dsimp only; omega)) (by first | omega | (dsimp only; omega)))).trans f0
  replace f1 := (World.cell?_of_block (a := ⟨ba, 1, none⟩) (ht.block ba (by first | omega | (dsimp only; omega)) (by first | omega | (dsimp only; omega)))).trans f1
  replace f2 := (World.cell?_of_block (a := ⟨ba, 2, none⟩) (ht.block ba (by first | omega | (dsimp only; omega)) (by first | omega | (dsimp only; omega)))).trans f2
  replace f3 := (World.cell?_of_block (a := ⟨ba, 3, none⟩) (ht.block ba (by first | omega | (dsimp only; omega)) (by first | omega | (dsimp only; omega)))).trans f3
  replace f4 := (World.cell?_of_block (a := ⟨ba, 4, none⟩) (ht.block ba (by first | omega | (dsimp only; omega)) (by first | omega | (dsimp only; omega)))).trans f4
  replace y0 := (World.cell?_of_block (a := ⟨br, 0, none⟩) (ht.block br (by first | omega | (dsimp only; omega)) (by first | omega | (dsimp only; omega)))).trans y0
  replace y1 := (World.cell?_of_block (a := ⟨br, 1, none⟩) (ht.block br (by first | omega | (dsimp only; omega)) (by first | omega | (dsimp only; omega)))).trans y1
  replace y2 := (World.cell?_of_block (a := ⟨br, 2, none⟩) (ht.block br (by first | omega | (dsimp only; omega)) (by first | omega | (dsimp only; omega)))).trans y2
  replace y3 := (World.cell?_of_block (a := ⟨br, 3, none⟩) (ht.block br (by first | omega | (dsimp only; omega)) (by first | omega | (dsimp only; omega)))).trans y3
  replace y4 := (World.cell?_of_block (a := ⟨br, 4, none⟩) (ht.block br (by first | omega | (dsimp only; omega)) (by first | omega | (dsimp only; omega)))).trans y4
  replace y5 := (World.cell?_of_block (a := ⟨br, 5, none⟩) (ht.block br (by first | omega | (dsimp only; omega)) (by first | omega | (dsimp only; omega)))).trans y5
  replace y6 := (World.cell?_of_block (a := ⟨br, 6, none⟩) (ht.block br (by first | omega | (dsimp only; omega)) (by first | omega | (dsimp only; omega)))).trans y6
  replace y7 := (World.cell?_of_block (a := ⟨br, 7, none⟩) (ht.block br (by first | omega | (dsimp only; omega)) (by first | omega | (dsimp only; omega)))).trans y7
  replace d0 := (World.cell?_of_block (a := ⟨bx, 0, none⟩) (ht.block bx (by first | omega | (dsimp only; omega)) (by first | omega | (dsimp only; omega)))).trans d0
  replace d1 := (World.cell?_of_block (a := ⟨bx, 1, none⟩) (ht.block bx (by first | omega | (dsimp only; omega)) (by first | omega | (dsimp only; omega)))).trans d1
  replace d2 := (World.cell?_of_block (a := ⟨bx, 2, none⟩) (ht.block bx (by first | omega | (dsimp only; omega)) (by first | omega | (dsimp only; omega)))).trans d2
  replace d3 := (World.cell?_of_block (a := ⟨bx, 3, none⟩) (ht.block bx (by first | omega | (dsimp only; omega)) (by first | omega | (dsimp only; omega)))).trans d3
  replace d4 := (World.cell?_of_block (a := ⟨bx, 4, none⟩) (ht.block bx (by first | omega | (dsimp only; omega)) (by first | omega | (dsimp only; omega)))).trans d4
  replace HX := Lib.hid (HX.out.trans (ht.below (by omega) (by have := HX.out.size; omega)))
  replace HR := Lib.hid (HR.out.turn ht (by omega))
  have hsz11 : w10.heap.size ≤ w11.heap.size := ht.size
  replace hba : ba < w11.heap.size := Nat.lt_of_lt_of_le hba hsz11
  replace hbr : br < w11.heap.size := Nat.lt_of_lt_of_le hbr hsz11
  replace hx5 : bx < w11.heap.size := Nat.lt_of_lt_of_le hx5 hsz11
  have HM2 := Lib.hid ho
  clear ht hsz11 ho HS
  obtain ⟨mm, hmm⟩ : ∃ q : Nat, 1 + m = q := ⟨_, rfl⟩
  rw [hmm]
  have hneg2 : decide ((mm : Int) < 0) = false := by simp
  go_wp2_with fail
  refine (KH.out _ _ w11 HM2.out.lies).mono ?_
  rintro e w11b ⟨rfl, hb⟩
  replace f0 := (hb.cell (p := ⟨ba, 0, none⟩) (by first | omega | (dsimp only; omega))).trans f0
  replace f1 := (hb.cell (p := ⟨ba, 1, none⟩) (by first | omega | (dsimp only; omega))).trans f1
  replace f2 := (hb.cell (p := ⟨ba, 2, none⟩) (by first | omega | (dsimp only; omega))).trans f2
  replace f3 := (hb.cell (p := ⟨ba, 3, none⟩) (by first | omega | (dsimp only; omega))).trans f3
  replace f4 := (hb.cell (p := ⟨ba, 4, none⟩) (by first | omega | (dsimp only; omega))).trans f4
  replace y0 := (hb.cell (p := ⟨br, 0, none⟩) (by first | omega | (dsimp only; omega))).trans y0
  replace y1 := (hb.cell (p := ⟨br, 1, none⟩) (by first | omega | (dsimp only; omega))).trans y1
  replace y2 := (hb.cell (p := ⟨br, 2, none⟩) (by first | omega | (dsimp only; omega))).trans y2
  replace y3 := (hb.cell (p := ⟨br, 3, none⟩) (by first | omega | (dsimp only; omega))).trans y3
  replace y4 := (hb.cell (p := ⟨br, 4, none⟩) (by first | omega | (dsimp only; omega))).trans y4
  replace y5 := (hb.cell (p := ⟨br, 5, none⟩) (by first | omega | (dsimp only; omega))).trans y5
  replace y6 := (hb.cell (p := ⟨br, 6, none⟩) (by first | omega | (dsimp only; omega))).trans y6
  replace y7 := (hb.cell (p := ⟨br, 7, none⟩) (by first | omega | (dsimp only; omega))).trans y7
  replace d0 := (hb.cell (p := ⟨bx, 0, none⟩) (by first | omega | (dsimp only; omega))).trans d0
  replace d1 := (hb.cell (p := ⟨bx, 1, none⟩) (by first | omega | (dsimp only; omega))).trans d1
  replace d2 := (hb.cell (p := ⟨bx, 2, none⟩) (by first | omega | (dsimp only; omega))).trans d2
  replace d3 := (hb.cell (p := ⟨bx, 3, none⟩) (by first | omega | (dsimp only; omega))).trans d3
  replace d4 := (hb.cell (p := ⟨bx, 4, none⟩) (by first | omega | (dsimp only; omega))).trans d4
  replace HX := Lib.hid (more HX.out (Nat.le_refl _) hb)
  replace HR := Lib.hid (HR.out.below hb)
  replace HM2 := Lib.hid (HM2.out.below hb)
  have hsz12 : w11.heap.size ≤ w11b.heap.size := hb.size
  replace hba : ba < w11b.heap.size := Nat.lt_of_lt_of_le hba hsz12
  replace hbr : br < w11b.heap.size := Nat.lt_of_lt_of_le hbr hsz12
  replace hx5 : bx < w11b.heap.size := Nat.lt_of_lt_of_le hx5 hsz12
  clear hb hsz12
  rw [hmm]
  go_wp2_with fail
  refine wp_region_held_drew (S := fun w' => Below w11b.heap.size w11b w' ∧ w'.cell? ⟨ba, 0, none⟩ = some (.int .i64 tag) ∧ w'.cell? ⟨ba, 1, none⟩ = some (.int .i64 key) ∧ w'.cell? ⟨ba, 2, none⟩ = some (.string text) ∧ w'.cell? ⟨ba, 3, none⟩ = some (.slice A0 np c0) ∧ w'.cell? ⟨ba, 4, none⟩ = some (.slice A1 n c1) ∧ w'.cell? ⟨br, 0, none⟩ = some (.int .i64 x.t) ∧ w'.cell? ⟨br, 1, none⟩ = some (.int .i64 x.a) ∧ w'.cell? ⟨br, 2, none⟩ = some (.int .i64 x.nm) ∧ w'.cell? ⟨br, 3, none⟩ = some (.int .i64 x.v.k) ∧ w'.cell? ⟨br, 4, none⟩ = some (.int .i64 x.v.n) ∧ w'.cell? ⟨br, 5, none⟩ = some (.string x.v.s) ∧ w'.cell? ⟨br, 6, none⟩ = some (.int .i64 x.l) ∧ w'.cell? ⟨br, 7, none⟩ = some (.int .i64 x.g) ∧ w'.cell? ⟨bx, 0, none⟩ = some (.int .i64 tag) ∧ w'.cell? ⟨bx, 1, none⟩ = some (.int .i64 key) ∧ w'.cell? ⟨bx, 2, none⟩ = some (.string text) ∧ w'.cell? ⟨bx, 3, none⟩ = some (.slice (some ⟨g2, 0, none⟩) np np) ∧ w'.cell? ⟨bx, 4, none⟩ = some (.slice (some ⟨g3, 0, none⟩) n n)) (by kernel_rfl) ?_ (fun hHeld => ?_)
  · exact ⟨Below.drew (Below.refl _ _), f0, f1, f2, f3, f4, y0, y1, y2, y3, y4, y5, y6, y7, d0, d1, d2, d3, d4⟩
  refine wpAnyH_take (i := 0) (oi := _) (v := ?_) rfl (by kernel_rfl) (by kernel_rfl) (by kernel_rfl) (fun _ _ _ h => h) (Or.inl ⟨by kernel_rfl, ?_⟩) (by assumption) ?_
  rotate_left
  · (intro w hSw; (try dsimp only at hSw); go_simp)
    try with_reducible rfl
  (try simp only [Act.put, qa, qb, qc, qd, qe, qf])
  refine wpAnyH_take (i := 2) (oi := _) (v := ?_) rfl (by kernel_rfl) (by kernel_rfl) (by kernel_rfl) (fun _ _ _ h => h) (Or.inl ⟨by kernel_rfl, ?_⟩) (by assumption) ?_
  rotate_left
  · (intro w hSw; (try dsimp only at hSw); go_simp)
    try with_reducible rfl
  (try simp only [Act.put, qa, qb, qc, qd, qe, qf])
  refine wpAnyH_ready (rs := [1]) (by kernel_rfl) (by simp) ?_
  refine AllReadyH.cons (o := _) rfl (fun K hK => ?_) AllReadyH.nil
  go_simp
  have hB0 := hHeld.1
  refine (K1.out _ (HP.out.below (more HX.out (Nat.le_refl _) hB0)) (HK.out.below (more HX.out (Nat.le_refl _) hB0))).mono ?_
  rintro e v0 ⟨g0, g1, rfl, hp, _, hk, hb⟩
  refine hK.out _ _ ?_ (fun hHeld2 => ?_)
  · obtain ⟨_, f0, f1, f2, f3, f4, y0, y1, y2, y3, y4, y5, y6, y7, d0, d1, d2, d3, d4⟩ := hHeld
    exact ⟨hB0.trans (hb.mono hB0.size), (hb.cell (p := ⟨ba, 0, none⟩) (Nat.lt_of_lt_of_le hba hB0.size)).trans f0, (hb.cell (p := ⟨ba, 1, none⟩) (Nat.lt_of_lt_of_le hba hB0.size)).trans f1, (hb.cell (p := ⟨ba, 2, none⟩) (Nat.lt_of_lt_of_le hba hB0.size)).trans f2, (hb.cell (p := ⟨ba, 3, none⟩) (Nat.lt_of_lt_of_le hba hB0.size)).trans f3, (hb.cell (p := ⟨ba, 4, none⟩) (Nat.lt_of_lt_of_le hba hB0.size)).trans f4, (hb.cell (p := ⟨br, 0, none⟩) (Nat.lt_of_lt_of_le hbr hB0.size)).trans y0, (hb.cell (p := ⟨br, 1, none⟩) (Nat.lt_of_lt_of_le hbr hB0.size)).trans y1, (hb.cell (p := ⟨br, 2, none⟩) (Nat.lt_of_lt_of_le hbr hB0.size)).trans y2, (hb.cell (p := ⟨br, 3, none⟩) (Nat.lt_of_lt_of_le hbr hB0.size)).trans y3, (hb.cell (p := ⟨br, 4, none⟩) (Nat.lt_of_lt_of_le hbr hB0.size)).trans y4, (hb.cell (p := ⟨br, 5, none⟩) (Nat.lt_of_lt_of_le hbr hB0.size)).trans y5, (hb.cell (p := ⟨br, 6, none⟩) (Nat.lt_of_lt_of_le hbr hB0.size)).trans y6, (hb.cell (p := ⟨br, 7, none⟩) (Nat.lt_of_lt_of_le hbr hB0.size)).trans y7, (hb.cell (p := ⟨bx, 0, none⟩) (Nat.lt_of_lt_of_le hx5 hB0.size)).trans d0, (hb.cell (p := ⟨bx, 1, none⟩) (Nat.lt_of_lt_of_le hx5 hB0.size)).trans d1, (hb.cell (p := ⟨bx, 2, none⟩) (Nat.lt_of_lt_of_le hx5 hB0.size)).trans d2, (hb.cell (p := ⟨bx, 3, none⟩) (Nat.lt_of_lt_of_le hx5 hB0.size)).trans d3, (hb.cell (p := ⟨bx, 4, none⟩) (Nat.lt_of_lt_of_le hx5 hB0.size)).trans d4⟩
  have P1 := Lib.hid hp
  have Q1 := Lib.hid (hk.mono (Nat.zero_le _))
  clear hp hk
  clear hK K hb hB0 hHeld
  have hHeld := hHeld2
  clear hHeld2
  (try simp only [Act.put, qa, qb, qc, qd, qe, qf])
  refine wpAnyH_ready (rs := [3]) (by kernel_rfl) (by simp) ?_
  refine AllReadyH.cons (o := _) rfl (fun K hK => ?_) AllReadyH.nil
  go_simp
  have hB0 := hHeld.1
  refine (KR.out _).mono ?_
  rintro e v1 ⟨rfl, hb⟩
  refine hK.out _ _ ?_ (fun hHeld2 => ?_)
  · obtain ⟨_, f0, f1, f2, f3, f4, y0, y1, y2, y3, y4, y5, y6, y7, d0, d1, d2, d3, d4⟩ := hHeld
    exact ⟨hB0.trans (hb.mono hB0.size), (hb.cell (p := ⟨ba, 0, none⟩) (Nat.lt_of_lt_of_le hba hB0.size)).trans f0, (hb.cell (p := ⟨ba, 1, none⟩) (Nat.lt_of_lt_of_le hba hB0.size)).trans f1, (hb.cell (p := ⟨ba, 2, none⟩) (Nat.lt_of_lt_of_le hba hB0.size)).trans f2, (hb.cell (p := ⟨ba, 3, none⟩) (Nat.lt_of_lt_of_le hba hB0.size)).trans f3, (hb.cell (p := ⟨ba, 4, none⟩) (Nat.lt_of_lt_of_le hba hB0.size)).trans f4, (hb.cell (p := ⟨br, 0, none⟩) (Nat.lt_of_lt_of_le hbr hB0.size)).trans y0, (hb.cell (p := ⟨br, 1, none⟩) (Nat.lt_of_lt_of_le hbr hB0.size)).trans y1, (hb.cell (p := ⟨br, 2, none⟩) (Nat.lt_of_lt_of_le hbr hB0.size)).trans y2, (hb.cell (p := ⟨br, 3, none⟩) (Nat.lt_of_lt_of_le hbr hB0.size)).trans y3, (hb.cell (p := ⟨br, 4, none⟩) (Nat.lt_of_lt_of_le hbr hB0.size)).trans y4, (hb.cell (p := ⟨br, 5, none⟩) (Nat.lt_of_lt_of_le hbr hB0.size)).trans y5, (hb.cell (p := ⟨br, 6, none⟩) (Nat.lt_of_lt_of_le hbr hB0.size)).trans y6, (hb.cell (p := ⟨br, 7, none⟩) (Nat.lt_of_lt_of_le hbr hB0.size)).trans y7, (hb.cell (p := ⟨bx, 0, none⟩) (Nat.lt_of_lt_of_le hx5 hB0.size)).trans d0, (hb.cell (p := ⟨bx, 1, none⟩) (Nat.lt_of_lt_of_le hx5 hB0.size)).trans d1, (hb.cell (p := ⟨bx, 2, none⟩) (Nat.lt_of_lt_of_le hx5 hB0.size)).trans d2, (hb.cell (p := ⟨bx, 3, none⟩) (Nat.lt_of_lt_of_le hx5 hB0.size)).trans d3, (hb.cell (p := ⟨bx, 4, none⟩) (Nat.lt_of_lt_of_le hx5 hB0.size)).trans d4⟩
  replace P1 := Lib.hid (P1.out.below hb)
  replace Q1 := Lib.hid (Q1.out.below hb)
  clear hK K hb hB0 hHeld
  have hHeld := hHeld2
  clear hHeld2
  (try simp only [Act.put, qa, qb, qc, qd, qe, qf])
  refine wpAnyH_ready (rs := [4]) (by kernel_rfl) (by simp) ?_
  refine AllReadyH.cons (o := _) rfl (fun K hK => ?_) AllReadyH.nil
  go_simp
  have hB0 := hHeld.1
  refine (K3.out _ _ _ (HT.out.next (more HX.out (Nat.le_refl _) hB0)) P1.out Q1.out).mono ?_
  rintro e v2 ⟨T0, t0, rfl, ho, hb⟩
  refine hK.out _ _ ?_ (fun hHeld2 => ?_)
  · obtain ⟨_, f0, f1, f2, f3, f4, y0, y1, y2, y3, y4, y5, y6, y7, d0, d1, d2, d3, d4⟩ := hHeld
    exact ⟨hB0.trans (hb.mono hB0.size), (hb.cell (p := ⟨ba, 0, none⟩) (Nat.lt_of_lt_of_le hba hB0.size)).trans f0, (hb.cell (p := ⟨ba, 1, none⟩) (Nat.lt_of_lt_of_le hba hB0.size)).trans f1, (hb.cell (p := ⟨ba, 2, none⟩) (Nat.lt_of_lt_of_le hba hB0.size)).trans f2, (hb.cell (p := ⟨ba, 3, none⟩) (Nat.lt_of_lt_of_le hba hB0.size)).trans f3, (hb.cell (p := ⟨ba, 4, none⟩) (Nat.lt_of_lt_of_le hba hB0.size)).trans f4, (hb.cell (p := ⟨br, 0, none⟩) (Nat.lt_of_lt_of_le hbr hB0.size)).trans y0, (hb.cell (p := ⟨br, 1, none⟩) (Nat.lt_of_lt_of_le hbr hB0.size)).trans y1, (hb.cell (p := ⟨br, 2, none⟩) (Nat.lt_of_lt_of_le hbr hB0.size)).trans y2, (hb.cell (p := ⟨br, 3, none⟩) (Nat.lt_of_lt_of_le hbr hB0.size)).trans y3, (hb.cell (p := ⟨br, 4, none⟩) (Nat.lt_of_lt_of_le hbr hB0.size)).trans y4, (hb.cell (p := ⟨br, 5, none⟩) (Nat.lt_of_lt_of_le hbr hB0.size)).trans y5, (hb.cell (p := ⟨br, 6, none⟩) (Nat.lt_of_lt_of_le hbr hB0.size)).trans y6, (hb.cell (p := ⟨br, 7, none⟩) (Nat.lt_of_lt_of_le hbr hB0.size)).trans y7, (hb.cell (p := ⟨bx, 0, none⟩) (Nat.lt_of_lt_of_le hx5 hB0.size)).trans d0, (hb.cell (p := ⟨bx, 1, none⟩) (Nat.lt_of_lt_of_le hx5 hB0.size)).trans d1, (hb.cell (p := ⟨bx, 2, none⟩) (Nat.lt_of_lt_of_le hx5 hB0.size)).trans d2, (hb.cell (p := ⟨bx, 3, none⟩) (Nat.lt_of_lt_of_le hx5 hB0.size)).trans d3, (hb.cell (p := ⟨bx, 4, none⟩) (Nat.lt_of_lt_of_le hx5 hB0.size)).trans d4⟩
  have HT0 := Lib.hid ho.lies
  clear ho P1 Q1
  clear hK K hb hB0 hHeld
  have hHeld := hHeld2
  clear hHeld2
  (try simp only [Act.put, qa, qb, qc, qd, qe, qf])
  refine wpAnyH_take (i := 5) (oi := _) (v := ?_) rfl (by kernel_rfl) (by kernel_rfl) (by kernel_rfl) (fun _ _ _ h => h) (Or.inl ⟨by kernel_rfl, ?_⟩) (by assumption) ?_
  rotate_left
  · (intro w hSw; (try dsimp only at hSw); go_simp)
    try with_reducible rfl
  (try simp only [Act.put, qa, qb, qc, qd, qe, qf])
  refine wpAnyH_done (by kernel_rfl) ?_ _
  have hb := hHeld.1
  clear hHeld
  obtain ⟨w13, hlast⟩ : ∃ v, v2 = v := ⟨_, rfl⟩
  rw [hlast] at hb ⊢
  rw [hlast] at HT0
  clear hlast
  replace f0 := (hb.cell (p := ⟨ba, 0, none⟩) (by first | omega | (dsimp only; omega))).trans f0
  replace f1 := (hb.cell (p := ⟨ba, 1, none⟩) (by first | omega | (dsimp only; omega))).trans f1
  replace f2 := (hb.cell (p := ⟨ba, 2, none⟩) (by first | omega | (dsimp only; omega))).trans f2
  replace f3 := (hb.cell (p := ⟨ba, 3, none⟩) (by first | omega | (dsimp only; omega))).trans f3
  replace f4 := (hb.cell (p := ⟨ba, 4, none⟩) (by first | omega | (dsimp only; omega))).trans f4
  replace y0 := (hb.cell (p := ⟨br, 0, none⟩) (by first | omega | (dsimp only; omega))).trans y0
  replace y1 := (hb.cell (p := ⟨br, 1, none⟩) (by first | omega | (dsimp only; omega))).trans y1
  replace y2 := (hb.cell (p := ⟨br, 2, none⟩) (by first | omega | (dsimp only; omega))).trans y2
  replace y3 := (hb.cell (p := ⟨br, 3, none⟩) (by first | omega | (dsimp only; omega))).trans y3
  replace y4 := (hb.cell (p := ⟨br, 4, none⟩) (by first | omega | (dsimp only; omega))).trans y4
  replace y5 := (hb.cell (p := ⟨br, 5, none⟩) (by first | omega | (dsimp only; omega))).trans y5
  replace y6 := (hb.cell (p := ⟨br, 6, none⟩) (by first | omega | (dsimp only; omega))).trans y6
  replace y7 := (hb.cell (p := ⟨br, 7, none⟩) (by first | omega | (dsimp only; omega))).trans y7
  replace d0 := (hb.cell (p := ⟨bx, 0, none⟩) (by first | omega | (dsimp only; omega))).trans d0
  replace d1 := (hb.cell (p := ⟨bx, 1, none⟩) (by first | omega | (dsimp only; omega))).trans d1
  replace d2 := (hb.cell (p := ⟨bx, 2, none⟩) (by first | omega | (dsimp only; omega))).trans d2
  replace d3 := (hb.cell (p := ⟨bx, 3, none⟩) (by first | omega | (dsimp only; omega))).trans d3
  replace d4 := (hb.cell (p := ⟨bx, 4, none⟩) (by first | omega | (dsimp only; omega))).trans d4
  replace HX := Lib.hid (more HX.out (Nat.le_refl _) hb)
  replace HR := Lib.hid (HR.out.below hb)
  replace HM2 := Lib.hid (HM2.out.below hb)
  have hsz13 : w11b.heap.size ≤ w13.heap.size := hb.size
  replace hba : ba < w13.heap.size := Nat.lt_of_lt_of_le hba hsz13
  replace hbr : br < w13.heap.size := Nat.lt_of_lt_of_le hbr hsz13
  replace hx5 : bx < w13.heap.size := Nat.lt_of_lt_of_le hx5 hsz13
  clear hb hsz13
  go_wp2_with fail
  refine (K6.out _ _ _ _ _ HT0.out HR.out.lies).mono ?_
  rintro e w14 ⟨rfl, hb⟩
  replace f0 := (hb.cell (p := ⟨ba, 0, none⟩) (by first | omega | (dsimp only; omega))).trans f0
  replace f1 := (hb.cell (p := ⟨ba, 1, none⟩) (by first | omega | (dsimp only; omega))).trans f1
  replace f2 := (hb.cell (p := ⟨ba, 2, none⟩) (by first | omega | (dsimp only; omega))).trans f2
  replace f3 := (hb.cell (p := ⟨ba, 3, none⟩) (by first | omega | (dsimp only; omega))).trans f3
  replace f4 := (hb.cell (p := ⟨ba, 4, none⟩) (by first | omega | (dsimp only; omega))).trans f4
  replace y0 := (hb.cell (p := ⟨br, 0, none⟩) (by first | omega | (dsimp only; omega))).trans y0
  replace y1 := (hb.cell (p := ⟨br, 1, none⟩) (by first | omega | (dsimp only; omega))).trans y1
  replace y2 := (hb.cell (p := ⟨br, 2, none⟩) (by first | omega | (dsimp only; omega))).trans y2
  replace y3 := (hb.cell (p := ⟨br, 3, none⟩) (by first | omega | (dsimp only; omega))).trans y3
  replace y4 := (hb.cell (p := ⟨br, 4, none⟩) (by first | omega | (dsimp only; omega))).trans y4
  replace y5 := (hb.cell (p := ⟨br, 5, none⟩) (by first | omega | (dsimp only; omega))).trans y5
  replace y6 := (hb.cell (p := ⟨br, 6, none⟩) (by first | omega | (dsimp only; omega))).trans y6
  replace y7 := (hb.cell (p := ⟨br, 7, none⟩) (by first | omega | (dsimp only; omega))).trans y7
  replace d0 := (hb.cell (p := ⟨bx, 0, none⟩) (by first | omega | (dsimp only; omega))).trans d0
  replace d1 := (hb.cell (p := ⟨bx, 1, none⟩) (by first | omega | (dsimp only; omega))).trans d1
  replace d2 := (hb.cell (p := ⟨bx, 2, none⟩) (by first | omega | (dsimp only; omega))).trans d2
  replace d3 := (hb.cell (p := ⟨bx, 3, none⟩) (by first | omega | (dsimp only; omega))).trans d3
  replace d4 := (hb.cell (p := ⟨bx, 4, none⟩) (by first | omega | (dsimp only; omega))).trans d4
  replace HX := Lib.hid (more HX.out (Nat.le_refl _) hb)
  replace HR := Lib.hid (HR.out.below hb)
  replace HM2 := Lib.hid (HM2.out.below hb)
  have hsz14 : w13.heap.size ≤ w14.heap.size := hb.size
  replace hba : ba < w14.heap.size := Nat.lt_of_lt_of_le hba hsz14
  replace hbr : br < w14.heap.size := Nat.lt_of_lt_of_le hbr hsz14
  replace hx5 : bx < w14.heap.size := Nat.lt_of_lt_of_le hx5 hsz14
  clear hb hsz14
  go_wp2_with fail
  refine (KH.out _ _ w14 HM2.out.lies).mono ?_
  rintro e w15 ⟨rfl, hb⟩
  replace f0 := (hb.cell (p := ⟨ba, 0, none⟩) (by first | omega | (dsimp only; omega))).trans f0
  replace f1 := (hb.cell (p := ⟨ba, 1, none⟩) (by first | omega | (dsimp only; omega))).trans f1
  replace f2 := (hb.cell (p := ⟨ba, 2, none⟩) (by first | omega | (dsimp only; omega))).trans f2
  replace f3 := (hb.cell (p := ⟨ba, 3, none⟩) (by first | omega | (dsimp only; omega))).trans f3
  replace f4 := (hb.cell (p := ⟨ba, 4, none⟩) (by first | omega | (dsimp only; omega))).trans f4
  replace y0 := (hb.cell (p := ⟨br, 0, none⟩) (by first | omega | (dsimp only; omega))).trans y0
  replace y1 := (hb.cell (p := ⟨br, 1, none⟩) (by first | omega | (dsimp only; omega))).trans y1
  replace y2 := (hb.cell (p := ⟨br, 2, none⟩) (by first | omega | (dsimp only; omega))).trans y2
  replace y3 := (hb.cell (p := ⟨br, 3, none⟩) (by first | omega | (dsimp only; omega))).trans y3
  replace y4 := (hb.cell (p := ⟨br, 4, none⟩) (by first | omega | (dsimp only; omega))).trans y4
  replace y5 := (hb.cell (p := ⟨br, 5, none⟩) (by first | omega | (dsimp only; omega))).trans y5
  replace y6 := (hb.cell (p := ⟨br, 6, none⟩) (by first | omega | (dsimp only; omega))).trans y6
  replace y7 := (hb.cell (p := ⟨br, 7, none⟩) (by first | omega | (dsimp only; omega))).trans y7
  replace d0 := (hb.cell (p := ⟨bx, 0, none⟩) (by first | omega | (dsimp only; omega))).trans d0
  replace d1 := (hb.cell (p := ⟨bx, 1, none⟩) (by first | omega | (dsimp only; omega))).trans d1
  replace d2 := (hb.cell (p := ⟨bx, 2, none⟩) (by first | omega | (dsimp only; omega))).trans d2
  replace d3 := (hb.cell (p := ⟨bx, 3, none⟩) (by first | omega | (dsimp only; omega))).trans d3
  replace d4 := (hb.cell (p := ⟨bx, 4, none⟩) (by first | omega | (dsimp only; omega))).trans d4
  replace HX := Lib.hid (more HX.out (Nat.le_refl _) hb)
  replace HR := Lib.hid (HR.out.below hb)
  replace HM2 := Lib.hid (HM2.out.below hb)
  have hsz15 : w14.heap.size ≤ w15.heap.size := hb.size
  replace hba : ba < w15.heap.size := Nat.lt_of_lt_of_le hba hsz15
  replace hbr : br < w15.heap.size := Nat.lt_of_lt_of_le hbr hsz15
  replace hx5 : bx < w15.heap.size := Nat.lt_of_lt_of_le hx5 hsz15
  clear hb hsz15
  rw [hmm]
  go_wp2_with fail
  go_ret
  exact ⟨rfl, HB0.out.trans (HX.out.mono HB0.out.size)⟩
end Go.Proofs.YtmfibedcloknlaaGreatDoor.fnExactFindAll
