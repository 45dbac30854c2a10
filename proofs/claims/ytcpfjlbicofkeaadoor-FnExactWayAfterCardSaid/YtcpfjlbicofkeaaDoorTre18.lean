/- Trees that came in as arguments. -/
import Derived.Test.YtcpfjlbicofkeaaDoorTreM
import Derived.Test.YtcpfjlbicofkeaaDoorPrp3
namespace Go.Proofs.YtcpfjlbicofkeaaDoor
open Go.Joins Go.ChangeShapes Go.WideShapes Go.ChangeAt Go.RowKit Go.Deep
set_option linter.unusedVariables false
set_option linter.unusedSimpArgs false

/-- The keys below are numbers of the machine. -/
inductive WkT : Tr → Prop
  | mk {tag key : Int} {text : ByteArray} {ps : List Pr} {ks : List Tr} (h0 : ∀ x ∈ ks, (Lit.int .i64 x.key).wf = true) (h1 : ∀ x ∈ ks, WkT x) : WkT (.mk tag key text ps ks)
theorem WkT.open_ {t : Tr} (h : WkT t) : (∀ x ∈ t.ks, (Lit.int .i64 x.key).wf = true) ∧ ∀ x ∈ t.ks, WkT x := by
  cases h with | mk h0 h1 => exact ⟨h0, h1⟩
theorem KwT.of_sz : ∀ t, WkT t → szT t ≤ 1048576 → KwT t := Tr.by_kids fun t ih hw h => by
  have e := szT_eq t
  have h0 := szPrs_pos t.ps
  have h1 := szL_pos t.ks
  obtain ⟨w0, w1⟩ := hw.open_
  have hk : ∀ x ∈ t.ks, KwT x := fun x hx => ih x hx (w1 x hx) (by have := szL_mem hx; omega)
  obtain ⟨tag, key, text, ps, ks⟩ := t
  simp only [Tr.ps, Tr.ks, Tr.text] at *
  exact .mk w0 hk (by omega)
theorem cellsTr : Tryd.prog.cellsOf 25 = 5 := by kernel_rfl
def noTr : Tr := .mk 0 0 ⟨#[]⟩ [] []
theorem TrC.len {w : World} {lo : Nat} {cs : List Value} {t : Tr} (h : TrC w lo cs t) : cs[0]? = some (.int .i64 t.tag) := by
  obtain ⟨_, _, _, _, e, _⟩ := h.open_
  rw [e]; rfl
set_option maxRecDepth 100000 in
set_option maxHeartbeats 1000000 in
theorem Tr_at {H : Type} {enc : TypeId × Value → H} {W : World} {base : Nat} {sp : Nat → Bool} {held : Bool} : ∀ (fuel : Nat) (cs : List Value) (y : DataW H × List MemPlace),
    DataW.trod enc Tryd.prog W base sp held fuel 25 cs = some y → (∀ q ∈ y.2, q.block < W.heap.size) → ∃ t : Tr, TrC W 0 cs t ∧ SmT t ∧ WkT t ∧ (Lit.int .i64 t.key).wf = true := by
  intro fuel
  induction fuel using Nat.strongRecOn with
  | ind fuel IH =>
  intro cs y h hlt
  have ci : Tryd.prog.cellsOf 3 = 1 := by kernel_rfl
  have cst : Tryd.prog.cellsOf 9 = 1 := by kernel_rfl
  have cp : Tryd.prog.cellsOf 22 = 1 := by kernel_rfl
  have cq : Tryd.prog.cellsOf 23 = 1 := by kernel_rfl
  obtain ⟨xs, k, hk, hxy, hl, hxl, hf⟩ := DataW.trod_struct Tryd.underlying25 h
  have hcl : cs.length = 5 := hl.trans cellsTr
  subst hk
  clear hl
  match xs, hxl, cs, hcl with
  | [y0, y1, y2, y3, y4], _, [vt, vk, vs, vp, vq], _ =>
    have g0 : DataW.trod enc Tryd.prog W base sp held k 3 [vt] = some y0 := by simpa [ci] using hf 0 _ rfl
    obtain ⟨tag, e0, _⟩ := DataW.trod_int Tryd.underlying3 g0
    injection e0 with e0
    subst e0
    have g1 : DataW.trod enc Tryd.prog W base sp held k 3 [vk] = some y1 := by simpa [ci] using hf 1 _ rfl
    obtain ⟨key, e1, _, wk⟩ := DataW.trod_int Tryd.underlying3 g1
    injection e1 with e1
    subst e1
    have g2 : DataW.trod enc Tryd.prog W base sp held k 9 [vs] = some y2 := by simpa [cst] using hf 2 _ rfl
    obtain ⟨text, e2, _, ws⟩ := DataW.trod_string Tryd.underlying9 g2
    injection e2 with e2
    subst e2
    have g3 : DataW.trod enc Tryd.prog W base sp held k 22 [vp] = some y3 := by simpa [cp] using hf 3 _ rfl
    have g4 : DataW.trod enc Tryd.prog W base sp held k 23 [vq] = some y4 := by simpa [cq] using hf 4 _ rfl
    have hlt3 : ∀ q ∈ y3.2, q.block < W.heap.size := fun q hq => hlt q (by rw [hxy]; simp; exact .inr (.inr (.inr (.inl hq))))
    have hlt4 : ∀ q ∈ y4.2, q.block < W.heap.size := fun q hq => hlt q (by rw [hxy]; simp; exact .inr (.inr (.inr (.inr hq))))
    obtain ⟨A0, c0, ps, e3, hpm, _, hpx, hps⟩ := Prs_at g3 hlt3
    injection e3 with e3
    subst e3
    rcases DataW.trod_slice Tryd.underlying23 g4 with ⟨e4, _⟩ | ⟨a, len, cap, elems, rest, n, hkn, e4, hy4, _, hlc, hcm, hel, hc, _⟩
    · injection e4 with e4
      subst e4
      exact ⟨.mk tag key text ps [], .mk (ks := []) A0 c0 none 0 (fun _ => []) hpx (fun _ _ _ => Nat.zero_le _) (fun h => absurd h (by simp)) (fun i x h => by simp at h), .mk (ks := []) ws hpm hps (by decide) (by simp), .mk (ks := []) (by simp) (by simp), wk⟩
    · injection e4 with e4
      subst e4
      have each : ∀ i, i < len → ∃ q : List Value × Tr, (∀ j u, q.1[j]? = some u → W.cell? (a.add (i * 5 + j)) = some u) ∧ TrC W 0 q.1 q.2 ∧ SmT q.2 ∧ WkT q.2 ∧ (Lit.int .i64 q.2.key).wf = true := by
        intro i hi
        have h1 := hc i hi
        rw [cellsTr] at h1
        have hie : i < elems.length := by omega
        rw [List.getElem?_eq_getElem hie] at h1
        obtain ⟨cs', h2, h3⟩ := Option.bind_eq_some_iff.1 h1
        obtain ⟨_, hlen, hcell⟩ := World.cells?_some h2
        obtain ⟨t, z0, z1, z2, z3⟩ := IH n (by omega) cs' _ h3 (fun q hq => hlt4 q (by
          rw [hy4]
          simp only [List.mem_append]
          right
          rw [List.mem_flatMap]
          exact ⟨elems[i], List.mem_append_left _ (List.getElem_mem hie), hq⟩))
        refine ⟨(cs', t), fun j u hu => ?_, z0, z1, z2, z3⟩
        have hj : j < 5 := by
          have := (List.getElem?_eq_some_iff.1 hu).1
          obtain ⟨_, _, _, _, e, _⟩ := z0.open_
          rw [e] at this
          simpa using this
        have e0 := hcell j hj
        rw [add_add] at e0
        rw [e0, ← hu]
        try simp
      haveI : Inhabited (List Value × Tr) := ⟨([], noTr)⟩
      obtain ⟨q, hq⟩ := choose_lt each
      have hks : ∀ (i : Nat) (x : Tr), ((List.range len).map fun i => (q i).2)[i]? = some x → i < len ∧ x = (q i).2 := fun i x hx => by
        have hi : i < len := by
          have := (List.getElem?_eq_some_iff.1 hx).1
          simpa using this
        rw [List.getElem?_map, List.getElem?_range hi] at hx
        simp only [Option.map_some, Option.some.injEq] at hx
        exact ⟨hi, hx.symm⟩
      have hml : ∀ x ∈ (List.range len).map (fun i => (q i).2), ∃ i, i < len ∧ x = (q i).2 := fun x hx => by
        simp at hx
        obtain ⟨i, hi, rfl⟩ := hx
        exact ⟨i, hi, rfl⟩
      have hlen : ((List.range len).map fun i => (q i).2).length = len := by simp
      have htc : TrC W 0 [.int .i64 tag, .int .i64 key, .string text, .slice A0 ps.length c0, .slice (some a) ((List.range len).map fun i => (q i).2).length cap] (.mk tag key text ps ((List.range len).map fun i => (q i).2)) := by
        refine .mk A0 c0 (some a) cap (fun i => (q i).1) hpx (fun _ _ _ => Nat.zero_le _) (fun h0 => ?_) (fun i x hx => ?_)
        · rw [hlen] at h0 ⊢
          have hc0 := (hq 0 h0).1 0 _ (hq 0 h0).2.1.len
          obtain ⟨b, off, spot⟩ := a
          have hspot : spot = none := by simpa [Addr.add] using World.cell?_spot hc0
          subst hspot
          refine ⟨b, off, rfl, Nat.zero_le _, hlt4 (.cell b off) ?_, fun i hi j u hu => ?_⟩
          · rw [hy4, cellsTr]
            simp only [List.mem_append]
            left
            exact MemPlace.mem_row.2 ⟨0, by omega, by simp⟩
          · have := (hq i hi).1 j u hu
            rw [add_plain] at this
            rw [Nat.add_assoc]
            exact this
        · obtain ⟨hi, rfl⟩ := hks i x hx
          exact (hq i hi).2.1
      rw [hlen] at htc
      refine ⟨_, htc, .mk ws hpm hps (by rw [hlen]; omega) (fun x hx => ?_), .mk (fun x hx => ?_) (fun x hx => ?_), wk⟩
      · obtain ⟨i, hi, rfl⟩ := hml x hx; exact (hq i hi).2.2.1
      · obtain ⟨i, hi, rfl⟩ := hml x hx; exact (hq i hi).2.2.2.2
      · obtain ⟨i, hi, rfl⟩ := hml x hx; exact (hq i hi).2.2.2.1
set_option maxRecDepth 100000 in
theorem open_tree {H : Type} {enc : TypeId × Value → H} {W : World} {base b0 : Nat} {sp : Nat → Bool} {held : Bool} {r : Reach} {v : Value} {d : DataW H} {p : List MemPlace}
    (hv : Value.okWide Tryd.prog W r b0 25 v) (h : DataW.Trod enc Tryd.prog W base sp held 25 v d p) (hlt : ∀ x ∈ p, x.block < W.heap.size) :
    ∃ (t : Tr) (A0 : Option Addr) (c0 : Nat) (A1 : Option Addr) (c1 : Nat), v = .agg #[.int .i64 t.tag, .int .i64 t.key, .string t.text, .slice A0 t.ps.length c0, .slice A1 t.ks.length c1] ∧ PrL W A0 t.ps ∧ TrL W 0 A1 t.ks ∧ SmT t ∧ WkT t := by
  obtain ⟨cs, rfl, hc⟩ := okWide_struct Tryd.underlying25 hv
  obtain ⟨fuel, hf⟩ := h
  obtain ⟨t, htc, hsm, hwk, _⟩ := Tr_at fuel _ _ hf hlt
  obtain ⟨A0, c0, A1, c1, e, hp, _, hk⟩ := htc.open_
  refine ⟨t, A0, c0, A1, c1, ?_, hp, hk, hsm, hwk⟩
  simp only [Value.cells] at e
  rw [← e]
end Go.Proofs.YtcpfjlbicofkeaaDoor
