/- Layer 12: acts that came in, opened. -/
import Derived.Test.YthmeafnofckoiaaDoorPmN
import Derived.Test.YthmeafnofckoiaaDoorLaid
import Derived.Deep.Slices
import Derived.SizedLaws
namespace Go.Proofs.YthmeafnofckoiaaDoor
open Go Go.RowKit Go.ChangeShapes Go.WideShapes

theorem oc2 : Tryd.prog.cellsOf 2 = 1 := by kernel_rfl
theorem oc4 : Tryd.prog.cellsOf 4 = 1 := by kernel_rfl
theorem oc27 : Tryd.prog.cellsOf 27 = 1 := by kernel_rfl
theorem oc29 : Tryd.prog.cellsOf 29 = 6 := by kernel_rfl
theorem u16_wf {n : Int} (h : (Lit.int .u16 n).wf = true) : 0 ≤ n ∧ n < 65536 := by
  simp [Lit.wf, IntKind.min, IntKind.max, IntKind.bits, IntKind.signed] at h
  omega
theorem add_plain12 (b o i : Nat) : (⟨b, o, none⟩ : Addr).add i = ⟨b, o + i, none⟩ := by simp [Addr.add]
section
variable {H : Type} {enc : TypeId × Value → H} {W : World}
theorem xs_at12 {xs : List (DataW H × List MemPlace)} {n i : Nat} (h : xs.length = n) (hi : i < n) : ∃ y, xs[i]? = some y := ⟨xs[i]'(by omega), List.getElem?_eq_getElem (by omega)⟩
theorem spot_none12 {W : World} {a : Addr} {v : Value} (h : W.cell? (a.add 0) = some v) : ∃ b o, a = ⟨b, o, none⟩ ∧ b < W.heap.size := by
  obtain ⟨b, o, s⟩ := a
  have hs : s = none := by simpa [Addr.add] using World.cell?_spot h
  subst hs
  have hb := World.block_lt_of_cell? W _ h
  exact ⟨b, o, rfl, by simpa [Addr.add] using hb⟩
theorem six_l {cs : List Value} (h : cs.length = 6) : ∃ a b c d e f, cs = [a, b, c, d, e, f] := by
  match cs, h with
  | [a, b, c, d, e, f], _ => exact ⟨a, b, c, d, e, f, rfl⟩
theorem opn_i {t : TypeId} {k : IntKind} (hu : Tryd.prog.underlying t = some (.int k)) {fuel : Nat} {v : Value} {x : DataW H × List MemPlace} (h : DataW.trod enc Tryd.prog W 0 (fun _ => true) true fuel t [v] = some x) : ∃ n, v = .int k n ∧ (Lit.int k n).wf = true := by
  obtain ⟨n, e, _, hw⟩ := DataW.trod_int hu h
  simp only [List.cons.injEq, and_true] at e
  exact ⟨n, e, hw⟩
theorem opn_b {fuel : Nat} {v : Value} {x : DataW H × List MemPlace} (h : DataW.trod enc Tryd.prog W 0 (fun _ => true) true fuel 4 [v] = some x) : ∃ b, v = .bool b := by
  obtain ⟨n, e, _⟩ := DataW.trod_bool Tryd.underlying4 h
  simp only [List.cons.injEq, and_true] at e
  exact ⟨n, e⟩
set_option maxRecDepth 20000 in
/-- The cells of an act. -/
theorem opn_op {fuel : Nat} {cs : List Value} {x : DataW H × List MemPlace} (h : DataW.trod enc Tryd.prog W 0 (fun _ => true) true fuel 29 cs = some x) : ∃ y : OpT, cs = opC y ∧ y.2.2.2.2.2 < 65536 := by
  obtain ⟨xs, n, _, rfl, hl, hlen, hf⟩ := DataW.trod_struct Tryd.underlying29 h
  obtain ⟨v0, v1, v2, v3, v4, v5, rfl⟩ := six_l (hl.trans oc29)
  obtain ⟨y0, g0⟩ := xs_at12 hlen (i := 0) (by decide)
  obtain ⟨y1, g1⟩ := xs_at12 hlen (i := 1) (by decide)
  obtain ⟨y2, g2⟩ := xs_at12 hlen (i := 2) (by decide)
  obtain ⟨y3, g3⟩ := xs_at12 hlen (i := 3) (by decide)
  obtain ⟨y4, g4⟩ := xs_at12 hlen (i := 4) (by decide)
  obtain ⟨y5, g5⟩ := xs_at12 hlen (i := 5) (by decide)
  have f0 : DataW.trod enc Tryd.prog W 0 (fun _ => true) true n 3 ([v0, v1, v2, v3, v4, v5].take (Tryd.prog.cellsOf 3)) = some y0 := (hf 0 _ rfl).trans g0
  have f1 : DataW.trod enc Tryd.prog W 0 (fun _ => true) true n 3 ([v1, v2, v3, v4, v5].take (Tryd.prog.cellsOf 3)) = some y1 := (hf 1 _ rfl).trans g1
  have f2 : DataW.trod enc Tryd.prog W 0 (fun _ => true) true n 3 ([v2, v3, v4, v5].take (Tryd.prog.cellsOf 3)) = some y2 := (hf 2 _ rfl).trans g2
  have f3 : DataW.trod enc Tryd.prog W 0 (fun _ => true) true n 4 ([v3, v4, v5].take (Tryd.prog.cellsOf 4)) = some y3 := (hf 3 _ rfl).trans g3
  have f4 : DataW.trod enc Tryd.prog W 0 (fun _ => true) true n 2 ([v4, v5].take (Tryd.prog.cellsOf 2)) = some y4 := (hf 4 _ rfl).trans g4
  have f5 : DataW.trod enc Tryd.prog W 0 (fun _ => true) true n 27 ([v5].take (Tryd.prog.cellsOf 27)) = some y5 := (hf 5 _ rfl).trans g5
  rw [c3] at f0 f1 f2
  rw [oc4] at f3
  rw [oc2] at f4
  rw [oc27] at f5
  obtain ⟨a0, rfl, _⟩ := opn_i Tryd.underlying3 f0
  obtain ⟨a1, rfl, _⟩ := opn_i Tryd.underlying3 f1
  obtain ⟨a2, rfl, _⟩ := opn_i Tryd.underlying3 f2
  obtain ⟨a3, rfl⟩ := opn_b f3
  obtain ⟨a4, rfl, _⟩ := opn_i Tryd.underlying2 f4
  obtain ⟨a5, rfl, hw⟩ := opn_i Tryd.underlying27 f5
  obtain ⟨k1, k2⟩ := u16_wf hw
  obtain ⟨m, rfl⟩ : ∃ m : Nat, a5 = (m : Int) := ⟨a5.toNat, by omega⟩
  exact ⟨(a0, a1, a2, a3, a4, m), rfl, by show m < 65536; omega⟩
theorem opn_op_val {r : Reach} {b0 : Nat} {v : Value} {d : DataW H} {ps : List MemPlace} (hv : Value.okWide Tryd.prog W r b0 29 v) (h : DataW.Trod enc Tryd.prog W 0 (fun _ => true) true 29 v d ps) : ∃ y : OpT, v = .agg (opC y).toArray := by
  obtain ⟨cs, rfl, hsz⟩ := okWide_struct Tryd.underlying29 hv
  obtain ⟨fuel, hf⟩ := h
  obtain ⟨y, ec, _⟩ := opn_op hf
  refine ⟨y, ?_⟩
  have : cs = (opC y).toArray := by rw [← ec]; simp [Value.cells]
  rw [this]
/-- The list of the acts. -/
theorem opn_ops {r : Reach} {b0 : Nat} {v : Value} {d : DataW H} {ps : List MemPlace} (hv : Value.okWide Tryd.prog W r b0 22 v) (h : DataW.Trod enc Tryd.prog W 0 (fun _ => true) true 22 v d ps) : ∃ (l : List OpT) (ao : Option Addr) (c : Nat), v = .slice ao l.length c ∧ OpsR W l ao := by
  obtain ⟨a0, len0, cap0, rfl⟩ := okWide_slice Tryd.underlying22 hv
  obtain ⟨fuel, hf⟩ := h
  rcases Deep.open_slice Tryd.underlying22 hf with ⟨e, _⟩ | ⟨a, len, cap, m, n, D, Pl, e, _, hl, hm, hmm, _, hx⟩
  · have e' : Value.slice a0 len0 cap0 = .slice none 0 0 := by simpa [Value.cells] using e
    exact ⟨[], none, 0, e', .inl rfl⟩
  · have e' : Value.slice a0 len0 cap0 = .slice (some a) len cap := by simpa [Value.cells] using e
    rw [if_pos rfl] at hmm
    subst hmm
    have each : ∀ i, i < len → ∃ q : OpT, (∃ cs, W.cells? 0 (a.add (i * 6)) 6 = some cs ∧ cs = opC q) ∧ q.2.2.2.2.2 < 65536 := by
      intro i hi
      obtain ⟨cs, h1, h2⟩ := hx i (by omega)
      rw [oc29] at h1
      obtain ⟨y, ec, k3⟩ := opn_op h2
      exact ⟨y, ⟨cs, h1, ec⟩, k3⟩
    obtain ⟨q, hq⟩ := Deep.choose_lt each
    refine ⟨(List.range len).map q, some a, m, by rw [e']; simp, ?_⟩
    by_cases h0 : len = 0
    · exact .inl (by rw [h0]; rfl)
    · obtain ⟨⟨cs, h1, h2⟩, _⟩ := hq 0 (by omega)
      obtain ⟨_, hcl, hcc⟩ := World.cells?_some h1
      have hc0 := (hcc 0 (by omega)).trans (List.getElem?_eq_getElem (by omega))
      rw [Deep.add_add, Nat.zero_mul] at hc0
      obtain ⟨b, o, rfl, hb⟩ := spot_none12 hc0
      refine .inr ⟨b, o, rfl, hb, fun i y hi => ?_⟩
      have hi' : i < len := by
        have := (List.getElem?_eq_some_iff.1 hi).1
        simpa using this
      have hy : q i = y := by
        rw [List.getElem?_map, List.getElem?_range hi'] at hi
        exact Option.some.inj hi
      subst hy
      obtain ⟨⟨cs, h1, h2⟩, k3⟩ := hq i hi'
      obtain ⟨_, hcl, hcc⟩ := World.cells?_some h1
      have at_ : ∀ j, j < 6 → W.cell? ⟨b, o + i * 6 + j, none⟩ = (opC (q i))[j]? := fun j hj => by
        have := hcc j hj
        rw [Deep.add_add, add_plain12, ← Nat.add_assoc] at this
        rw [this, h2]
      exact ⟨⟨at_ 0 (by omega), at_ 1 (by omega), at_ 2 (by omega), at_ 3 (by omega), at_ 4 (by omega), at_ 5 (by omega)⟩, k3⟩
end
end Go.Proofs.YthmeafnofckoiaaDoor
