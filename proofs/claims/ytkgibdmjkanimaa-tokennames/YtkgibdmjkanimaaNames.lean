/- Proved: for every text and every list of words TokenNames returns true, and both read as before. No condition. -/
import Derived.Test.YtkgibdmjkanimaaRows
import Derived.Test.YtkgibdmjkanimaaWalksM
import Derived.ProofKit
import Derived.Deep.SlicePairs
namespace Go.Proofs.Ytkgibdmjkanimaa
open Go.ChangeShapes Go.WideShapes Go.ChangeAt Go.RowKit
open Go.ChangeMaps (open_string shut_string)

theorem ownN : ownKnob Try.prog.godebug = none := by kernel_rfl
theorem laidOutN : laidOutB Try.prog = true := by kernel_rfl
theorem cells32 : Try.prog.cellsOf 32 = 2 := by kernel_rfl
theorem cells9 : Try.prog.cellsOf 9 = 1 := by kernel_rfl
theorem cells3 : Try.prog.cellsOf 3 = 1 := by kernel_rfl
/-- A slice of words that came in: which words it holds. -/
theorem open_toks {H : Type} {enc : TypeId × Value → H} {W : World} {a0 : Option Addr} {len cap : Nat} {d : DataW H} {ps : List MemPlace} (h : DataW.Trod enc Try.prog W 0 (fun _ => true) true 23 (.slice a0 len cap) d ps) :
    ∃ ts : List (ByteArray × Int), ts.length = len ∧ SlT W a0 ts ∧ (∀ t ∈ ts, t.1.size ≤ maxLen) ∧ len ≤ maxLen := by
  obtain ⟨fuel, hf⟩ := h
  rcases Deep.open_slice_pairs Try.underlying23 Try.underlying32 cells32 rfl rfl cells9 cells3 hf with ⟨hcs, _⟩ | ⟨a, l, c, m, n, V0, V1, D0, D1, P0, P1, hcs, _, hl, hm, hmm, _, hx⟩
  · simp [Value.cells] at hcs
    obtain ⟨rfl, rfl, rfl⟩ := hcs
    exact ⟨[], rfl, .inl rfl, (fun _ k => by cases k), by unfold maxLen; omega⟩
  · simp [Value.cells] at hcs
    obtain ⟨rfl, rfl, rfl⟩ := hcs
    simp only [if_true] at hmm
    have each : ∀ i, i < len → ∃ q : ByteArray × Int, W.cell? (a.add (i * 2)) = some (.string q.1) ∧ W.cell? (a.add (i * 2 + 1)) = some (.int .i64 q.2) ∧ q.1.size ≤ maxLen := by
      intro i hi
      obtain ⟨k1, k2, k3, k4⟩ := hx i (by omega)
      obtain ⟨s, e1, _, hs⟩ := DataW.trod_string Try.underlying9 k3
      obtain ⟨z, e2, _, _⟩ := DataW.trod_int Try.underlying3 k4
      simp only [List.cons.injEq, and_true] at e1 e2
      exact ⟨(s, z), by rw [k1, e1], by rw [k2, e2], hs⟩
    obtain ⟨q, hq⟩ := Deep.choose_lt each
    refine ⟨(List.range len).map q, by simp, ?_, ?_, Nat.le_trans hl hm⟩
    · by_cases h0 : len = 0
      · subst h0; exact .inl rfl
      · obtain ⟨b, off, spot⟩ := a
        have hspot : spot = none := by simpa [Addr.add] using World.cell?_spot (hq 0 (by omega)).1
        subst hspot
        have hb := World.block_lt_of_cell? W _ (hq 0 (by omega)).1
        refine .inr ⟨b, off, rfl, by simpa [Addr.add] using hb, fun i hi => ?_⟩
        have hi2 : i < len := by simpa using hi
        obtain ⟨g1, g2, _⟩ := hq i hi2
        rw [add_plain] at g1 g2
        have e : ((List.range len).map q).getD i (⟨#[]⟩, 0) = q i := by simp [hi2]
        rw [e]
        exact ⟨g1, by rw [Nat.add_assoc]; exact g2⟩
    · intro t ht
      obtain ⟨i, hi, rfl⟩ := List.mem_map.1 ht
      exact (hq i (List.mem_range.1 hi)).2.2
theorem names_any (s : ByteArray) (ts : List (ByteArray × Int)) (ao : Option Addr) (cap : Nat) (w : World) (hs : s.size ≤ maxLen) (hn : ts.length ≤ maxLen) (hS : SlT w ao ts) (hm : ∀ t ∈ ts, t.1.size ≤ maxLen) :
    Calls Try.prog 4 #[.string s, .slice ao ts.length cap] w fun e w' => e = .returned (.bool true) ∧ Below w.heap.size w w' := by
  by_cases h1 : 500 < s.size
  · exact names_long s ao _ cap w hs hn (.inl h1)
  · by_cases h2 : 100 < ts.length
    · exact names_long s ao _ cap w hs hn (.inr h2)
    · exact names_fit s ts ao cap w h1 h2 hS hm

set_option maxRecDepth 100000 in
theorem tokenNames_lifted (os : Os) (started : os.Started) (H : Type) (enc : TypeId × Value → H) :
    ReturnsInHanded {} Try.checked os 4 .any (Rows.tokenNamesSpec.pre6 enc Try.prog Try.f4 Rows.tokenNamesRow.domain false) (Rows.tokenNamesSpec.post enc Try.prog Try.f4 false true false false) := by
  refine returnsInHanded_of_change (C := Try.checked) ownN started (by kernel_rfl) Try.func4
    (ChangeSpec.witness6 (enc := enc) (C := Try.checked) false ⟨#[], #[.string ⟨#[]⟩, .slice none 0 0], []⟩ 8 (by kernel_rfl) (by kernel_rfl) (by kernel_rfl) (by kernel_rfl)) ?_
  intro W base args ds gs before hval0 hW _ _
  have hval : ∀ (j : Nat) t v, Try.f4.params[j]? = some t → args[j]? = some v → Value.okWide Try.prog W .any base t v := hval0
  have hW' := hW
  obtain ⟨p, q, hA0, hV, rfl, hfz, hnd⟩ := hW
  have hA : DataW.TrodAll enc Try.prog W 0 (fun _ => true) true Try.f4.params.toList args.toList ds p := hA0
  rw [Try.params4] at hA hval
  obtain ⟨v0, v1, d0, d1, p0, p1, rfl, rfl, rfl, h0, h1⟩ := trodAll_two hA
  obtain ⟨rfl, rfl⟩ := trodVars_none hV
  obtain ⟨a, rfl, rfl, rfl, wa⟩ := open_string Try.underlying9 (hval 0 9 v0 rfl rfl) h0
  obtain ⟨a0, len, cap, rfl⟩ := okWide_slice Try.underlying23 (hval 1 23 v1 rfl rfl)
  obtain ⟨ts, rfl, hS, hm, hn⟩ := open_toks h1
  clear hA0 hval0
  have hlt : ∀ x ∈ p1, x.block < W.heap.size := fun x hx => by simpa using hW'.lt x (by simp [hx])
  refine (names_any a ts a0 cap W wa hn hS hm).mono fun e W' ⟨he, bel⟩ => ?_
  subst he
  have h2 : DataW.Trod enc Try.prog W' 0 (fun b => decide (b < W.heap.size)) true 23 (.slice a0 ts.length cap) d1 p1 := Below.trod laidOutN (by kernel_rfl) (of_decide_eq_true (by kernel_rfl)) h1 bel hlt
  exact ⟨_, rfl, _, _, _, [], _, [], hW', trodAll_mk1 (shut_bool Try.underlying4 _), trodAll_mk2 (shut_string Try.underlying9 wa) h2, rfl, bel.frame _, fun h => by cases h⟩

theorem tokenNames_holds : Rows.TokenNamesSaid :=
  OpenClaim.holds_of_wide 4 Try.f4 rfl rfl rfl rfl rfl rfl rfl ⟨rfl, rfl, rfl, rfl, rfl⟩ rfl rfl rfl rfl rfl (by kernel_rfl) Try.func4 (by kernel_rfl)
    (of_decide_eq_true (by kernel_rfl)) (by unfold Func.isWrapper; first | (rw [if_pos (by decide +kernel)]; kernel_rfl) | (rw [if_neg (by decide +kernel)]; exact ⟨rfl, rfl⟩))
    (fun os started H enc _ => tokenNames_lifted os started H enc)
#print axioms tokenNames_holds
end Go.Proofs.Ytkgibdmjkanimaa
