/- Proved: for every operation, every two numbers, whichever of them are known, and every two others, ArithTrue returns true, and all reads as before. No condition. -/
import Derived.Test.YthgockhdkmijoaaRows
import Derived.Test.YthgockhdkmijoaaWalksI
import Derived.Test.YthgockhdkmijoaaPairs
namespace Go.Proofs.Ythgockhdkmijoaa
open Go.ChangeShapes Go.WideShapes Go.ChangeAt Go.RowKit

theorem in64_of {n : Int} (h : (Lit.int .i64 n).wf = true) : In64 n := by
  simpa [Lit.wf, IntKind.min, IntKind.max, IntKind.signed, IntKind.bits, In64] using h
theorem own5 : ownKnob Try.prog.godebug = none := by kernel_rfl

set_option maxRecDepth 100000 in
theorem arithTrue_lifted (os : Os) (started : os.Started) (H : Type) (enc : TypeId × Value → H) :
    ReturnsInHanded {} Try.checked os 5 .any (Rows.arithTrueSpec.pre6 enc Try.prog Try.f5 Rows.arithTrueRow.domain false) (Rows.arithTrueSpec.post enc Try.prog Try.f5 false true false false) := by
  refine returnsInHanded_of_change (C := Try.checked) own5 started (by kernel_rfl) Try.func5
    (ChangeSpec.witness6 (enc := enc) (C := Try.checked) false ⟨#[], #[.int .i64 0, .agg #[.bool false, .bool false], .agg #[.int .i64 0, .int .i64 0], .int .i64 0, .int .i64 0], []⟩ 8 (by kernel_rfl) (by kernel_rfl) (by kernel_rfl) (by kernel_rfl)) ?_
  intro W base args ds gs before hval0 hW _ _
  have hval : ∀ (j : Nat) t v, Try.f5.params[j]? = some t → args[j]? = some v → Value.okWide Try.prog W .any base t v := hval0
  have hW' := hW
  obtain ⟨p, q, hA0, hV, rfl, hfz, hnd⟩ := hW
  have hA : DataW.TrodAll enc Try.prog W 0 (fun _ => true) true Try.f5.params.toList args.toList ds p := hA0
  rw [Try.params5] at hA hval
  obtain ⟨v0, vs0, d0, ds0, p0, q0, ea, rfl, rfl, h0, hA1⟩ := trodAll_cons hA
  obtain ⟨v1, vs1, d1, ds1, p1, q1, rfl, rfl, rfl, h1, hA2⟩ := trodAll_cons hA1
  obtain ⟨v2, vs2, d2, ds2, p2, q2, rfl, rfl, rfl, h2, hA3⟩ := trodAll_cons hA2
  obtain ⟨v3, vs3, d3, ds3, p3, q3, rfl, rfl, rfl, h3, hA4⟩ := trodAll_cons hA3
  obtain ⟨v4, vs4, d4, ds4, p4, q4, rfl, rfl, rfl, h4, hA5⟩ := trodAll_cons hA4
  obtain ⟨rfl, rfl, rfl⟩ := trodAll_nil hA5
  obtain ⟨la⟩ := args
  simp only at ea
  subst ea
  obtain ⟨rfl, rfl⟩ := trodVars_none hV
  obtain ⟨op, rfl, rfl, rfl, wo⟩ := open_int Try.underlying3 (hval 0 3 v0 rfl rfl) h0
  obtain ⟨k0, k1, rfl, rfl, rfl⟩ := open_known (hval 1 27 v1 rfl rfl) h1
  obtain ⟨n0, n1, rfl, rfl, rfl, w0, w1⟩ := WideMaps.open_pair arr28 Try.underlying2 (hval 2 28 v2 rfl rfl) h2
  obtain ⟨a, rfl, rfl, rfl, wa⟩ := open_int Try.underlying2 (hval 3 2 v3 rfl rfl) h3
  obtain ⟨b, rfl, rfl, rfl, wb⟩ := open_int Try.underlying2 (hval 4 2 v4 rfl rfl) h4
  clear hA0 hval0 hA hA1 hA2 hA3 hA4 hA5
  refine (true_any op k0 k1 n0 n1 a b W (in64_of wa) (in64_of wb)).mono fun e W' ⟨he, bel⟩ => ?_
  subst he
  have hE : DataW.TrodAll enc Try.prog W' 0 (fun b => decide (b < W.heap.size)) true [3, 27, 28, 2, 2] [.int .i64 op, .agg #[.bool k0, .bool k1], .agg #[.int .i64 n0, .int .i64 n1], .int .i64 a, .int .i64 b] [.lit (.int .i64 op), .agg [.lit (.bool k0), .lit (.bool k1)], .agg [.lit (.int .i64 n0), .lit (.int .i64 n1)], .lit (.int .i64 a), .lit (.int .i64 b)] [] :=
    trodAll_cons_mk (shut_int Try.underlying3 wo) (trodAll_cons_mk (shut_known k0 k1) (trodAll_mk3 (WideMaps.shut_pair arr28 Try.underlying2 w0 w1) (shut_int Try.underlying2 wa) (shut_int Try.underlying2 wb)))
  exact ⟨_, rfl, _, _, _, [], [], [], hW', trodAll_mk1 (shut_bool Try.underlying4 _), hE, rfl, bel.frame _, fun h => by cases h⟩

theorem arithTrue_holds : Rows.ArithTrueSaid :=
  OpenClaim.holds_of_wide 5 Try.f5 rfl rfl rfl rfl rfl rfl rfl ⟨rfl, rfl, rfl, rfl, rfl⟩ rfl rfl rfl rfl rfl (by kernel_rfl) Try.func5 (by kernel_rfl)
    (of_decide_eq_true (by kernel_rfl)) (by unfold Func.isWrapper; first | (rw [if_pos (by decide +kernel)]; kernel_rfl) | (rw [if_neg (by decide +kernel)]; exact ⟨rfl, rfl⟩))
    (fun os started H enc _ => arithTrue_lifted os started H enc)
#print axioms arithTrue_holds
end Go.Proofs.Ythgockhdkmijoaa
