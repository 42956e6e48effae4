/- Layer 8: whether a function is well shaped, and no more than is waited for. Layer 8: the small check. A program, and an instruction, that came in: which functions, blocks and instructions they hold. A function that comes in, opened, with its blocks' lengths. Layer 8: what a light function is; the reference's answers and the laws' own helpers, as properties that stay. -/
import Derived.Test.YtnlcpfijfjbgjaaWaAG
import Derived.Test.YtnlcpfijfjbgjaaWaAH
import Derived.Test.YtnlcpfijfjbgjaaWaAM
import Derived.Test.YtnlcpfijfjbgjaaWaAT
import Derived.Deep.Slices
import Derived.SizedLaws
import Derived.KernelRfl
namespace Go.Proofs.Ytnlcpfijfjbgjaa
open Go Go.RowKit
open G (Tok Er Ins Fun)
theorem rshaped_any (f : Fun) (v : Value) (w : World) (hv : FunV w f v) :
    Calls Try.prog 35 #[v] w fun e w' => e = .returned (.agg #[.int .i64 (shapedF f).1, .int .i64 (shapedF f).2]) ∧ Below w.heap.size w w' := by
  obtain ⟨nm, ps, rt, bl, pl⟩ := f
  have hv2 := hv
  obtain ⟨vp, vb, rfl, ⟨ao, c, rfl, h1, _⟩, h2⟩ := hv
  obtain ⟨bo, cb, rfl, _⟩ := h2
  exact rshaped_try nm ps rt pl bl ao bo c cb w hv2
/-- An instruction that is no longer than is waited for. -/
def LgtI (x : Ins) : Prop := x.2.2.2.2.2.1.length ≤ 30 ∧ x.2.2.2.2.1.length ≤ 30 ∧ x.2.2.2.2.2.2.1.length ≤ 100
def Lgt (f : Fun) : Prop := f.2.2.2.1.length ≤ 24 ∧ (∀ b ∈ f.2.2.2.1, b.length ≤ 150 ∧ ∀ x ∈ b, LgtI x) ∧ (shapedF f).1 = 0
set_option maxHeartbeats 4000000 in
set_option maxRecDepth 20000 in
theorem light_try (nm : List UInt8) (ps : List Int) (rt pl : Int) (bl : List (List Ins)) (ao bo : Option Addr) (c cb : Nat) (w : World)
    (hv : FunV w (nm, ps, rt, bl, pl) (.agg #[.string (bs nm), .slice ao ps.length c, .int .i64 rt, .slice bo bl.length cb, .int .i64 pl])) (hNA : ∀ b ∈ bl, b.length ≤ 281474976710656 ∧ ∀ x ∈ b, x.2.2.2.2.2.2.1.length ≤ maxLen) :
    Calls Try.prog 23 #[.agg #[.string (bs nm), .slice ao ps.length c, .int .i64 rt, .slice bo bl.length cb, .int .i64 pl]] w fun e w' => (e = .returned (.int .i64 1) ∨ (e = .returned (.int .i64 0) ∧ Lgt (nm, ps, rt, bl, pl))) ∧ Below w.heap.size w w' := by
  have b0 := below_box w (.cells #[.string (bs nm), .slice ao ps.length c, .int .i64 rt, .slice bo bl.length cb, .int .i64 pl] 25)
  have X0 := hide (L5.Box.new w [.string (bs nm), .slice ao ps.length c, .int .i64 rt, .slice bo bl.length cb, .int .i64 pl] 25)
  have HV := hide (hv.below b0)
  have HNA := hide hNA
  have B0 := hide b0
  have HB : Hid (BlksR _ bl (.slice bo bl.length cb)) := hide (by
    obtain ⟨vp, vb, e, _, hB⟩ := HV.out
    injection e with e
    have e3 := congrArg (fun a => a[3]?) e
    simp at e3
    rw [e3]; exact hB)
  have hbc : bl.length ≤ maxLen := by
    obtain ⟨_, _, e', l1, l2, _⟩ := HB.out
    exact Nat.le_trans l1 l2
  unfold maxLen at hbc
  clear hv b0 hNA
  have hfl : ∀ (a b : Value) (w : World), (Instr.field 64 (.agg #[a, b]) 0).run Try.prog w = .ok a w := fun _ _ _ => rfl
  go_enter Try.func23, Try.ntmps23
  go_upto_region 1 with fail
  show Code.wp _ _ _ _ (w.alloc (.cells #[.string (bs nm), .slice ao ps.length c, .int .i64 rt, .slice bo bl.length cb, .int .i64 pl] 25))
  replace X0 : Hid (L5.Box (w.alloc (.cells #[.string (bs nm), .slice ao ps.length c, .int .i64 rt, .slice bo bl.length cb, .int .i64 pl] 25)) w.heap.size [.string (bs nm), .slice ao ps.length c, .int .i64 rt, .slice bo bl.length cb, .int .i64 pl]) := X0
  generalize w.alloc (.cells #[.string (bs nm), .slice ao ps.length c, .int .i64 rt, .slice bo bl.length cb, .int .i64 pl] 25) = W at *
  obtain ⟨x0, x1, x2, x3, x4⟩ : _ ∧ _ ∧ _ ∧ _ ∧ _ := ⟨X0.out.2 0 _ rfl, X0.out.2 1 _ rfl, X0.out.2 2 _ rfl, X0.out.2 3 _ rfl, X0.out.2 4 _ rfl⟩
  by_cases h24 : (bl.length : Int) ≤ 24
  · have h24' : ¬ (24 : Int) < bl.length := by omega
    go_wp2_with fail
    clear x0 x1 x2 x3 x4
    go_loopw [3, 4] (fun nn i wr => ∃ (m K : Nat), m ≤ 150 ∧ nn = .int .i64 m ∧ K ≤ bl.length ∧ i = .int .i64 K ∧ Hid (∀ j b, j < K → bl[j]? = some b → b.length ≤ 150 ∧ ∀ x ∈ b, LgtI x) ∧ Hid (Below W.heap.size W wr)) (fun _ i _ => bl.length - (intOf i).toNat)
    case atStart => exact ⟨0, 0, by omega, rfl, Nat.zero_le _, rfl, hide (fun j b hj => by omega), hide (Below.refl _ _)⟩
    case round =>
      obtain ⟨m, K, hm, rfl, hK, rfl, HQ, HW⟩ := hrel
      obtain ⟨x0, x1, x2, x3, x4⟩ : _ ∧ _ ∧ _ ∧ _ ∧ _ := ⟨(X0.out.below HW.out).2 0 _ rfl, (X0.out.below HW.out).2 1 _ rfl, (X0.out.below HW.out).2 2 _ rfl, (X0.out.below HW.out).2 3 _ rfl, (X0.out.below HW.out).2 4 _ rfl⟩
      by_cases hkt : K < bl.length
      · obtain ⟨b, hbK⟩ : ∃ b, bl[K]? = some b := ⟨bl[K], List.getElem?_eq_getElem hkt⟩
        have hkI : (K : Int) < bl.length := by omega
        obtain ⟨_, _, e', l1, l2, l3⟩ := HB.out
        injection e' with e1 e2 e4
        subst e1 e4
        rcases l3 with l3 | ⟨gc, oc, rfl, gk, h2⟩
        · subst l3; simp at hkt
        obtain ⟨vk, kd, aok, capk, rfl, m1, m2, kk⟩ := h2 K b hbK
        have c1 := (HW.out.cell (p := ⟨gc, oc + K, none⟩) gk).trans kd
        have HKK := hide kk
        have KD := hide kd
        have HBK := hide hbK
        have hb48 := (HNA.out b (List.mem_of_getElem? hbK)).1
        unfold maxLen at m2 l2
        clear kd kk h2 hbK e2
        by_cases h150 : m + b.length ≤ 150
        · have h150' : ¬ (150 : Int) < (m : Int) + b.length := by omega
          go_wp2_with fail
          clear x0 x1 x2 x3 x4 c1
          have HW0 := HW
          clear HW
          go_loopw [5] (fun i wq => ∃ I : Nat, I ≤ b.length ∧ i = .int .i64 I ∧ Hid (∀ j x, j < I → b[j]? = some x → LgtI x) ∧ Hid (Below W.heap.size W wq)) (fun i _ => b.length - (intOf i).toNat)
          case atStart => exact ⟨0, Nat.zero_le _, rfl, hide (fun j b hj => by omega), HW0⟩
          case round =>
            clear HW0
            obtain ⟨I, hI, rfl, HI, HW⟩ := hrel
            obtain ⟨x0, x1, x2, x3, x4⟩ : _ ∧ _ ∧ _ ∧ _ ∧ _ := ⟨(X0.out.below HW.out).2 0 _ rfl, (X0.out.below HW.out).2 1 _ rfl, (X0.out.below HW.out).2 2 _ rfl, (X0.out.below HW.out).2 3 _ rfl, (X0.out.below HW.out).2 4 _ rfl⟩
            have c1 := (HW.out.cell (p := ⟨gc, oc + K, none⟩) gk).trans KD.out
            by_cases hit : I < b.length
            · have hiI : (I : Int) < b.length := by omega
              obtain ⟨x, hx⟩ : ∃ x, b[I]? = some x := ⟨b[I], List.getElem?_eq_getElem hit⟩
              rcases HKK.out with e0 | ⟨gi, oi, rfl, kk⟩
              · subst e0; simp at hit
              obtain ⟨ai, ti, ca, ct, hv, r0, r1, r2, r3, r4, r5, r6, r7⟩ := ((kk I _ hx).below HW.out).val
              have hna := (HNA.out b (List.mem_of_getElem? HBK.out)).2 x (List.mem_of_getElem? hx)
              have HNx : Hid (LgtI x → ∀ j y, j < I + 1 → b[j]? = some y → LgtI y) := hide (fun h j y hj hy => by
                by_cases e : j = I
                · subst e; rw [hx] at hy; injection hy with hy; rw [← hy]; exact h
                · exact HI.out j y (by omega) hy)
              obtain ⟨op, id, nn, ty, ar, tt, na, pp⟩ := x
              dsimp only at hv r0 r1 r2 r3 r4 r5 r6 r7 hna
              have hle : tt.length ≤ maxLen ∧ ar.length ≤ maxLen := by
                obtain ⟨a1, t1, c1, c2, e, s1, s2, s3, s4, s5, s6⟩ := hv
                exact ⟨Nat.le_trans s5 s6, Nat.le_trans s3 s4⟩
              obtain ⟨hle1, hle2⟩ := hle
              have hnl : (bs na).size = na.length := by simp [bs, ByteArray.size]
              unfold maxLen at hle1 hle2 hna
              have B7 := hide (below_step HW.out (below_box wr (.cells #[.int .i64 op, .int .i64 id, .int .i64 nn, .int .i64 ty, .slice ai ar.length ca, .slice ti tt.length ct, .string (bs na), .int .i64 pp] 60)))
              obtain ⟨s0, s1, s2, s3, s4, s5, s6, s7⟩ := box8 (heap_alloc_new wr (.cells #[.int .i64 op, .int .i64 id, .int .i64 nn, .int .i64 ty, .slice ai ar.length ca, .slice ti tt.length ct, .string (bs na), .int .i64 pp] 60))
              clear kk hx hv
              by_cases hL : LgtI (op, id, nn, ty, ar, tt, na, pp)
              · have HLx := hide (HNx.out hL)
                obtain ⟨q1, q2, q3⟩ := hL
                dsimp only at q1 q2 q3
                have q1' : ¬ (30 : Int) < tt.length := by omega
                have q2' : ¬ (30 : Int) < ar.length := by omega
                have q3' : ¬ (100 : Int) < na.length := by omega
                go_wp2_with fail
                go_roundw
                case rel => exact ⟨I + 1, by omega, by go_num, HLx, B7⟩
                case measure => simp [intOf]; omega
              · have HLn := hide hL
                clear hL
                go_wp2_with fail
                all_goals first
                  | (go_ret; exact ⟨.inl rfl, below_step B0.out B7.out⟩)
                  | (exfalso; exact HLn.out ⟨by show tt.length ≤ 30; omega, by show ar.length ≤ 30; omega, by show na.length ≤ 100; omega⟩)
            · obtain rfl : I = b.length := by omega
              have HE : Hid (∀ j y, j < K + 1 → bl[j]? = some y → y.length ≤ 150 ∧ ∀ x ∈ y, LgtI x) := hide (fun j y hj hy => by
                by_cases e : j = K
                · subst e; rw [HBK.out] at hy; injection hy with hy; rw [← hy]
                  refine ⟨by omega, fun x hx => ?_⟩
                  obtain ⟨i, hi, rfl⟩ := List.mem_iff_getElem.1 hx
                  exact HI.out i _ hi (List.getElem?_eq_getElem hi)
                · exact HQ.out j y (by omega) hy)
              go_wp2_with fail
              go_roundw
              case rel => exact ⟨m + b.length, K + 1, h150, by go_num, by omega, by go_num, HE, HW⟩
              case measure => simp [intOf]; omega
        · have h150' : (150 : Int) < (m : Int) + b.length := by omega
          go_wp2_with fail
          go_ret
          exact ⟨.inl rfl, below_step B0.out HW.out⟩
      · obtain rfl : K = bl.length := by omega
        have HSh := hide (rshaped_any (nm, ps, rt, bl, pl) _ wr (HV.out.below HW.out))
        go_wp2_with fail
        refine HSh.out.mono ?_; rintro e w8 ⟨rfl, b8⟩
        have HB8 := hide (below_step B0.out (below_step HW.out b8))
        by_cases hz : (shapedF (nm, ps, rt, bl, pl)).1 = 0
        · have HL : Hid (Lgt (nm, ps, rt, bl, pl)) := hide ⟨by show bl.length ≤ 24; omega, fun b hb => by
            obtain ⟨i, hi, rfl⟩ := List.mem_iff_getElem.1 hb
            exact HQ.out i _ hi (List.getElem?_eq_getElem hi), hz⟩
          rw [hz]
          clear hz b8
          go_wp2_with fail
          go_ret
          exact ⟨.inr ⟨rfl, HL.out⟩, HB8.out⟩
        · have hz' : ((shapedF (nm, ps, rt, bl, pl)).1 != 0) = true := by simpa using hz
          generalize (shapedF (nm, ps, rt, bl, pl)).1 = z at *
          generalize (shapedF (nm, ps, rt, bl, pl)).2 = z2 at *
          clear b8
          go_wp2_with fail
          go_ret
          exact ⟨.inl rfl, HB8.out⟩
  · have h24' : (24 : Int) < bl.length := by omega
    go_wp2_with fail
    go_ret
    exact ⟨.inl rfl, B0.out⟩
end Go.Proofs.Ytnlcpfijfjbgjaa
namespace Go.Proofs.Ytnlcpfijfjbgjaa
open Go Go.RowKit
open G (Tok Er Ins Fun)
open Mix (Up)
theorem fork_shape : shapedF fFork = (0, 0) := by decide +kernel
end Go.Proofs.Ytnlcpfijfjbgjaa
namespace Go.Proofs.Ytnlcpfijfjbgjaa
open Go Go.RowKit Go.ChangeShapes Go.WideShapes
open G (Tok Er Ins Fun)
theorem oc2 : Try.prog.cellsOf 2 = 1 := by kernel_rfl
theorem oc3 : Try.prog.cellsOf 3 = 1 := by kernel_rfl
theorem oc9 : Try.prog.cellsOf 9 = 1 := by kernel_rfl
theorem oc31 : Try.prog.cellsOf 22 = 1 := by kernel_rfl
theorem oc32 : Try.prog.cellsOf 23 = 1 := by kernel_rfl
theorem oc34 : Try.prog.cellsOf 25 = 5 := by kernel_rfl
theorem oc36 : Try.prog.cellsOf 61 = 1 := by kernel_rfl
theorem oc39 : Try.prog.cellsOf 60 = 8 := by kernel_rfl
theorem ob3 : Try.prog.bytesOf 3 = 8 := by kernel_rfl
theorem ob36 : Try.prog.bytesOf 61 = 24 := by kernel_rfl
theorem ob39 : Try.prog.bytesOf 60 = 104 := by kernel_rfl
/-- No part of a datum is longer than a process can hold. -/
def Sz {H : Type} (t : TypeId) (d : DataW H) : Prop := ∀ n ∈ d.weights Try.prog t, n ≤ reachBytes
section
variable {H : Type}
theorem Sz.field {t : TypeId} {fs : Array Field} {parts : List (DataW H)} (hu : Try.prog.underlying t = some (.struct fs)) (h : Sz t (.agg parts)) {i : Nat} {ti : TypeId} {di : DataW H} (ht : (fs.toList.map (·.type))[i]? = some ti) (hd : parts[i]? = some di) : Sz ti di := by
  intro n hn
  refine h n ?_
  simp only [DataW.weights, hu]
  exact DataW.weights_mem_each ht hd n hn
theorem weightsAll_mem {e : TypeId} {d : DataW H} : ∀ {l : List (DataW H)}, d ∈ l → ∀ n ∈ d.weights Try.prog e, n ∈ DataW.weightsAll Try.prog e l
  | x :: l, hd, n, hn => by
    simp only [DataW.weightsAll, List.mem_append]
    rcases List.mem_cons.1 hd with rfl | hd
    · exact .inl hn
    · exact .inr (weightsAll_mem hd n hn)
theorem Sz.elem {t e : TypeId} {elems spare : List (DataW H)} (hu : Try.prog.underlying t = some (.slice e)) (h : Sz t (.slice elems spare)) {d : DataW H} (hd : d ∈ elems) : Sz e d := by
  intro n hn
  refine h n ?_
  simp only [DataW.weights, hu, List.mem_cons, List.mem_append]
  exact .inr (.inl (weightsAll_mem hd n hn))
theorem Sz.len {t e : TypeId} {elems spare : List (DataW H)} (hu : Try.prog.underlying t = some (.slice e)) (h : Sz t (.slice elems spare)) : (elems.length + spare.length) * Try.prog.bytesOf e ≤ reachBytes :=
  h _ (by simp [DataW.weights, hu])
end
/-- How great a part is. -/
def Few (n : Nat) : Prop := n ≤ 140737488355328
theorem few_of {n b m : Nat} (hb : 1 ≤ b) (h : (n + m) * b ≤ reachBytes) : Few n := by
  have h1 : (n + m) * 1 ≤ (n + m) * b := Nat.mul_le_mul_left _ hb
  have h2 : reachBytes = 140737488351232 := rfl
  unfold Few; omega
/-- What an instruction, and a function, that came in keep to. -/
def GxI (x : Ins) : Prop := I64 x.2.1 ∧ I64 x.2.2.1 ∧ (∀ i ∈ x.2.2.2.2.1, I64 i) ∧ (∀ i ∈ x.2.2.2.2.2.1, I64 i) ∧ Few x.2.2.2.2.1.length ∧ Few x.2.2.2.2.2.1.length ∧ Few x.2.2.2.2.2.2.1.length
section
variable {H : Type} {enc : TypeId × Value → H} {W : World}
theorem i64_wf {n : Int} (h : (Lit.int .i64 n).wf = true) : I64 n := by
  simp [Lit.wf, IntKind.min, IntKind.max, IntKind.bits, IntKind.signed] at h
  unfold I64; omega
theorem opn_int {fuel : Nat} {v : Value} {x : DataW H × List MemPlace} (h : DataW.trod enc Try.prog W 0 (fun _ => true) true fuel 3 [v] = some x) : ∃ n, v = .int .i64 n ∧ I64 n := by
  obtain ⟨n, e, _, hw⟩ := DataW.trod_int Try.underlying3 h
  simp only [List.cons.injEq, and_true] at e
  exact ⟨n, e, i64_wf hw⟩
theorem opn_int2 {fuel : Nat} {v : Value} {x : DataW H × List MemPlace} (h : DataW.trod enc Try.prog W 0 (fun _ => true) true fuel 2 [v] = some x) : ∃ n, v = .int .i64 n ∧ I64 n := by
  obtain ⟨n, e, _, hw⟩ := DataW.trod_int Try.underlying2 h
  simp only [List.cons.injEq, and_true] at e
  exact ⟨n, e, i64_wf hw⟩
theorem opn_str {fuel : Nat} {v : Value} {x : DataW H × List MemPlace} (h : DataW.trod enc Try.prog W 0 (fun _ => true) true fuel 9 [v] = some x) (hz : Sz 9 x.1) : ∃ s : List UInt8, v = .string (bs s) ∧ Few s.length := by
  obtain ⟨s, e, rfl, _⟩ := DataW.trod_string Try.underlying9 h
  simp only [List.cons.injEq, and_true] at e
  refine ⟨s.data.toList, by rw [e, bs_of], ?_⟩
  have h1 := hz s.data.toList.length (by simp [DataW.weights])
  have h2 : reachBytes = 140737488351232 := rfl
  unfold Few; omega
theorem spot_none {W : World} {a : Addr} {v : Value} (h : W.cell? (a.add 0) = some v) : ∃ b o, a = ⟨b, o, none⟩ ∧ b < W.heap.size := by
  obtain ⟨b, o, s⟩ := a
  have hs : s = none := by simpa [Addr.add] using World.cell?_spot h
  subst hs
  have hb := World.block_lt_of_cell? W _ h
  exact ⟨b, o, rfl, by simpa [Addr.add] using hb⟩
theorem opn_ints {fuel : Nat} {v : Value} {x : DataW H × List MemPlace} (h : DataW.trod enc Try.prog W 0 (fun _ => true) true fuel 22 [v] = some x) (hz : Sz 22 x.1) : ∃ l : List Int, IntsV W l v ∧ (∀ n ∈ l, I64 n) ∧ Few l.length := by
  rcases open_ints Try.underlying22 Try.underlying3 oc3 h with ⟨e, _⟩ | ⟨a, len, cap, zs, e, _, hl, hm, hzl, rfl, hc, hw⟩
  · simp only [List.cons.injEq, and_true] at e
    exact ⟨[], ⟨none, 0, e, .inl rfl, Nat.le_refl _, Nat.zero_le _⟩, fun _ h => (by cases h), by unfold Few; simp⟩
  · simp only [List.cons.injEq, and_true] at e
    rw [if_pos rfl] at hzl
    have hlen : (zs.take len).length = len := by simp; omega
    have hsl := Sz.len Try.underlying22 hz
    refine ⟨zs.take len, ⟨some a, cap, by rw [hlen]; exact e, ?_, by omega, hm⟩, fun n hn => i64_wf (hw n (List.mem_of_mem_take hn)), ?_⟩
    · by_cases h0 : len = 0
      · exact .inl (by rw [h0]; rfl)
      · obtain ⟨b, o, rfl, hb⟩ := spot_none (hc 0 (by omega))
        refine .inr ⟨b, o, rfl, hb, fun i n hi => ?_⟩
        obtain ⟨h1, h2⟩ := List.getElem?_eq_some_iff.1 hi
        have := hc i (by omega)
        rw [add_plain] at this
        rw [this, List.getD_eq_getElem?_getD, List.getElem?_eq_getElem (by omega)]
        rw [List.getElem_take] at h2
        rw [← h2]; rfl
    · rw [ob3] at hsl
      simp only [lits, List.length_map] at hsl
      exact few_of (b := 8) (by omega) hsl
theorem xs_at {xs : List (DataW H × List MemPlace)} {n i : Nat} (h : xs.length = n) (hi : i < n) : ∃ y, xs[i]? = some y := ⟨xs[i]'(by omega), List.getElem?_eq_getElem (by omega)⟩
theorem eight_l {cs : List Value} (h : cs.length = 8) : ∃ a b c d e f g i, cs = [a, b, c, d, e, f, g, i] := by
  match cs, h with
  | [a, b, c, d, e, f, g, i], _ => exact ⟨a, b, c, d, e, f, g, i, rfl⟩
theorem five_l {cs : List Value} (h : cs.length = 5) : ∃ a b c d e, cs = [a, b, c, d, e] := by
  match cs, h with
  | [a, b, c, d, e], _ => exact ⟨a, b, c, d, e, rfl⟩
/-- The cells of an instruction. -/
theorem opn_ins {fuel : Nat} {cs : List Value} {x : DataW H × List MemPlace} (h : DataW.trod enc Try.prog W 0 (fun _ => true) true fuel 60 cs = some x) (hz : Sz 60 x.1) :
    ∃ (y : Ins) (va vt : Value), cs = insC y va vt ∧ IntsV W y.2.2.2.2.1 va ∧ IntsV W y.2.2.2.2.2.1 vt ∧ GxI y := by
  obtain ⟨xs, n, _, rfl, hl, hlen, hf⟩ := DataW.trod_struct Try.underlying60 h
  obtain ⟨v0, v1, v2, v3, v4, v5, v6, v7, rfl⟩ := eight_l (hl.trans oc39)
  have fld : ∀ (i : Nat) (ti : TypeId) (y : DataW H × List MemPlace), ((#[_, _, _, _, _, _, _, _] : Array Field).toList.map (·.type))[i]? = some ti → xs[i]? = some y → Sz ti y.1 := fun i ti y ht hy => Sz.field Try.underlying60 hz ht (by rw [List.getElem?_map, hy]; rfl)
  obtain ⟨y0, g0⟩ := xs_at hlen (i := 0) (by decide)
  obtain ⟨y1, g1⟩ := xs_at hlen (i := 1) (by decide)
  obtain ⟨y2, g2⟩ := xs_at hlen (i := 2) (by decide)
  obtain ⟨y3, g3⟩ := xs_at hlen (i := 3) (by decide)
  obtain ⟨y4, g4⟩ := xs_at hlen (i := 4) (by decide)
  obtain ⟨y5, g5⟩ := xs_at hlen (i := 5) (by decide)
  obtain ⟨y6, g6⟩ := xs_at hlen (i := 6) (by decide)
  obtain ⟨y7, g7⟩ := xs_at hlen (i := 7) (by decide)
  have f0 : DataW.trod enc Try.prog W 0 (fun _ => true) true n 3 ([v0, v1, v2, v3, v4, v5, v6, v7].take (Try.prog.cellsOf 3)) = some y0 := (hf 0 _ rfl).trans g0
  have f1 : DataW.trod enc Try.prog W 0 (fun _ => true) true n 3 ([v1, v2, v3, v4, v5, v6, v7].take (Try.prog.cellsOf 3)) = some y1 := (hf 1 _ rfl).trans g1
  have f2 : DataW.trod enc Try.prog W 0 (fun _ => true) true n 2 ([v2, v3, v4, v5, v6, v7].take (Try.prog.cellsOf 2)) = some y2 := (hf 2 _ rfl).trans g2
  have f3 : DataW.trod enc Try.prog W 0 (fun _ => true) true n 3 ([v3, v4, v5, v6, v7].take (Try.prog.cellsOf 3)) = some y3 := (hf 3 _ rfl).trans g3
  have f4 : DataW.trod enc Try.prog W 0 (fun _ => true) true n 22 ([v4, v5, v6, v7].take (Try.prog.cellsOf 22)) = some y4 := (hf 4 _ rfl).trans g4
  have f5 : DataW.trod enc Try.prog W 0 (fun _ => true) true n 22 ([v5, v6, v7].take (Try.prog.cellsOf 22)) = some y5 := (hf 5 _ rfl).trans g5
  have f6 : DataW.trod enc Try.prog W 0 (fun _ => true) true n 9 ([v6, v7].take (Try.prog.cellsOf 9)) = some y6 := (hf 6 _ rfl).trans g6
  have f7 : DataW.trod enc Try.prog W 0 (fun _ => true) true n 3 ([v7].take (Try.prog.cellsOf 3)) = some y7 := (hf 7 _ rfl).trans g7
  rw [oc3] at f0 f1 f3 f7
  rw [oc2] at f2
  rw [oc31] at f4 f5
  rw [oc9] at f6
  obtain ⟨k, rfl, _⟩ := opn_int f0
  obtain ⟨id, rfl, hid⟩ := opn_int f1
  obtain ⟨nn, rfl, hn⟩ := opn_int2 f2
  obtain ⟨ty, rfl, _⟩ := opn_int f3
  obtain ⟨ar, ha, hai, hal⟩ := opn_ints f4 (Sz.field Try.underlying60 hz (i := 4) rfl (by rw [List.getElem?_map, g4]; rfl))
  obtain ⟨tt, ht, hti, htl⟩ := opn_ints f5 (Sz.field Try.underlying60 hz (i := 5) rfl (by rw [List.getElem?_map, g5]; rfl))
  obtain ⟨nm, rfl, hnm⟩ := opn_str f6 (Sz.field Try.underlying60 hz (i := 6) rfl (by rw [List.getElem?_map, g6]; rfl))
  obtain ⟨pl, rfl, _⟩ := opn_int f7
  exact ⟨(k, id, nn, ty, ar, tt, nm, pl), v4, v5, rfl, ha, ht, hid, hn, hai, hti, hal, htl, hnm⟩
theorem add2 (b o i j : Nat) : ((⟨b, o, none⟩ : Addr).add i).add j = ⟨b, o + i + j, none⟩ := by rw [Deep.add_add, add_plain, Nat.add_assoc]
/-- A block's instructions. -/
theorem opn_blk {fuel : Nat} {v : Value} {x : DataW H × List MemPlace} (h : DataW.trod enc Try.prog W 0 (fun _ => true) true fuel 61 [v] = some x) (hz : Sz 61 x.1) : ∃ l : List Ins, BlkR W l v ∧ (∀ y ∈ l, GxI y) ∧ Few l.length := by
  rcases Deep.open_slice Try.underlying61 h with ⟨e, _⟩ | ⟨a, len, cap, m, n, D, Pl, e, _, hl, hm, hmm, rfl, hx⟩
  · simp only [List.cons.injEq, and_true] at e
    exact ⟨[], ⟨none, 0, e, Nat.le_refl _, Nat.zero_le _, .inl rfl⟩, fun _ h => (by cases h), by unfold Few; simp⟩
  · simp only [List.cons.injEq, and_true] at e
    rw [if_pos rfl] at hmm
    subst hmm
    have hsl := Sz.len Try.underlying61 hz
    rw [ob39] at hsl
    simp only [List.length_map, List.length_range] at hsl
    have each : ∀ i, i < len → ∃ q : Ins, (∃ va vt, (∃ cs, W.cells? 0 (a.add (i * 8)) 8 = some cs ∧ cs = insC q va vt) ∧ IntsV W q.2.2.2.2.1 va ∧ IntsV W q.2.2.2.2.2.1 vt) ∧ GxI q := by
      intro i hi
      obtain ⟨cs, h1, h2⟩ := hx i (by omega)
      rw [oc39] at h1
      obtain ⟨y, va, vt, ec, k1, k2, k3⟩ := opn_ins h2 (Sz.elem Try.underlying61 hz (List.mem_map.2 ⟨i, by simpa using hi, rfl⟩))
      exact ⟨y, ⟨va, vt, ⟨cs, h1, ec⟩, k1, k2⟩, k3⟩
    obtain ⟨q, hq⟩ := Deep.choose_lt each
    refine ⟨(List.range len).map q, ⟨some a, m, by rw [e]; simp, by simpa using hl, hm, ?_⟩, fun y hy => ?_, by simpa using few_of (b := 104) (by omega) hsl⟩
    · by_cases h0 : len = 0
      · exact .inl (by rw [h0]; rfl)
      · obtain ⟨⟨va, vt, ⟨cs, h1, h2⟩, _⟩, _⟩ := hq 0 (by omega)
        obtain ⟨_, hcl, hcc⟩ := World.cells?_some h1
        have hc0 := (hcc 0 (by omega)).trans (List.getElem?_eq_getElem (by omega))
        rw [Deep.add_add, Nat.zero_mul] at hc0
        obtain ⟨b, o, rfl, hb⟩ := spot_none hc0
        refine .inr ⟨b, o, rfl, fun i y hi => ?_⟩
        have hi' : i < len := by
          have := (List.getElem?_eq_some_iff.1 hi).1
          simpa using this
        have hy : q i = y := by
          rw [List.getElem?_map, List.getElem?_range hi'] at hi
          exact Option.some.inj hi
        subst hy
        obtain ⟨⟨va, vt, ⟨cs, h1, h2⟩, k1, k2⟩, _⟩ := hq i hi'
        obtain ⟨_, hcl, hcc⟩ := World.cells?_some h1
        refine ⟨hb, va, vt, fun j t hj => ?_, k1, k2⟩
        have hj8 : j < 8 := (List.getElem?_eq_some_iff.1 hj).1
        have := hcc j hj8
        rw [add2] at this
        rw [this, h2]
        exact hj
    · obtain ⟨i, hi, rfl⟩ := List.mem_map.1 hy
      exact (hq i (by simpa using hi)).2
end
end Go.Proofs.Ytnlcpfijfjbgjaa
namespace Go.Proofs.Ytnlcpfijfjbgjaa
open Go Go.RowKit
open G (Tok Er Ins Fun)
open Go.ChangeShapes Go.WideShapes Go.ChangeAt
/-- No list of a function is longer than memory can hold. -/
def GyF (f : Fun) : Prop := Few f.1.length ∧ Few f.2.1.length ∧ Few f.2.2.2.1.length ∧ ∀ b ∈ f.2.2.2.1, Few b.length ∧ ∀ x ∈ b, GxI x
theorem GyF.sh {f : Fun} (h : GyF f) : ShF f := ⟨h.1, h.2.1, h.2.2.1, fun b hb x hx => by
  obtain ⟨_, _, _, _, h5, h6, h7⟩ := (h.2.2.2 b hb).2 x hx
  exact ⟨h5, h6, h7⟩⟩
theorem GyF.light {f : Fun} (h : GyF f) : ∀ b ∈ f.2.2.2.1, b.length ≤ 281474976710656 ∧ ∀ x ∈ b, x.2.2.2.2.2.2.1.length ≤ maxLen := fun b hb => by
  obtain ⟨h1, h2⟩ := h.2.2.2 b hb
  unfold Few at h1
  refine ⟨by omega, fun x hx => ?_⟩
  obtain ⟨_, _, _, _, _, _, h7⟩ := h2 x hx
  unfold Few at h7
  unfold maxLen
  omega
section
variable {H : Type} {enc : TypeId × Value → H} {W : World}
theorem opn_blks2 {fuel : Nat} {v : Value} {x : DataW H × List MemPlace} (h : DataW.trod enc Try.prog W 0 (fun _ => true) true fuel 23 [v] = some x) (hz : Sz 23 x.1) : ∃ l : List (List Ins), BlksR W l v ∧ (∀ b ∈ l, Few b.length ∧ ∀ y ∈ b, GxI y) ∧ Few l.length := by
  rcases Deep.open_slice1 Try.underlying23 oc36 h with ⟨e, _⟩ | ⟨a, len, cap, m, n, V, D, Pl, e, _, hl, hm, hmm, rfl, hx⟩
  · simp only [List.cons.injEq, and_true] at e
    exact ⟨[], ⟨none, 0, e, Nat.le_refl _, Nat.zero_le _, .inl rfl⟩, fun _ h => (by cases h), by unfold Few; simp⟩
  · simp only [List.cons.injEq, and_true] at e
    rw [if_pos rfl] at hmm
    subst hmm
    have hsl := Sz.len Try.underlying23 hz
    rw [ob36] at hsl
    simp only [List.length_map, List.length_range] at hsl
    have each : ∀ i, i < len → ∃ q : List Ins, (W.cell? (a.add i) = some (V i) ∧ BlkR W q (V i)) ∧ Few q.length ∧ ∀ y ∈ q, GxI y := by
      intro i hi
      obtain ⟨h1, h2⟩ := hx i (by omega)
      obtain ⟨q, k1, k2, k3⟩ := opn_blk h2 (Sz.elem Try.underlying23 hz (List.mem_map.2 ⟨i, by simpa using hi, rfl⟩))
      exact ⟨q, ⟨h1, k1⟩, k3, k2⟩
    obtain ⟨q, hq⟩ := Deep.choose_lt each
    refine ⟨(List.range len).map q, ⟨some a, m, by rw [e]; simp, by simpa using hl, hm, ?_⟩, fun y hy => ?_, by simpa using few_of (b := 24) (by omega) hsl⟩
    · by_cases h0 : len = 0
      · exact .inl (by rw [h0]; rfl)
      · obtain ⟨b, o, rfl, hb⟩ := spot_none (hq 0 (by omega)).1.1
        refine .inr ⟨b, o, rfl, hb, fun i y hi => ?_⟩
        have hi' : i < len := by
          have := (List.getElem?_eq_some_iff.1 hi).1
          simpa using this
        have hy : q i = y := by
          rw [List.getElem?_map, List.getElem?_range hi'] at hi
          exact Option.some.inj hi
        subst hy
        obtain ⟨k1, k2⟩ := (hq i hi').1
        rw [add_plain] at k1
        exact ⟨V i, k1, k2⟩
    · obtain ⟨i, hi, rfl⟩ := List.mem_map.1 hy
      exact (hq i (by simpa using hi)).2
/-- The cells of a function. -/
theorem opn_fun2 {fuel : Nat} {cs : List Value} {x : DataW H × List MemPlace} (h : DataW.trod enc Try.prog W 0 (fun _ => true) true fuel 25 cs = some x) (hz : Sz 25 x.1) :
    ∃ (y : Fun) (vp vb : Value), cs = funC y vp vb ∧ IntsV W y.2.1 vp ∧ BlksR W y.2.2.2.1 vb ∧ GyF y := by
  obtain ⟨xs, n, _, rfl, hl, hlen, hf⟩ := DataW.trod_struct Try.underlying25 h
  obtain ⟨v0, v1, v2, v3, v4, rfl⟩ := five_l (hl.trans oc34)
  obtain ⟨y0, g0⟩ := xs_at hlen (i := 0) (by decide)
  obtain ⟨y1, g1⟩ := xs_at hlen (i := 1) (by decide)
  obtain ⟨y2, g2⟩ := xs_at hlen (i := 2) (by decide)
  obtain ⟨y3, g3⟩ := xs_at hlen (i := 3) (by decide)
  obtain ⟨y4, g4⟩ := xs_at hlen (i := 4) (by decide)
  have f0 : DataW.trod enc Try.prog W 0 (fun _ => true) true n 9 ([v0, v1, v2, v3, v4].take (Try.prog.cellsOf 9)) = some y0 := (hf 0 _ rfl).trans g0
  have f1 : DataW.trod enc Try.prog W 0 (fun _ => true) true n 22 ([v1, v2, v3, v4].take (Try.prog.cellsOf 22)) = some y1 := (hf 1 _ rfl).trans g1
  have f2 : DataW.trod enc Try.prog W 0 (fun _ => true) true n 3 ([v2, v3, v4].take (Try.prog.cellsOf 3)) = some y2 := (hf 2 _ rfl).trans g2
  have f3 : DataW.trod enc Try.prog W 0 (fun _ => true) true n 23 ([v3, v4].take (Try.prog.cellsOf 23)) = some y3 := (hf 3 _ rfl).trans g3
  have f4 : DataW.trod enc Try.prog W 0 (fun _ => true) true n 3 ([v4].take (Try.prog.cellsOf 3)) = some y4 := (hf 4 _ rfl).trans g4
  rw [oc9] at f0
  rw [oc31] at f1
  rw [oc3] at f2 f4
  rw [oc32] at f3
  obtain ⟨nm, rfl, hnm⟩ := opn_str f0 (Sz.field Try.underlying25 hz (i := 0) rfl (by rw [List.getElem?_map, g0]; rfl))
  obtain ⟨ps, hp, _, hpl⟩ := opn_ints f1 (Sz.field Try.underlying25 hz (i := 1) rfl (by rw [List.getElem?_map, g1]; rfl))
  obtain ⟨rt, rfl, _⟩ := opn_int f2
  obtain ⟨bl, hb, hbg, hbl⟩ := opn_blks2 f3 (Sz.field Try.underlying25 hz (i := 3) rfl (by rw [List.getElem?_map, g3]; rfl))
  obtain ⟨pl, rfl, _⟩ := opn_int f4
  exact ⟨(nm, ps, rt, bl, pl), v1, v3, rfl, hp, hb, hnm, hpl, hbl, hbg⟩
set_option maxRecDepth 20000 in
/-- A function that came in. -/
theorem opn_func {r : Reach} {b0 : Nat} {v : Value} {d : DataW H} {ps : List MemPlace} (hv : Value.okWide Try.prog W r b0 25 v) (h : DataW.Trod enc Try.prog W 0 (fun _ => true) true 25 v d ps) (hz : Sz 25 d) :
    ∃ x : Fun, FunV W x v ∧ GyF x := by
  obtain ⟨cs, rfl, hsz⟩ := okWide_struct Try.underlying25 hv
  obtain ⟨fuel, hf⟩ := h
  obtain ⟨y, vp, vb, ec, k1, k2, k3⟩ := opn_fun2 hf hz
  refine ⟨y, ⟨vp, vb, ?_, k1, k2⟩, k3⟩
  have : cs = (funC y vp vb).toArray := by
    rw [← ec]; simp [Value.cells]
  rw [this]; rfl
end
end Go.Proofs.Ytnlcpfijfjbgjaa
namespace Go.Proofs.Ytnlcpfijfjbgjaa
open Go Go.RowKit
open G (Tok Er Ins Fun)
open Mix (Up)
theorem new_sl (w : World) (l : List Int) (t : TypeId) : Sl (w.alloc (.cells (ints l).toArray t)) (some ⟨w.heap.size, 0, none⟩) l := by
  refine .inr ⟨w.heap.size, 0, rfl, by simp, fun i n hi => ?_⟩
  have h := heap_alloc_new w (.cells (ints l).toArray t)
  have h2 := ints_at hi
  rw [Nat.zero_add]
  simp only [World.cell?, h]
  simpa using h2
theorem shapedGo_zero (N : Nat) : ∀ (l : List (List Ins)) (k : Nat), (shapedGo N k l).1 = 0 → ∀ b ∈ l, blkE N b = 0 := by
  intro l
  induction l with
  | nil => intro k _ b hb; cases hb
  | cons c l ih =>
    intro k h b hb
    by_cases e : blkE N c = 0
    · rw [shapedGo_next e] at h
      rcases List.mem_cons.1 hb with rfl | hb
      · exact e
      · exact ih _ h b hb
    · rw [shapedGo_hit rfl e] at h
      exact absurd h e
theorem blkGo_zero (N n : Nat) : ∀ (l : List Ins) (i : Nat), blkGo N n i l = 0 → ∀ (j : Nat) (x : Ins), l[j]? = some x → endsB x.1 = decide (i + j + 1 = n) ∧ badI N x = false := by
  intro l
  induction l with
  | nil => intro i _ j x hx; simp at hx
  | cons y l ih =>
    intro i h j x hx
    by_cases e : endsB y.1 = decide (i + 1 = n)
    · cases hb : badI N y with
      | true => rw [blkGo_bad e hb] at h; cases h
      | false =>
        rw [blkGo_next e hb] at h
        cases j with
        | zero => simp at hx; subst hx; exact ⟨e, hb⟩
        | succ j =>
          have := ih (i + 1) h j x (by simpa using hx)
          rw [show i + 1 + j + 1 = i + (j + 1) + 1 by omega] at this
          exact this
    · rw [blkGo_end e] at h; cases h
theorem lgt_pos {f : Fun} (h : Lgt f) : 0 < f.2.2.2.1.length := by
  have h3 := h.2.2
  unfold shapedF at h3
  split at h3
  · cases h3
  · omega
theorem lgt_blk {f : Fun} (h : Lgt f) : ∀ b ∈ f.2.2.2.1, b.length ≠ 0 ∧ blkGo f.2.2.2.1.length b.length 0 b = 0 := by
  have h0 := lgt_pos h
  have h3 := h.2.2
  unfold shapedF at h3
  rw [if_neg (by omega)] at h3
  intro b hb
  have := shapedGo_zero _ _ _ h3 b hb
  unfold blkE at this
  split at this
  · cases this
  · exact ⟨by assumption, this⟩
theorem lgt_ful {f : Fun} (h : Lgt f) : Ful f := by
  refine ⟨Nat.le_trans h.1 (by omega), fun b hb => ⟨fun e => (lgt_blk h b hb).1 (by rw [e]; rfl), fun x hx => ?_⟩⟩
  exact Nat.le_trans ((h.2.1 b hb).2 x hx).1 (by omega)
theorem lgt_tos {f : Fun} (h : Lgt f) : Tos f := by
  intro j
  by_cases hj : j < f.2.2.2.1.length
  · have hb : f.2.2.2.1[j]? = some f.2.2.2.1[j] := List.getElem?_eq_getElem hj
    obtain ⟨h1, h2⟩ := lgt_blk h _ (List.mem_of_getElem? hb)
    obtain ⟨x, hx, hl, _⟩ := (lgt_ful h).last (List.mem_of_getElem? hb)
    rw [nextF_at hb, hl]
    obtain ⟨k1, k2⟩ := blkGo_zero _ _ _ _ h2 _ x hx
    have hend : endsB x.1 = true := by rw [k1]; simp; omega
    have hop : x.1 ≠ 20 := by
      intro e
      rw [e] at hend
      simp [endsB] at hend
    have hbt : badT f.2.2.2.1.length x.2.2.2.2.2.1 = false := by
      unfold badI at k2
      simpa [hop] using k2
    intro m hm
    have hm2 : m ∈ x.2.2.2.2.2.1 := by rw [← hasL_mem, hasL_once, hasL_mem] at hm; exact hm
    unfold badT at hbt
    have := List.any_eq_false.1 hbt m hm2
    simp at this
    omega
  · have e : nextF f j = [] := by
      unfold nextF
      rw [List.getD_eq_getElem?_getD, List.getElem?_eq_none (by omega)]; rfl
    rw [e]
    intro m hm
    cases hm
theorem light_any (f : Fun) (v : Value) (w : World) (hv : FunV w f v) (hg : GyF f) :
    Calls Try.prog 23 #[v] w fun e w' => (e = .returned (.int .i64 1) ∨ (e = .returned (.int .i64 0) ∧ Lgt f)) ∧ Below w.heap.size w w' := by
  have hl := hg.light
  obtain ⟨nm, ps, rt, bl, pl⟩ := f
  have hv2 := hv
  obtain ⟨vp, vb, rfl, ⟨ao, c, rfl, h1, _⟩, h2⟩ := hv
  obtain ⟨bo, cb, rfl, _⟩ := h2
  exact light_try nm ps rt pl bl ao bo c cb w hv2 hl
theorem places_read {w : World} {B g : Nat} {f : Fun} (h : RowAt w B 3 g f.2.2.2.1.length (ints (placesF f))) : IntsV w (placesF f) (.slice (some ⟨g, 0, none⟩) f.2.2.2.1.length f.2.2.2.1.length) := by
  have e := placesF_len f
  rw [← e] at h ⊢
  exact ints_of h
end Go.Proofs.Ytnlcpfijfjbgjaa
