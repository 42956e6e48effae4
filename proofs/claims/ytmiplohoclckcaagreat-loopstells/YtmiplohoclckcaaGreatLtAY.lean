/- A program, and an instruction, that came in: which functions, blocks and instructions they hold. A function that comes in, opened, with its blocks' lengths. Layer 8: what a light function is; the reference's answers and the laws' own helpers, as properties that stay. -/
import Derived.Test.YtmiplohoclckcaaGreatLtAG
import Derived.Test.YtmiplohoclckcaaGreatLtAX
import Derived.Deep.Slices
import Derived.SizedLaws
import Derived.KernelRfl
namespace Go.Proofs.YtmiplohoclckcaaGreat
open Go Go.RowKit Go.ChangeShapes Go.WideShapes
open G (Tok Er Ins Fun)
theorem oc2 : Tryz.prog.cellsOf 2 = 1 := by kernel_rfl
theorem oc3 : Tryz.prog.cellsOf 3 = 1 := by kernel_rfl
theorem oc9 : Tryz.prog.cellsOf 9 = 1 := by kernel_rfl
theorem oc31 : Tryz.prog.cellsOf 22 = 1 := by kernel_rfl
theorem oc32 : Tryz.prog.cellsOf 23 = 1 := by kernel_rfl
theorem oc34 : Tryz.prog.cellsOf 25 = 5 := by kernel_rfl
theorem oc36 : Tryz.prog.cellsOf 68 = 1 := by kernel_rfl
theorem oc39 : Tryz.prog.cellsOf 67 = 8 := by kernel_rfl
theorem ob3 : Tryz.prog.bytesOf 3 = 8 := by kernel_rfl
theorem ob36 : Tryz.prog.bytesOf 68 = 24 := by kernel_rfl
theorem ob39 : Tryz.prog.bytesOf 67 = 104 := by kernel_rfl
/-- No part of a datum is longer than a process can hold. -/
def Sz {H : Type} (t : TypeId) (d : DataW H) : Prop := ∀ n ∈ d.weights Tryz.prog t, n ≤ reachBytes
section
variable {H : Type}
theorem Sz.field {t : TypeId} {fs : Array Field} {parts : List (DataW H)} (hu : Tryz.prog.underlying t = some (.struct fs)) (h : Sz t (.agg parts)) {i : Nat} {ti : TypeId} {di : DataW H} (ht : (fs.toList.map (·.type))[i]? = some ti) (hd : parts[i]? = some di) : Sz ti di := by
  intro n hn
  refine h n ?_
  simp only [DataW.weights, hu]
  exact DataW.weights_mem_each ht hd n hn
theorem weightsAll_mem {e : TypeId} {d : DataW H} : ∀ {l : List (DataW H)}, d ∈ l → ∀ n ∈ d.weights Tryz.prog e, n ∈ DataW.weightsAll Tryz.prog e l
  | x :: l, hd, n, hn => by
    simp only [DataW.weightsAll, List.mem_append]
    rcases List.mem_cons.1 hd with rfl | hd
    · exact .inl hn
    · exact .inr (weightsAll_mem hd n hn)
theorem Sz.elem {t e : TypeId} {elems spare : List (DataW H)} (hu : Tryz.prog.underlying t = some (.slice e)) (h : Sz t (.slice elems spare)) {d : DataW H} (hd : d ∈ elems) : Sz e d := by
  intro n hn
  refine h n ?_
  simp only [DataW.weights, hu, List.mem_cons, List.mem_append]
  exact .inr (.inl (weightsAll_mem hd n hn))
theorem Sz.len {t e : TypeId} {elems spare : List (DataW H)} (hu : Tryz.prog.underlying t = some (.slice e)) (h : Sz t (.slice elems spare)) : (elems.length + spare.length) * Tryz.prog.bytesOf e ≤ reachBytes :=
  h _ (by simp [DataW.weights, hu])
end
/-- How great a part is. -/
def Few (n : Nat) : Prop := n ≤ 140737488355328
theorem few_of {n b m : Nat} (hb : 1 ≤ b) (h : (n + m) * b ≤ reachBytes) : Few n := by
  have h1 : (n + m) * 1 ≤ (n + m) * b := Nat.mul_le_mul_left _ hb
  have h2 : reachBytes = 140737488351232 := rfl
  unfold Few; omega
/-- What an instruction, and a function, that came in keep to. -/
def GxI (x : Ins) : Prop := I64 x.2.1 ∧ I64 x.2.2.1 ∧ (∀ i ∈ x.2.2.2.2.1, I64 i) ∧ (∀ i ∈ x.2.2.2.2.2.1, I64 i) ∧ Few x.2.2.2.2.1.length ∧ Few x.2.2.2.2.2.1.length ∧ Few x.2.2.2.2.2.2.1.length
section
variable {H : Type} {enc : TypeId × Value → H} {W : World}
theorem i64_wf {n : Int} (h : (Lit.int .i64 n).wf = true) : I64 n := by
  simp [Lit.wf, IntKind.min, IntKind.max, IntKind.bits, IntKind.signed] at h
  unfold I64; omega
theorem opn_int {fuel : Nat} {v : Value} {x : DataW H × List MemPlace} (h : DataW.trod enc Tryz.prog W 0 (fun _ => true) true fuel 3 [v] = some x) : ∃ n, v = .int .i64 n ∧ I64 n := by
  obtain ⟨n, e, _, hw⟩ := DataW.trod_int Tryz.underlying3 h
  simp only [List.cons.injEq, and_true] at e
  exact ⟨n, e, i64_wf hw⟩
theorem opn_int2 {fuel : Nat} {v : Value} {x : DataW H × List MemPlace} (h : DataW.trod enc Tryz.prog W 0 (fun _ => true) true fuel 2 [v] = some x) : ∃ n, v = .int .i64 n ∧ I64 n := by
  obtain ⟨n, e, _, hw⟩ := DataW.trod_int Tryz.underlying2 h
  simp only [List.cons.injEq, and_true] at e
  exact ⟨n, e, i64_wf hw⟩
theorem opn_str {fuel : Nat} {v : Value} {x : DataW H × List MemPlace} (h : DataW.trod enc Tryz.prog W 0 (fun _ => true) true fuel 9 [v] = some x) (hz : Sz 9 x.1) : ∃ s : List UInt8, v = .string (bs s) ∧ Few s.length := by
  obtain ⟨s, e, rfl, _⟩ := DataW.trod_string Tryz.underlying9 h
  simp only [List.cons.injEq, and_true] at e
  refine ⟨s.data.toList, by rw [e, bs_of], ?_⟩
  have h1 := hz s.data.toList.length (by simp [DataW.weights])
  have h2 : reachBytes = 140737488351232 := rfl
  unfold Few; omega
theorem spot_none {W : World} {a : Addr} {v : Value} (h : W.cell? (a.add 0) = some v) : ∃ b o, a = ⟨b, o, none⟩ ∧ b < W.heap.size := by
  obtain ⟨b, o, s⟩ := a
  have hs : s = none := by simpa [Addr.add] using World.cell?_spot h
  subst hs
  have hb := World.block_lt_of_cell? W _ h
  exact ⟨b, o, rfl, by simpa [Addr.add] using hb⟩
theorem opn_ints {fuel : Nat} {v : Value} {x : DataW H × List MemPlace} (h : DataW.trod enc Tryz.prog W 0 (fun _ => true) true fuel 22 [v] = some x) (hz : Sz 22 x.1) : ∃ l : List Int, IntsV W l v ∧ (∀ n ∈ l, I64 n) ∧ Few l.length := by
  rcases open_ints Tryz.underlying22 Tryz.underlying3 oc3 h with ⟨e, _⟩ | ⟨a, len, cap, zs, e, _, hl, hm, hzl, rfl, hc, hw⟩
  · simp only [List.cons.injEq, and_true] at e
    exact ⟨[], ⟨none, 0, e, .inl rfl, Nat.le_refl _, Nat.zero_le _⟩, fun _ h => (by cases h), by unfold Few; simp⟩
  · simp only [List.cons.injEq, and_true] at e
    rw [if_pos rfl] at hzl
    have hlen : (zs.take len).length = len := by simp; omega
    have hsl := Sz.len Tryz.underlying22 hz
    refine ⟨zs.take len, ⟨some a, cap, by rw [hlen]; exact e, ?_, by omega, hm⟩, fun n hn => i64_wf (hw n (List.mem_of_mem_take hn)), ?_⟩
    · by_cases h0 : len = 0
      · exact .inl (by rw [h0]; rfl)
      · obtain ⟨b, o, rfl, hb⟩ := spot_none (hc 0 (by omega))
        refine .inr ⟨b, o, rfl, hb, fun i n hi => ?_⟩
        obtain ⟨h1, h2⟩ := List.getElem?_eq_some_iff.1 hi
        have := hc i (by omega)
        rw [add_plain] at this
        rw [this, List.getD_eq_getElem?_getD, List.getElem?_eq_getElem (by omega)]
        rw [List.getElem_take] at h2
        rw [← h2]; rfl
    · rw [ob3] at hsl
      simp only [lits, List.length_map] at hsl
      exact few_of (b := 8) (by omega) hsl
theorem xs_at {xs : List (DataW H × List MemPlace)} {n i : Nat} (h : xs.length = n) (hi : i < n) : ∃ y, xs[i]? = some y := ⟨xs[i]'(by omega), List.getElem?_eq_getElem (by omega)⟩
theorem eight_l {cs : List Value} (h : cs.length = 8) : ∃ a b c d e f g i, cs = [a, b, c, d, e, f, g, i] := by
  match cs, h with
  | [a, b, c, d, e, f, g, i], _ => exact ⟨a, b, c, d, e, f, g, i, rfl⟩
theorem five_l {cs : List Value} (h : cs.length = 5) : ∃ a b c d e, cs = [a, b, c, d, e] := by
  match cs, h with
  | [a, b, c, d, e], _ => exact ⟨a, b, c, d, e, rfl⟩
/-- The cells of an instruction. -/
theorem opn_ins {fuel : Nat} {cs : List Value} {x : DataW H × List MemPlace} (h : DataW.trod enc Tryz.prog W 0 (fun _ => true) true fuel 67 cs = some x) (hz : Sz 67 x.1) :
    ∃ (y : Ins) (va vt : Value), cs = insC y va vt ∧ IntsV W y.2.2.2.2.1 va ∧ IntsV W y.2.2.2.2.2.1 vt ∧ GxI y := by
  obtain ⟨xs, n, _, rfl, hl, hlen, hf⟩ := DataW.trod_struct Tryz.underlying67 h
  obtain ⟨v0, v1, v2, v3, v4, v5, v6, v7, rfl⟩ := eight_l (hl.trans oc39)
  have fld : ∀ (i : Nat) (ti : TypeId) (y : DataW H × List MemPlace), ((#[_, _, _, _, _, _, _, _] : Array Field).toList.map (·.type))[i]? = some ti → xs[i]? = some y → Sz ti y.1 := fun i ti y ht hy => Sz.field Tryz.underlying67 hz ht (by rw [List.getElem?_map, hy]; rfl)
  obtain ⟨y0, g0⟩ := xs_at hlen (i := 0) (by decide)
  obtain ⟨y1, g1⟩ := xs_at hlen (i := 1) (by decide)
  obtain ⟨y2, g2⟩ := xs_at hlen (i := 2) (by decide)
  obtain ⟨y3, g3⟩ := xs_at hlen (i := 3) (by decide)
  obtain ⟨y4, g4⟩ := xs_at hlen (i := 4) (by decide)
  obtain ⟨y5, g5⟩ := xs_at hlen (i := 5) (by decide)
  obtain ⟨y6, g6⟩ := xs_at hlen (i := 6) (by decide)
  obtain ⟨y7, g7⟩ := xs_at hlen (i := 7) (by decide)
  have f0 : DataW.trod enc Tryz.prog W 0 (fun _ => true) true n 3 ([v0, v1, v2, v3, v4, v5, v6, v7].take (Tryz.prog.cellsOf 3)) = some y0 := (hf 0 _ rfl).trans g0
  have f1 : DataW.trod enc Tryz.prog W 0 (fun _ => true) true n 3 ([v1, v2, v3, v4, v5, v6, v7].take (Tryz.prog.cellsOf 3)) = some y1 := (hf 1 _ rfl).trans g1
  have f2 : DataW.trod enc Tryz.prog W 0 (fun _ => true) true n 2 ([v2, v3, v4, v5, v6, v7].take (Tryz.prog.cellsOf 2)) = some y2 := (hf 2 _ rfl).trans g2
  have f3 : DataW.trod enc Tryz.prog W 0 (fun _ => true) true n 3 ([v3, v4, v5, v6, v7].take (Tryz.prog.cellsOf 3)) = some y3 := (hf 3 _ rfl).trans g3
  have f4 : DataW.trod enc Tryz.prog W 0 (fun _ => true) true n 22 ([v4, v5, v6, v7].take (Tryz.prog.cellsOf 22)) = some y4 := (hf 4 _ rfl).trans g4
  have f5 : DataW.trod enc Tryz.prog W 0 (fun _ => true) true n 22 ([v5, v6, v7].take (Tryz.prog.cellsOf 22)) = some y5 := (hf 5 _ rfl).trans g5
  have f6 : DataW.trod enc Tryz.prog W 0 (fun _ => true) true n 9 ([v6, v7].take (Tryz.prog.cellsOf 9)) = some y6 := (hf 6 _ rfl).trans g6
  have f7 : DataW.trod enc Tryz.prog W 0 (fun _ => true) true n 3 ([v7].take (Tryz.prog.cellsOf 3)) = some y7 := (hf 7 _ rfl).trans g7
  rw [oc3] at f0 f1 f3 f7
  rw [oc2] at f2
  rw [oc31] at f4 f5
  rw [oc9] at f6
  obtain ⟨k, rfl, _⟩ := opn_int f0
  obtain ⟨id, rfl, hid⟩ := opn_int f1
  obtain ⟨nn, rfl, hn⟩ := opn_int2 f2
  obtain ⟨ty, rfl, _⟩ := opn_int f3
  obtain ⟨ar, ha, hai, hal⟩ := opn_ints f4 (Sz.field Tryz.underlying67 hz (i := 4) rfl (by rw [List.getElem?_map, g4]; rfl))
  obtain ⟨tt, ht, hti, htl⟩ := opn_ints f5 (Sz.field Tryz.underlying67 hz (i := 5) rfl (by rw [List.getElem?_map, g5]; rfl))
  obtain ⟨nm, rfl, hnm⟩ := opn_str f6 (Sz.field Tryz.underlying67 hz (i := 6) rfl (by rw [List.getElem?_map, g6]; rfl))
  obtain ⟨pl, rfl, _⟩ := opn_int f7
  exact ⟨(k, id, nn, ty, ar, tt, nm, pl), v4, v5, rfl, ha, ht, hid, hn, hai, hti, hal, htl, hnm⟩
theorem add2 (b o i j : Nat) : ((⟨b, o, none⟩ : Addr).add i).add j = ⟨b, o + i + j, none⟩ := by rw [Deep.add_add, add_plain, Nat.add_assoc]
/-- A block's instructions. -/
theorem opn_blk {fuel : Nat} {v : Value} {x : DataW H × List MemPlace} (h : DataW.trod enc Tryz.prog W 0 (fun _ => true) true fuel 68 [v] = some x) (hz : Sz 68 x.1) : ∃ l : List Ins, BlkR W l v ∧ (∀ y ∈ l, GxI y) ∧ Few l.length := by
  rcases Deep.open_slice Tryz.underlying68 h with ⟨e, _⟩ | ⟨a, len, cap, m, n, D, Pl, e, _, hl, hm, hmm, rfl, hx⟩
  · simp only [List.cons.injEq, and_true] at e
    exact ⟨[], ⟨none, 0, e, Nat.le_refl _, Nat.zero_le _, .inl rfl⟩, fun _ h => (by cases h), by unfold Few; simp⟩
  · simp only [List.cons.injEq, and_true] at e
    rw [if_pos rfl] at hmm
    subst hmm
    have hsl := Sz.len Tryz.underlying68 hz
    rw [ob39] at hsl
    simp only [List.length_map, List.length_range] at hsl
    have each : ∀ i, i < len → ∃ q : Ins, (∃ va vt, (∃ cs, W.cells? 0 (a.add (i * 8)) 8 = some cs ∧ cs = insC q va vt) ∧ IntsV W q.2.2.2.2.1 va ∧ IntsV W q.2.2.2.2.2.1 vt) ∧ GxI q := by
      intro i hi
      obtain ⟨cs, h1, h2⟩ := hx i (by omega)
      rw [oc39] at h1
      obtain ⟨y, va, vt, ec, k1, k2, k3⟩ := opn_ins h2 (Sz.elem Tryz.underlying68 hz (List.mem_map.2 ⟨i, by simpa using hi, rfl⟩))
      exact ⟨y, ⟨va, vt, ⟨cs, h1, ec⟩, k1, k2⟩, k3⟩
    obtain ⟨q, hq⟩ := Deep.choose_lt each
    refine ⟨(List.range len).map q, ⟨some a, m, by rw [e]; simp, by simpa using hl, hm, ?_⟩, fun y hy => ?_, by simpa using few_of (b := 104) (by omega) hsl⟩
    · by_cases h0 : len = 0
      · exact .inl (by rw [h0]; rfl)
      · obtain ⟨⟨va, vt, ⟨cs, h1, h2⟩, _⟩, _⟩ := hq 0 (by omega)
        obtain ⟨_, hcl, hcc⟩ := World.cells?_some h1
        have hc0 := (hcc 0 (by omega)).trans (List.getElem?_eq_getElem (by omega))
        rw [Deep.add_add, Nat.zero_mul] at hc0
        obtain ⟨b, o, rfl, hb⟩ := spot_none hc0
        refine .inr ⟨b, o, rfl, fun i y hi => ?_⟩
        have hi' : i < len := by
          have := (List.getElem?_eq_some_iff.1 hi).1
          simpa using this
        have hy : q i = y := by
          rw [List.getElem?_map, List.getElem?_range hi'] at hi
          exact Option.some.inj hi
        subst hy
        obtain ⟨⟨va, vt, ⟨cs, h1, h2⟩, k1, k2⟩, _⟩ := hq i hi'
        obtain ⟨_, hcl, hcc⟩ := World.cells?_some h1
        refine ⟨hb, va, vt, fun j t hj => ?_, k1, k2⟩
        have hj8 : j < 8 := (List.getElem?_eq_some_iff.1 hj).1
        have := hcc j hj8
        rw [add2] at this
        rw [this, h2]
        exact hj
    · obtain ⟨i, hi, rfl⟩ := List.mem_map.1 hy
      exact (hq i (by simpa using hi)).2
end
end Go.Proofs.YtmiplohoclckcaaGreat
namespace Go.Proofs.YtmiplohoclckcaaGreat
open Go Go.RowKit
open G (Tok Er Ins Fun)
open Go.ChangeShapes Go.WideShapes Go.ChangeAt
/-- No list of a function is longer than memory can hold. -/
def GyF (f : Fun) : Prop := Few f.1.length ∧ Few f.2.1.length ∧ Few f.2.2.2.1.length ∧ ∀ b ∈ f.2.2.2.1, Few b.length ∧ ∀ x ∈ b, GxI x
theorem GyF.sh {f : Fun} (h : GyF f) : ShF f := ⟨h.1, h.2.1, h.2.2.1, fun b hb x hx => by
  obtain ⟨_, _, _, _, h5, h6, h7⟩ := (h.2.2.2 b hb).2 x hx
  exact ⟨h5, h6, h7⟩⟩
theorem GyF.light {f : Fun} (h : GyF f) : ∀ b ∈ f.2.2.2.1, b.length ≤ 281474976710656 ∧ ∀ x ∈ b, x.2.2.2.2.2.2.1.length ≤ maxLen := fun b hb => by
  obtain ⟨h1, h2⟩ := h.2.2.2 b hb
  unfold Few at h1
  refine ⟨by omega, fun x hx => ?_⟩
  obtain ⟨_, _, _, _, _, _, h7⟩ := h2 x hx
  unfold Few at h7
  unfold maxLen
  omega
section
variable {H : Type} {enc : TypeId × Value → H} {W : World}
theorem opn_blks2 {fuel : Nat} {v : Value} {x : DataW H × List MemPlace} (h : DataW.trod enc Tryz.prog W 0 (fun _ => true) true fuel 23 [v] = some x) (hz : Sz 23 x.1) : ∃ l : List (List Ins), BlksR W l v ∧ (∀ b ∈ l, Few b.length ∧ ∀ y ∈ b, GxI y) ∧ Few l.length := by
  rcases Deep.open_slice1 Tryz.underlying23 oc36 h with ⟨e, _⟩ | ⟨a, len, cap, m, n, V, D, Pl, e, _, hl, hm, hmm, rfl, hx⟩
  · simp only [List.cons.injEq, and_true] at e
    exact ⟨[], ⟨none, 0, e, Nat.le_refl _, Nat.zero_le _, .inl rfl⟩, fun _ h => (by cases h), by unfold Few; simp⟩
  · simp only [List.cons.injEq, and_true] at e
    rw [if_pos rfl] at hmm
    subst hmm
    have hsl := Sz.len Tryz.underlying23 hz
    rw [ob36] at hsl
    simp only [List.length_map, List.length_range] at hsl
    have each : ∀ i, i < len → ∃ q : List Ins, (W.cell? (a.add i) = some (V i) ∧ BlkR W q (V i)) ∧ Few q.length ∧ ∀ y ∈ q, GxI y := by
      intro i hi
      obtain ⟨h1, h2⟩ := hx i (by omega)
      obtain ⟨q, k1, k2, k3⟩ := opn_blk h2 (Sz.elem Tryz.underlying23 hz (List.mem_map.2 ⟨i, by simpa using hi, rfl⟩))
      exact ⟨q, ⟨h1, k1⟩, k3, k2⟩
    obtain ⟨q, hq⟩ := Deep.choose_lt each
    refine ⟨(List.range len).map q, ⟨some a, m, by rw [e]; simp, by simpa using hl, hm, ?_⟩, fun y hy => ?_, by simpa using few_of (b := 24) (by omega) hsl⟩
    · by_cases h0 : len = 0
      · exact .inl (by rw [h0]; rfl)
      · obtain ⟨b, o, rfl, hb⟩ := spot_none (hq 0 (by omega)).1.1
        refine .inr ⟨b, o, rfl, hb, fun i y hi => ?_⟩
        have hi' : i < len := by
          have := (List.getElem?_eq_some_iff.1 hi).1
          simpa using this
        have hy : q i = y := by
          rw [List.getElem?_map, List.getElem?_range hi'] at hi
          exact Option.some.inj hi
        subst hy
        obtain ⟨k1, k2⟩ := (hq i hi').1
        rw [add_plain] at k1
        exact ⟨V i, k1, k2⟩
    · obtain ⟨i, hi, rfl⟩ := List.mem_map.1 hy
      exact (hq i (by simpa using hi)).2
/-- The cells of a function. -/
theorem opn_fun2 {fuel : Nat} {cs : List Value} {x : DataW H × List MemPlace} (h : DataW.trod enc Tryz.prog W 0 (fun _ => true) true fuel 25 cs = some x) (hz : Sz 25 x.1) :
    ∃ (y : Fun) (vp vb : Value), cs = funC y vp vb ∧ IntsV W y.2.1 vp ∧ BlksR W y.2.2.2.1 vb ∧ GyF y := by
  obtain ⟨xs, n, _, rfl, hl, hlen, hf⟩ := DataW.trod_struct Tryz.underlying25 h
  obtain ⟨v0, v1, v2, v3, v4, rfl⟩ := five_l (hl.trans oc34)
  obtain ⟨y0, g0⟩ := xs_at hlen (i := 0) (by decide)
  obtain ⟨y1, g1⟩ := xs_at hlen (i := 1) (by decide)
  obtain ⟨y2, g2⟩ := xs_at hlen (i := 2) (by decide)
  obtain ⟨y3, g3⟩ := xs_at hlen (i := 3) (by decide)
  obtain ⟨y4, g4⟩ := xs_at hlen (i := 4) (by decide)
  have f0 : DataW.trod enc Tryz.prog W 0 (fun _ => true) true n 9 ([v0, v1, v2, v3, v4].take (Tryz.prog.cellsOf 9)) = some y0 := (hf 0 _ rfl).trans g0
  have f1 : DataW.trod enc Tryz.prog W 0 (fun _ => true) true n 22 ([v1, v2, v3, v4].take (Tryz.prog.cellsOf 22)) = some y1 := (hf 1 _ rfl).trans g1
  have f2 : DataW.trod enc Tryz.prog W 0 (fun _ => true) true n 3 ([v2, v3, v4].take (Tryz.prog.cellsOf 3)) = some y2 := (hf 2 _ rfl).trans g2
  have f3 : DataW.trod enc Tryz.prog W 0 (fun _ => true) true n 23 ([v3, v4].take (Tryz.prog.cellsOf 23)) = some y3 := (hf 3 _ rfl).trans g3
  have f4 : DataW.trod enc Tryz.prog W 0 (fun _ => true) true n 3 ([v4].take (Tryz.prog.cellsOf 3)) = some y4 := (hf 4 _ rfl).trans g4
  rw [oc9] at f0
  rw [oc31] at f1
  rw [oc3] at f2 f4
  rw [oc32] at f3
  obtain ⟨nm, rfl, hnm⟩ := opn_str f0 (Sz.field Tryz.underlying25 hz (i := 0) rfl (by rw [List.getElem?_map, g0]; rfl))
  obtain ⟨ps, hp, _, hpl⟩ := opn_ints f1 (Sz.field Tryz.underlying25 hz (i := 1) rfl (by rw [List.getElem?_map, g1]; rfl))
  obtain ⟨rt, rfl, _⟩ := opn_int f2
  obtain ⟨bl, hb, hbg, hbl⟩ := opn_blks2 f3 (Sz.field Tryz.underlying25 hz (i := 3) rfl (by rw [List.getElem?_map, g3]; rfl))
  obtain ⟨pl, rfl, _⟩ := opn_int f4
  exact ⟨(nm, ps, rt, bl, pl), v1, v3, rfl, hp, hb, hnm, hpl, hbl, hbg⟩
set_option maxRecDepth 20000 in
/-- A function that came in. -/
theorem opn_func {r : Reach} {b0 : Nat} {v : Value} {d : DataW H} {ps : List MemPlace} (hv : Value.okWide Tryz.prog W r b0 25 v) (h : DataW.Trod enc Tryz.prog W 0 (fun _ => true) true 25 v d ps) (hz : Sz 25 d) :
    ∃ x : Fun, FunV W x v ∧ GyF x := by
  obtain ⟨cs, rfl, hsz⟩ := okWide_struct Tryz.underlying25 hv
  obtain ⟨fuel, hf⟩ := h
  obtain ⟨y, vp, vb, ec, k1, k2, k3⟩ := opn_fun2 hf hz
  refine ⟨y, ⟨vp, vb, ?_, k1, k2⟩, k3⟩
  have : cs = (funC y vp vb).toArray := by
    rw [← ec]; simp [Value.cells]
  rw [this]; rfl
end
end Go.Proofs.YtmiplohoclckcaaGreat
namespace Go.Proofs.YtmiplohoclckcaaGreat
open Go Go.RowKit
open G (Tok Er Ins Fun)
open Mix (Up)
theorem new_sl (w : World) (l : List Int) (t : TypeId) : Sl (w.alloc (.cells (ints l).toArray t)) (some ⟨w.heap.size, 0, none⟩) l := by
  refine .inr ⟨w.heap.size, 0, rfl, by simp, fun i n hi => ?_⟩
  have h := heap_alloc_new w (.cells (ints l).toArray t)
  have h2 := ints_at hi
  rw [Nat.zero_add]
  simp only [World.cell?, h]
  simpa using h2
theorem shapedGo_zero (N : Nat) : ∀ (l : List (List Ins)) (k : Nat), (shapedGo N k l).1 = 0 → ∀ b ∈ l, blkE N b = 0 := by
  intro l
  induction l with
  | nil => intro k _ b hb; cases hb
  | cons c l ih =>
    intro k h b hb
    by_cases e : blkE N c = 0
    · rw [shapedGo_next e] at h
      rcases List.mem_cons.1 hb with rfl | hb
      · exact e
      · exact ih _ h b hb
    · rw [shapedGo_hit rfl e] at h
      exact absurd h e
theorem blkGo_zero (N n : Nat) : ∀ (l : List Ins) (i : Nat), blkGo N n i l = 0 → ∀ (j : Nat) (x : Ins), l[j]? = some x → endsB x.1 = decide (i + j + 1 = n) ∧ badI N x = false := by
  intro l
  induction l with
  | nil => intro i _ j x hx; simp at hx
  | cons y l ih =>
    intro i h j x hx
    by_cases e : endsB y.1 = decide (i + 1 = n)
    · cases hb : badI N y with
      | true => rw [blkGo_bad e hb] at h; cases h
      | false =>
        rw [blkGo_next e hb] at h
        cases j with
        | zero => simp at hx; subst hx; exact ⟨e, hb⟩
        | succ j =>
          have := ih (i + 1) h j x (by simpa using hx)
          rw [show i + 1 + j + 1 = i + (j + 1) + 1 by omega] at this
          exact this
    · rw [blkGo_end e] at h; cases h
theorem lgt_pos {f : Fun} (h : Lgt f) : 0 < f.2.2.2.1.length := by
  have h3 := h.2.2
  unfold shapedF at h3
  split at h3
  · cases h3
  · omega
theorem lgt_blk {f : Fun} (h : Lgt f) : ∀ b ∈ f.2.2.2.1, b.length ≠ 0 ∧ blkGo f.2.2.2.1.length b.length 0 b = 0 := by
  have h0 := lgt_pos h
  have h3 := h.2.2
  unfold shapedF at h3
  rw [if_neg (by omega)] at h3
  intro b hb
  have := shapedGo_zero _ _ _ h3 b hb
  unfold blkE at this
  split at this
  · cases this
  · exact ⟨by assumption, this⟩
theorem lgt_ful {f : Fun} (h : Lgt f) : Ful f := by
  refine ⟨Nat.le_trans h.1 (by omega), fun b hb => ⟨fun e => (lgt_blk h b hb).1 (by rw [e]; rfl), fun x hx => ?_⟩⟩
  exact Nat.le_trans ((h.2.1 b hb).2 x hx).1 (by omega)
theorem lgt_tos {f : Fun} (h : Lgt f) : Tos f := by
  intro j
  by_cases hj : j < f.2.2.2.1.length
  · have hb : f.2.2.2.1[j]? = some f.2.2.2.1[j] := List.getElem?_eq_getElem hj
    obtain ⟨h1, h2⟩ := lgt_blk h _ (List.mem_of_getElem? hb)
    obtain ⟨x, hx, hl, _⟩ := (lgt_ful h).last (List.mem_of_getElem? hb)
    rw [nextF_at hb, hl]
    obtain ⟨k1, k2⟩ := blkGo_zero _ _ _ _ h2 _ x hx
    have hend : endsB x.1 = true := by rw [k1]; simp; omega
    have hop : x.1 ≠ 20 := by
      intro e
      rw [e] at hend
      simp [endsB] at hend
    have hbt : badT f.2.2.2.1.length x.2.2.2.2.2.1 = false := by
      unfold badI at k2
      simpa [hop] using k2
    intro m hm
    have hm2 : m ∈ x.2.2.2.2.2.1 := by rw [← hasL_mem, hasL_once, hasL_mem] at hm; exact hm
    unfold badT at hbt
    have := List.any_eq_false.1 hbt m hm2
    simp at this
    omega
  · have e : nextF f j = [] := by
      unfold nextF
      rw [List.getD_eq_getElem?_getD, List.getElem?_eq_none (by omega)]; rfl
    rw [e]
    intro m hm
    cases hm
theorem light_any (f : Fun) (v : Value) (w : World) (hv : FunV w f v) (hg : GyF f) :
    Calls Tryz.prog 22 #[v] w fun e w' => (e = .returned (.int .i64 1) ∨ (e = .returned (.int .i64 0) ∧ Lgt f)) ∧ Below w.heap.size w w' := by
  have hl := hg.light
  obtain ⟨nm, ps, rt, bl, pl⟩ := f
  have hv2 := hv
  obtain ⟨vp, vb, rfl, ⟨ao, c, rfl, h1, _⟩, h2⟩ := hv
  obtain ⟨bo, cb, rfl, _⟩ := h2
  exact light_try nm ps rt pl bl ao bo c cb w hv2 hl
theorem rsuccs_any (f : Fun) (v : Value) (w : World) (hv : FunV w f v) (hF : Ful f) :
    Calls Tryz.prog 39 #[v] w fun e w' => ∃ u, e = .returned u ∧ Below w.heap.size w w' ∧ RowsV w' (succsF f) u := by
  obtain ⟨nm, ps, rt, bl, pl⟩ := f
  have hv2 := hv
  obtain ⟨vp, vb, rfl, ⟨ao, c, rfl, h1, _⟩, h2⟩ := hv
  obtain ⟨bo, cb, rfl, _⟩ := h2
  exact (rsuccs_try nm ps rt pl bl ao bo c cb w hv2 hF).mono fun e w' ⟨u, he, h, b⟩ => ⟨u, he, b, h.read⟩
theorem ints_any (l : List Int) (u v : Value) (w : World) (hu : IntsV w l u) (hv : IntsV w l v) : Calls Tryz.prog 13 #[u, v] w fun e w' => e = .returned (.bool true) ∧ Below w.heap.size w w' := by
  obtain ⟨ao, ca, rfl, h1, h2, h3⟩ := hu
  obtain ⟨bo, cb, rfl, k1, _⟩ := hv
  exact rints_same l ao bo ca cb w (Nat.le_trans h2 h3) h1 k1
theorem places_read {w : World} {B g : Nat} {f : Fun} (h : RowAt w B 3 g f.2.2.2.1.length (ints (placesF f))) : IntsV w (placesF f) (.slice (some ⟨g, 0, none⟩) f.2.2.2.1.length f.2.2.2.1.length) := by
  have e := placesF_len f
  rw [← e] at h ⊢
  exact ints_of h
end Go.Proofs.YtmiplohoclckcaaGreat
