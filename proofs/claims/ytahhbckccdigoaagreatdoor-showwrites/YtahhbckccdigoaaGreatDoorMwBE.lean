/- A program, and an instruction, that came in: which functions, blocks and instructions they hold. -/
import Derived.Test.YtahhbckccdigoaaGreatDoorMwAQ
import Derived.Test.YtahhbckccdigoaaGreatDoorMwBA
import Derived.Test.YtahhbckccdigoaaGreatDoorMwBB
import Derived.Test.YtahhbckccdigoaaGreatDoorMwBC
import Derived.Test.YtahhbckccdigoaaGreatDoorMwBD
import Derived.Deep.Slices
import Derived.SizedLaws
import Derived.KernelRfl
namespace Go.Proofs.YtahhbckccdigoaaGreatDoor
open Go Go.RowKit Go.ChangeShapes Go.WideShapes
open G (Tok Er Ins Fun)
theorem oc2 : Tryz.prog.cellsOf 2 = 1 := by kernel_rfl
theorem oc3 : Tryz.prog.cellsOf 3 = 1 := by kernel_rfl
theorem oc9 : Tryz.prog.cellsOf 9 = 1 := by kernel_rfl
theorem oc22 : Tryz.prog.cellsOf 22 = 1 := by kernel_rfl
theorem oc24 : Tryz.prog.cellsOf 24 = 1 := by kernel_rfl
theorem oc31 : Tryz.prog.cellsOf 31 = 1 := by kernel_rfl
theorem oc32 : Tryz.prog.cellsOf 32 = 1 := by kernel_rfl
theorem oc34 : Tryz.prog.cellsOf 34 = 5 := by kernel_rfl
theorem oc36 : Tryz.prog.cellsOf 36 = 1 := by kernel_rfl
theorem oc39 : Tryz.prog.cellsOf 39 = 8 := by kernel_rfl
theorem ob3 : Tryz.prog.bytesOf 3 = 8 := by kernel_rfl
theorem ob34 : Tryz.prog.bytesOf 34 = 80 := by kernel_rfl
theorem ob36 : Tryz.prog.bytesOf 36 = 24 := by kernel_rfl
theorem ob39 : Tryz.prog.bytesOf 39 = 104 := by kernel_rfl
/-- No part of a datum is longer than a process can hold. -/
def Sz {H : Type} (t : TypeId) (d : DataW H) : Prop := ∀ n ∈ d.weights Tryz.prog t, n ≤ reachBytes
section
variable {H : Type}
theorem Sz.field {t : TypeId} {fs : Array Field} {parts : List (DataW H)} (hu : Tryz.prog.underlying t = some (.struct fs)) (h : Sz t (.agg parts)) {i : Nat} {ti : TypeId} {di : DataW H} (ht : (fs.toList.map (·.type))[i]? = some ti) (hd : parts[i]? = some di) : Sz ti di := by
  intro n hn
  refine h n ?_
  simp only [DataW.weights, hu]
  exact DataW.weights_mem_each ht hd n hn
theorem weightsAll_mem {e : TypeId} {d : DataW H} : ∀ {l : List (DataW H)}, d ∈ l → ∀ n ∈ d.weights Tryz.prog e, n ∈ DataW.weightsAll Tryz.prog e l
  | x :: l, hd, n, hn => by
    simp only [DataW.weightsAll, List.mem_append]
    rcases List.mem_cons.1 hd with rfl | hd
    · exact .inl hn
    · exact .inr (weightsAll_mem hd n hn)
theorem Sz.elem {t e : TypeId} {elems spare : List (DataW H)} (hu : Tryz.prog.underlying t = some (.slice e)) (h : Sz t (.slice elems spare)) {d : DataW H} (hd : d ∈ elems) : Sz e d := by
  intro n hn
  refine h n ?_
  simp only [DataW.weights, hu, List.mem_cons, List.mem_append]
  exact .inr (.inl (weightsAll_mem hd n hn))
theorem Sz.len {t e : TypeId} {elems spare : List (DataW H)} (hu : Tryz.prog.underlying t = some (.slice e)) (h : Sz t (.slice elems spare)) : (elems.length + spare.length) * Tryz.prog.bytesOf e ≤ reachBytes :=
  h _ (by simp [DataW.weights, hu])
end
/-- How great a part is. -/
def Few (n : Nat) : Prop := n ≤ 140737488355328
theorem few_of {n b m : Nat} (hb : 1 ≤ b) (h : (n + m) * b ≤ reachBytes) : Few n := by
  have h1 : (n + m) * 1 ≤ (n + m) * b := Nat.mul_le_mul_left _ hb
  have h2 : reachBytes = 140737488351232 := rfl
  unfold Few; omega
/-- What an instruction, and a function, that came in keep to. -/
def GxI (x : Ins) : Prop := I64 x.2.1 ∧ I64 x.2.2.1 ∧ (∀ i ∈ x.2.2.2.2.1, I64 i) ∧ (∀ i ∈ x.2.2.2.2.2.1, I64 i) ∧ Few x.2.2.2.2.1.length ∧ Few x.2.2.2.2.2.1.length ∧ Few x.2.2.2.2.2.2.1.length
def GxF (f : Fun) : Prop := Few f.1.length ∧ Few f.2.1.length ∧ Few f.2.2.2.1.length ∧ ∀ b ∈ f.2.2.2.1, ∀ x ∈ b, GxI x
section
variable {H : Type} {enc : TypeId × Value → H} {W : World}
theorem i64_wf {n : Int} (h : (Lit.int .i64 n).wf = true) : I64 n := by
  simp [Lit.wf, IntKind.min, IntKind.max, IntKind.bits, IntKind.signed] at h
  unfold I64; omega
theorem opn_int {fuel : Nat} {v : Value} {x : DataW H × List MemPlace} (h : DataW.trod enc Tryz.prog W 0 (fun _ => true) true fuel 3 [v] = some x) : ∃ n, v = .int .i64 n ∧ I64 n := by
  obtain ⟨n, e, _, hw⟩ := DataW.trod_int Tryz.underlying3 h
  simp only [List.cons.injEq, and_true] at e
  exact ⟨n, e, i64_wf hw⟩
theorem opn_int2 {fuel : Nat} {v : Value} {x : DataW H × List MemPlace} (h : DataW.trod enc Tryz.prog W 0 (fun _ => true) true fuel 2 [v] = some x) : ∃ n, v = .int .i64 n ∧ I64 n := by
  obtain ⟨n, e, _, hw⟩ := DataW.trod_int Tryz.underlying2 h
  simp only [List.cons.injEq, and_true] at e
  exact ⟨n, e, i64_wf hw⟩
theorem opn_str {fuel : Nat} {v : Value} {x : DataW H × List MemPlace} (h : DataW.trod enc Tryz.prog W 0 (fun _ => true) true fuel 9 [v] = some x) (hz : Sz 9 x.1) : ∃ s : List UInt8, v = .string (bs s) ∧ Few s.length := by
  obtain ⟨s, e, rfl, _⟩ := DataW.trod_string Tryz.underlying9 h
  simp only [List.cons.injEq, and_true] at e
  refine ⟨s.data.toList, by rw [e, bs_of], ?_⟩
  have h1 := hz s.data.toList.length (by simp [DataW.weights])
  have h2 : reachBytes = 140737488351232 := rfl
  unfold Few; omega
theorem spot_none {W : World} {a : Addr} {v : Value} (h : W.cell? (a.add 0) = some v) : ∃ b o, a = ⟨b, o, none⟩ ∧ b < W.heap.size := by
  obtain ⟨b, o, s⟩ := a
  have hs : s = none := by simpa [Addr.add] using World.cell?_spot h
  subst hs
  have hb := World.block_lt_of_cell? W _ h
  exact ⟨b, o, rfl, by simpa [Addr.add] using hb⟩
theorem opn_ints {fuel : Nat} {v : Value} {x : DataW H × List MemPlace} (h : DataW.trod enc Tryz.prog W 0 (fun _ => true) true fuel 31 [v] = some x) (hz : Sz 31 x.1) : ∃ l : List Int, IntsV W l v ∧ (∀ n ∈ l, I64 n) ∧ Few l.length := by
  rcases open_ints Tryz.underlying31 Tryz.underlying3 oc3 h with ⟨e, _⟩ | ⟨a, len, cap, zs, e, _, hl, hm, hzl, rfl, hc, hw⟩
  · simp only [List.cons.injEq, and_true] at e
    exact ⟨[], ⟨none, 0, e, .inl rfl, Nat.le_refl _, Nat.zero_le _⟩, fun _ h => (by cases h), by unfold Few; simp⟩
  · simp only [List.cons.injEq, and_true] at e
    rw [if_pos rfl] at hzl
    have hlen : (zs.take len).length = len := by simp; omega
    have hsl := Sz.len Tryz.underlying31 hz
    refine ⟨zs.take len, ⟨some a, cap, by rw [hlen]; exact e, ?_, by omega, hm⟩, fun n hn => i64_wf (hw n (List.mem_of_mem_take hn)), ?_⟩
    · by_cases h0 : len = 0
      · exact .inl (by rw [h0]; rfl)
      · obtain ⟨b, o, rfl, hb⟩ := spot_none (hc 0 (by omega))
        refine .inr ⟨b, o, rfl, hb, fun i n hi => ?_⟩
        obtain ⟨h1, h2⟩ := List.getElem?_eq_some_iff.1 hi
        have := hc i (by omega)
        rw [add_plain] at this
        rw [this, List.getD_eq_getElem?_getD, List.getElem?_eq_getElem (by omega)]
        rw [List.getElem_take] at h2
        rw [← h2]; rfl
    · rw [ob3] at hsl
      simp only [lits, List.length_map] at hsl
      exact few_of (b := 8) (by omega) hsl
theorem xs_at {xs : List (DataW H × List MemPlace)} {n i : Nat} (h : xs.length = n) (hi : i < n) : ∃ y, xs[i]? = some y := ⟨xs[i]'(by omega), List.getElem?_eq_getElem (by omega)⟩
theorem eight_l {cs : List Value} (h : cs.length = 8) : ∃ a b c d e f g i, cs = [a, b, c, d, e, f, g, i] := by
  match cs, h with
  | [a, b, c, d, e, f, g, i], _ => exact ⟨a, b, c, d, e, f, g, i, rfl⟩
theorem five_l {cs : List Value} (h : cs.length = 5) : ∃ a b c d e, cs = [a, b, c, d, e] := by
  match cs, h with
  | [a, b, c, d, e], _ => exact ⟨a, b, c, d, e, rfl⟩
/-- The cells of an instruction. -/
theorem opn_ins {fuel : Nat} {cs : List Value} {x : DataW H × List MemPlace} (h : DataW.trod enc Tryz.prog W 0 (fun _ => true) true fuel 39 cs = some x) (hz : Sz 39 x.1) :
    ∃ (y : Ins) (va vt : Value), cs = insC y va vt ∧ IntsV W y.2.2.2.2.1 va ∧ IntsV W y.2.2.2.2.2.1 vt ∧ GxI y := by
  obtain ⟨xs, n, _, rfl, hl, hlen, hf⟩ := DataW.trod_struct Tryz.underlying39 h
  obtain ⟨v0, v1, v2, v3, v4, v5, v6, v7, rfl⟩ := eight_l (hl.trans oc39)
  have fld : ∀ (i : Nat) (ti : TypeId) (y : DataW H × List MemPlace), ((#[_, _, _, _, _, _, _, _] : Array Field).toList.map (·.type))[i]? = some ti → xs[i]? = some y → Sz ti y.1 := fun i ti y ht hy => Sz.field Tryz.underlying39 hz ht (by rw [List.getElem?_map, hy]; rfl)
  obtain ⟨y0, g0⟩ := xs_at hlen (i := 0) (by decide)
  obtain ⟨y1, g1⟩ := xs_at hlen (i := 1) (by decide)
  obtain ⟨y2, g2⟩ := xs_at hlen (i := 2) (by decide)
  obtain ⟨y3, g3⟩ := xs_at hlen (i := 3) (by decide)
  obtain ⟨y4, g4⟩ := xs_at hlen (i := 4) (by decide)
  obtain ⟨y5, g5⟩ := xs_at hlen (i := 5) (by decide)
  obtain ⟨y6, g6⟩ := xs_at hlen (i := 6) (by decide)
  obtain ⟨y7, g7⟩ := xs_at hlen (i := 7) (by decide)
  have f0 : DataW.trod enc Tryz.prog W 0 (fun _ => true) true n 3 ([v0, v1, v2, v3, v4, v5, v6, v7].take (Tryz.prog.cellsOf 3)) = some y0 := (hf 0 _ rfl).trans g0
  have f1 : DataW.trod enc Tryz.prog W 0 (fun _ => true) true n 3 ([v1, v2, v3, v4, v5, v6, v7].take (Tryz.prog.cellsOf 3)) = some y1 := (hf 1 _ rfl).trans g1
  have f2 : DataW.trod enc Tryz.prog W 0 (fun _ => true) true n 2 ([v2, v3, v4, v5, v6, v7].take (Tryz.prog.cellsOf 2)) = some y2 := (hf 2 _ rfl).trans g2
  have f3 : DataW.trod enc Tryz.prog W 0 (fun _ => true) true n 3 ([v3, v4, v5, v6, v7].take (Tryz.prog.cellsOf 3)) = some y3 := (hf 3 _ rfl).trans g3
  have f4 : DataW.trod enc Tryz.prog W 0 (fun _ => true) true n 31 ([v4, v5, v6, v7].take (Tryz.prog.cellsOf 31)) = some y4 := (hf 4 _ rfl).trans g4
  have f5 : DataW.trod enc Tryz.prog W 0 (fun _ => true) true n 31 ([v5, v6, v7].take (Tryz.prog.cellsOf 31)) = some y5 := (hf 5 _ rfl).trans g5
  have f6 : DataW.trod enc Tryz.prog W 0 (fun _ => true) true n 9 ([v6, v7].take (Tryz.prog.cellsOf 9)) = some y6 := (hf 6 _ rfl).trans g6
  have f7 : DataW.trod enc Tryz.prog W 0 (fun _ => true) true n 3 ([v7].take (Tryz.prog.cellsOf 3)) = some y7 := (hf 7 _ rfl).trans g7
  rw [oc3] at f0 f1 f3 f7
  rw [oc2] at f2
  rw [oc31] at f4 f5
  rw [oc9] at f6
  obtain ⟨k, rfl, _⟩ := opn_int f0
  obtain ⟨id, rfl, hid⟩ := opn_int f1
  obtain ⟨nn, rfl, hn⟩ := opn_int2 f2
  obtain ⟨ty, rfl, _⟩ := opn_int f3
  obtain ⟨ar, ha, hai, hal⟩ := opn_ints f4 (Sz.field Tryz.underlying39 hz (i := 4) rfl (by rw [List.getElem?_map, g4]; rfl))
  obtain ⟨tt, ht, hti, htl⟩ := opn_ints f5 (Sz.field Tryz.underlying39 hz (i := 5) rfl (by rw [List.getElem?_map, g5]; rfl))
  obtain ⟨nm, rfl, hnm⟩ := opn_str f6 (Sz.field Tryz.underlying39 hz (i := 6) rfl (by rw [List.getElem?_map, g6]; rfl))
  obtain ⟨pl, rfl, _⟩ := opn_int f7
  exact ⟨(k, id, nn, ty, ar, tt, nm, pl), v4, v5, rfl, ha, ht, hid, hn, hai, hti, hal, htl, hnm⟩
theorem add2 (b o i j : Nat) : ((⟨b, o, none⟩ : Addr).add i).add j = ⟨b, o + i + j, none⟩ := by rw [Deep.add_add, add_plain, Nat.add_assoc]
/-- A block's instructions. -/
theorem opn_blk {fuel : Nat} {v : Value} {x : DataW H × List MemPlace} (h : DataW.trod enc Tryz.prog W 0 (fun _ => true) true fuel 36 [v] = some x) (hz : Sz 36 x.1) : ∃ l : List Ins, BlkR W l v ∧ (∀ y ∈ l, GxI y) ∧ Few l.length := by
  rcases Deep.open_slice Tryz.underlying36 h with ⟨e, _⟩ | ⟨a, len, cap, m, n, D, Pl, e, _, hl, hm, hmm, rfl, hx⟩
  · simp only [List.cons.injEq, and_true] at e
    exact ⟨[], ⟨none, 0, e, Nat.le_refl _, Nat.zero_le _, .inl rfl⟩, fun _ h => (by cases h), by unfold Few; simp⟩
  · simp only [List.cons.injEq, and_true] at e
    rw [if_pos rfl] at hmm
    subst hmm
    have hsl := Sz.len Tryz.underlying36 hz
    rw [ob39] at hsl
    simp only [List.length_map, List.length_range] at hsl
    have each : ∀ i, i < len → ∃ q : Ins, (∃ va vt, (∃ cs, W.cells? 0 (a.add (i * 8)) 8 = some cs ∧ cs = insC q va vt) ∧ IntsV W q.2.2.2.2.1 va ∧ IntsV W q.2.2.2.2.2.1 vt) ∧ GxI q := by
      intro i hi
      obtain ⟨cs, h1, h2⟩ := hx i (by omega)
      rw [oc39] at h1
      obtain ⟨y, va, vt, ec, k1, k2, k3⟩ := opn_ins h2 (Sz.elem Tryz.underlying36 hz (List.mem_map.2 ⟨i, by simpa using hi, rfl⟩))
      exact ⟨y, ⟨va, vt, ⟨cs, h1, ec⟩, k1, k2⟩, k3⟩
    obtain ⟨q, hq⟩ := Deep.choose_lt each
    refine ⟨(List.range len).map q, ⟨some a, m, by rw [e]; simp, by simpa using hl, hm, ?_⟩, fun y hy => ?_, by simpa using few_of (b := 104) (by omega) hsl⟩
    · by_cases h0 : len = 0
      · exact .inl (by rw [h0]; rfl)
      · obtain ⟨⟨va, vt, ⟨cs, h1, h2⟩, _⟩, _⟩ := hq 0 (by omega)
        obtain ⟨_, hcl, hcc⟩ := World.cells?_some h1
        have hc0 := (hcc 0 (by omega)).trans (List.getElem?_eq_getElem (by omega))
        rw [Deep.add_add, Nat.zero_mul] at hc0
        obtain ⟨b, o, rfl, hb⟩ := spot_none hc0
        refine .inr ⟨b, o, rfl, fun i y hi => ?_⟩
        have hi' : i < len := by
          have := (List.getElem?_eq_some_iff.1 hi).1
          simpa using this
        have hy : q i = y := by
          rw [List.getElem?_map, List.getElem?_range hi'] at hi
          exact Option.some.inj hi
        subst hy
        obtain ⟨⟨va, vt, ⟨cs, h1, h2⟩, k1, k2⟩, _⟩ := hq i hi'
        obtain ⟨_, hcl, hcc⟩ := World.cells?_some h1
        refine ⟨hb, va, vt, fun j t hj => ?_, k1, k2⟩
        have hj8 : j < 8 := (List.getElem?_eq_some_iff.1 hj).1
        have := hcc j hj8
        rw [add2] at this
        rw [this, h2]
        exact hj
    · obtain ⟨i, hi, rfl⟩ := List.mem_map.1 hy
      exact (hq i (by simpa using hi)).2
/-- A function's blocks. -/
theorem opn_blks {fuel : Nat} {v : Value} {x : DataW H × List MemPlace} (h : DataW.trod enc Tryz.prog W 0 (fun _ => true) true fuel 32 [v] = some x) (hz : Sz 32 x.1) : ∃ l : List (List Ins), BlksR W l v ∧ (∀ b ∈ l, ∀ y ∈ b, GxI y) ∧ Few l.length := by
  rcases Deep.open_slice1 Tryz.underlying32 oc36 h with ⟨e, _⟩ | ⟨a, len, cap, m, n, V, D, Pl, e, _, hl, hm, hmm, rfl, hx⟩
  · simp only [List.cons.injEq, and_true] at e
    exact ⟨[], ⟨none, 0, e, Nat.le_refl _, Nat.zero_le _, .inl rfl⟩, fun _ h => (by cases h), by unfold Few; simp⟩
  · simp only [List.cons.injEq, and_true] at e
    rw [if_pos rfl] at hmm
    subst hmm
    have hsl := Sz.len Tryz.underlying32 hz
    rw [ob36] at hsl
    simp only [List.length_map, List.length_range] at hsl
    have each : ∀ i, i < len → ∃ q : List Ins, (W.cell? (a.add i) = some (V i) ∧ BlkR W q (V i)) ∧ ∀ y ∈ q, GxI y := by
      intro i hi
      obtain ⟨h1, h2⟩ := hx i (by omega)
      obtain ⟨q, k1, k2, _⟩ := opn_blk h2 (Sz.elem Tryz.underlying32 hz (List.mem_map.2 ⟨i, by simpa using hi, rfl⟩))
      exact ⟨q, ⟨h1, k1⟩, k2⟩
    obtain ⟨q, hq⟩ := Deep.choose_lt each
    refine ⟨(List.range len).map q, ⟨some a, m, by rw [e]; simp, by simpa using hl, hm, ?_⟩, fun y hy => ?_, by simpa using few_of (b := 24) (by omega) hsl⟩
    · by_cases h0 : len = 0
      · exact .inl (by rw [h0]; rfl)
      · obtain ⟨b, o, rfl, hb⟩ := spot_none (hq 0 (by omega)).1.1
        refine .inr ⟨b, o, rfl, hb, fun i y hi => ?_⟩
        have hi' : i < len := by
          have := (List.getElem?_eq_some_iff.1 hi).1
          simpa using this
        have hy : q i = y := by
          rw [List.getElem?_map, List.getElem?_range hi'] at hi
          exact Option.some.inj hi
        subst hy
        obtain ⟨k1, k2⟩ := (hq i hi').1
        rw [add_plain] at k1
        exact ⟨V i, k1, k2⟩
    · obtain ⟨i, hi, rfl⟩ := List.mem_map.1 hy
      exact (hq i (by simpa using hi)).2
/-- The cells of a function. -/
theorem opn_fun {fuel : Nat} {cs : List Value} {x : DataW H × List MemPlace} (h : DataW.trod enc Tryz.prog W 0 (fun _ => true) true fuel 34 cs = some x) (hz : Sz 34 x.1) :
    ∃ (y : Fun) (vp vb : Value), cs = funC y vp vb ∧ IntsV W y.2.1 vp ∧ BlksR W y.2.2.2.1 vb ∧ GxF y := by
  obtain ⟨xs, n, _, rfl, hl, hlen, hf⟩ := DataW.trod_struct Tryz.underlying34 h
  obtain ⟨v0, v1, v2, v3, v4, rfl⟩ := five_l (hl.trans oc34)
  obtain ⟨y0, g0⟩ := xs_at hlen (i := 0) (by decide)
  obtain ⟨y1, g1⟩ := xs_at hlen (i := 1) (by decide)
  obtain ⟨y2, g2⟩ := xs_at hlen (i := 2) (by decide)
  obtain ⟨y3, g3⟩ := xs_at hlen (i := 3) (by decide)
  obtain ⟨y4, g4⟩ := xs_at hlen (i := 4) (by decide)
  have f0 : DataW.trod enc Tryz.prog W 0 (fun _ => true) true n 9 ([v0, v1, v2, v3, v4].take (Tryz.prog.cellsOf 9)) = some y0 := (hf 0 _ rfl).trans g0
  have f1 : DataW.trod enc Tryz.prog W 0 (fun _ => true) true n 31 ([v1, v2, v3, v4].take (Tryz.prog.cellsOf 31)) = some y1 := (hf 1 _ rfl).trans g1
  have f2 : DataW.trod enc Tryz.prog W 0 (fun _ => true) true n 3 ([v2, v3, v4].take (Tryz.prog.cellsOf 3)) = some y2 := (hf 2 _ rfl).trans g2
  have f3 : DataW.trod enc Tryz.prog W 0 (fun _ => true) true n 32 ([v3, v4].take (Tryz.prog.cellsOf 32)) = some y3 := (hf 3 _ rfl).trans g3
  have f4 : DataW.trod enc Tryz.prog W 0 (fun _ => true) true n 3 ([v4].take (Tryz.prog.cellsOf 3)) = some y4 := (hf 4 _ rfl).trans g4
  rw [oc9] at f0
  rw [oc31] at f1
  rw [oc3] at f2 f4
  rw [oc32] at f3
  obtain ⟨nm, rfl, hnm⟩ := opn_str f0 (Sz.field Tryz.underlying34 hz (i := 0) rfl (by rw [List.getElem?_map, g0]; rfl))
  obtain ⟨ps, hp, _, hpl⟩ := opn_ints f1 (Sz.field Tryz.underlying34 hz (i := 1) rfl (by rw [List.getElem?_map, g1]; rfl))
  obtain ⟨rt, rfl, _⟩ := opn_int f2
  obtain ⟨bl, hb, hbg, hbl⟩ := opn_blks f3 (Sz.field Tryz.underlying34 hz (i := 3) rfl (by rw [List.getElem?_map, g3]; rfl))
  obtain ⟨pl, rfl, _⟩ := opn_int f4
  exact ⟨(nm, ps, rt, bl, pl), v1, v3, rfl, hp, hb, hnm, hpl, hbl, hbg⟩
/-- A program's functions. -/
theorem opn_funs {fuel : Nat} {v : Value} {x : DataW H × List MemPlace} (h : DataW.trod enc Tryz.prog W 0 (fun _ => true) true fuel 22 [v] = some x) (hz : Sz 22 x.1) : ∃ l : List Fun, ProgR W l v ∧ (∀ y ∈ l, GxF y) ∧ Few l.length := by
  rcases Deep.open_slice Tryz.underlying22 h with ⟨e, _⟩ | ⟨a, len, cap, m, n, D, Pl, e, _, hl, hm, hmm, rfl, hx⟩
  · simp only [List.cons.injEq, and_true] at e
    exact ⟨[], ⟨none, 0, e, Nat.le_refl _, Nat.zero_le _, .inl rfl⟩, fun _ h => (by cases h), by unfold Few; simp⟩
  · simp only [List.cons.injEq, and_true] at e
    rw [if_pos rfl] at hmm
    subst hmm
    have hsl := Sz.len Tryz.underlying22 hz
    rw [ob34] at hsl
    simp only [List.length_map, List.length_range] at hsl
    have each : ∀ i, i < len → ∃ q : Fun, (∃ va vt, (∃ cs, W.cells? 0 (a.add (i * 5)) 5 = some cs ∧ cs = funC q va vt) ∧ IntsV W q.2.1 va ∧ BlksR W q.2.2.2.1 vt) ∧ GxF q := by
      intro i hi
      obtain ⟨cs, h1, h2⟩ := hx i (by omega)
      rw [oc34] at h1
      obtain ⟨y, va, vt, ec, k1, k2, k3⟩ := opn_fun h2 (Sz.elem Tryz.underlying22 hz (List.mem_map.2 ⟨i, by simpa using hi, rfl⟩))
      exact ⟨y, ⟨va, vt, ⟨cs, h1, ec⟩, k1, k2⟩, k3⟩
    obtain ⟨q, hq⟩ := Deep.choose_lt each
    refine ⟨(List.range len).map q, ⟨some a, m, by rw [e]; simp, by simpa using hl, hm, ?_⟩, fun y hy => ?_, by simpa using few_of (b := 80) (by omega) hsl⟩
    · by_cases h0 : len = 0
      · exact .inl (by rw [h0]; rfl)
      · obtain ⟨⟨va, vt, ⟨cs, h1, h2⟩, _⟩, _⟩ := hq 0 (by omega)
        obtain ⟨_, hcl, hcc⟩ := World.cells?_some h1
        have hc0 := (hcc 0 (by omega)).trans (List.getElem?_eq_getElem (by omega))
        rw [Deep.add_add, Nat.zero_mul] at hc0
        obtain ⟨b, o, rfl, hb⟩ := spot_none hc0
        refine .inr ⟨b, o, rfl, fun i y hi => ?_⟩
        have hi' : i < len := by
          have := (List.getElem?_eq_some_iff.1 hi).1
          simpa using this
        have hy : q i = y := by
          rw [List.getElem?_map, List.getElem?_range hi'] at hi
          exact Option.some.inj hi
        subst hy
        obtain ⟨⟨va, vt, ⟨cs, h1, h2⟩, k1, k2⟩, _⟩ := hq i hi'
        obtain ⟨_, hcl, hcc⟩ := World.cells?_some h1
        refine ⟨hb, va, vt, fun j t hj => ?_, k1, k2⟩
        have hj8 : j < 5 := (List.getElem?_eq_some_iff.1 hj).1
        have := hcc j hj8
        rw [add2] at this
        rw [this, h2]
        exact hj
    · obtain ⟨i, hi, rfl⟩ := List.mem_map.1 hy
      exact (hq i (by simpa using hi)).2
set_option maxRecDepth 20000 in
/-- A program that came in. -/
theorem opn_prog {r : Reach} {b0 : Nat} {v : Value} {d : DataW H} {ps : List MemPlace} (hv : Value.okWide Tryz.prog W r b0 24 v) (h : DataW.Trod enc Tryz.prog W 0 (fun _ => true) true 24 v d ps) (hz : Sz 24 d) :
    ∃ (l : List Fun) (po : Option Addr) (c : Nat), v = .agg #[.slice po l.length c] ∧ ProgR W l (.slice po l.length c) ∧ (∀ y ∈ l, GxF y) ∧ Few l.length := by
  obtain ⟨cs, rfl, hsz⟩ := okWide_struct Tryz.underlying24 hv
  obtain ⟨fuel, hf⟩ := h
  obtain ⟨xs, n, _, hx, hl, hlen, each⟩ := DataW.trod_struct Tryz.underlying24 hf
  have e1 : cs.size = 1 := hsz.trans oc24
  obtain ⟨u, rfl⟩ : ∃ u, cs = #[u] := by
    obtain ⟨l⟩ := cs
    match l, e1 with
    | [u], _ => exact ⟨u, rfl⟩
  obtain ⟨y0, g0⟩ := xs_at hlen (i := 0) (by decide)
  have f0 : DataW.trod enc Tryz.prog W 0 (fun _ => true) true n 22 ([u].take (Tryz.prog.cellsOf 22)) = some y0 := (each 0 _ rfl).trans g0
  rw [oc22] at f0
  have hd : d = .agg (xs.map (·.1)) := congrArg Prod.fst hx
  rw [hd] at hz
  obtain ⟨l, k1, k2, k3⟩ := opn_funs f0 (Sz.field Tryz.underlying24 hz (i := 0) rfl (by rw [List.getElem?_map, g0]; rfl))
  have k1' := k1
  obtain ⟨po, c, rfl, _⟩ := k1
  exact ⟨l, po, c, rfl, k1', k2, k3⟩
end
end Go.Proofs.YtahhbckccdigoaaGreatDoor
namespace Go.Proofs.YtahhbckccdigoaaGreatDoor
open Go Go.RowKit
open G (Tok Er Ins Fun peek0 peek1 atOf)
abbrev b8 (k id n ty : Int) (ao to : Option Addr) (la lt ca ct : Nat) (nm : List UInt8) (pl : Int) : List Value := [.int .i64 k, .int .i64 id, .int .i64 n, .int .i64 ty, .slice ao la ca, .slice to lt ct, .string (bs nm), .int .i64 pl]
end Go.Proofs.YtahhbckccdigoaaGreatDoor
namespace Go.Proofs.YtahhbckccdigoaaGreatDoor
open Go Go.RowKit
open G (Tok Er Ins Fun peek0 peek1 atOf)
theorem GxF.ok {f : Fun} (h : GxF f) : OkF f := by
  obtain ⟨h1, _, _, h4⟩ := h
  unfold Few at h1
  refine ⟨by unfold maxLen; omega, fun b hb x hx => ?_⟩
  obtain ⟨_, k2, _, _, _, _, k7⟩ := h4 b hb x hx
  unfold Few at k7
  exact ⟨k2, by unfold maxLen; omega⟩
theorem GxF.sh {f : Fun} (h : GxF f) : ShF f := by
  obtain ⟨h1, h2, h3, h4⟩ := h
  refine ⟨h1, h2, h3, fun b hb x hx => ?_⟩
  obtain ⟨_, _, _, _, k5, k6, k7⟩ := h4 b hb x hx
  exact ⟨k5, k6, k7⟩
end Go.Proofs.YtahhbckccdigoaaGreatDoor
namespace Go.Proofs.YtahhbckccdigoaaGreatDoor
open Go Go.RowKit
open G (Tok Er Ins Fun peek0 peek1 atOf noI noB noF)
set_option maxHeartbeats 8000000 in
set_option maxRecDepth 20000 in
theorem law_writes (p : List Fun) (po : Option Addr) (c : Nat) (w : World) (hp : ProgR w p (.slice po p.length c)) (ht : Tb w) (hO : ∀ f ∈ p, OkF f)
    (hli : ∀ w1 : World, ProgR w1 p (.slice po p.length c) → Calls Tryz.prog 7 #[.agg #[.slice po p.length c]] w1 fun e w' => e = .returned (.bool (lightB p)) ∧ Below w1.heap.size w1 w')
    (hsm : lightB p = true → (wholeF 0 0 p).1 = 0 → Sm p) :
    Calls Tryz.prog 3 #[.agg #[.slice po p.length c]] w fun e w' => e = .returned (.bool true) ∧ Below w.heap.size w w' := by
  have b1 := below_box w (.cells #[.slice po p.length c] 24)
  have X2 : Hid (L5.Box (w.alloc (.cells #[.slice po p.length c] 24)) w.heap.size [.slice po p.length c]) := hide (L5.Box.new w [.slice po p.length c] 24)
  have B0 := hide b1
  have HP := hide (hp.below b1)
  have HT := hide (ht.below b1)
  have HLI := hide hli
  have HSM := hide hsm
  have HO := hide hO
  clear b1 hp ht hli hsm hO
  have hfl : ∀ (a b : Value) (w : World), (Instr.field 28 (.agg #[a, b]) 0).run Tryz.prog w = .ok a w := fun _ _ _ => rfl
  go_enter Tryz.func3, Tryz.ntmps3
  go_upto_region 1 with fail
  show Code.wp _ _ _ _ (w.alloc (.cells #[.slice po p.length c] 24))
  generalize w.alloc (.cells #[.slice po p.length c] 24) = W0 at *
  have y0 := X2.out.2 0 _ rfl
  go_wp2_with fail
  refine (HLI.out _ HP.out).mono ?_; rintro e w1 ⟨rfl, b1⟩
  have B1 := hide (below_step B0.out b1)
  replace X2 := hide (X2.out.below b1)
  replace HP := hide (HP.out.below b1)
  replace HT := hide (HT.out.below b1)
  clear b1 y0 B0
  cases hl : lightB p with
  | false =>
    go_wp2_with fail
    refine (works_any _ HT.out).mono ?_; rintro e w2 ⟨rfl, b2⟩
    have B2 := hide (below_step B1.out b2)
    go_wp2_with fail
    go_ret
    exact ⟨rfl, B2.out⟩
  | true =>
    replace hl := hide hl
    have y0 := X2.out.2 0 _ rfl
    go_wp2_with fail
    refine (rwhole_try p po c _ HP.out HO.out).mono ?_; rintro e w2 ⟨rfl, b2⟩
    have B2 := hide (below_step B1.out b2)
    replace X2 := hide (X2.out.below b2)
    replace HP := hide (HP.out.below b2)
    replace HT := hide (HT.out.below b2)
    clear b2 y0 B1
    by_cases hw : (wholeF 0 0 p).1 = 0
    · have HS := hide (HSM.out hl.out hw)
      rw [hw]
      generalize (wholeF 0 0 p).2 = z at *
      clear hw HSM HLI hl
      have hpc : p.length ≤ c ∧ c ≤ maxLen := by
        obtain ⟨ao', c', e, h1, h2, _⟩ := HP.out
        injection e with e1 e2 e3
        subst e3
        exact ⟨h1, h2⟩
      unfold maxLen at hpc
      have y0 := X2.out.2 0 _ rfl
      go_wp2_with fail
      clear y0
      go_loopw [3] (fun i wr => ∃ K : Nat, K ≤ p.length ∧ i = .int .i64 K ∧ Hid (Below w2.heap.size w2 wr)) (fun i _ => p.length - (intOf i).toNat)
      case atStart => exact ⟨0, Nat.zero_le _, rfl, hide (Below.refl _ _)⟩
      case round =>
        obtain ⟨K, hK, rfl, HW⟩ := hrel
        have x0 := (X2.out.below HW.out).2 0 _ rfl
        by_cases hkt : K < p.length
        · have hkI : (K : Int) < p.length := by omega
          obtain ⟨f, hfK⟩ : ∃ f, p[K]? = some f := ⟨p[K], List.getElem?_eq_some_iff.2 ⟨hkt, rfl⟩⟩
          have hfm := List.mem_of_getElem? hfK
          obtain ⟨ao', c', eq', hh1, hh2, hh3⟩ := HP.out
          injection eq' with e1 e2 e3
          subst e1 e3
          clear e2
          rcases hh3 with hh3 | ⟨gb, ob, rfl, hin⟩
          · subst hh3; simp at hkt
          obtain ⟨aoy, boy, cy, cby, hv, q0, q1, q2, q3, q4⟩ := ((hin K f hfK).below HW.out).val
          have HFF := hide (HS.out.fin.2 f hfm)
          have HF7 : Hid (∀ b ∈ f.2.2.2.1, ∀ x ∈ b, Fin7 x) := hide fun b hb x hx => HS.out.fin7 hfm hb hx
          obtain ⟨nm, ps, rt, bl, pl⟩ := f
          dsimp only at hv q0 q1 q2 q3 q4 HF7
          have HBL : Hid (BlksR wr bl (.slice boy bl.length cby)) := hide (by
            obtain ⟨vp, vb, e, _, h2⟩ := hv
            injection e with e
            have e2 := congrArg (fun a => a[3]?) e
            simp at e2
            rw [e2]; exact h2)
          have B7 := hide (below_box wr (.cells #[.string (bs nm), .slice aoy ps.length cy, .int .i64 rt, .slice boy bl.length cby, .int .i64 pl] 34))
          have XF := hide (L5.Box.new wr [.string (bs nm), .slice aoy ps.length cy, .int .i64 rt, .slice boy bl.length cby, .int .i64 pl] 34)
          have HV7 := hide (hv.below B7.out)
          have HB7 := hide (HBL.out.below B7.out)
          have HT7 := hide ((HT.out.below HW.out).below B7.out)
          have HW7 := hide (below_step HW.out B7.out)
          clear hin hfK hv HBL hh1 hh2 hfm
          go_upto_region 7 with fail
          show Code.wp _ _ _ _ (wr.alloc (.cells #[.string (bs nm), .slice aoy ps.length cy, .int .i64 rt, .slice boy bl.length cby, .int .i64 pl] 34))
          replace XF : Hid (L5.Box (wr.alloc (.cells #[.string (bs nm), .slice aoy ps.length cy, .int .i64 rt, .slice boy bl.length cby, .int .i64 pl] 34)) wr.heap.size [.string (bs nm), .slice aoy ps.length cy, .int .i64 rt, .slice boy bl.length cby, .int .i64 pl]) := XF
          clear q0 q1 q2 q3 q4 x0 B7
          generalize wr.alloc (.cells #[.string (bs nm), .slice aoy ps.length cy, .int .i64 rt, .slice boy bl.length cby, .int .i64 pl] 34) = w0 at *
          generalize wr.heap.size = gf at *
          have t0 := fun x => (L5.grew_box XF.out x).2 0 _ rfl
          have t1 := fun x => (L5.grew_box XF.out x).2 1 _ rfl
          have t2 := fun x => (L5.grew_box XF.out x).2 2 _ rfl
          have t3 := fun x => (L5.grew_box XF.out x).2 3 _ rfl
          have t4 := fun x => (L5.grew_box XF.out x).2 4 _ rfl
          have hVV := hide (fun x => HV7.out.below (L5.grewTo_below w0 x))
          have hTT := hide (fun x => HT7.out.below (L5.grewTo_below w0 x))
          go_wp2_with fail
          refine L5.region_grew (by kernel_rfl) (by kernel_rfl) ?_
          repeat (go_big_quiet_step ((first
            | (go_at_call 10; exact L5.calls_grew (func_any (nm, ps, rt, bl, pl) _ _ (hVV.out _) HFF.out.1 (hTT.out _)))
            | (go_at_call 11; exact L5.calls_grew (rfunc_any (nm, ps, rt, bl, pl) _ _ (hVV.out _) HFF.out.1 HFF.out.2)))))
          refine wpQuiet_nil ?_
          rintro _ ⟨x, rfl⟩
          clear t0 t1 t2 t3 t4
          have HBx := hide (L5.grewTo_below w0 x)
          obtain ⟨w8, hw8⟩ : ∃ w8 : World, w8 = L5.grewTo w0 x := ⟨_, rfl⟩
          rw [← hw8] at HBx ⊢
          clear hw8
          have hbl2 : bl.length ≤ 9223372036854775807 := by
            obtain ⟨_, _, _, l1, l2, _⟩ := HB7.out
            exact Nat.le_trans l1 l2
          have HW8 := hide (below_step HW7.out HBx.out)
          replace XF := hide (XF.out.below HBx.out)
          replace HB7 := hide (HB7.out.below HBx.out)
          replace HT7 := hide (HT7.out.below HBx.out)
          clear HBx HW7 HV7 hVV hTT HFF
          go_wp2_with fail
          go_loopw [5] (fun k wr => ∃ A : Nat, A ≤ bl.length ∧ k = .int .i64 A ∧ Hid (Below w8.heap.size w8 wr)) (fun k _ => bl.length - (intOf k).toNat)
          case atStart => exact ⟨0, Nat.zero_le _, rfl, hide (Below.refl _ _)⟩
          case round =>
            obtain ⟨A, hA, rfl, HWA⟩ := hrel
            have t3 := (XF.out.below HWA.out).2 3 _ rfl
            by_cases hat : A < bl.length
            · have haI : (A : Int) < bl.length := by omega
              obtain ⟨b, hbA⟩ : ∃ b, bl[A]? = some b := ⟨bl[A], List.getElem?_eq_some_iff.2 ⟨hat, rfl⟩⟩
              obtain ⟨_, _, e0, _, _, h2⟩ := HB7.out
              injection e0 with e1 e2 e3
              subst e1 e3
              clear e2
              rcases h2 with h2 | ⟨gc, oc, rfl, gk, h2⟩
              · subst h2; simp at hat
              obtain ⟨vk, kd, kk⟩ := h2 A b hbA
              obtain ⟨aok, capk, rfl, l1, l2, kk⟩ := kk
              have lk : b.length ≤ maxLen := Nat.le_trans l1 l2
              unfold maxLen at lk
              have HFb := hide (HF7.out b (List.mem_of_getElem? hbA))
              have gk := hide gk
              replace kk := hide kk
              replace kd := hide kd
              clear h2 l1 l2 hbA
              go_wp2_with fail
              clear t3
              go_loopw [6] (fun j wr => ∃ J : Nat, J ≤ b.length ∧ j = .int .i64 J ∧ Hid (Below w8.heap.size w8 wr)) (fun j _ => b.length - (intOf j).toNat)
              case atStart => exact ⟨0, Nat.zero_le _, rfl, HWA⟩
              case round =>
                obtain ⟨J, hJ, rfl, HWJ⟩ := hrel
                have t3 := (XF.out.below HWJ.out).2 3 _ rfl
                have td := (HWJ.out.cell (p := ⟨gc, oc + A, none⟩) gk.out).trans kd.out
                by_cases hjt : J < b.length
                · have hjI : (J : Int) < b.length := by omega
                  obtain ⟨y, hyJ⟩ : ∃ y, b[J]? = some y := ⟨b[J], List.getElem?_eq_some_iff.2 ⟨hjt, rfl⟩⟩
                  have HFy := hide (HFb.out y (List.mem_of_getElem? hyJ))
                  rcases kk.out with hh | ⟨gi, oi, rfl, hin⟩
                  · subst hh; simp at hjt
                  have hir := (hin J y hyJ).below HWJ.out
                  obtain ⟨aoz, toz, caz, ctz, hv, r0, r1, r2, r3, r4, r5, r6, r7⟩ := hir.val
                  have hgi : gi < wr.heap.size := hir.1
                  obtain ⟨op, id, nn, ty, ar, tt, na, pp⟩ := y
                  dsimp only at hv r0 r1 r2 r3 r4 r5 r6 r7
                  have hB2 := fun x => below_step HWJ.out (L5.grewTo_below wr x)
                  have u3 := fun x => (XF.out.below (hB2 x)).2 3 _ rfl
                  have ud := fun x => ((hB2 x).cell (p := ⟨gc, oc + A, none⟩) gk.out).trans kd.out
                  have m0 : ∀ x, (L5.grewTo wr x).cell? ⟨gi, oi + J * 8, none⟩ = _ := fun x => ((L5.grewTo_below wr x).cell (p := ⟨gi, oi + J * 8, none⟩) hgi).trans r0
                  have m1 : ∀ x, (L5.grewTo wr x).cell? ⟨gi, oi + J * 8 + 1, none⟩ = _ := fun x => ((L5.grewTo_below wr x).cell (p := ⟨gi, oi + J * 8 + 1, none⟩) hgi).trans r1
                  have m2 : ∀ x, (L5.grewTo wr x).cell? ⟨gi, oi + J * 8 + 2, none⟩ = _ := fun x => ((L5.grewTo_below wr x).cell (p := ⟨gi, oi + J * 8 + 2, none⟩) hgi).trans r2
                  have m3 : ∀ x, (L5.grewTo wr x).cell? ⟨gi, oi + J * 8 + 3, none⟩ = _ := fun x => ((L5.grewTo_below wr x).cell (p := ⟨gi, oi + J * 8 + 3, none⟩) hgi).trans r3
                  have m4 : ∀ x, (L5.grewTo wr x).cell? ⟨gi, oi + J * 8 + 4, none⟩ = _ := fun x => ((L5.grewTo_below wr x).cell (p := ⟨gi, oi + J * 8 + 4, none⟩) hgi).trans r4
                  have m5 : ∀ x, (L5.grewTo wr x).cell? ⟨gi, oi + J * 8 + 5, none⟩ = _ := fun x => ((L5.grewTo_below wr x).cell (p := ⟨gi, oi + J * 8 + 5, none⟩) hgi).trans r5
                  have m6 : ∀ x, (L5.grewTo wr x).cell? ⟨gi, oi + J * 8 + 6, none⟩ = _ := fun x => ((L5.grewTo_below wr x).cell (p := ⟨gi, oi + J * 8 + 6, none⟩) hgi).trans r6
                  have m7 : ∀ x, (L5.grewTo wr x).cell? ⟨gi, oi + J * 8 + 7, none⟩ = _ := fun x => ((L5.grewTo_below wr x).cell (p := ⟨gi, oi + J * 8 + 7, none⟩) hgi).trans r7
                  have hII := hide (fun x => hv.below (L5.grewTo_below wr x))
                  have hTT := hide (fun x => HT7.out.below (hB2 x))
                  replace hB2 := hide hB2
                  clear hin hyJ hir hv r0 r1 r2 r3 r4 r5 r6 r7 hgi
                  go_wp2_with fail
                  refine L5.region_grew (by kernel_rfl) (by kernel_rfl) ?_
                  repeat (go_big_quiet_step ((first
                    | (go_at_call 12; exact L5.calls_grew (sinstr_any (op, id, nn, ty, ar, tt, na, pp) _ _ (hII.out _) HFy.out (hTT.out _)))
                    | (go_at_call 13; exact L5.calls_grew (rinstr_any (op, id, nn, ty, ar, tt, na, pp) _ _ (hII.out _) HFy.out)))))
                  refine wpQuiet_nil ?_
                  rintro _ ⟨x, rfl⟩
                  clear u3 ud t3 td m0 m1 m2 m3 m4 m5 m6 m7
                  go_wp2_with fail
                  go_roundw
                  case rel => exact ⟨J + 1, by omega, by go_num, hide (hB2.out x)⟩
                  case measure => simp [intOf]; omega
                · obtain rfl : J = b.length := by omega
                  go_wp2_with fail
                  go_roundw
                  case rel => exact ⟨A + 1, by omega, by go_num, HWJ⟩
                  case measure => simp [intOf]; omega
            · obtain rfl : A = bl.length := by omega
              have HWF := hide (below_step HW8.out HWA.out)
              go_wp2_with fail
              go_roundw
              case rel => exact ⟨K + 1, by omega, by go_num, HWF⟩
              case measure => simp [intOf]; omega
        · obtain rfl : K = p.length := by omega
          have B3 := hide (below_step B2.out HW.out)
          have uu := fun x => (L5.grew_box (X2.out.below HW.out) x).2 0 _ rfl
          have hPP := hide (fun x => (HP.out.below HW.out).below (L5.grewTo_below wr x))
          have hTT := hide (fun x => (HT.out.below HW.out).below (L5.grewTo_below wr x))
          have HFN := hide HS.out.fin
          go_wp2_with fail
          refine L5.region_grew (by kernel_rfl) (by kernel_rfl) ?_
          repeat (go_big_quiet_step ((first
            | (go_at_call 14; exact L5.calls_grew (prog_text p po c _ (hPP.out _) (hTT.out _) HFN.out))
            | (go_at_call 15; exact L5.calls_grew (rprog_text p po c _ (hPP.out _) HFN.out))
            | (go_at_call 9; exact L5.calls_grew (works_any _ (hTT.out _))))))
          refine wpQuiet_nil ?_
          rintro _ ⟨x, rfl⟩
          go_wp2_with fail
          go_ret
          exact ⟨rfl, below_step B3.out (L5.grewTo_below _ x)⟩
    · have hw' : ((wholeF 0 0 p).1 != 0) = true := by simpa using hw
      generalize (wholeF 0 0 p).2 = z at *
      generalize (wholeF 0 0 p).1 = y at *
      clear hw HSM
      go_wp2_with fail
      refine (works_any _ HT.out).mono ?_; rintro e w3 ⟨rfl, b3⟩
      have B3 := hide (below_step B2.out b3)
      go_wp2_with fail
      go_ret
      exact ⟨rfl, B3.out⟩
/-- ShowWrites, whatever program comes in. -/
theorem lawWrites (p : List Fun) (po : Option Addr) (c : Nat) (W : World) (hp : ProgR W p (.slice po p.length c)) (gp : ∀ y ∈ p, GxF y) (fp : Few p.length) (ht : Tb W) :
    Calls Tryz.prog 3 #[.agg #[.slice po p.length c]] W fun e W' => e = .returned (.bool true) ∧ Below W.heap.size W W' :=
  law_writes p po c W hp ht (fun f hf => (gp f hf).ok) (fun w1 h1 => light_any p po c w1 h1 fp fun f hf => (gp f hf).sh)
    fun hl hw => Sm.of_light ((whole_may fun f hf b hb x hx => ((gp f hf).2.2.2 b hb x hx).2.1).1 hw) hl
end Go.Proofs.YtahhbckccdigoaaGreatDoor
