/- A program, and an instruction, that came in: which functions, blocks and instructions they hold. A function that comes in, opened, with its blocks' lengths. Layer 8: the law GraphShapes. What each row of this seat is given: where the table of the operations reads as the program's text lays it, its cells are the plain table's; the heap that the program's own start leaves is one such. -/
import Derived.Test.YtfmeadbiokcboaaDoorMsAG
import Derived.Test.YtfmeadbiokcboaaDoorMsAH
import Derived.Test.YtfmeadbiokcboaaDoorMsAW
import Derived.Deep.Slices
import Derived.SizedLaws
import Derived.KernelRfl
import Derived.Test.YtfmeadbiokcboaaDoorRows
import Derived.ProofKit
import Derived.LaidMore
import Derived.OpenShut
import Derived.Stop.Joined
import Derived.ShutString
import Derived.ChangeOld
import Derived.Below
import Derived.Lib.LaidTab
import Derived.Lib.SmallJoins
import Derived.WideKeyPair
namespace Go.Proofs.YtfmeadbiokcboaaDoor
open Go Go.RowKit Go.ChangeShapes Go.WideShapes
open G (Tok Er Ins Fun)
theorem oc2 : Tryd.prog.cellsOf 2 = 1 := by kernel_rfl
theorem oc3 : Tryd.prog.cellsOf 3 = 1 := by kernel_rfl
theorem oc9 : Tryd.prog.cellsOf 9 = 1 := by kernel_rfl
theorem oc31 : Tryd.prog.cellsOf 22 = 1 := by kernel_rfl
theorem oc32 : Tryd.prog.cellsOf 23 = 1 := by kernel_rfl
theorem oc34 : Tryd.prog.cellsOf 25 = 5 := by kernel_rfl
theorem oc36 : Tryd.prog.cellsOf 51 = 1 := by kernel_rfl
theorem oc39 : Tryd.prog.cellsOf 53 = 8 := by kernel_rfl
theorem ob3 : Tryd.prog.bytesOf 3 = 8 := by kernel_rfl
theorem ob36 : Tryd.prog.bytesOf 51 = 24 := by kernel_rfl
theorem ob39 : Tryd.prog.bytesOf 53 = 104 := by kernel_rfl
/-- No part of a datum is longer than a process can hold. -/
def Sz {H : Type} (t : TypeId) (d : DataW H) : Prop := ∀ n ∈ d.weights Tryd.prog t, n ≤ reachBytes
section
variable {H : Type}
theorem Sz.field {t : TypeId} {fs : Array Field} {parts : List (DataW H)} (hu : Tryd.prog.underlying t = some (.struct fs)) (h : Sz t (.agg parts)) {i : Nat} {ti : TypeId} {di : DataW H} (ht : (fs.toList.map (·.type))[i]? = some ti) (hd : parts[i]? = some di) : Sz ti di := by
  intro n hn
  refine h n ?_
  simp only [DataW.weights, hu]
  exact DataW.weights_mem_each ht hd n hn
theorem weightsAll_mem {e : TypeId} {d : DataW H} : ∀ {l : List (DataW H)}, d ∈ l → ∀ n ∈ d.weights Tryd.prog e, n ∈ DataW.weightsAll Tryd.prog e l
  | x :: l, hd, n, hn => by
    simp only [DataW.weightsAll, List.mem_append]
    rcases List.mem_cons.1 hd with rfl | hd
    · exact .inl hn
    · exact .inr (weightsAll_mem hd n hn)
theorem Sz.elem {t e : TypeId} {elems spare : List (DataW H)} (hu : Tryd.prog.underlying t = some (.slice e)) (h : Sz t (.slice elems spare)) {d : DataW H} (hd : d ∈ elems) : Sz e d := by
  intro n hn
  refine h n ?_
  simp only [DataW.weights, hu, List.mem_cons, List.mem_append]
  exact .inr (.inl (weightsAll_mem hd n hn))
theorem Sz.len {t e : TypeId} {elems spare : List (DataW H)} (hu : Tryd.prog.underlying t = some (.slice e)) (h : Sz t (.slice elems spare)) : (elems.length + spare.length) * Tryd.prog.bytesOf e ≤ reachBytes :=
  h _ (by simp [DataW.weights, hu])
end
/-- How great a part is. -/
def Few (n : Nat) : Prop := n ≤ 140737488355328
theorem few_of {n b m : Nat} (hb : 1 ≤ b) (h : (n + m) * b ≤ reachBytes) : Few n := by
  have h1 : (n + m) * 1 ≤ (n + m) * b := Nat.mul_le_mul_left _ hb
  have h2 : reachBytes = 140737488351232 := rfl
  unfold Few; omega
/-- What an instruction, and a function, that came in keep to. -/
def GxI (x : Ins) : Prop := I64 x.2.1 ∧ I64 x.2.2.1 ∧ (∀ i ∈ x.2.2.2.2.1, I64 i) ∧ (∀ i ∈ x.2.2.2.2.2.1, I64 i) ∧ Few x.2.2.2.2.1.length ∧ Few x.2.2.2.2.2.1.length ∧ Few x.2.2.2.2.2.2.1.length
section
variable {H : Type} {enc : TypeId × Value → H} {W : World}
theorem i64_wf {n : Int} (h : (Lit.int .i64 n).wf = true) : I64 n := by
  simp [Lit.wf, IntKind.min, IntKind.max, IntKind.bits, IntKind.signed] at h
  unfold I64; omega
theorem opn_int {fuel : Nat} {v : Value} {x : DataW H × List MemPlace} (h : DataW.trod enc Tryd.prog W 0 (fun _ => true) true fuel 3 [v] = some x) : ∃ n, v = .int .i64 n ∧ I64 n := by
  obtain ⟨n, e, _, hw⟩ := DataW.trod_int Tryd.underlying3 h
  simp only [List.cons.injEq, and_true] at e
  exact ⟨n, e, i64_wf hw⟩
theorem opn_int2 {fuel : Nat} {v : Value} {x : DataW H × List MemPlace} (h : DataW.trod enc Tryd.prog W 0 (fun _ => true) true fuel 2 [v] = some x) : ∃ n, v = .int .i64 n ∧ I64 n := by
  obtain ⟨n, e, _, hw⟩ := DataW.trod_int Tryd.underlying2 h
  simp only [List.cons.injEq, and_true] at e
  exact ⟨n, e, i64_wf hw⟩
theorem opn_str {fuel : Nat} {v : Value} {x : DataW H × List MemPlace} (h : DataW.trod enc Tryd.prog W 0 (fun _ => true) true fuel 9 [v] = some x) (hz : Sz 9 x.1) : ∃ s : List UInt8, v = .string (bs s) ∧ Few s.length := by
  obtain ⟨s, e, rfl, _⟩ := DataW.trod_string Tryd.underlying9 h
  simp only [List.cons.injEq, and_true] at e
  refine ⟨s.data.toList, by rw [e, bs_of], ?_⟩
  have h1 := hz s.data.toList.length (by simp [DataW.weights])
  have h2 : reachBytes = 140737488351232 := rfl
  unfold Few; omega
theorem spot_none {W : World} {a : Addr} {v : Value} (h : W.cell? (a.add 0) = some v) : ∃ b o, a = ⟨b, o, none⟩ ∧ b < W.heap.size := by
  obtain ⟨b, o, s⟩ := a
  have hs : s = none := by simpa [Addr.add] using World.cell?_spot h
  subst hs
  have hb := World.block_lt_of_cell? W _ h
  exact ⟨b, o, rfl, by simpa [Addr.add] using hb⟩
theorem opn_ints {fuel : Nat} {v : Value} {x : DataW H × List MemPlace} (h : DataW.trod enc Tryd.prog W 0 (fun _ => true) true fuel 22 [v] = some x) (hz : Sz 22 x.1) : ∃ l : List Int, IntsV W l v ∧ (∀ n ∈ l, I64 n) ∧ Few l.length := by
  rcases open_ints Tryd.underlying22 Tryd.underlying3 oc3 h with ⟨e, _⟩ | ⟨a, len, cap, zs, e, _, hl, hm, hzl, rfl, hc, hw⟩
  · simp only [List.cons.injEq, and_true] at e
    exact ⟨[], ⟨none, 0, e, .inl rfl, Nat.le_refl _, Nat.zero_le _⟩, fun _ h => (by cases h), by unfold Few; simp⟩
  · simp only [List.cons.injEq, and_true] at e
    rw [if_pos rfl] at hzl
    have hlen : (zs.take len).length = len := by simp; omega
    have hsl := Sz.len Tryd.underlying22 hz
    refine ⟨zs.take len, ⟨some a, cap, by rw [hlen]; exact e, ?_, by omega, hm⟩, fun n hn => i64_wf (hw n (List.mem_of_mem_take hn)), ?_⟩
    · by_cases h0 : len = 0
      · exact .inl (by rw [h0]; rfl)
      · obtain ⟨b, o, rfl, hb⟩ := spot_none (hc 0 (by omega))
        refine .inr ⟨b, o, rfl, hb, fun i n hi => ?_⟩
        obtain ⟨h1, h2⟩ := List.getElem?_eq_some_iff.1 hi
        have := hc i (by omega)
        rw [add_plain] at this
        rw [this, List.getD_eq_getElem?_getD, List.getElem?_eq_getElem (by omega)]
        rw [List.getElem_take] at h2
        rw [← h2]; rfl
    · rw [ob3] at hsl
      simp only [lits, List.length_map] at hsl
      exact few_of (b := 8) (by omega) hsl
theorem xs_at {xs : List (DataW H × List MemPlace)} {n i : Nat} (h : xs.length = n) (hi : i < n) : ∃ y, xs[i]? = some y := ⟨xs[i]'(by omega), List.getElem?_eq_getElem (by omega)⟩
theorem eight_l {cs : List Value} (h : cs.length = 8) : ∃ a b c d e f g i, cs = [a, b, c, d, e, f, g, i] := by
  match cs, h with
  | [a, b, c, d, e, f, g, i], _ => exact ⟨a, b, c, d, e, f, g, i, rfl⟩
theorem five_l {cs : List Value} (h : cs.length = 5) : ∃ a b c d e, cs = [a, b, c, d, e] := by
  match cs, h with
  | [a, b, c, d, e], _ => exact ⟨a, b, c, d, e, rfl⟩
/-- The cells of an instruction. -/
theorem opn_ins {fuel : Nat} {cs : List Value} {x : DataW H × List MemPlace} (h : DataW.trod enc Tryd.prog W 0 (fun _ => true) true fuel 53 cs = some x) (hz : Sz 53 x.1) :
    ∃ (y : Ins) (va vt : Value), cs = insC y va vt ∧ IntsV W y.2.2.2.2.1 va ∧ IntsV W y.2.2.2.2.2.1 vt ∧ GxI y := by
  obtain ⟨xs, n, _, rfl, hl, hlen, hf⟩ := DataW.trod_struct Tryd.underlying53 h
  obtain ⟨v0, v1, v2, v3, v4, v5, v6, v7, rfl⟩ := eight_l (hl.trans oc39)
  have fld : ∀ (i : Nat) (ti : TypeId) (y : DataW H × List MemPlace), ((#[_, _, _, _, _, _, _, _] : Array Field).toList.map (·.type))[i]? = some ti → xs[i]? = some y → Sz ti y.1 := fun i ti y ht hy => Sz.field Tryd.underlying53 hz ht (by rw [List.getElem?_map, hy]; rfl)
  obtain ⟨y0, g0⟩ := xs_at hlen (i := 0) (by decide)
  obtain ⟨y1, g1⟩ := xs_at hlen (i := 1) (by decide)
  obtain ⟨y2, g2⟩ := xs_at hlen (i := 2) (by decide)
  obtain ⟨y3, g3⟩ := xs_at hlen (i := 3) (by decide)
  obtain ⟨y4, g4⟩ := xs_at hlen (i := 4) (by decide)
  obtain ⟨y5, g5⟩ := xs_at hlen (i := 5) (by decide)
  obtain ⟨y6, g6⟩ := xs_at hlen (i := 6) (by decide)
  obtain ⟨y7, g7⟩ := xs_at hlen (i := 7) (by decide)
  have f0 : DataW.trod enc Tryd.prog W 0 (fun _ => true) true n 3 ([v0, v1, v2, v3, v4, v5, v6, v7].take (Tryd.prog.cellsOf 3)) = some y0 := (hf 0 _ rfl).trans g0
  have f1 : DataW.trod enc Tryd.prog W 0 (fun _ => true) true n 3 ([v1, v2, v3, v4, v5, v6, v7].take (Tryd.prog.cellsOf 3)) = some y1 := (hf 1 _ rfl).trans g1
  have f2 : DataW.trod enc Tryd.prog W 0 (fun _ => true) true n 2 ([v2, v3, v4, v5, v6, v7].take (Tryd.prog.cellsOf 2)) = some y2 := (hf 2 _ rfl).trans g2
  have f3 : DataW.trod enc Tryd.prog W 0 (fun _ => true) true n 3 ([v3, v4, v5, v6, v7].take (Tryd.prog.cellsOf 3)) = some y3 := (hf 3 _ rfl).trans g3
  have f4 : DataW.trod enc Tryd.prog W 0 (fun _ => true) true n 22 ([v4, v5, v6, v7].take (Tryd.prog.cellsOf 22)) = some y4 := (hf 4 _ rfl).trans g4
  have f5 : DataW.trod enc Tryd.prog W 0 (fun _ => true) true n 22 ([v5, v6, v7].take (Tryd.prog.cellsOf 22)) = some y5 := (hf 5 _ rfl).trans g5
  have f6 : DataW.trod enc Tryd.prog W 0 (fun _ => true) true n 9 ([v6, v7].take (Tryd.prog.cellsOf 9)) = some y6 := (hf 6 _ rfl).trans g6
  have f7 : DataW.trod enc Tryd.prog W 0 (fun _ => true) true n 3 ([v7].take (Tryd.prog.cellsOf 3)) = some y7 := (hf 7 _ rfl).trans g7
  rw [oc3] at f0 f1 f3 f7
  rw [oc2] at f2
  rw [oc31] at f4 f5
  rw [oc9] at f6
  obtain ⟨k, rfl, _⟩ := opn_int f0
  obtain ⟨id, rfl, hid⟩ := opn_int f1
  obtain ⟨nn, rfl, hn⟩ := opn_int2 f2
  obtain ⟨ty, rfl, _⟩ := opn_int f3
  obtain ⟨ar, ha, hai, hal⟩ := opn_ints f4 (Sz.field Tryd.underlying53 hz (i := 4) rfl (by rw [List.getElem?_map, g4]; rfl))
  obtain ⟨tt, ht, hti, htl⟩ := opn_ints f5 (Sz.field Tryd.underlying53 hz (i := 5) rfl (by rw [List.getElem?_map, g5]; rfl))
  obtain ⟨nm, rfl, hnm⟩ := opn_str f6 (Sz.field Tryd.underlying53 hz (i := 6) rfl (by rw [List.getElem?_map, g6]; rfl))
  obtain ⟨pl, rfl, _⟩ := opn_int f7
  exact ⟨(k, id, nn, ty, ar, tt, nm, pl), v4, v5, rfl, ha, ht, hid, hn, hai, hti, hal, htl, hnm⟩
theorem add2 (b o i j : Nat) : ((⟨b, o, none⟩ : Addr).add i).add j = ⟨b, o + i + j, none⟩ := by rw [Deep.add_add, add_plain, Nat.add_assoc]
/-- A block's instructions. -/
theorem opn_blk {fuel : Nat} {v : Value} {x : DataW H × List MemPlace} (h : DataW.trod enc Tryd.prog W 0 (fun _ => true) true fuel 51 [v] = some x) (hz : Sz 51 x.1) : ∃ l : List Ins, BlkR W l v ∧ (∀ y ∈ l, GxI y) ∧ Few l.length := by
  rcases Deep.open_slice Tryd.underlying51 h with ⟨e, _⟩ | ⟨a, len, cap, m, n, D, Pl, e, _, hl, hm, hmm, rfl, hx⟩
  · simp only [List.cons.injEq, and_true] at e
    exact ⟨[], ⟨none, 0, e, Nat.le_refl _, Nat.zero_le _, .inl rfl⟩, fun _ h => (by cases h), by unfold Few; simp⟩
  · simp only [List.cons.injEq, and_true] at e
    rw [if_pos rfl] at hmm
    subst hmm
    have hsl := Sz.len Tryd.underlying51 hz
    rw [ob39] at hsl
    simp only [List.length_map, List.length_range] at hsl
    have each : ∀ i, i < len → ∃ q : Ins, (∃ va vt, (∃ cs, W.cells? 0 (a.add (i * 8)) 8 = some cs ∧ cs = insC q va vt) ∧ IntsV W q.2.2.2.2.1 va ∧ IntsV W q.2.2.2.2.2.1 vt) ∧ GxI q := by
      intro i hi
      obtain ⟨cs, h1, h2⟩ := hx i (by omega)
      rw [oc39] at h1
      obtain ⟨y, va, vt, ec, k1, k2, k3⟩ := opn_ins h2 (Sz.elem Tryd.underlying51 hz (List.mem_map.2 ⟨i, by simpa using hi, rfl⟩))
      exact ⟨y, ⟨va, vt, ⟨cs, h1, ec⟩, k1, k2⟩, k3⟩
    obtain ⟨q, hq⟩ := Deep.choose_lt each
    refine ⟨(List.range len).map q, ⟨some a, m, by rw [e]; simp, by simpa using hl, hm, ?_⟩, fun y hy => ?_, by simpa using few_of (b := 104) (by omega) hsl⟩
    · by_cases h0 : len = 0
      · exact .inl (by rw [h0]; rfl)
      · obtain ⟨⟨va, vt, ⟨cs, h1, h2⟩, _⟩, _⟩ := hq 0 (by omega)
        obtain ⟨_, hcl, hcc⟩ := World.cells?_some h1
        have hc0 := (hcc 0 (by omega)).trans (List.getElem?_eq_getElem (by omega))
        rw [Deep.add_add, Nat.zero_mul] at hc0
        obtain ⟨b, o, rfl, hb⟩ := spot_none hc0
        refine .inr ⟨b, o, rfl, fun i y hi => ?_⟩
        have hi' : i < len := by
          have := (List.getElem?_eq_some_iff.1 hi).1
          simpa using this
        have hy : q i = y := by
          rw [List.getElem?_map, List.getElem?_range hi'] at hi
          exact Option.some.inj hi
        subst hy
        obtain ⟨⟨va, vt, ⟨cs, h1, h2⟩, k1, k2⟩, _⟩ := hq i hi'
        obtain ⟨_, hcl, hcc⟩ := World.cells?_some h1
        refine ⟨hb, va, vt, fun j t hj => ?_, k1, k2⟩
        have hj8 : j < 8 := (List.getElem?_eq_some_iff.1 hj).1
        have := hcc j hj8
        rw [add2] at this
        rw [this, h2]
        exact hj
    · obtain ⟨i, hi, rfl⟩ := List.mem_map.1 hy
      exact (hq i (by simpa using hi)).2
end
end Go.Proofs.YtfmeadbiokcboaaDoor
namespace Go.Proofs.YtfmeadbiokcboaaDoor
open Go Go.RowKit
open G (Tok Er Ins Fun)
open Go.ChangeShapes Go.WideShapes Go.ChangeAt
/-- No list of a function is longer than memory can hold. -/
def GyF (f : Fun) : Prop := Few f.1.length ∧ Few f.2.1.length ∧ Few f.2.2.2.1.length ∧ ∀ b ∈ f.2.2.2.1, Few b.length ∧ ∀ x ∈ b, GxI x
theorem GyF.sh {f : Fun} (h : GyF f) : ShF f := ⟨h.1, h.2.1, h.2.2.1, fun b hb x hx => by
  obtain ⟨_, _, _, _, h5, h6, h7⟩ := (h.2.2.2 b hb).2 x hx
  exact ⟨h5, h6, h7⟩⟩
section
variable {H : Type} {enc : TypeId × Value → H} {W : World}
theorem opn_blks2 {fuel : Nat} {v : Value} {x : DataW H × List MemPlace} (h : DataW.trod enc Tryd.prog W 0 (fun _ => true) true fuel 23 [v] = some x) (hz : Sz 23 x.1) : ∃ l : List (List Ins), BlksR W l v ∧ (∀ b ∈ l, Few b.length ∧ ∀ y ∈ b, GxI y) ∧ Few l.length := by
  rcases Deep.open_slice1 Tryd.underlying23 oc36 h with ⟨e, _⟩ | ⟨a, len, cap, m, n, V, D, Pl, e, _, hl, hm, hmm, rfl, hx⟩
  · simp only [List.cons.injEq, and_true] at e
    exact ⟨[], ⟨none, 0, e, Nat.le_refl _, Nat.zero_le _, .inl rfl⟩, fun _ h => (by cases h), by unfold Few; simp⟩
  · simp only [List.cons.injEq, and_true] at e
    rw [if_pos rfl] at hmm
    subst hmm
    have hsl := Sz.len Tryd.underlying23 hz
    rw [ob36] at hsl
    simp only [List.length_map, List.length_range] at hsl
    have each : ∀ i, i < len → ∃ q : List Ins, (W.cell? (a.add i) = some (V i) ∧ BlkR W q (V i)) ∧ Few q.length ∧ ∀ y ∈ q, GxI y := by
      intro i hi
      obtain ⟨h1, h2⟩ := hx i (by omega)
      obtain ⟨q, k1, k2, k3⟩ := opn_blk h2 (Sz.elem Tryd.underlying23 hz (List.mem_map.2 ⟨i, by simpa using hi, rfl⟩))
      exact ⟨q, ⟨h1, k1⟩, k3, k2⟩
    obtain ⟨q, hq⟩ := Deep.choose_lt each
    refine ⟨(List.range len).map q, ⟨some a, m, by rw [e]; simp, by simpa using hl, hm, ?_⟩, fun y hy => ?_, by simpa using few_of (b := 24) (by omega) hsl⟩
    · by_cases h0 : len = 0
      · exact .inl (by rw [h0]; rfl)
      · obtain ⟨b, o, rfl, hb⟩ := spot_none (hq 0 (by omega)).1.1
        refine .inr ⟨b, o, rfl, hb, fun i y hi => ?_⟩
        have hi' : i < len := by
          have := (List.getElem?_eq_some_iff.1 hi).1
          simpa using this
        have hy : q i = y := by
          rw [List.getElem?_map, List.getElem?_range hi'] at hi
          exact Option.some.inj hi
        subst hy
        obtain ⟨k1, k2⟩ := (hq i hi').1
        rw [add_plain] at k1
        exact ⟨V i, k1, k2⟩
    · obtain ⟨i, hi, rfl⟩ := List.mem_map.1 hy
      exact (hq i (by simpa using hi)).2
/-- The cells of a function. -/
theorem opn_fun2 {fuel : Nat} {cs : List Value} {x : DataW H × List MemPlace} (h : DataW.trod enc Tryd.prog W 0 (fun _ => true) true fuel 25 cs = some x) (hz : Sz 25 x.1) :
    ∃ (y : Fun) (vp vb : Value), cs = funC y vp vb ∧ IntsV W y.2.1 vp ∧ BlksR W y.2.2.2.1 vb ∧ GyF y := by
  obtain ⟨xs, n, _, rfl, hl, hlen, hf⟩ := DataW.trod_struct Tryd.underlying25 h
  obtain ⟨v0, v1, v2, v3, v4, rfl⟩ := five_l (hl.trans oc34)
  obtain ⟨y0, g0⟩ := xs_at hlen (i := 0) (by decide)
  obtain ⟨y1, g1⟩ := xs_at hlen (i := 1) (by decide)
  obtain ⟨y2, g2⟩ := xs_at hlen (i := 2) (by decide)
  obtain ⟨y3, g3⟩ := xs_at hlen (i := 3) (by decide)
  obtain ⟨y4, g4⟩ := xs_at hlen (i := 4) (by decide)
  have f0 : DataW.trod enc Tryd.prog W 0 (fun _ => true) true n 9 ([v0, v1, v2, v3, v4].take (Tryd.prog.cellsOf 9)) = some y0 := (hf 0 _ rfl).trans g0
  have f1 : DataW.trod enc Tryd.prog W 0 (fun _ => true) true n 22 ([v1, v2, v3, v4].take (Tryd.prog.cellsOf 22)) = some y1 := (hf 1 _ rfl).trans g1
  have f2 : DataW.trod enc Tryd.prog W 0 (fun _ => true) true n 3 ([v2, v3, v4].take (Tryd.prog.cellsOf 3)) = some y2 := (hf 2 _ rfl).trans g2
  have f3 : DataW.trod enc Tryd.prog W 0 (fun _ => true) true n 23 ([v3, v4].take (Tryd.prog.cellsOf 23)) = some y3 := (hf 3 _ rfl).trans g3
  have f4 : DataW.trod enc Tryd.prog W 0 (fun _ => true) true n 3 ([v4].take (Tryd.prog.cellsOf 3)) = some y4 := (hf 4 _ rfl).trans g4
  rw [oc9] at f0
  rw [oc31] at f1
  rw [oc3] at f2 f4
  rw [oc32] at f3
  obtain ⟨nm, rfl, hnm⟩ := opn_str f0 (Sz.field Tryd.underlying25 hz (i := 0) rfl (by rw [List.getElem?_map, g0]; rfl))
  obtain ⟨ps, hp, _, hpl⟩ := opn_ints f1 (Sz.field Tryd.underlying25 hz (i := 1) rfl (by rw [List.getElem?_map, g1]; rfl))
  obtain ⟨rt, rfl, _⟩ := opn_int f2
  obtain ⟨bl, hb, hbg, hbl⟩ := opn_blks2 f3 (Sz.field Tryd.underlying25 hz (i := 3) rfl (by rw [List.getElem?_map, g3]; rfl))
  obtain ⟨pl, rfl, _⟩ := opn_int f4
  exact ⟨(nm, ps, rt, bl, pl), v1, v3, rfl, hp, hb, hnm, hpl, hbl, hbg⟩
set_option maxRecDepth 20000 in
/-- A function that came in. -/
theorem opn_func {r : Reach} {b0 : Nat} {v : Value} {d : DataW H} {ps : List MemPlace} (hv : Value.okWide Tryd.prog W r b0 25 v) (h : DataW.Trod enc Tryd.prog W 0 (fun _ => true) true 25 v d ps) (hz : Sz 25 d) :
    ∃ x : Fun, FunV W x v ∧ GyF x := by
  obtain ⟨cs, rfl, hsz⟩ := okWide_struct Tryd.underlying25 hv
  obtain ⟨fuel, hf⟩ := h
  obtain ⟨y, vp, vb, ec, k1, k2, k3⟩ := opn_fun2 hf hz
  refine ⟨y, ⟨vp, vb, ?_, k1, k2⟩, k3⟩
  have : cs = (funC y vp vb).toArray := by
    rw [← ec]; simp [Value.cells]
  rw [this]; rfl
end
end Go.Proofs.YtfmeadbiokcboaaDoor
namespace Go.Proofs.YtfmeadbiokcboaaDoor
open Go Go.RowKit
open G (Tok Er Ins Fun)
theorem prog_one {W w1 : World} {f : Fun} {vp vb : Value} {g : Nat} (h : FunV W f (.agg #[.string (bs f.1), vp, .int .i64 f.2.2.1, vb, .int .i64 f.2.2.2.2])) (b : Below W.heap.size W w1) (hb : L5.Box w1 g [.string (bs f.1), vp, .int .i64 f.2.2.1, vb, .int .i64 f.2.2.2.2]) : ProgR w1 [f] (.slice (some ⟨g, 0, none⟩) 1 1) := by
  obtain ⟨vp', vb', e, h1, h2⟩ := h.below b
  injection e with e
  have e1 := congrArg (fun a => a[1]?) e
  have e3 := congrArg (fun a => a[3]?) e
  simp at e1 e3
  subst e1 e3
  refine ⟨some ⟨g, 0, none⟩, 1, rfl, Nat.le_refl _, by unfold maxLen; omega, .inr ⟨g, 0, rfl, fun i x hi => ?_⟩⟩
  match i, hi with
  | 0, hi =>
    simp at hi
    subst hi
    exact ⟨hb.1, _, _, fun j t hj => by rw [Nat.zero_mul, Nat.zero_add]; exact hb.2 j t hj, h1, h2⟩
set_option maxHeartbeats 2000000 in
set_option maxRecDepth 20000 in
theorem lawShapes (f : Fun) (v : Value) (w : World) (hv : FunV w f v) (hg : GyF f) (ht : Tab w) :
    Calls Tryd.prog 3 #[v] w fun e w' => e = .returned (.bool true) ∧ Below w.heap.size w w' := by
  have hv2 := hv
  obtain ⟨vp, vb, rfl, _, _⟩ := hv2
  have b0 := below_box w (.cells #[.string (bs f.1), vp, .int .i64 f.2.2.1, vb, .int .i64 f.2.2.2.2] 25)
  have X0 := hide (L5.Box.new w [.string (bs f.1), vp, .int .i64 f.2.2.1, vb, .int .i64 f.2.2.2.2] 25)
  have HV := hide (hv.below b0)
  have HT := hide (ht.below b0)
  have B0 := hide b0
  have HG := hide hg
  have HWk := hide works_any
  clear b0 hv hg ht
  obtain ⟨lp, cp, rfl⟩ : ∃ ao c, vp = .slice ao f.2.1.length c := by
    obtain ⟨vp', vb', e, ⟨ao, c, e2, _⟩, _⟩ := HV.out
    injection e with e
    have e1 := congrArg (fun a => a[1]?) e
    simp at e1
    exact ⟨ao, c, by rw [e1, e2]⟩
  obtain ⟨lb, cb, rfl⟩ : ∃ ao c, vb = .slice ao f.2.2.2.1.length c := by
    obtain ⟨vp', vb', e, _, ⟨ao, c, e2, _⟩⟩ := HV.out
    injection e with e
    have e1 := congrArg (fun a => a[3]?) e
    simp at e1
    exact ⟨ao, c, by rw [e1, e2]⟩
  have HSh := hide (fun w1 (b : Below (w.alloc (.cells #[.string (bs f.1), .slice lp f.2.1.length cp, .int .i64 f.2.2.1, .slice lb f.2.2.2.1.length cb, .int .i64 f.2.2.2.2] 25)).heap.size _ w1) => shaped_any f _ w1 (HV.out.below b) (HT.out.below b))
  have HRs := hide (fun w1 (b : Below (w.alloc (.cells #[.string (bs f.1), .slice lp f.2.1.length cp, .int .i64 f.2.2.1, .slice lb f.2.2.2.1.length cb, .int .i64 f.2.2.2.2] 25)).heap.size _ w1) => rshaped_any f _ w1 (HV.out.below b))
  have HSz := hide (fun w1 g (b : Below (w.alloc (.cells #[.string (bs f.1), .slice lp f.2.1.length cp, .int .i64 f.2.2.1, .slice lb f.2.2.2.1.length cb, .int .i64 f.2.2.2.2] 25)).heap.size _ w1) (hb : L5.Box w1 g [.string (bs f.1), .slice lp f.2.1.length cp, .int .i64 f.2.2.1, .slice lb f.2.2.2.1.length cb, .int .i64 f.2.2.2.2]) =>
    size3_try [f] (some ⟨g, 0, none⟩) 1 w1 (prog_one HV.out b hb) (by simp) (fun x hx => by simp at hx; subst hx; exact HG.out.sh))
  generalize bs f.1 = nm at *
  generalize f.2.1.length = lps at *
  generalize f.2.2.1 = rt at *
  generalize f.2.2.2.1.length = lbs at *
  generalize f.2.2.2.2 = pl at *
  generalize (shapedF f).1 = z1 at *
  generalize (shapedF f).2 = z2 at *
  generalize total [f] = tot at *
  go_enter Tryd.func3, Tryd.ntmps3
  go_upto_region 1 with fail
  show Code.wp _ _ _ _ (w.alloc (.cells #[.string nm, .slice lp lps cp, .int .i64 rt, .slice lb lbs cb, .int .i64 pl] 25))
  replace X0 : Hid (L5.Box (w.alloc (.cells #[.string nm, .slice lp lps cp, .int .i64 rt, .slice lb lbs cb, .int .i64 pl] 25)) w.heap.size [.string nm, .slice lp lps cp, .int .i64 rt, .slice lb lbs cb, .int .i64 pl]) := X0
  generalize w.alloc (.cells #[.string nm, .slice lp lps cp, .int .i64 rt, .slice lb lbs cb, .int .i64 pl] 25) = W at *
  obtain ⟨x0, x1, x2, x3, x4⟩ : _ ∧ _ ∧ _ ∧ _ ∧ _ := ⟨X0.out.2 0 _ rfl, X0.out.2 1 _ rfl, X0.out.2 2 _ rfl, X0.out.2 3 _ rfl, X0.out.2 4 _ rfl⟩
  have b1 := below_box W (.cells #[.string nm, .slice lp lps cp, .int .i64 rt, .slice lb lbs cb, .int .i64 pl] 25)
  have HS1 := hide (HSz.out _ W.heap.size b1 (L5.Box.new W [.string nm, .slice lp lps cp, .int .i64 rt, .slice lb lbs cb, .int .i64 pl] 25))
  have BB1 := hide b1
  clear b1 HSz
  go_wp2_with fail
  refine HS1.out.mono ?_; rintro e w2 ⟨⟨n, rfl, _⟩, b2⟩
  have B2 := hide (below_step BB1.out b2)
  have HBB := hide (below_step B0.out B2.out)
  clear x0 x1 x2 x3 x4 b2 HS1 BB1
  by_cases hn : n ≤ 300
  · have hn' : ¬ (300 : Int) < n := by omega
    go_wp2_with fail
    have hw2 : w.heap.size < w2.heap.size := (X0.out.below B2.out).1
    have X2 := hide (X0.out.below B2.out)
    obtain ⟨f0, f1, f2, f3, f4⟩ : _ ∧ _ ∧ _ ∧ _ ∧ _ := ⟨fun x => (L5.grew_box X2.out x).2 0 _ rfl, fun x => (L5.grew_box X2.out x).2 1 _ rfl, fun x => (L5.grew_box X2.out x).2 2 _ rfl, fun x => (L5.grew_box X2.out x).2 3 _ rfl, fun x => (L5.grew_box X2.out x).2 4 _ rfl⟩
    have K1 := hide (fun x => HSh.out _ (below_step B2.out (L5.grewTo_below w2 x)))
    have K2 := hide (fun x => HRs.out _ (below_step B2.out (L5.grewTo_below w2 x)))
    have K3 := hide (fun x => HWk.out _ (HT.out.below (below_step B2.out (L5.grewTo_below w2 x))))
    have hq := eq_err z1 z2
    refine L5.region_grew (by kernel_rfl) (by kernel_rfl) ?_
    repeat (go_big_quiet_step ((first | (go_at_call 9; exact L5.calls_grew (K1.out _)) | (go_at_call 10; exact L5.calls_grew (K2.out _)) | (go_at_call 8; exact L5.calls_grew (K3.out _)))))
    refine wpQuiet_nil ?_
    rintro _ ⟨x, rfl⟩
    have HE := hide (below_step HBB.out (L5.grewTo_below w2 x))
    clear f0 f1 f2 f3 f4
    go_wp2_with fail
    go_ret
    exact ⟨rfl, HE.out⟩
  · have hn' : (300 : Int) < n := by omega
    have HW2 := hide (HWk.out w2 (HT.out.below B2.out))
    go_wp2_with fail
    refine HW2.out.mono ?_; rintro e w3 ⟨rfl, b3⟩
    have HE := hide (below_step HBB.out b3)
    clear b3
    go_wp2_with fail
    go_ret
    exact ⟨rfl, HE.out⟩
end Go.Proofs.YtfmeadbiokcboaaDoor
namespace Go.Proofs.YtfmeadbiokcboaaDoor
open Go.ChangeShapes Go.WideShapes Go.ChangeAt Go.RowKit
open L5 (word tk0 tk1 mk ds num beside letters)
theorem own : ownKnob Tryd.prog.godebug = none := by kernel_rfl
theorem laidOut : laidOutB Tryd.prog = true := by kernel_rfl
def laid1 : List (String × DataW Unit) := [("turntable/ops.rows", Rows.laid_turntable_ops_rows)]
theorem rowsNamed : Tryd.prog.globalNamed "turntable/ops.rows" = some 0 := by kernel_rfl
theorem rowsType : (Tryd.prog.globals[0]?).map (·.type) = some 90 := by kernel_rfl
theorem cq3 : Tryd.prog.cellsOf 3 = 1 := by kernel_rfl
theorem cq9 : Tryd.prog.cellsOf 9 = 1 := by kernel_rfl
theorem cq44 : Tryd.prog.cellsOf 44 = 2 := by kernel_rfl
theorem cq85 : Tryd.prog.cellsOf 85 = 5 := by kernel_rfl
/-- A row as the laid datum has it. -/
def rowD {H : Type} (k : Nat) : DataW H := .agg [.lit (.string (letters k)), .agg [.lit (.int .i64 (tk0 k)), .lit (.int .i64 (tk1 k))], .lit (.int .i64 (mk k)), .lit (.int .i64 (ds k))]
theorem laid_rows {H : Type} : (Rows.laid_turntable_ops_rows : DataW H) = .agg ((List.range 30).map rowD) := by rfl
section
variable {H : Type} {enc : TypeId × Value → H} {W : World} {base : Nat} {sp : Nat → Bool} {held : Bool}
theorem five {cs : List Value} (h : cs.length = 5) : ∃ a b c d e, cs = [a, b, c, d, e] := by
  match cs, h with
  | [a, b, c, d, e], _ => exact ⟨a, b, c, d, e, rfl⟩
theorem str_of {s : ByteArray} {bs : List UInt8} (h : s.data.toList = bs) : s = ⟨bs.toArray⟩ := by
  subst h; rfl
theorem row_cells {fuel k : Nat} {cs : List Value} {p : List MemPlace} (h : DataW.trod enc Tryd.prog W base sp held fuel 85 cs = some (rowD k, p)) :
    cs = [.string (word k), .int .i64 (tk0 k), .int .i64 (tk1 k), .int .i64 (mk k), .int .i64 (ds k)] := by
  obtain ⟨xs, n, _, hx, hl, hlen, hf⟩ := DataW.trod_struct Tryd.underlying85 h
  obtain ⟨v0, v1, v2, v3, v4, rfl⟩ := five (hl.trans cq85)
  match xs, hlen with
  | [y0, y1, y2, y3], _ =>
    have h0 : DataW.trod enc Tryd.prog W base sp held n 9 ([v0, v1, v2, v3, v4].take (Tryd.prog.cellsOf 9)) = some y0 := hf 0 _ rfl
    have h1 : DataW.trod enc Tryd.prog W base sp held n 44 ([v1, v2, v3, v4].take (Tryd.prog.cellsOf 44)) = some y1 := hf 1 _ rfl
    have h2 : DataW.trod enc Tryd.prog W base sp held n 3 ([v3, v4].take (Tryd.prog.cellsOf 3)) = some y2 := hf 2 _ rfl
    have h3 : DataW.trod enc Tryd.prog W base sp held n 3 ([v4].take (Tryd.prog.cellsOf 3)) = some y3 := hf 3 _ rfl
    rw [cq9] at h0
    rw [cq44] at h1
    rw [cq3] at h2 h3
    obtain ⟨s, e0, rfl, _⟩ := DataW.trod_string Tryd.underlying9 h0
    obtain ⟨x2, e2, rfl, _⟩ := DataW.trod_int Tryd.underlying3 h2
    obtain ⟨x3, e3, rfl, _⟩ := DataW.trod_int Tryd.underlying3 h3
    obtain ⟨zs, m, _, hz, _, hzl, each⟩ := DataW.trod_array Tryd.underlying44 h1
    match zs, hzl with
    | [z0, z1], _ =>
      have g0 := each 0 (by decide)
      have g1 := each 1 (by decide)
      simp only [cq3] at g0 g1
      simp at g0 g1
      obtain ⟨u0, f0, rfl, _⟩ := DataW.trod_int Tryd.underlying3 g0
      obtain ⟨u1, f1, rfl, _⟩ := DataW.trod_int Tryd.underlying3 g1
      subst hz
      simp [rowD] at hx e0 e2 e3 f0 f1
      obtain ⟨⟨q0, ⟨q1, q2⟩, q3, q4⟩, _⟩ := hx
      subst e0 e2 e3 f0 f1 q1 q2 q3 q4
      rw [str_of q0.symm]
      rfl
end
theorem tab_of_laid {W : World} (h : laidMetH Tryd.prog laid1 W) : Tab W := by
  rw [MakeChecks.laidMetH_plain _ _ _ (by kernel_rfl)] at h
  obtain ⟨ps, ⟨g, t, cs, fuel, p, q, hg, ht, hvar, hd, _, _⟩, _⟩ := h
  obtain rfl := Option.some.inj (rowsNamed.symm.trans hg)
  obtain rfl := Option.some.inj (rowsType.symm.trans ht)
  rw [laid_rows] at hd
  obtain ⟨xs, n, _, hx, hl, hlen, each⟩ := DataW.trod_array Tryd.underlying90 hd
  have hxs : xs.map (·.1) = (List.range 30).map rowD := by
    have := congrArg Prod.fst hx
    simpa using this.symm
  have key : ∀ k, k < 30 → (cs.toList.drop (k * 5)).take 5 = [.string (word k), .int .i64 (tk0 k), .int .i64 (tk1 k), .int .i64 (mk k), .int .i64 (ds k)] := by
    intro k hk
    have h1 := each k hk
    rw [cq85] at h1
    obtain ⟨y, hy⟩ : ∃ y, xs[k]? = some y := ⟨_, List.getElem?_eq_getElem (by omega)⟩
    have h2 := congrArg (·[k]?) hxs
    simp [hy, hk] at h2
    rw [hy] at h1
    obtain ⟨d, pl⟩ := y
    simp at h2
    subst h2
    exact row_cells h1
  have cell : ∀ k j v, k < 30 → j < 5 → ((cs.toList.drop (k * 5)).take 5)[j]? = some v → W.cell? ⟨0, k * 5 + j, none⟩ = some v := by
    intro k j v hk hj hv
    have := World.var?_cell hg hvar (k * 5 + j)
    rw [this]
    simpa [List.getElem?_take, List.getElem?_drop, hj] using hv
  refine ⟨World.block_lt_of_cell? W _ (cell 0 0 (.string (word 0)) (by omega) (by omega) (by rw [key 0 (by omega)]; rfl)), fun k hk => ?_⟩
  exact ⟨cell k 0 _ hk (by omega) (by rw [key k hk]; rfl), cell k 1 _ hk (by omega) (by rw [key k hk]; rfl), cell k 2 _ hk (by omega) (by rw [key k hk]; rfl), cell k 3 _ hk (by omega) (by rw [key k hk]; rfl), cell k 4 _ hk (by omega) (by rw [key k hk]; rfl)⟩
theorem door_met (os : Os) (args : Array Value) : laidMetH Tryd.prog laid1 ((World.doorLaid Tryd.prog 400 os).forCall (fun _ _ => 0) ⟨#[], args, []⟩).memory :=
  laidMetH_of_parts3 (fuel := 8) (laidMet_of_run' 8 (by kernel_rfl) (by kernel_rfl)) (by kernel_rfl) (by kernel_rfl)
end Go.Proofs.YtfmeadbiokcboaaDoor
