/- A program, and an instruction, that came in: which functions, blocks and instructions they hold. -/
import Derived.Test.YtahhbckccdigoaaGreatDoorMbAQ
import Derived.Test.YtahhbckccdigoaaGreatDoorMbAX
import Derived.Test.YtahhbckccdigoaaGreatDoorMbBH
import Derived.Test.YtahhbckccdigoaaGreatDoorMbBI
import Derived.Test.YtahhbckccdigoaaGreatDoorMbBJ
import Derived.Test.YtahhbckccdigoaaGreatDoorMbBM
import Derived.Deep.Slices
import Derived.SizedLaws
import Derived.KernelRfl
import Derived.Test.YtahhbckccdigoaaGreatDoorRows
import Derived.ProofKit
import Derived.LaidMore
import Derived.OpenShut
import Derived.Stop.Joined
import Derived.ShutString
import Derived.ChangeOld
import Derived.Below
import Derived.Lib.LaidTab
import Derived.Lib.SmallJoins
import Derived.WideKeyPair
set_option maxHeartbeats 8000000
set_option maxRecDepth 20000
namespace Go.Proofs.YtahhbckccdigoaaGreatDoor
open Go Go.RowKit Go.ChangeShapes Go.WideShapes
open G (Tok Er Ins Fun)
theorem oc2 : Tryz.prog.cellsOf 2 = 1 := by kernel_rfl
theorem oc3 : Tryz.prog.cellsOf 3 = 1 := by kernel_rfl
theorem oc9 : Tryz.prog.cellsOf 9 = 1 := by kernel_rfl
theorem oc22 : Tryz.prog.cellsOf 22 = 1 := by kernel_rfl
theorem oc24 : Tryz.prog.cellsOf 24 = 1 := by kernel_rfl
theorem oc31 : Tryz.prog.cellsOf 31 = 1 := by kernel_rfl
theorem oc32 : Tryz.prog.cellsOf 32 = 1 := by kernel_rfl
theorem oc34 : Tryz.prog.cellsOf 34 = 5 := by kernel_rfl
theorem oc36 : Tryz.prog.cellsOf 36 = 1 := by kernel_rfl
theorem oc39 : Tryz.prog.cellsOf 39 = 8 := by kernel_rfl
theorem ob3 : Tryz.prog.bytesOf 3 = 8 := by kernel_rfl
theorem ob34 : Tryz.prog.bytesOf 34 = 80 := by kernel_rfl
theorem ob36 : Tryz.prog.bytesOf 36 = 24 := by kernel_rfl
theorem ob39 : Tryz.prog.bytesOf 39 = 104 := by kernel_rfl
def Sz {H : Type} (t : TypeId) (d : DataW H) : Prop := ∀ n ∈ d.weights Tryz.prog t, n <= reachBytes
section
variable {H : Type}
theorem Sz.field {t : TypeId} {fs : Array Field} {parts : List (DataW H)} (hu : Tryz.prog.underlying t = some (.struct fs)) (h : Sz t (.agg parts)) {i : Nat} {ti : TypeId} {di : DataW H} (ht : (fs.toList.map (·.type))[i]? = some ti) (hd : parts[i]? = some di) : Sz ti di := by
  intro n hn
  refine h n ?_
  simp only [DataW.weights, hu]
  exact DataW.weights_mem_each ht hd n hn
theorem weightsAll_mem {e : TypeId} {d : DataW H} : ∀ {l : List (DataW H)}, d ∈ l -> ∀ n ∈ d.weights Tryz.prog e, n ∈ DataW.weightsAll Tryz.prog e l
  | x :: l, hd, n, hn => by
    simp only [DataW.weightsAll, List.mem_append]
    rcases List.mem_cons.1 hd with rfl | hd
    . exact .inl hn
    . exact .inr (weightsAll_mem hd n hn)
theorem Sz.elem {t e : TypeId} {elems spare : List (DataW H)} (hu : Tryz.prog.underlying t = some (.slice e)) (h : Sz t (.slice elems spare)) {d : DataW H} (hd : d ∈ elems) : Sz e d := by
  intro n hn
  refine h n ?_
  simp only [DataW.weights, hu, List.mem_cons, List.mem_append]
  exact .inr (.inl (weightsAll_mem hd n hn))
theorem Sz.len {t e : TypeId} {elems spare : List (DataW H)} (hu : Tryz.prog.underlying t = some (.slice e)) (h : Sz t (.slice elems spare)) : (elems.length + spare.length) * Tryz.prog.bytesOf e <= reachBytes :=
  h _ (by simp [DataW.weights, hu])
end
def Few (n : Nat) : Prop := n <= 140737488355328
theorem few_of {n b m : Nat} (hb : 1 <= b) (h : (n + m) * b <= reachBytes) : Few n := by
  have h1 : (n + m) * 1 <= (n + m) * b := Nat.mul_le_mul_left _ hb
  have h2 : reachBytes = 140737488351232 := rfl
  unfold Few; omega
def GxI (x : Ins) : Prop := I64 x.2.1 /\ I64 x.2.2.1 /\ (∀ i ∈ x.2.2.2.2.1, I64 i) /\ (∀ i ∈ x.2.2.2.2.2.1, I64 i) /\ Few x.2.2.2.2.1.length /\ Few x.2.2.2.2.2.1.length /\ Few x.2.2.2.2.2.2.1.length
def GxF (f : Fun) : Prop := Few f.1.length /\ Few f.2.1.length /\ Few f.2.2.2.1.length /\ ∀ b ∈ f.2.2.2.1, ∀ x ∈ b, GxI x
section
variable {H : Type} {enc : TypeId × Value -> H} {W : World}
theorem i64_wf {n : Int} (h : (Lit.int .i64 n).wf = true) : I64 n := by
  simp [Lit.wf, IntKind.min, IntKind.max, IntKind.bits, IntKind.signed] at h
  unfold I64; omega
theorem opn_int {fuel : Nat} {v : Value} {x : DataW H × List MemPlace} (h : DataW.trod enc Tryz.prog W 0 (fun _ => true) true fuel 3 [v] = some x) : ∃ n, v = .int .i64 n /\ I64 n := by
  obtain ⟨n, e, _, hw⟩ := DataW.trod_int Tryz.underlying3 h
  simp only [List.cons.injEq, and_true] at e
  exact ⟨n, e, i64_wf hw⟩
theorem opn_int2 {fuel : Nat} {v : Value} {x : DataW H × List MemPlace} (h : DataW.trod enc Tryz.prog W 0 (fun _ => true) true fuel 2 [v] = some x) : ∃ n, v = .int .i64 n /\ I64 n := by
  obtain ⟨n, e, _, hw⟩ := DataW.trod_int Tryz.underlying2 h
  simp only [List.cons.injEq, and_true] at e
  exact ⟨n, e, i64_wf hw⟩
theorem opn_str {fuel : Nat} {v : Value} {x : DataW H × List MemPlace} (h : DataW.trod enc Tryz.prog W 0 (fun _ => true) true fuel 9 [v] = some x) (hz : Sz 9 x.1) : ∃ s : List UInt8, v = .string (bs s) /\ Few s.length := by
  obtain ⟨s, e, rfl, _⟩ := DataW.trod_string Tryz.underlying9 h
  simp only [List.cons.injEq, and_true] at e
  refine ⟨s.data.toList, by rw [e, bs_of], ?_⟩
  have h1 := hz s.data.toList.length (by simp [DataW.weights])
  have h2 : reachBytes = 140737488351232 := rfl
  unfold Few; omega
theorem spot_none {W : World} {a : Addr} {v : Value} (h : W.cell? (a.add 0) = some v) : ∃ b o, a = ⟨b, o, none⟩ /\ b < W.heap.size := by
  obtain ⟨b, o, s⟩ := a
  have hs : s = none := by simpa [Addr.add] using World.cell?_spot h
  subst hs
  have hb := World.block_lt_of_cell? W _ h
  exact ⟨b, o, rfl, by simpa [Addr.add] using hb⟩
theorem opn_ints {fuel : Nat} {v : Value} {x : DataW H × List MemPlace} (h : DataW.trod enc Tryz.prog W 0 (fun _ => true) true fuel 31 [v] = some x) (hz : Sz 31 x.1) : ∃ l : List Int, IntsV W l v /\ (∀ n ∈ l, I64 n) /\ Few l.length := by
  rcases open_ints Tryz.underlying31 Tryz.underlying3 oc3 h with ⟨e, _⟩ | ⟨a, len, cap, zs, e, _, hl, hm, hzl, rfl, hc, hw⟩
  . simp only [List.cons.injEq, and_true] at e
    exact ⟨[], ⟨none, 0, e, .inl rfl, Nat.le_refl _, Nat.zero_le _⟩, fun _ h => (by cases h), by unfold Few; simp⟩
  . simp only [List.cons.injEq, and_true] at e
    rw [if_pos rfl] at hzl
    have hlen : (zs.take len).length = len := by simp; omega
    have hsl := Sz.len Tryz.underlying31 hz
    refine ⟨zs.take len, ⟨some a, cap, by rw [hlen]; exact e, ?_, by omega, hm⟩, fun n hn => i64_wf (hw n (List.mem_of_mem_take hn)), ?_⟩
    . by_cases h0 : len = 0
      . exact .inl (by rw [h0]; rfl)
      . obtain ⟨b, o, rfl, hb⟩ := spot_none (hc 0 (by omega))
        refine .inr ⟨b, o, rfl, hb, fun i n hi => ?_⟩
        obtain ⟨h1, h2⟩ := List.getElem?_eq_some_iff.1 hi
        have := hc i (by omega)
        rw [add_plain] at this
        rw [this, List.getD_eq_getElem?_getD, List.getElem?_eq_getElem (by omega)]
        rw [List.getElem_take] at h2
        rw [<- h2]; rfl
    . rw [ob3] at hsl
      simp only [lits, List.length_map] at hsl
      exact few_of (b := 8) (by omega) hsl
theorem xs_at {xs : List (DataW H × List MemPlace)} {n i : Nat} (h : xs.length = n) (hi : i < n) : ∃ y, xs[i]? = some y := ⟨xs[i]'(by omega), List.getElem?_eq_getElem (by omega)⟩
theorem eight_l {cs : List Value} (h : cs.length = 8) : ∃ a b c d e f g i, cs = [a, b, c, d, e, f, g, i] := by
  match cs, h with
  | [a, b, c, d, e, f, g, i], _ => exact ⟨a, b, c, d, e, f, g, i, rfl⟩
theorem five_l {cs : List Value} (h : cs.length = 5) : ∃ a b c d e, cs = [a, b, c, d, e] := by
  match cs, h with
  | [a, b, c, d, e], _ => exact ⟨a, b, c, d, e, rfl⟩
theorem opn_ins {fuel : Nat} {cs : List Value} {x : DataW H × List MemPlace} (h : DataW.trod enc Tryz.prog W 0 (fun _ => true) true fuel 39 cs = some x) (hz : Sz 39 x.1) :
    ∃ (y : Ins) (va vt : Value), cs = insC y va vt /\ IntsV W y.2.2.2.2.1 va /\ IntsV W y.2.2.2.2.2.1 vt /\ GxI y := by
  obtain ⟨xs, n, _, rfl, hl, hlen, hf⟩ := DataW.trod_struct Tryz.underlying39 h
  obtain ⟨v0, v1, v2, v3, v4, v5, v6, v7, rfl⟩ := eight_l (hl.trans oc39)
  have fld : ∀ (i : Nat) (ti : TypeId) (y : DataW H × List MemPlace), ((#[_, _, _, _, _, _, _, _] : Array Field).toList.map (·.type))[i]? = some ti -> xs[i]? = some y -> Sz ti y.1 := fun i ti y ht hy => Sz.field Tryz.underlying39 hz ht (by rw [List.getElem?_map, hy]; rfl)
  obtain ⟨y0, g0⟩ := xs_at hlen (i := 0) (by decide)
  obtain ⟨y1, g1⟩ := xs_at hlen (i := 1) (by decide)
  obtain ⟨y2, g2⟩ := xs_at hlen (i := 2) (by decide)
  obtain ⟨y3, g3⟩ := xs_at hlen (i := 3) (by decide)
  obtain ⟨y4, g4⟩ := xs_at hlen (i := 4) (by decide)
  obtain ⟨y5, g5⟩ := xs_at hlen (i := 5) (by decide)
  obtain ⟨y6, g6⟩ := xs_at hlen (i := 6) (by decide)
  obtain ⟨y7, g7⟩ := xs_at hlen (i := 7) (by decide)
  have f0 : DataW.trod enc Tryz.prog W 0 (fun _ => true) true n 3 ([v0, v1, v2, v3, v4, v5, v6, v7].take (Tryz.prog.cellsOf 3)) = some y0 := (hf 0 _ rfl).trans g0
  have f1 : DataW.trod enc Tryz.prog W 0 (fun _ => true) true n 3 ([v1, v2, v3, v4, v5, v6, v7].take (Tryz.prog.cellsOf 3)) = some y1 := (hf 1 _ rfl).trans g1
  have f2 : DataW.trod enc Tryz.prog W 0 (fun _ => true) true n 2 ([v2, v3, v4, v5, v6, v7].take (Tryz.prog.cellsOf 2)) = some y2 := (hf 2 _ rfl).trans g2
  have f3 : DataW.trod enc Tryz.prog W 0 (fun _ => true) true n 3 ([v3, v4, v5, v6, v7].take (Tryz.prog.cellsOf 3)) = some y3 := (hf 3 _ rfl).trans g3
  have f4 : DataW.trod enc Tryz.prog W 0 (fun _ => true) true n 31 ([v4, v5, v6, v7].take (Tryz.prog.cellsOf 31)) = some y4 := (hf 4 _ rfl).trans g4
  have f5 : DataW.trod enc Tryz.prog W 0 (fun _ => true) true n 31 ([v5, v6, v7].take (Tryz.prog.cellsOf 31)) = some y5 := (hf 5 _ rfl).trans g5
  have f6 : DataW.trod enc Tryz.prog W 0 (fun _ => true) true n 9 ([v6, v7].take (Tryz.prog.cellsOf 9)) = some y6 := (hf 6 _ rfl).trans g6
  have f7 : DataW.trod enc Tryz.prog W 0 (fun _ => true) true n 3 ([v7].take (Tryz.prog.cellsOf 3)) = some y7 := (hf 7 _ rfl).trans g7
  rw [oc3] at f0 f1 f3 f7
  rw [oc2] at f2
  rw [oc31] at f4 f5
  rw [oc9] at f6
  obtain ⟨k, rfl, _⟩ := opn_int f0
  obtain ⟨id, rfl, hid⟩ := opn_int f1
  obtain ⟨nn, rfl, hn⟩ := opn_int2 f2
  obtain ⟨ty, rfl, _⟩ := opn_int f3
  obtain ⟨ar, ha, hai, hal⟩ := opn_ints f4 (Sz.field Tryz.underlying39 hz (i := 4) rfl (by rw [List.getElem?_map, g4]; rfl))
  obtain ⟨tt, ht, hti, htl⟩ := opn_ints f5 (Sz.field Tryz.underlying39 hz (i := 5) rfl (by rw [List.getElem?_map, g5]; rfl))
  obtain ⟨nm, rfl, hnm⟩ := opn_str f6 (Sz.field Tryz.underlying39 hz (i := 6) rfl (by rw [List.getElem?_map, g6]; rfl))
  obtain ⟨pl, rfl, _⟩ := opn_int f7
  exact ⟨(k, id, nn, ty, ar, tt, nm, pl), v4, v5, rfl, ha, ht, hid, hn, hai, hti, hal, htl, hnm⟩
theorem add2 (b o i j : Nat) : ((⟨b, o, none⟩ : Addr).add i).add j = ⟨b, o + i + j, none⟩ := by rw [Deep.add_add, add_plain, Nat.add_assoc]
theorem opn_blk {fuel : Nat} {v : Value} {x : DataW H × List MemPlace} (h : DataW.trod enc Tryz.prog W 0 (fun _ => true) true fuel 36 [v] = some x) (hz : Sz 36 x.1) : ∃ l : List Ins, BlkR W l v /\ (∀ y ∈ l, GxI y) /\ Few l.length := by
  rcases Deep.open_slice Tryz.underlying36 h with ⟨e, _⟩ | ⟨a, len, cap, m, n, D, Pl, e, _, hl, hm, hmm, rfl, hx⟩
  . simp only [List.cons.injEq, and_true] at e
    exact ⟨[], ⟨none, 0, e, Nat.le_refl _, Nat.zero_le _, .inl rfl⟩, fun _ h => (by cases h), by unfold Few; simp⟩
  . simp only [List.cons.injEq, and_true] at e
    rw [if_pos rfl] at hmm
    subst hmm
    have hsl := Sz.len Tryz.underlying36 hz
    rw [ob39] at hsl
    simp only [List.length_map, List.length_range] at hsl
    have each : ∀ i, i < len -> ∃ q : Ins, (∃ va vt, (∃ cs, W.cells? 0 (a.add (i * 8)) 8 = some cs /\ cs = insC q va vt) /\ IntsV W q.2.2.2.2.1 va /\ IntsV W q.2.2.2.2.2.1 vt) /\ GxI q := by
      intro i hi
      obtain ⟨cs, h1, h2⟩ := hx i (by omega)
      rw [oc39] at h1
      obtain ⟨y, va, vt, ec, k1, k2, k3⟩ := opn_ins h2 (Sz.elem Tryz.underlying36 hz (List.mem_map.2 ⟨i, by simpa using hi, rfl⟩))
      exact ⟨y, ⟨va, vt, ⟨cs, h1, ec⟩, k1, k2⟩, k3⟩
    obtain ⟨q, hq⟩ := Deep.choose_lt each
    refine ⟨(List.range len).map q, ⟨some a, m, by rw [e]; simp, by simpa using hl, hm, ?_⟩, fun y hy => ?_, by simpa using few_of (b := 104) (by omega) hsl⟩
    . by_cases h0 : len = 0
      . exact .inl (by rw [h0]; rfl)
      . obtain ⟨⟨va, vt, ⟨cs, h1, h2⟩, _⟩, _⟩ := hq 0 (by omega)
        obtain ⟨_, hcl, hcc⟩ := World.cells?_some h1
        have hc0 := (hcc 0 (by omega)).trans (List.getElem?_eq_getElem (by omega))
        rw [Deep.add_add, Nat.zero_mul] at hc0
        obtain ⟨b, o, rfl, hb⟩ := spot_none hc0
        refine .inr ⟨b, o, rfl, fun i y hi => ?_⟩
        have hi' : i < len := by
          have := (List.getElem?_eq_some_iff.1 hi).1
          simpa using this
        have hy : q i = y := by
          rw [List.getElem?_map, List.getElem?_range hi'] at hi
          exact Option.some.inj hi
        subst hy
        obtain ⟨⟨va, vt, ⟨cs, h1, h2⟩, k1, k2⟩, _⟩ := hq i hi'
        obtain ⟨_, hcl, hcc⟩ := World.cells?_some h1
        refine ⟨hb, va, vt, fun j t hj => ?_, k1, k2⟩
        have hj8 : j < 8 := (List.getElem?_eq_some_iff.1 hj).1
        have := hcc j hj8
        rw [add2] at this
        rw [this, h2]
        exact hj
    . obtain ⟨i, hi, rfl⟩ := List.mem_map.1 hy
      exact (hq i (by simpa using hi)).2
theorem opn_blks {fuel : Nat} {v : Value} {x : DataW H × List MemPlace} (h : DataW.trod enc Tryz.prog W 0 (fun _ => true) true fuel 32 [v] = some x) (hz : Sz 32 x.1) : ∃ l : List (List Ins), BlksR W l v /\ (∀ b ∈ l, ∀ y ∈ b, GxI y) /\ Few l.length := by
  rcases Deep.open_slice1 Tryz.underlying32 oc36 h with ⟨e, _⟩ | ⟨a, len, cap, m, n, V, D, Pl, e, _, hl, hm, hmm, rfl, hx⟩
  . simp only [List.cons.injEq, and_true] at e
    exact ⟨[], ⟨none, 0, e, Nat.le_refl _, Nat.zero_le _, .inl rfl⟩, fun _ h => (by cases h), by unfold Few; simp⟩
  . simp only [List.cons.injEq, and_true] at e
    rw [if_pos rfl] at hmm
    subst hmm
    have hsl := Sz.len Tryz.underlying32 hz
    rw [ob36] at hsl
    simp only [List.length_map, List.length_range] at hsl
    have each : ∀ i, i < len -> ∃ q : List Ins, (W.cell? (a.add i) = some (V i) /\ BlkR W q (V i)) /\ ∀ y ∈ q, GxI y := by
      intro i hi
      obtain ⟨h1, h2⟩ := hx i (by omega)
      obtain ⟨q, k1, k2, _⟩ := opn_blk h2 (Sz.elem Tryz.underlying32 hz (List.mem_map.2 ⟨i, by simpa using hi, rfl⟩))
      exact ⟨q, ⟨h1, k1⟩, k2⟩
    obtain ⟨q, hq⟩ := Deep.choose_lt each
    refine ⟨(List.range len).map q, ⟨some a, m, by rw [e]; simp, by simpa using hl, hm, ?_⟩, fun y hy => ?_, by simpa using few_of (b := 24) (by omega) hsl⟩
    . by_cases h0 : len = 0
      . exact .inl (by rw [h0]; rfl)
      . obtain ⟨b, o, rfl, hb⟩ := spot_none (hq 0 (by omega)).1.1
        refine .inr ⟨b, o, rfl, hb, fun i y hi => ?_⟩
        have hi' : i < len := by
          have := (List.getElem?_eq_some_iff.1 hi).1
          simpa using this
        have hy : q i = y := by
          rw [List.getElem?_map, List.getElem?_range hi'] at hi
          exact Option.some.inj hi
        subst hy
        obtain ⟨k1, k2⟩ := (hq i hi').1
        rw [add_plain] at k1
        exact ⟨V i, k1, k2⟩
    . obtain ⟨i, hi, rfl⟩ := List.mem_map.1 hy
      exact (hq i (by simpa using hi)).2
theorem opn_fun {fuel : Nat} {cs : List Value} {x : DataW H × List MemPlace} (h : DataW.trod enc Tryz.prog W 0 (fun _ => true) true fuel 34 cs = some x) (hz : Sz 34 x.1) :
    ∃ (y : Fun) (vp vb : Value), cs = funC y vp vb /\ IntsV W y.2.1 vp /\ BlksR W y.2.2.2.1 vb /\ GxF y := by
  obtain ⟨xs, n, _, rfl, hl, hlen, hf⟩ := DataW.trod_struct Tryz.underlying34 h
  obtain ⟨v0, v1, v2, v3, v4, rfl⟩ := five_l (hl.trans oc34)
  obtain ⟨y0, g0⟩ := xs_at hlen (i := 0) (by decide)
  obtain ⟨y1, g1⟩ := xs_at hlen (i := 1) (by decide)
  obtain ⟨y2, g2⟩ := xs_at hlen (i := 2) (by decide)
  obtain ⟨y3, g3⟩ := xs_at hlen (i := 3) (by decide)
  obtain ⟨y4, g4⟩ := xs_at hlen (i := 4) (by decide)
  have f0 : DataW.trod enc Tryz.prog W 0 (fun _ => true) true n 9 ([v0, v1, v2, v3, v4].take (Tryz.prog.cellsOf 9)) = some y0 := (hf 0 _ rfl).trans g0
  have f1 : DataW.trod enc Tryz.prog W 0 (fun _ => true) true n 31 ([v1, v2, v3, v4].take (Tryz.prog.cellsOf 31)) = some y1 := (hf 1 _ rfl).trans g1
  have f2 : DataW.trod enc Tryz.prog W 0 (fun _ => true) true n 3 ([v2, v3, v4].take (Tryz.prog.cellsOf 3)) = some y2 := (hf 2 _ rfl).trans g2
  have f3 : DataW.trod enc Tryz.prog W 0 (fun _ => true) true n 32 ([v3, v4].take (Tryz.prog.cellsOf 32)) = some y3 := (hf 3 _ rfl).trans g3
  have f4 : DataW.trod enc Tryz.prog W 0 (fun _ => true) true n 3 ([v4].take (Tryz.prog.cellsOf 3)) = some y4 := (hf 4 _ rfl).trans g4
  rw [oc9] at f0
  rw [oc31] at f1
  rw [oc3] at f2 f4
  rw [oc32] at f3
  obtain ⟨nm, rfl, hnm⟩ := opn_str f0 (Sz.field Tryz.underlying34 hz (i := 0) rfl (by rw [List.getElem?_map, g0]; rfl))
  obtain ⟨ps, hp, _, hpl⟩ := opn_ints f1 (Sz.field Tryz.underlying34 hz (i := 1) rfl (by rw [List.getElem?_map, g1]; rfl))
  obtain ⟨rt, rfl, _⟩ := opn_int f2
  obtain ⟨bl, hb, hbg, hbl⟩ := opn_blks f3 (Sz.field Tryz.underlying34 hz (i := 3) rfl (by rw [List.getElem?_map, g3]; rfl))
  obtain ⟨pl, rfl, _⟩ := opn_int f4
  exact ⟨(nm, ps, rt, bl, pl), v1, v3, rfl, hp, hb, hnm, hpl, hbl, hbg⟩
theorem opn_funs {fuel : Nat} {v : Value} {x : DataW H × List MemPlace} (h : DataW.trod enc Tryz.prog W 0 (fun _ => true) true fuel 22 [v] = some x) (hz : Sz 22 x.1) : ∃ l : List Fun, ProgR W l v /\ (∀ y ∈ l, GxF y) /\ Few l.length := by
  rcases Deep.open_slice Tryz.underlying22 h with ⟨e, _⟩ | ⟨a, len, cap, m, n, D, Pl, e, _, hl, hm, hmm, rfl, hx⟩
  . simp only [List.cons.injEq, and_true] at e
    exact ⟨[], ⟨none, 0, e, Nat.le_refl _, Nat.zero_le _, .inl rfl⟩, fun _ h => (by cases h), by unfold Few; simp⟩
  . simp only [List.cons.injEq, and_true] at e
    rw [if_pos rfl] at hmm
    subst hmm
    have hsl := Sz.len Tryz.underlying22 hz
    rw [ob34] at hsl
    simp only [List.length_map, List.length_range] at hsl
    have each : ∀ i, i < len -> ∃ q : Fun, (∃ va vt, (∃ cs, W.cells? 0 (a.add (i * 5)) 5 = some cs /\ cs = funC q va vt) /\ IntsV W q.2.1 va /\ BlksR W q.2.2.2.1 vt) /\ GxF q := by
      intro i hi
      obtain ⟨cs, h1, h2⟩ := hx i (by omega)
      rw [oc34] at h1
      obtain ⟨y, va, vt, ec, k1, k2, k3⟩ := opn_fun h2 (Sz.elem Tryz.underlying22 hz (List.mem_map.2 ⟨i, by simpa using hi, rfl⟩))
      exact ⟨y, ⟨va, vt, ⟨cs, h1, ec⟩, k1, k2⟩, k3⟩
    obtain ⟨q, hq⟩ := Deep.choose_lt each
    refine ⟨(List.range len).map q, ⟨some a, m, by rw [e]; simp, by simpa using hl, hm, ?_⟩, fun y hy => ?_, by simpa using few_of (b := 80) (by omega) hsl⟩
    . by_cases h0 : len = 0
      . exact .inl (by rw [h0]; rfl)
      . obtain ⟨⟨va, vt, ⟨cs, h1, h2⟩, _⟩, _⟩ := hq 0 (by omega)
        obtain ⟨_, hcl, hcc⟩ := World.cells?_some h1
        have hc0 := (hcc 0 (by omega)).trans (List.getElem?_eq_getElem (by omega))
        rw [Deep.add_add, Nat.zero_mul] at hc0
        obtain ⟨b, o, rfl, hb⟩ := spot_none hc0
        refine .inr ⟨b, o, rfl, fun i y hi => ?_⟩
        have hi' : i < len := by
          have := (List.getElem?_eq_some_iff.1 hi).1
          simpa using this
        have hy : q i = y := by
          rw [List.getElem?_map, List.getElem?_range hi'] at hi
          exact Option.some.inj hi
        subst hy
        obtain ⟨⟨va, vt, ⟨cs, h1, h2⟩, k1, k2⟩, _⟩ := hq i hi'
        obtain ⟨_, hcl, hcc⟩ := World.cells?_some h1
        refine ⟨hb, va, vt, fun j t hj => ?_, k1, k2⟩
        have hj8 : j < 5 := (List.getElem?_eq_some_iff.1 hj).1
        have := hcc j hj8
        rw [add2] at this
        rw [this, h2]
        exact hj
    . obtain ⟨i, hi, rfl⟩ := List.mem_map.1 hy
      exact (hq i (by simpa using hi)).2
theorem opn_prog {r : Reach} {b0 : Nat} {v : Value} {d : DataW H} {ps : List MemPlace} (hv : Value.okWide Tryz.prog W r b0 24 v) (h : DataW.Trod enc Tryz.prog W 0 (fun _ => true) true 24 v d ps) (hz : Sz 24 d) :
    ∃ (l : List Fun) (po : Option Addr) (c : Nat), v = .agg #[.slice po l.length c] /\ ProgR W l (.slice po l.length c) /\ (∀ y ∈ l, GxF y) /\ Few l.length := by
  obtain ⟨cs, rfl, hsz⟩ := okWide_struct Tryz.underlying24 hv
  obtain ⟨fuel, hf⟩ := h
  obtain ⟨xs, n, _, hx, hl, hlen, each⟩ := DataW.trod_struct Tryz.underlying24 hf
  have e1 : cs.size = 1 := hsz.trans oc24
  obtain ⟨u, rfl⟩ : ∃ u, cs = #[u] := by
    obtain ⟨l⟩ := cs
    match l, e1 with
    | [u], _ => exact ⟨u, rfl⟩
  obtain ⟨y0, g0⟩ := xs_at hlen (i := 0) (by decide)
  have f0 : DataW.trod enc Tryz.prog W 0 (fun _ => true) true n 22 ([u].take (Tryz.prog.cellsOf 22)) = some y0 := (each 0 _ rfl).trans g0
  rw [oc22] at f0
  have hd : d = .agg (xs.map (·.1)) := congrArg Prod.fst hx
  rw [hd] at hz
  obtain ⟨l, k1, k2, k3⟩ := opn_funs f0 (Sz.field Tryz.underlying24 hz (i := 0) rfl (by rw [List.getElem?_map, g0]; rfl))
  have k1' := k1
  obtain ⟨po, c, rfl, _⟩ := k1
  exact ⟨l, po, c, rfl, k1', k2, k3⟩
end
end Go.Proofs.YtahhbckccdigoaaGreatDoor
namespace Go.Proofs.YtahhbckccdigoaaGreatDoor
open Go Go.RowKit
open G (Tok Er Ins Fun peek0 peek1 atOf)
abbrev b8 (k id n ty : Int) (ao to : Option Addr) (la lt ca ct : Nat) (nm : List UInt8) (pl : Int) : List Value := [.int .i64 k, .int .i64 id, .int .i64 n, .int .i64 ty, .slice ao la ca, .slice to lt ct, .string (bs nm), .int .i64 pl]
end Go.Proofs.YtahhbckccdigoaaGreatDoor
namespace Go.Proofs.YtahhbckccdigoaaGreatDoor
open Go Go.RowKit
open G (Tok Er Ins Fun peek0 peek1 atOf)
theorem GxF.ok {f : Fun} (h : GxF f) : OkF f := by
  obtain ⟨h1, _, _, h4⟩ := h
  unfold Few at h1
  refine ⟨by unfold maxLen; omega, fun b hb x hx => ?_⟩
  obtain ⟨_, k2, _, _, _, _, k7⟩ := h4 b hb x hx
  unfold Few at k7
  exact ⟨k2, by unfold maxLen; omega⟩
theorem GxF.sh {f : Fun} (h : GxF f) : ShF f := by
  obtain ⟨h1, h2, h3, h4⟩ := h
  refine ⟨h1, h2, h3, fun b hb x hx => ?_⟩
  obtain ⟨_, _, _, _, k5, k6, k7⟩ := h4 b hb x hx
  exact ⟨k5, k6, k7⟩
end Go.Proofs.YtahhbckccdigoaaGreatDoor
namespace Go.Proofs.YtahhbckccdigoaaGreatDoor
open Go Go.RowKit
open G (Tok Er Ins Fun peek0 peek1 atOf noI noB noF)
theorem same_try (xs ys : List Fun) (h : xs.map noF = ys.map noF) (ao bo : Option Addr) (ca cb : Nat) (w : World) (l : xs.length <= 64) (hx : ProgR w xs (.slice ao xs.length ca)) (hy : ProgR w ys (.slice bo ys.length cb)) :
    Calls Tryz.prog 20 #[.agg #[.slice ao xs.length ca], .agg #[.slice bo ys.length cb]] w fun e w' => e = .returned (.bool true) /\ Below w.heap.size w w' := by
  have e := same_len h
  rw [e] at hx l ⊢
  exact rsame_prog xs ys h ao bo ca cb w l hx hy
theorem ptext_ok (s : ByteArray) (p : List Fun) (w : World) (hs : s.size <= 65536) (ht : Tb w) (h : textG s = .ok p) : Calls Tryz.prog 19 #[.string s] w fun e w' => ∃ ao c, e = .returned (.tuple #[.agg #[.slice ao p.length c], .agg #[.int .i64 0, .int .i64 0]]) /\ ProgR w' p (.slice ao p.length c) /\ Below w.heap.size w w' := by
  refine (text_any s w hs ⟨ht.2.1, ht.2.2⟩ (by have := ht.1.lt; omega)).mono ?_
  rintro e w' ⟨b, ⟨xs, v, h1, rfl, h2⟩ | ⟨er, h1, _⟩⟩
  . rw [h] at h1
    cases h1
    have h3 := prog_of h2
    have h4 := h3
    obtain ⟨ao, c, rfl, _⟩ := h3
    exact ⟨ao, c, rfl, h4, b⟩
  . rw [h] at h1; cases h1
theorem law_back (p : List Fun) (po : Option Addr) (c : Nat) (w : World) (hp : ProgR w p (.slice po p.length c)) (ht : Tb w) (hO : ∀ f ∈ p, OkF f)
    (hli : ∀ w1 : World, ProgR w1 p (.slice po p.length c) -> Calls Tryz.prog 7 #[.agg #[.slice po p.length c]] w1 fun e w' => e = .returned (.bool (lightB p)) /\ Below w1.heap.size w1 w')
    (hsm : lightB p = true -> (wholeF 0 0 p).1 = 0 -> Sm p) :
    Calls Tryz.prog 5 #[.agg #[.slice po p.length c]] w fun e w' => e = .returned (.bool true) /\ Below w.heap.size w w' := by
  have b1 := below_box w (.cells #[.slice po p.length c] 24)
  have X2 : Hid (L5.Box (w.alloc (.cells #[.slice po p.length c] 24)) w.heap.size [.slice po p.length c]) := hide (L5.Box.new w [.slice po p.length c] 24)
  have B0 := hide b1
  have HP := hide (hp.below b1)
  have HT := hide (ht.below b1)
  have HLI := hide hli
  have HSM := hide hsm
  have HO := hide hO
  clear b1 hp ht hli hsm hO
  have hfl : ∀ (a b : Value) (w : World), (Instr.field 28 (.agg #[a, b]) 0).run Tryz.prog w = .ok a w := fun _ _ _ => rfl
  go_enter Tryz.func5, Tryz.ntmps5
  go_upto_region 1 with fail
  show Code.wp _ _ _ _ (w.alloc (.cells #[.slice po p.length c] 24))
  generalize w.alloc (.cells #[.slice po p.length c] 24) = W0 at *
  have y0 := X2.out.2 0 _ rfl
  go_wp2_with fail
  refine (HLI.out _ HP.out).mono ?_; rintro e w1 ⟨rfl, b1⟩
  have B1 := hide (below_step B0.out b1)
  replace X2 := hide (X2.out.below b1)
  replace HP := hide (HP.out.below b1)
  replace HT := hide (HT.out.below b1)
  clear b1 y0 B0
  cases hl : lightB p with
  | false =>
    go_wp2_with fail
    refine (works_any _ HT.out).mono ?_; rintro e w2 ⟨rfl, b2⟩
    have B2 := hide (below_step B1.out b2)
    go_wp2_with fail
    go_ret
    exact ⟨rfl, B2.out⟩
  | true =>
    replace hl := hide hl
    have y0 := X2.out.2 0 _ rfl
    go_wp2_with fail
    refine (rwhole_try p po c _ HP.out HO.out).mono ?_; rintro e w2 ⟨rfl, b2⟩
    have B2 := hide (below_step B1.out b2)
    replace X2 := hide (X2.out.below b2)
    replace HP := hide (HP.out.below b2)
    replace HT := hide (HT.out.below b2)
    clear b2 y0 B1
    by_cases hw : (wholeF 0 0 p).1 = 0
    . have hsm := HSM.out hl.out hw
      obtain ⟨p', ht', hp'⟩ := text_back hsm.1
      have HSM' := hide hsm
      replace ht' := hide ht'
      replace hp' := hide hp'
      rw [hw]
      generalize (wholeF 0 0 p).2 = z at *
      clear hw hsm
      have y0 := X2.out.2 0 _ rfl
      go_wp2_with fail
      refine (prog_text p po c _ HP.out HT.out HSM'.out.fin).mono ?_; rintro e w3 ⟨rfl, b3⟩
      have B3 := hide (below_step B2.out b3)
      replace X2 := hide (X2.out.below b3)
      replace HP := hide (HP.out.below b3)
      replace HT := hide (HT.out.below b3)
      clear b3 y0 B2
      have hsz := hide HSM'.out.size
      generalize bs (progT p) = s at *
      go_wp2_with fail
      refine (ptext_ok s p' _ hsz.out HT.out ht'.out).mono ?_; rintro e w4 ⟨qo, qc, rfl, P4, b4⟩
      obtain ⟨b5, d1, d2⟩ := boxes_ok w4 (.slice qo p'.length qc) (.int .i64 0) (.int .i64 0)
      have X3 : Hid (L5.Box (boxes w4 (.slice qo p'.length qc) (.int .i64 0) (.int .i64 0)) w4.heap.size [.slice qo p'.length qc]) := hide ⟨(Array.getElem?_eq_some_iff.1 d1).1, fun i u hu => by simp only [World.cell?, d1]; simpa using hu⟩
      have X4 : Hid (L5.Box (boxes w4 (.slice qo p'.length qc) (.int .i64 0) (.int .i64 0)) (w4.heap.size + 1) [.int .i64 0, .int .i64 0]) := hide ⟨(Array.getElem?_eq_some_iff.1 d2).1, fun i u hu => by simp only [World.cell?, d2]; simpa using hu⟩
      have B5 := hide (below_step B3.out (below_step b4 b5))
      replace X2 := hide (X2.out.below (below_step b4 b5))
      replace HP := hide (HP.out.below (below_step b4 b5))
      replace HT := hide (HT.out.below (below_step b4 b5))
      have HQ := hide (P4.below b5)
      clear b4 b5 d1 d2 P4 B3
      go_upto_region 5 with fail
      show Code.wp _ _ _ _ (boxes w4 (.slice qo p'.length qc) (.int .i64 0) (.int .i64 0))
      generalize boxes w4 (.slice qo p'.length qc) (.int .i64 0) (.int .i64 0) = W5 at *
      generalize w4.heap.size = g4 at *
      have u2 := X2.out.2 0 _ rfl
      have u3 := X3.out.2 0 _ rfl
      have u4 := X4.out.2 0 _ rfl
      have u5 := X4.out.2 1 _ rfl
      have hle : Hid (p.length <= 64) := hide (by have := HSM'.out.1.2.1; omega)
      go_wp2_with fail
      refine (same_try p p' hp'.out.symm po qo c qc _ hle.out HP.out HQ.out).mono ?_; rintro e w6 ⟨rfl, b6⟩
      have B6 := hide (below_step B5.out b6)
      replace HT := hide (HT.out.below b6)
      clear b6 u2 u3 u4 u5 B5
      go_wp2_with fail
      refine (works_any _ HT.out).mono ?_; rintro e w7 ⟨rfl, b7⟩
      have B7 := hide (below_step B6.out b7)
      go_wp2_with fail
      go_ret
      exact ⟨rfl, B7.out⟩
    . have hw' : ((wholeF 0 0 p).1 != 0) = true := by simpa using hw
      generalize (wholeF 0 0 p).2 = z at *
      generalize (wholeF 0 0 p).1 = y at *
      clear hw HSM
      go_wp2_with fail
      refine (works_any _ HT.out).mono ?_; rintro e w3 ⟨rfl, b3⟩
      have B3 := hide (below_step B2.out b3)
      go_wp2_with fail
      go_ret
      exact ⟨rfl, B3.out⟩
theorem lawBack (p : List Fun) (po : Option Addr) (c : Nat) (W : World) (hp : ProgR W p (.slice po p.length c)) (gp : ∀ y ∈ p, GxF y) (fp : Few p.length) (ht : Tb W) :
    Calls Tryz.prog 5 #[.agg #[.slice po p.length c]] W fun e W' => e = .returned (.bool true) /\ Below W.heap.size W W' :=
  law_back p po c W hp ht (fun f hf => (gp f hf).ok) (fun w1 h1 => light_any p po c w1 h1 fp fun f hf => (gp f hf).sh)
    fun hl hw => Sm.of_light ((whole_may fun f hf b hb x hx => ((gp f hf).2.2.2 b hb x hx).2.1).1 hw) hl
end Go.Proofs.YtahhbckccdigoaaGreatDoor
namespace Go.Proofs.YtahhbckccdigoaaGreatDoor
open Go.ChangeShapes Go.WideShapes Go.ChangeAt Go.RowKit
open L5 (letters tk0 tk1 mk ds word)
theorem own : ownKnob Tryz.prog.godebug = none := by kernel_rfl
theorem laidOut : laidOutB Tryz.prog = true := by kernel_rfl
def laid5 : List (String × DataW Unit) := [("math/bits.deBruijn32tab", Rows.laid_math_bits_deBruijn32tab), ("math/bits.deBruijn64tab", Rows.laid_math_bits_deBruijn64tab), ("internal/strconv.uint64pow10", Rows.laid_internal_strconv_uint64pow10), ("turntable/ops.rows", Rows.laid_turntable_ops_rows), ("turntable/shape.slotBits", Rows.laid_turntable_shape_slotBits)]
theorem rowsNamed : Tryz.prog.globalNamed "turntable/ops.rows" = some 0 := by kernel_rfl
theorem rowsType : (Tryz.prog.globals[0]?).map (·.type) = some 115 := by kernel_rfl
theorem lc3 : Tryz.prog.cellsOf 3 = 1 := by kernel_rfl
theorem lc9 : Tryz.prog.cellsOf 9 = 1 := by kernel_rfl
theorem lc86 : Tryz.prog.cellsOf 86 = 2 := by kernel_rfl
theorem lc88 : Tryz.prog.cellsOf 88 = 5 := by kernel_rfl
theorem lc117 : Tryz.prog.cellsOf 117 = 16 := by kernel_rfl
theorem lc133 : Tryz.prog.cellsOf 133 = 1 := by kernel_rfl
theorem lc143 : Tryz.prog.cellsOf 143 = 20 := by kernel_rfl
def rowD {H : Type} (k : Nat) : DataW H := .agg [.lit (.string (letters k)), .agg [.lit (.int .i64 (tk0 k)), .lit (.int .i64 (tk1 k))], .lit (.int .i64 (mk k)), .lit (.int .i64 (ds k))]
theorem laid_rows {H : Type} : (Rows.laid_turntable_ops_rows : DataW H) = .agg ((List.range 30).map rowD) := by rfl
def bitsTab : List Int := [1, 2, 4, 8, 16, 32, 64, 128, 256, 512, 1024, 2048, 4096, 8192, 16384, 32768]
theorem bitsNamed : Tryz.prog.globalNamed "turntable/shape.slotBits" = some 1 := by kernel_rfl
theorem bitsType : (Tryz.prog.globals[1]?).map (·.type) = some 117 := by kernel_rfl
theorem bitsData : (Rows.laid_turntable_shape_slotBits : DataW Unit) = Lib.tabData .i64 bitsTab := by kernel_rfl
theorem bits_pw : ∀ k, k < 16 -> bitsTab.getD k 0 = L3.pw k := by decide
theorem powType : (Tryz.prog.globals[3]?).map (·.type) = some 143 := by kernel_rfl
theorem powData : (Rows.laid_internal_strconv_uint64pow10 : DataW Unit) = Lib.tabData .u64 Lib.pow10Tab := by kernel_rfl
section
variable {H : Type} {enc : TypeId × Value -> H} {W : World} {base : Nat} {sp : Nat -> Bool} {held : Bool}
theorem five {cs : List Value} (h : cs.length = 5) : ∃ a b c d e, cs = [a, b, c, d, e] := by
  match cs, h with
  | [a, b, c, d, e], _ => exact ⟨a, b, c, d, e, rfl⟩
theorem str_of {s : ByteArray} {bs : List UInt8} (h : s.data.toList = bs) : s = ⟨bs.toArray⟩ := by
  subst h; rfl
theorem row_cells {fuel k : Nat} {cs : List Value} {p : List MemPlace} (h : DataW.trod enc Tryz.prog W base sp held fuel 88 cs = some (rowD k, p)) :
    cs = [.string (word k), .int .i64 (tk0 k), .int .i64 (tk1 k), .int .i64 (mk k), .int .i64 (ds k)] := by
  obtain ⟨xs, n, _, hx, hl, hlen, hf⟩ := DataW.trod_struct Tryz.underlying88 h
  obtain ⟨v0, v1, v2, v3, v4, rfl⟩ := five (hl.trans lc88)
  match xs, hlen with
  | [y0, y1, y2, y3], _ =>
    have h0 : DataW.trod enc Tryz.prog W base sp held n 9 ([v0, v1, v2, v3, v4].take (Tryz.prog.cellsOf 9)) = some y0 := hf 0 _ rfl
    have h1 : DataW.trod enc Tryz.prog W base sp held n 86 ([v1, v2, v3, v4].take (Tryz.prog.cellsOf 86)) = some y1 := hf 1 _ rfl
    have h2 : DataW.trod enc Tryz.prog W base sp held n 3 ([v3, v4].take (Tryz.prog.cellsOf 3)) = some y2 := hf 2 _ rfl
    have h3 : DataW.trod enc Tryz.prog W base sp held n 3 ([v4].take (Tryz.prog.cellsOf 3)) = some y3 := hf 3 _ rfl
    rw [lc9] at h0
    rw [lc86] at h1
    rw [lc3] at h2 h3
    obtain ⟨s, e0, rfl, _⟩ := DataW.trod_string Tryz.underlying9 h0
    obtain ⟨x2, e2, rfl, _⟩ := DataW.trod_int Tryz.underlying3 h2
    obtain ⟨x3, e3, rfl, _⟩ := DataW.trod_int Tryz.underlying3 h3
    obtain ⟨zs, m, _, hz, _, hzl, each⟩ := DataW.trod_array Tryz.underlying86 h1
    match zs, hzl with
    | [z0, z1], _ =>
      have g0 := each 0 (by decide)
      have g1 := each 1 (by decide)
      simp only [lc3] at g0 g1
      simp at g0 g1
      obtain ⟨u0, f0, rfl, _⟩ := DataW.trod_int Tryz.underlying3 g0
      obtain ⟨u1, f1, rfl, _⟩ := DataW.trod_int Tryz.underlying3 g1
      subst hz
      simp [rowD] at hx e0 e2 e3 f0 f1
      obtain ⟨⟨q0, ⟨q1, q2⟩, q3, q4⟩, _⟩ := hx
      subst e0 e2 e3 f0 f1 q1 q2 q3 q4
      rw [str_of q0.symm]
      rfl
end
theorem tabs_of_laid {W : World} (h : laidMetH Tryz.prog laid5 W) : Tb W := by
  rw [MakeChecks.laidMetH_plain _ _ _ (by kernel_rfl)] at h
  obtain ⟨ps, ⟨g8, t8, cs8, f8, p8, q8, _, _, _, _, ⟨g9, t9, cs9, f9, p9, q9, _, _, _, _, ⟨g2, t2, cs2, f2, p2, q2, hg2, ht2, hv2, hd2, ⟨g, t, cs, fuel, p, q, hg, ht, hvar, hd, ⟨g1, t1, cs1, f1, p1, q1, hg1, ht1, hv1, hd1, _, _⟩, _⟩, _⟩, _⟩, _⟩, _, _⟩ := h
  obtain rfl := Option.some.inj (rowsNamed.symm.trans hg)
  obtain rfl := Option.some.inj (rowsType.symm.trans ht)
  rw [laid_rows] at hd
  obtain ⟨xs, n, _, hx, hl, hlen, each⟩ := DataW.trod_array Tryz.underlying115 hd
  have hxs : xs.map (·.1) = (List.range 30).map rowD := by
    have := congrArg Prod.fst hx
    simpa using this.symm
  have key : ∀ k, k < 30 -> (cs.toList.drop (k * 5)).take 5 = [.string (word k), .int .i64 (tk0 k), .int .i64 (tk1 k), .int .i64 (mk k), .int .i64 (ds k)] := by
    intro k hk
    have h1 := each k hk
    rw [lc88] at h1
    obtain ⟨y, hy⟩ : ∃ y, xs[k]? = some y := ⟨_, List.getElem?_eq_getElem (by omega)⟩
    have h2 := congrArg (·[k]?) hxs
    simp [hy, hk] at h2
    rw [hy] at h1
    obtain ⟨d, pl⟩ := y
    simp at h2
    subst h2
    exact row_cells h1
  have cell : ∀ k j v, k < 30 -> j < 5 -> ((cs.toList.drop (k * 5)).take 5)[j]? = some v -> W.cell? ⟨0, k * 5 + j, none⟩ = some v := by
    intro k j v hk hj hv
    have := World.var?_cell hg hvar (k * 5 + j)
    rw [this]
    simpa [List.getElem?_take, List.getElem?_drop, hj] using hv
  refine ⟨?_, ?_, ?_⟩
  . obtain rfl := Option.some.inj (L1.powNamed.symm.trans hg2)
    obtain rfl := Option.some.inj (powType.symm.trans ht2)
    rw [powData] at hd2
    have := Lib.cells_of_tab Tryz.underlying143 Tryz.underlying133 lc133 lc143 hd2
    unfold L1.Tab Lib.TabIs
    rw [hv2, <- this]
  . obtain rfl := Option.some.inj (bitsNamed.symm.trans hg1)
    obtain rfl := Option.some.inj (bitsType.symm.trans ht1)
    rw [bitsData] at hd1
    have hcs := Lib.cells_of_tab Tryz.underlying117 Tryz.underlying3 lc3 lc117 hd1
    have ht : Lib.TabIs Tryz.prog W "turntable/shape.slotBits" .i64 bitsTab := by
      unfold Lib.TabIs
      rw [hv1, <- hcs]
    have hc : ∀ k, k < 16 -> W.cell? ⟨1, k, none⟩ = some (.int .i64 (L3.pw k)) := fun k hk => by
      rw [<- bits_pw k hk]; exact ht.cell bitsNamed k hk
    exact ⟨World.block_lt_of_cell? W _ (hc 0 (by omega)), hc⟩
  refine ⟨World.block_lt_of_cell? W _ (cell 0 0 (.string (word 0)) (by omega) (by omega) (by rw [key 0 (by omega)]; rfl)), fun k hk => ?_⟩
  exact ⟨cell k 0 _ hk (by omega) (by rw [key k hk]; rfl), cell k 1 _ hk (by omega) (by rw [key k hk]; rfl), cell k 2 _ hk (by omega) (by rw [key k hk]; rfl), cell k 3 _ hk (by omega) (by rw [key k hk]; rfl), cell k 4 _ hk (by omega) (by rw [key k hk]; rfl)⟩
theorem door_met (os : Os) (args : Array Value) : laidMetH Tryz.prog laid5 ((World.doorLaid Tryz.prog 400 os).forCall (fun _ _ => 0) ⟨#[], args, []⟩).memory :=
  laidMetH_of_parts3 (fuel := 8) (laidMet_of_run' 8 (by kernel_rfl) (by kernel_rfl)) (by kernel_rfl) (by kernel_rfl)
end Go.Proofs.YtahhbckccdigoaaGreatDoor
