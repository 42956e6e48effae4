/- Layer 6, the reference's reader, where nothing is wrong: words, names, values, labels, numbers. -/
import Derived.Test.YtahhbckccdigoaaGreatDoorMwAA
import Derived.Test.YtahhbckccdigoaaGreatDoorMwAE
import Derived.Laws.MakeOwn
import Derived.Laws.CopyOwn
namespace Go.Proofs.YtahhbckccdigoaaGreatDoor
open Go Go.RowKit
open G (Tok Er Ins Fun peek0 peek1 atOf)
theorem rpeek0 {s : List UInt8} {a : Nat} {L : List Tok} {E : Int} {n : Nat} {l : List Tok} (w : World) (h : RR a L E n l w) (hs : peek0 l = s) :
    Calls Tryz.prog 92 #[.pointer (some ⟨a, 0, none⟩), .int .i64 0] w fun e w' => e = .returned (.string (bs s)) ∧ Below w.heap.size w w' := by
  have := rpeek 0 w h (by omega)
  rw [pk0, hs] at this
  exact this
theorem rpeek1 {s : List UInt8} {a : Nat} {L : List Tok} {E : Int} {n : Nat} {l : List Tok} (w : World) (h : RR a L E n l w) (hs : peek1 l = s) :
    Calls Tryz.prog 92 #[.pointer (some ⟨a, 0, none⟩), .int .i64 1] w fun e w' => e = .returned (.string (bs s)) ∧ Below w.heap.size w w' := by
  have := rpeek 1 w h (by omega)
  rw [pk1, hs] at this
  exact this
/-- What taking a word leaves. -/
def Ate (a : Nat) (L : List Tok) (E : Int) (n : Nat) (l : List Tok) (w w' : World) : Prop := RR a L E n l w' ∧ Kr a w w'
theorem ate_of {a : Nat} {L : List Tok} {E : Int} {n : Nat} {l : List Tok} {w w1 : World} (h : RR a L E n l w) (b : Below w.heap.size w w1) (hl : l ≠ []) : Ate a L E n l.tail w (w1.setCell ⟨a, 1, none⟩ (.int .i64 (((L.length - l.length : Nat) : Int) + 1))) :=
  ⟨(h.below b).eat hl, (Kr.of_below b).set _⟩
theorem RR.at1 {a : Nat} {L : List Tok} {E : Int} {n : Nat} {l : List Tok} {w : World} (h : RR a L E n l w) : w.cell? ⟨a, 1, none⟩ = some (.int .i64 ((L.length - l.length : Nat) : Int)) ∧ w.frozen? ⟨a, 1, none⟩ = false ∧ w.cell? ⟨a, 4, none⟩ = some (.int .i64 0) ∧ ((L.length - l.length : Nat) : Int) ≤ 131072 := by
  have hl : L.length ≤ 131072 := by obtain ⟨v, h1, h2, h5, h6, h7⟩ := h; exact h6.1
  obtain ⟨ao, cap, c0, c1, c2, c3, c4, c5, fz, hL⟩ := h.cells
  exact ⟨c1, fz 1, c4, by omega⟩
theorem endP' {P : Program} {fn : Func} {R : Ending → World → Prop} {t : Array Value} {d : List Deferred} {w : World} (hr : fn.results = #[]) (hd : d = []) (hR : R (.returned (.tuple #[])) w) : bodyPost P fn R .normal { tmps := t, defers := d } w :=
  bodyPost_end (results_none hr _ _ _) hd hR
theorem bs_beq (s : List UInt8) : ((bs s).toList == (bs s).toList) = true := by simp
set_option maxRecDepth 20000 in
theorem rwant (s : List UInt8) {a : Nat} {L : List Tok} {E : Int} {n : Nat} {l : List Tok} (w : World) (h : RR a L E n l w) (hs : peek0 l = s) (hne : s ≠ []) :
    Calls Tryz.prog 90 #[.pointer (some ⟨a, 0, none⟩), .string (bs s)] w fun e w' => e = .returned (.tuple #[]) ∧ Ate a L E n l.tail w w' := by
  have hl : l ≠ [] := fun e => by subst e; exact hne hs.symm
  obtain ⟨c1, z1, c4, hq⟩ := h.at1
  have H := hide h
  have HS := hide hs
  have he := bs_beq s
  clear h hs hne c1 z1
  go_enter Tryz.func90, Tryz.ntmps90
  go_wp2_with fail
  refine (rpeek0 w H.out HS.out).mono ?_; rintro e w1 ⟨rfl, b1⟩
  obtain ⟨c1, z1, c4', _⟩ := (H.out.below b1).at1
  have HA := hide (ate_of H.out b1 hl)
  clear b1 c4 c4'
  generalize L.length - l.length = q at *
  go_wp2_with fail
  exact endP' rfl rfl ⟨rfl, HA.out⟩
theorem namF_ne {s : List UInt8} (h : namF s = true) : s ≠ [] := fun e => by subst e; rw [nam_nil] at h; cases h
set_option maxRecDepth 20000 in
theorem rname (s : List UInt8) {a : Nat} {L : List Tok} {E : Int} {n : Nat} {l : List Tok} (w : World) (h : RR a L E n l w) (hs : peek0 l = s) (hn : namF s = true) :
    Calls Tryz.prog 91 #[.pointer (some ⟨a, 0, none⟩)] w fun e w' => e = .returned (.string (bs s)) ∧ Ate a L E n l.tail w w' := by
  have hl : l ≠ [] := fun e => by subst e; exact namF_ne hn hs.symm
  have hsz : (bs s).size ≤ maxLen := by rw [bs_size, ← hs]; have := h.short.1; unfold maxLen; omega
  have H := hide h
  have HS := hide hs
  have HN : Hid (L2.nameB s = true) := hide hn
  clear h hs hn
  go_enter Tryz.func91, Tryz.ntmps91
  go_wp2_with fail
  refine (rpeek0 w H.out HS.out).mono ?_; rintro e w1 ⟨rfl, b1⟩
  go_wp2_with fail
  refine (L2.rname_any (bs s) w1 hsz).mono ?_; rintro e w2 ⟨rfl, hw2⟩
  rw [hw2, bs_data, HN.out]
  clear hw2
  obtain ⟨c1, z1, c4, hq⟩ := (H.out.below b1).at1
  have HA := hide (ate_of H.out b1 hl)
  clear b1 c4
  generalize L.length - l.length = q at *
  go_wp2_with fail
  go_ret
  exact ⟨rfl, HA.out⟩
theorem mark_some {c : UInt8} {most v : Int} {s : List UInt8} (h : G.mark idxF c most s = some v) : ∃ r, s = c :: r ∧ r ≠ [] ∧ (L1.indexNum r most) = (v, 0) := by
  match s, h with
  | x :: y :: r, g =>
    clear h
    have h : (if x = c then idxF (y :: r) most else none) = some v := g
    clear g
    by_cases hx : x = c
    · rw [if_pos hx] at h
      subst hx
      refine ⟨y :: r, rfl, by simp, ?_⟩
      unfold idxF at h
      by_cases h0 : (L1.indexNum (y :: r) most).2 = 0
      · rw [if_pos h0] at h
        injection h with h1
        exact Prod.ext h1 h0
      · rw [if_neg h0] at h
        cases h
    · rw [if_neg hx] at h
      cases h
  | [x], h => cases h
  | [], h => cases h
theorem bs_tail (c : UInt8) (r : List UInt8) : (bs (c :: r)).extract 1 (bs (c :: r)).size = bs r := by
  apply ByteArray.ext
  apply Array.ext'
  rw [L1.extract_tail]
  rfl
set_option maxHeartbeats 1000000 in
set_option maxRecDepth 20000 in
theorem rindex (c : UInt8) (most k v : Int) {s : List UInt8} {a : Nat} {L : List Tok} {E : Int} {n : Nat} {l : List Tok} (w : World) (h : RR a L E n l w) (hs : peek0 l = s) (hm : G.mark idxF c most s = some v) :
    Calls Tryz.prog 126 #[.pointer (some ⟨a, 0, none⟩), .int .u8 (c.toNat : Int), .int .i64 most, .int .i64 k] w fun e w' => e = .returned (.int .i64 v) ∧ Ate a L E n l.tail w w' := by
  obtain ⟨r, rfl, hr, hi⟩ := mark_some hm
  have hl : l ≠ [] := fun e => by subst e; cases hs
  have hsh := h.short.1
  rw [hs] at hsh
  have HZ := hide (bs_size (c :: r))
  obtain ⟨C, hC⟩ : ∃ C, C = bs (c :: r) := ⟨_, rfl⟩
  have hz2 : 2 ≤ C.size := by rw [hC, bs_size]; cases r with | nil => exact absurd rfl hr | cons x y => simp
  have hz1 : decide ((C.size : Int) < 2) = false := by simp; omega
  have hz4 : 0 < C.size := by omega
  have hz5 : 1 ≤ C.size := by omega
  have hz3 : C.size ≤ 65536 := by rw [hC, bs_size]; exact hsh
  have hrz : (bs r).size ≤ maxLen := by rw [bs_size]; simp at hsh; unfold maxLen; omega
  have hT : C.extract 1 C.size = bs r := by rw [hC]; exact bs_tail c r
  have h0 : (C[0].toNat : Int) = (c.toNat : Int) := by subst hC; rfl
  have H := hide h
  have HS : Hid (bs (peek0 l) = C) := hide (by rw [hs, hC])
  have HI := hide hi
  clear h hs hm hr hi hsh hC
  go_enter Tryz.func126, Tryz.ntmps126
  go_wp2_with fail
  refine (rpeek0 w H.out rfl).mono ?_; rintro e w1 ⟨rfl, b1⟩
  rw [HS.out]
  go_wp2_with fail
  refine (L1.refIndex_any (bs r) most w1 hrz).mono ?_; rintro e w2 ⟨rfl, n2, hw2⟩
  rw [bs_data, HI.out]
  have b2 : Below w.heap.size w w2 := by rw [hw2]; exact below_drewN b1 _
  clear hw2 b1
  obtain ⟨c1, z1, c4, hq⟩ := (H.out.below b2).at1
  have HA := hide (ate_of H.out b2 hl)
  clear b2 c4
  generalize L.length - l.length = q at *
  go_wp2_with fail
  go_ret
  exact ⟨rfl, HA.out⟩
theorem rvalue {v : Int} {l r : List Tok} {a : Nat} {L : List Tok} {E : Int} {n : Nat} (w : World) (h : RR a L E n l w) (hv : G.value idxF E l = .ok (v, r)) :
    Calls Tryz.prog 114 #[.pointer (some ⟨a, 0, none⟩)] w fun e w' => e = .returned (.int .i64 v) ∧ Ate a L E n r w w' := by
  obtain ⟨_, rfl, hm⟩ := G.value_ok hv
  have H := hide h
  clear h hv
  go_enter Tryz.func114, Tryz.ntmps114
  go_wp2_with fail
  refine (rindex 37 1048576 8 v w H.out rfl hm).mono ?_; rintro e w1 ⟨rfl, b1⟩
  have HB := hide b1
  clear b1 hm
  go_wp2_with fail
  go_ret
  exact ⟨rfl, HB.out⟩
theorem rlabel {v : Int} {l r : List Tok} {a : Nat} {L : List Tok} {E : Int} {n : Nat} (w : World) (h : RR a L E n l w) (hv : G.label idxF E l = .ok (v, r)) :
    Calls Tryz.prog 145 #[.pointer (some ⟨a, 0, none⟩)] w fun e w' => e = .returned (.int .i64 v) ∧ Ate a L E n r w w' := by
  obtain ⟨_, rfl, hm⟩ := G.label_ok hv
  have H := hide h
  clear h hv
  go_enter Tryz.func145, Tryz.ntmps145
  go_wp2_with fail
  refine (rindex 98 255 7 v w H.out rfl hm).mono ?_; rintro e w1 ⟨rfl, b1⟩
  have HB := hide b1
  clear b1 hm
  go_wp2_with fail
  go_ret
  exact ⟨rfl, HB.out⟩
/-- A word is a number between two. -/
theorem rnumber (lo hi v : Int) {l : List Tok} {a : Nat} {L : List Tok} {E : Int} {n : Nat} (w : World) (h : RR a L E n l w) (hv : numF (peek0 l) = (v, 0)) (h1 : lo ≤ v) (h2 : v ≤ hi) :
    Calls Tryz.prog 127 #[.pointer (some ⟨a, 0, none⟩), .int .i64 lo, .int .i64 hi] w fun e w' => e = .returned (.int .i64 v) ∧ Ate a L E n l.tail w w' := by
  have hl : l ≠ [] := fun e => by subst e; exact num_nil (congrArg Prod.snd hv)
  have hsz : (bs (peek0 l)).size ≤ maxLen := by rw [bs_size]; have := h.short.1; unfold maxLen; omega
  have H := hide h
  have HV : Hid (L1.readNum (peek0 l) = (v, 0)) := hide hv
  have g1 : decide (v < lo) = false := by simp; omega
  have g2 : decide (hi < v) = false := by simp; omega
  have g3 : ¬ v < lo := by omega
  have g4 : ¬ hi < v := by omega
  clear h hv
  go_enter Tryz.func127, Tryz.ntmps127
  go_wp2_with fail
  refine (rpeek0 w H.out rfl).mono ?_; rintro e w1 ⟨rfl, b1⟩
  go_wp2_with fail
  refine (L1.refParse_any (bs (peek0 l)) w1 hsz).mono ?_; rintro e w2 ⟨rfl, n2, hw2⟩
  rw [bs_data, HV.out]
  have b2 : Below w.heap.size w w2 := by rw [hw2]; exact below_drewN b1 _
  clear hw2 b1
  obtain ⟨c1, z1, c4, hq⟩ := (H.out.below b2).at1
  have HA := hide (ate_of H.out b2 hl)
  clear b2 c4
  generalize L.length - l.length = q at *
  go_wp2_with fail
  go_ret
  exact ⟨rfl, HA.out⟩
theorem number_ok {E lo hi v : Int} {l r : List Tok} (h : G.number numF E lo hi l = .ok (v, r)) : r = l.tail ∧ numF (peek0 l) = (v, 0) ∧ lo ≤ v ∧ v ≤ hi := by
  obtain ⟨_, rfl, h3⟩ := G.one_ok (by simp [num_nil]) h
  by_cases hc : (numF (peek0 l)).2 ≠ 0 ∨ (numF (peek0 l)).1 < lo ∨ hi < (numF (peek0 l)).1
  · simp only [if_pos hc] at h3; cases h3
  · simp only [if_neg hc] at h3
    injection h3 with h4
    have e2 : (numF (peek0 l)).2 = 0 := Classical.byContradiction fun hn => hc (.inl hn)
    refine ⟨rfl, Prod.ext h4 e2, ?_, ?_⟩
    · rw [← h4]; omega
    · rw [← h4]; omega
theorem anyNum_ok {E v : Int} {l r : List Tok} (h : G.anyNum numF E l = .ok (v, r)) : r = l.tail ∧ numF (peek0 l) = (v, 0) := by
  obtain ⟨_, rfl, h3⟩ := G.one_ok (by simp [num_nil]) h
  by_cases hc : (numF (peek0 l)).2 ≠ 0
  · simp only [if_pos hc] at h3; cases h3
  · simp only [if_neg hc] at h3
    injection h3 with h4
    exact ⟨rfl, Prod.ext h4 (Classical.byContradiction fun hn => hc hn)⟩
end Go.Proofs.YtahhbckccdigoaaGreatDoor
namespace Go.Proofs.YtahhbckccdigoaaGreatDoor
open Go Go.RowKit
open G (Tok Er Ins Fun peek0 peek1 atOf)
theorem value_ok {E : Int} {l : List Tok} {k : Int} (h : G.mark idxF 37 1048576 (peek0 l) = some k) : G.value idxF E l = .ok (k, l.tail) := by
  unfold G.value G.index G.one; rw [h]
theorem label_ok {E : Int} {l : List Tok} {k : Int} (h : G.mark idxF 98 255 (peek0 l) = some k) : G.label idxF E l = .ok (k, l.tail) := by
  unfold G.label G.index G.one; rw [h]
end Go.Proofs.YtahhbckccdigoaaGreatDoor
namespace Go.Proofs.YtahhbckccdigoaaGreatDoor
open Go Go.RowKit
open G (Tok Er Ins Fun peek0 peek1 atOf)
theorem InsAt.put {B c i : Nat} {x y : Ins} {w : World} {v : Value} (h : InsAt B c x w) (hy : ∀ va vt, (insCells x va vt).toArray.setIfInBounds i v = (insCells y va vt).toArray) (ha : y.2.2.2.2.1 = x.2.2.2.2.1) (ht : y.2.2.2.2.2.1 = x.2.2.2.2.2.1) : InsAt B c y (w.setCell ⟨c, i, none⟩ v) := by
  obtain ⟨va, vt, h1, h2, h3, h4, h5⟩ := h
  have n1 : va.ownBlock ≠ some c := own_ne h2 h1 (by decide)
  have n2 : vt.ownBlock ≠ some c := own_ne h3 h1 (by decide)
  refine ⟨va, vt, ?_, ?_, ?_, h4, h5⟩
  · rw [heap_setCell_same w c i _ 39 _ h1, hy]
  · rw [ha]; exact own_setCell h2 n1 _
  · rw [ht]; exact own_setCell h3 n2 _
theorem InsAt.setN {B c : Nat} {x : Ins} {w : World} (h : InsAt B c x w) (v : Int) : InsAt B c (setN x v) (w.setCell ⟨c, 2, none⟩ (.int .i64 v)) := h.put (fun _ _ => rfl) rfl rfl
theorem InsAt.setName {B c : Nat} {x : Ins} {w : World} (h : InsAt B c x w) (s : List UInt8) : InsAt B c (setName x s) (w.setCell ⟨c, 6, none⟩ (.string (bs s))) := h.put (fun _ _ => rfl) rfl rfl
theorem one_some {α : Type} {f : List UInt8 → Option α} {c : List UInt8 → Int} {E : Int} {l : List Tok} {v : α} (h : f (peek0 l) = some v) : G.one f c E l = .ok (v, l.tail) := by
  unfold G.one; rw [h]
theorem one_none {α : Type} {f : List UInt8 → Option α} {c : List UInt8 → Int} {E : Int} {l : List Tok} (h : f (peek0 l) = none) : G.one f c E l = .error (c (peek0 l), atOf E l) := by
  unfold G.one; rw [h]
theorem shp_of (s : List UInt8) : ∃ a b : Int, L3.readS (bs s) = .tuple #[.agg #[.int .i64 a, .int .i64 b], .int .i64 (shpF s)] := by
  have key : ∃ a b c : Int, L3.readS (bs s) = .tuple #[.agg #[.int .i64 a, .int .i64 b], .int .i64 c] := by
    unfold L3.readS L3.readL
    split
    · exact ⟨_, _, _, rfl⟩
    · split
      · exact ⟨_, _, _, rfl⟩
      · split
        · exact ⟨_, _, _, rfl⟩
        · exact ⟨_, _, _, rfl⟩
  obtain ⟨a, b, c, h⟩ := key
  refine ⟨a, b, ?_⟩
  have e : shpF s = c := by unfold shpF; rw [h]; rfl
  rw [e, h]
/-- Both tables read as they were laid. -/
def Tabs (w : World) : Prop := L3.Tab w ∧ L5.Tab w
theorem Tabs.below {w w' : World} (h : Tabs w) (b : Below w.heap.size w w') : Tabs w' := ⟨h.1.below b, h.2.below b⟩
theorem Tabs.of {w w' : World} (h : Tabs w) (hs : w.heap.size ≤ w'.heap.size) (e0 : w'.heap[0]? = w.heap[0]?) (e1 : w'.heap[1]? = w.heap[1]?) : Tabs w' := by
  have c0 : ∀ i, w'.cell? ⟨0, i, none⟩ = w.cell? ⟨0, i, none⟩ := fun i => World.cell?_of_block e0
  have c1 : ∀ i, w'.cell? ⟨1, i, none⟩ = w.cell? ⟨1, i, none⟩ := fun i => World.cell?_of_block e1
  refine ⟨⟨Nat.lt_of_lt_of_le h.1.1 hs, fun k hk => (c1 k).trans (h.1.2 k hk)⟩, Nat.lt_of_lt_of_le h.2.1 hs, fun k hk => ?_⟩
  rw [c0, c0, c0, c0, c0]
  exact h.2.2 k hk
theorem Tabs.kp {B a : Nat} {w w' : World} (h : Tabs w) (k : Kp B a w w') (ha : 2 ≤ a) (hB : a < B) : Tabs w' :=
  h.of k.size (k.2.2.2.2 0 (by omega) (by omega)) (k.2.2.2.2 1 (by omega) (by omega))
end Go.Proofs.YtahhbckccdigoaaGreatDoor
namespace Go.Proofs.YtahhbckccdigoaaGreatDoor
open Go Go.RowKit
open G (Tok Er Ins Fun peek0 peek1 atOf)
theorem Below.undrew {B : Nat} {w w' : World} (h : Below B w.drew w') : Below B w w' := ⟨h.1, h.2, h.3, h.4, h.5⟩
theorem name_of (E : Int) (l : List Tok) : G.name namF E l = if namF (peek0 l) = true then .ok (peek0 l, l.tail) else .error (4, atOf E l) := by
  by_cases h : namF (peek0 l) = true
  · rw [if_pos h]; exact one_some (if_pos h)
  · rw [if_neg h]; exact one_none (if_neg h)
theorem nam_ne (l : List Tok) (h : namF (peek0 l) = true) : l ≠ [] := fun e => by subst e; exact absurd (nam_nil.symm.trans h) (by simp)
theorem nameB_any (s : List UInt8) (b : Bool) (w : World) (hs : s.length ≤ 65536) (hb : namF s = b) : Calls Tryz.prog 74 #[.string (bs s)] w fun e w' => e = .returned (.bool b) ∧ Below w.heap.size w w' := by
  have := L2.name_any (bs s) w (by rw [bs_size]; unfold maxLen; omega)
  rw [bs_data] at this
  subst hb
  exact this
set_option maxHeartbeats 1000000 in
set_option maxRecDepth 20000 in
theorem name_any {B a : Nat} {L : List Tok} {E : Int} {n : Nat} {l : List Tok} (w : World) (h : Rdr B a L E n l w) :
    Calls Tryz.prog 109 #[.pointer (some ⟨a, 0, none⟩)] w (Out B a L E n (G.name namF E l) (fun s => .string (bs s)) w) := by
  have HW := hide (name_of E l)
  have hN := nam_ne l
  have hsh := h.short
  have H := hide h
  clear h
  go_enter Tryz.func109, Tryz.ntmps109
  go_wp2_with fail
  refine (take_any _ H.out).mono ?_; rintro e w1 ⟨rfl, k1, r1⟩
  have P1 := hide (Pair.new w1 96 (a := .string (bs (peek0 l))) (b := .int .i64 (atOf E l)))
  have K1 := hide (k1.andBelow (below_box w1 (.cells #[.string (bs (peek0 l)), .int .i64 (atOf E l)] 96)))
  have R1 := hide (fun hl => (r1 hl).step (below_box w1 (.cells #[.string (bs (peek0 l)), .int .i64 (atOf E l)] 96)))
  clear k1 r1
  go_upto_region 2 with fail
  show Code.wp _ _ _ _ (w1.alloc (.cells #[.string (bs (peek0 l)), .int .i64 (atOf E l)] 96))
  generalize w1.alloc (.cells #[.string (bs (peek0 l)), .int .i64 (atOf E l)] 96) = W1 at *
  generalize w1.heap.size = g at *
  obtain ⟨p0, p1, p2, p3, p4⟩ := P1.out
  cases hb : namF (peek0 l) with
  | true =>
    have HW2 := hide (HW.out.trans (if_pos hb))
    have hl := hN hb
    clear HW hN
    go_region_with ((first
      | (go_at_call 74; refine (nameB_any (peek0 l) true _ hsh hb).mono ?_; rintro e w2 ⟨rfl, b2⟩; obtain ⟨q0, q1, q2, q3, q4⟩ := P1.out.below (Below.undrew b2))
      | (go_at_call 101; refine (need_ok _ _ _ _).mono ?_; rintro e w3 ⟨rfl, b3⟩; obtain ⟨t0, t1, t2, t3, t4⟩ := (P1.out.below (Below.undrew b2)).below b3)))
    all_goals
      go_wp2_with fail
      go_ret
      exact ⟨(K1.out.andBelow (Below.undrew b2)).andBelow b3, .inl ⟨_, _, HW2.out, rfl, ((R1.out hl).step (Below.undrew b2)).step b3⟩⟩
  | false =>
    have HW2 := hide (HW.out.trans (if_neg (by simp [hb])))
    clear HW hN
    go_region_with ((first
      | (go_at_call 74; refine (nameB_any (peek0 l) false _ hsh hb).mono ?_; rintro e w2 ⟨rfl, b2⟩; obtain ⟨q0, q1, q2, q3, q4⟩ := P1.out.below (Below.undrew b2))
      | (go_at_call 101; refine (need_no _ _ _ _).mono ?_; rintro e w3 ⟨rfl, b3⟩; refine step_done (P := Tryz.prog) (by exact bodyPost_thrown ⟨(K1.out.andBelow (Below.undrew b2)).andBelow b3, .inr ⟨_, HW2.out, rfl⟩⟩) ?_)))
    all_goals trivial
theorem ne_text (s t : List UInt8) : ((bs s).toList != t) = decide (s ≠ t) := by
  rw [ByteArray.toList_eq, bs_data]
  by_cases h : s = t
  · subst h; simp
  · simp [h]
theorem taken_no {l : List Tok} (h : begins 37 (peek0 l) = false) : G.taken l = false := by
  unfold G.taken
  unfold begins at h
  rw [h]; rfl
theorem taken_yes {l : List Tok} (h : begins 37 (peek0 l) = true) : G.taken l = decide (peek1 l ≠ [61]) := by
  unfold G.taken
  unfold begins at h
  rw [h, Bool.true_and]
  by_cases h : peek1 l = [61]
  · rw [h]; rfl
  · simp [h]
end Go.Proofs.YtahhbckccdigoaaGreatDoor
namespace Go.Proofs.YtahhbckccdigoaaGreatDoor
open Go Go.RowKit
open G (Tok Er Ins Fun peek0 peek1 atOf)
/-- How an instruction and the words go on. -/
abbrev Way := Ins → List Tok → Except Er (Ins × List Tok)
def valueW (E : Int) : Way := fun x l => byWord x addArg (G.value idxF E l)
def labelW (E : Int) : Way := fun x l => byWord x addTo (G.label idxF E l)
/-- How many numbers and words there are. -/
def bulk (x : Ins) (l : List Tok) : Nat := x.2.2.2.2.1.length + x.2.2.2.2.2.1.length + l.length
theorem tail_bulk {l : List Tok} (h : l ≠ []) : l.tail.length + 1 = l.length := by
  cases l with
  | nil => exact absurd rfl h
  | cons t r => simp
/-- How many words are read. -/
def readAt (a : Nat) (w : World) : Nat := (intOf ((w.cell? ⟨a, 1, none⟩).getD (.int .i64 0))).toNat
theorem Rdr.readAt {B a : Nat} {L : List Tok} {E : Int} {n : Nat} {l : List Tok} {w : World} (h : Rdr B a L E n l w) : YtahhbckccdigoaaGreatDoor.readAt a w = L.length - l.length := by
  obtain ⟨_, v, _, c1, _⟩ := h.cells
  unfold YtahhbckccdigoaaGreatDoor.readAt
  rw [c1]
  simp [intOf]
def perhapsValueW (E : Int) : Way := fun x l => if G.taken l then valueW E x l else .ok (x, l)
def moreV (E : Int) : Nat → Way
  | 0 => fun x l => .ok (x, l)
  | f + 1 => fun x l => if G.taken l then G.andThen (valueW E x l) fun x' l' => moreV E f x' l' else .ok (x, l)
def moreValuesW (E : Int) : Way := fun x l => moreV E (l.length + 1) x l
theorem moreV_stop {E : Int} {f : Nat} {x : Ins} {l : List Tok} (h : G.taken l = false) : moreV E (f + 1) x l = .ok (x, l) := by
  unfold moreV; rw [h]; rfl
theorem is_text (s t : List UInt8) : ((bs s).toList == t) = decide (s = t) := by
  rw [ByteArray.toList_eq, bs_data]
  by_cases h : s = t
  · subst h; simp
  · simp [h]
theorem paired_no {l : List Tok} (h : begins 98 (peek0 l) = false) : G.paired l = false := by
  unfold G.paired
  unfold begins at h
  rw [h]; rfl
def pairV (E : Int) : Nat → Way
  | 0 => fun x l => .ok (x, l)
  | f + 1 => fun x l => if G.paired l then G.andThen (labelW E x l) fun x' l' => G.andThen (valueW E x' l') fun x'' l'' => pairV E f x'' l'' else .ok (x, l)
def morePairsW (E : Int) : Way := fun x l => pairV E (l.length + 1) x l
theorem pairV_stop {E : Int} {f : Nat} {x : Ins} {l : List Tok} (h : G.paired l = false) : pairV E (f + 1) x l = .ok (x, l) := by
  unfold pairV; rw [h]; rfl
def perhapsPointW (E : Int) : Way := fun x l => if begins 64 (peek0 l) then byWord x setN (G.index idxF 64 1048576 3 E l) else .ok (x, l)
end Go.Proofs.YtahhbckccdigoaaGreatDoor
namespace Go.Proofs.YtahhbckccdigoaaGreatDoor
open Go Go.RowKit
open G (Tok Er Ins Fun peek0 peek1 atOf)
/-- A list of ways at a block of its own. -/
def Row (fs : List Value) (w : World) (e : Ending) (w' : World) : Prop :=
  Below w.heap.size w w' ∧ ∃ (g cap : Nat) (cs : Array Value) (fz : Nat × Nat), e = .returned (.slice (some ⟨g, 0, none⟩) fs.length cap) ∧ fs.length ≤ cap ∧ cap ≤ 8 ∧ w.heap.size ≤ g ∧ w'.heap[g]? = some (.cells cs 152 fz) ∧ ∀ (k : Nat) (f : Value), fs[k]? = some f → cs[k]? = some f
end Go.Proofs.YtahhbckccdigoaaGreatDoor
namespace Go.Proofs.YtahhbckccdigoaaGreatDoor
open Go Go.RowKit
open G (Tok Er Ins Fun peek0 peek1 atOf)
/-- Which ways there are, by the operation. -/
def waysN : Int → List Nat
  | 1 => [152]
  | 2 => [150, 150]
  | 3 => [150, 150]
  | 4 => [150, 150]
  | 5 => [150, 150]
  | 6 => [150, 150]
  | 7 => [150, 150]
  | 8 => []
  | 9 => [150, 150]
  | 10 => [153]
  | 11 => [150, 154]
  | 12 => [150, 154]
  | 13 => [150, 154, 150]
  | 14 => [150, 154, 150]
  | 15 => [150, 154]
  | 16 => [150]
  | 17 => [150]
  | 18 => [150, 150]
  | 19 => [150, 150]
  | 20 => [151, 150, 155]
  | 21 => [156, 157, 158]
  | 22 => [150]
  | 23 => [159]
  | 24 => [150, 159]
  | 25 => [150]
  | 26 => [151]
  | 27 => [150, 151, 151]
  | 28 => [160]
  | 29 => [161]
  | _ => []
theorem Row.later {fs : List Value} {u w : World} {e : Ending} {w' : World} (h : Row fs w e w') (b : Below u.heap.size u w) : Row fs u e w' := by
  obtain ⟨h1, g, cap, cs, fz, h2, h3, h4, h5, h6⟩ := h
  exact ⟨b.trans (h1.mono b.size), g, cap, cs, fz, h2, h3, h4, Nat.le_trans b.size h5, h6⟩
end Go.Proofs.YtahhbckccdigoaaGreatDoor
namespace Go.Proofs.YtahhbckccdigoaaGreatDoor
open Go Go.RowKit
open G (Tok Er Ins Fun peek0 peek1 atOf)
def numberW (E : Int) : Way := fun x l => byWord x setN (G.anyNum numF E l)
def lettersW (E : Int) : Way := fun x l => byWord x setName (G.shaped shpF E l)
def uptoW (E most : Int) : Way := fun x l => byWord x setN (G.number numF E 0 most l)
def calleeW (E : Int) : Way := fun x l => byWord x setName (G.name namF E l)
/-- What the way of a number does. -/
def wayW (E : Int) : Nat → Way
  | 150 => valueW E
  | 151 => labelW E
  | 152 => numberW E
  | 153 => lettersW E
  | 154 => uptoW E 15
  | 155 => morePairsW E
  | 156 => perhapsPointW E
  | 157 => calleeW E
  | 158 => moreValuesW E
  | 159 => uptoW E 1048576
  | 160 => perhapsValueW E
  | 161 => uptoW E 255
  | _ => fun x l => .ok (x, l)
/-- Ways, one behind the other. -/
def runW (E : Int) : List Nat → Way
  | [] => fun x l => .ok (x, l)
  | k :: r => fun x l => G.andThen (wayW E k x l) (runW E r)
end Go.Proofs.YtahhbckccdigoaaGreatDoor
namespace Go.Proofs.YtahhbckccdigoaaGreatDoor
open Go Go.RowKit
open G (Tok Er Ins Fun peek0 peek1 atOf)
/-- Only block q may be otherwise. -/
def Far (q : Nat) (u w : World) : Prop := w.os = u.os ∧ w.tape = u.tape ∧ w.output = u.output ∧ w.heap.size = u.heap.size ∧ ∀ k, k ≠ q → w.heap[k]? = u.heap[k]?
theorem Far.refl (q : Nat) (w : World) : Far q w w := ⟨rfl, rfl, rfl, rfl, fun _ _ => rfl⟩
theorem Far.set {q : Nat} {u w : World} (h : Far q u w) (i : Nat) (v : Value) : Far q u (w.setCell ⟨q, i, none⟩ v) :=
  ⟨h.1, h.2.1, h.2.2.1, by rw [← h.2.2.2.1]; simp [World.setCell], fun k hk => (Below.heap_setCell _ _ _ _ hk).trans (h.2.2.2.2 k hk)⟩
theorem Far.kp {q B a : Nat} {u w : World} (h : Far q u w) (hq : B ≤ q) (hqa : q ≠ a) (hn : ∀ (cs : Array Value) (fz : Nat × Nat), u.heap[q]? ≠ some (.cells cs 152 fz)) : Kp B a u w :=
  ⟨⟨h.1, fun k cs fz e => by
    by_cases hk : k = q
    · subst hk; exact absurd e (hn cs fz)
    · exact (h.2.2.2.2 k hk).trans e⟩, h.2.1, ⟨h.2.2.1, fun v e => (World.cell?_of_block (h.2.2.2.2 a (Ne.symm hqa))).trans e⟩, by rw [h.2.2.2.1]; exact Nat.le_refl _, fun k h1 _ => h.2.2.2.2 k (by omega)⟩
theorem Far.own {q b e s n : Nat} {v : Value} {xs : List Value} {u w : World} (h : Far q u w) (ho : u.ownsRow b e s v n xs) (hv : v.ownBlock ≠ some q) : w.ownsRow b e s v n xs := by
  refine ⟨ho.1, ?_⟩
  rcases ho.2 with hn | ⟨g, cap, cur, hv2, hb, hg, rest⟩
  · exact .inl hn
  · exact .inr ⟨g, cap, cur, hv2, hb, (h.2.2.2.2 g (fun e => hv (by rw [hv2, ← e]; rfl))).trans hg, rest⟩
/-- The instruction's eight cells. -/
theorem InsAt.cells {B c : Nat} {x : Ins} {w : World} (h : InsAt B c x w) : ∃ va vt, (∀ i v, (insCells x va vt)[i]? = some v → w.cell? ⟨c, i, none⟩ = some v) ∧ (∀ i, w.frozen? ⟨c, i, none⟩ = false) ∧
    w.ownsRow B 3 1 va x.2.2.2.2.1.length (ints x.2.2.2.2.1) ∧ w.ownsRow B 3 1 vt x.2.2.2.2.2.1.length (ints x.2.2.2.2.2.1) ∧ (∀ c' : Nat, (∃ cs fz, w.heap[c']? = some (.cells cs 39 fz)) → va.ownBlock ≠ some c' ∧ vt.ownBlock ≠ some c') := by
  obtain ⟨va, vt, h1, h2, h3, h4, h5⟩ := h
  refine ⟨va, vt, fun i v hv => ?_, fun i => by simp [World.frozen?, h1], h2, h3, fun c' hc => ?_⟩
  · simp only [World.cell?, h1]
    simpa using hv
  · obtain ⟨cs, fz, hc⟩ := hc
    exact ⟨own_ne h2 hc (by decide), own_ne h3 hc (by decide)⟩
/-- The value of an instruction: its lists stand at blocks from B on. -/
def InsVal (B : Nat) (x : Ins) (v : Value) (w : World) : Prop :=
  ∃ va vt, v = .agg (insCells x va vt).toArray ∧ w.ownsRow B 3 1 va x.2.2.2.2.1.length (ints x.2.2.2.2.1) ∧ w.ownsRow B 3 1 vt x.2.2.2.2.2.1.length (ints x.2.2.2.2.2.1)
/-- What stands behind an instruction's value is read. -/
def instrQ (E p id : Int) (l : List Tok) : Except Er (Ins × List Tok) := G.andThen (G.opword fndF mksF E id l) fun o r => runW E (waysN o.1) (o.1, id, 0, o.2, [], [], [], p) r
def instrP (E : Int) (l : List Tok) : Except Er (Ins × List Tok) := G.andThen (G.ident idxF E l) fun id r => instrQ E (atOf E l) id r
theorem find_range (s : ByteArray) : ∀ n i, i + n ≤ 116 → (L5.findN s n i).1 = 0 ∨ (1 ≤ (L5.findN s n i).1 ∧ (L5.findN s n i).1 ≤ 29) := by
  intro n
  induction n with
  | zero => intro i _; exact .inl rfl
  | succ n ih =>
    intro i h
    unfold L5.findN
    split
    · right; constructor <;> (show _ ≤ _; simp; omega)
    · exact ih (i + 1) (by omega)
theorem fnd_range (s : List UInt8) : (fndF s).1 = 0 ∨ (1 ≤ (fndF s).1 ∧ (fndF s).1 ≤ 29) := find_range (bs s) 116 0 (by omega)
def setId (x : Ins) (v : Int) : Ins := (x.1, v, x.2.2.1, x.2.2.2.1, x.2.2.2.2.1, x.2.2.2.2.2.1, x.2.2.2.2.2.2.1, x.2.2.2.2.2.2.2)
def setOp (x : Ins) (v : Int) : Ins := (v, x.2.1, x.2.2.1, x.2.2.2.1, x.2.2.2.2.1, x.2.2.2.2.2.1, x.2.2.2.2.2.2.1, x.2.2.2.2.2.2.2)
def setTy (x : Ins) (v : Int) : Ins := (x.1, x.2.1, x.2.2.1, v, x.2.2.2.2.1, x.2.2.2.2.2.1, x.2.2.2.2.2.2.1, x.2.2.2.2.2.2.2)
theorem InsAt.setId {B c : Nat} {x : Ins} {w : World} (h : InsAt B c x w) (v : Int) : InsAt B c (setId x v) (w.setCell ⟨c, 1, none⟩ (.int .i64 v)) := h.put (fun _ _ => rfl) rfl rfl
theorem InsAt.setOp {B c : Nat} {x : Ins} {w : World} (h : InsAt B c x w) (v : Int) : InsAt B c (setOp x v) (w.setCell ⟨c, 0, none⟩ (.int .i64 v)) := h.put (fun _ _ => rfl) rfl rfl
theorem InsAt.setTy {B c : Nat} {x : Ins} {w : World} (h : InsAt B c x w) (v : Int) : InsAt B c (setTy x v) (w.setCell ⟨c, 3, none⟩ (.int .i64 v)) := h.put (fun _ _ => rfl) rfl rfl
theorem InsAt.new {B : Nat} {w : World} (hB : B ≤ w.heap.size) (p : Int) : InsAt B w.heap.size (0, -1, 0, 0, [], [], [], p) (w.alloc (.cells #[.int .i64 0, .int .i64 (-1), .int .i64 0, .int .i64 0, .slice none 0 0, .slice none 0 0, .string ⟨#[]⟩, .int .i64 p] 39)) :=
  ⟨.slice none 0 0, .slice none 0 0, heap_alloc_new w _, World.ownsRow_nil _ _ _ _, World.ownsRow_nil _ _ _ _, .inl rfl, hB⟩
/-- What stands in memory while an instruction is read, behind its value. -/
def Mid (w : World) (a c : Nat) (L : List Tok) (E : Int) (n : Nat) (x : Ins) (l : List Tok) (wk : World) : Prop :=
  Rdr (w.heap.size + 1) a L E n l wk ∧ InsAt (w.heap.size + 1) c x wk ∧ wk.heap[w.heap.size]? = some (.cells #[.int .i64 0, .int .i64 0, .int .i64 0, .int .i64 0, .slice none 0 0, .slice none 0 0, .string ⟨#[]⟩, .int .i64 0] 39 (0, 0)) ∧ Kp w.heap.size a w wk ∧ Tabs wk ∧ bulk x l ≤ L.length ∧ 2 ≤ a
theorem Mid.step {w : World} {a c : Nat} {L : List Tok} {E : Int} {n : Nat} {x : Ins} {l : List Tok} {wk wk' : World} (h : Mid w a c L E n x l wk) (b : Below wk.heap.size wk wk') : Mid w a c L E n x l wk' := by
  obtain ⟨h1, h2, h3, h4, h5, h6, h7⟩ := h
  exact ⟨h1.step b, h2.step b, (b.block _ (Array.getElem?_eq_some_iff.1 h3).1).trans h3, h4.trans (Kp.of_belowW b h4.size), h5.below b, h6, h7⟩
theorem Mid.lt {w : World} {a c : Nat} {L : List Tok} {E : Int} {n : Nat} {x : Ins} {l : List Tok} {wk : World} (h : Mid w a c L E n x l wk) : a < w.heap.size ∧ w.heap.size < c ∧ c < wk.heap.size ∧ w.heap.size < wk.heap.size := by
  obtain ⟨h1, h2, h3, h4, h5, h6, h7⟩ := h
  have := h1.suffix.2.2.2
  have := h2.lt
  have hne : a ≠ w.heap.size := by
    intro e
    obtain ⟨v, hv, _⟩ := h1
    rw [e, h3] at hv
    simp at hv
  have := (Array.getElem?_eq_some_iff.1 h3).1
  omega
theorem Mid.stepped {w : World} {a c : Nat} {L : List Tok} {E : Int} {n : Nat} {x y : Ins} {l l' : List Tok} {wk wk' : World} (h : Mid w a c L E n x l wk) (k : Kp (w.heap.size + 1) a wk wk') (r : Rdr (w.heap.size + 1) a L E n l' wk') (i : InsAt (w.heap.size + 1) c y wk') (hb : bulk y l' ≤ L.length) : Mid w a c L E n y l' wk' := by
  have hl := h.lt
  obtain ⟨h1, h2, h3, h4, h5, h6, h7⟩ := h
  exact ⟨r, i, (k.2.2.2.2 _ (by omega) (by omega)).trans h3, h4.trans (k.mono (by omega)), h5.kp k h7 (by omega), hb, h7⟩
theorem Mid.put {w : World} {a c i : Nat} {L : List Tok} {E : Int} {n : Nat} {x y : Ins} {l : List Tok} {wk : World} {v : Value} (h : Mid w a c L E n x l wk) (hi : InsAt (w.heap.size + 1) c y (wk.setCell ⟨c, i, none⟩ v)) (hb : bulk y l = bulk x l) : Mid w a c L E n y l (wk.setCell ⟨c, i, none⟩ v) := by
  have hl := h.lt
  exact h.stepped ((Kp.refl _ _ _).setCell (.inr ⟨by show _ ≤ c; omega, by show c ≠ a; omega⟩) h.2.1.not80 _) (h.1.set (by show _ ≤ c; omega) _) hi (by rw [hb]; exact h.2.2.2.2.2.1)
theorem Mid.cells {w : World} {a c : Nat} {L : List Tok} {E : Int} {n : Nat} {x : Ins} {l : List Tok} {wk : World} (h : Mid w a c L E n x l wk) :
    wk.cell? ⟨c, 0, none⟩ = some (.int .i64 x.1) ∧ wk.cell? ⟨c, 1, none⟩ = some (.int .i64 x.2.1) ∧ wk.cell? ⟨c, 3, none⟩ = some (.int .i64 x.2.2.2.1) ∧ wk.frozen? ⟨c, 0, none⟩ = false ∧ wk.frozen? ⟨c, 1, none⟩ = false ∧ wk.frozen? ⟨c, 3, none⟩ = false := by
  obtain ⟨va, vt, h1, h2, _⟩ := h.2.1.cells
  exact ⟨h1 0 _ rfl, h1 1 _ rfl, h1 3 _ rfl, h2 0, h2 1, h2 3⟩
theorem InsAt.never80 {B c : Nat} {x : Ins} {w : World} (h : InsAt B c x w) : ∀ (cs : Array Value) (fz : Nat × Nat), w.heap[c]? ≠ some (.cells cs 152 fz) := fun cs fz hc => by
  obtain ⟨va, vt, h1, _⟩ := h
  rw [h1] at hc
  simp at hc
theorem Pair.far {q g : Nat} {u w : World} {x y : Value} (h : Pair u g x y) (hf : Far q u w) (hq : g ≠ q) : Pair w g x y := by
  obtain ⟨c0, c1, f0, f1, z⟩ := h
  have e := hf.2.2.2.2 g hq
  exact ⟨(World.cell?_of_block e).trans c0, (World.cell?_of_block e).trans c1, (World.frozen?_of_block e).trans f0, (World.frozen?_of_block e).trans f1, by rw [hf.2.2.2.1]; exact z⟩
theorem below_drew (w : World) : Below w.heap.size w w.drew := (Below.refl _ _).drew
/-- Eight cells that may be written. -/
def RES8 (g : Nat) (w : World) : Prop := w.cell? ⟨g, 0, none⟩ = some (.int .i64 0) ∧ w.cell? ⟨g, 1, none⟩ = some (.int .i64 0) ∧ w.cell? ⟨g, 2, none⟩ = some (.int .i64 0) ∧ w.cell? ⟨g, 3, none⟩ = some (.int .i64 0) ∧ w.cell? ⟨g, 4, none⟩ = some (.slice none 0 0) ∧ w.cell? ⟨g, 5, none⟩ = some (.slice none 0 0) ∧ w.cell? ⟨g, 6, none⟩ = some (.string ⟨#[]⟩) ∧ w.cell? ⟨g, 7, none⟩ = some (.int .i64 0) ∧
  w.frozen? ⟨g, 0, none⟩ = false ∧ w.frozen? ⟨g, 1, none⟩ = false ∧ w.frozen? ⟨g, 2, none⟩ = false ∧ w.frozen? ⟨g, 3, none⟩ = false ∧ w.frozen? ⟨g, 4, none⟩ = false ∧ w.frozen? ⟨g, 5, none⟩ = false ∧ w.frozen? ⟨g, 6, none⟩ = false ∧ w.frozen? ⟨g, 7, none⟩ = false
theorem res8 {g : Nat} {w : World} (h : w.heap[g]? = some (.cells #[.int .i64 0, .int .i64 0, .int .i64 0, .int .i64 0, .slice none 0 0, .slice none 0 0, .string ⟨#[]⟩, .int .i64 0] 39 (0, 0))) : RES8 g w := by
  unfold RES8
  simp [World.cell?, World.frozen?, h]
theorem own_slice {w : World} {b e s n : Nat} {v : Value} {xs : List Value} (h : w.ownsRow b e s v n xs) : ∃ (ao : Option Addr) (m cap : Nat), v = .slice ao m cap := by
  rcases h.2 with ⟨hv, _⟩ | ⟨g, cap, cur, hv, _⟩
  · exact ⟨_, _, _, hv⟩
  · exact ⟨_, _, _, hv⟩
end Go.Proofs.YtahhbckccdigoaaGreatDoor
namespace Go.Proofs.YtahhbckccdigoaaGreatDoor.G
theorem then_ok {α β : Type} {x : Except Er (α × List Tok)} {f : α → Rd β} {y : β × List Tok} (h : andThen x f = .ok y) : ∃ v q, x = .ok (v, q) ∧ f v q = .ok y := by
  cases x with
  | error e => cases h
  | ok p => exact ⟨p.1, p.2, rfl, h⟩
theorem tail_len {l : List Tok} {f : Nat} (h : l.length < f + 1) (hl : l ≠ []) : l.tail.length < f := by
  cases l with
  | nil => exact absurd rfl hl
  | cons t r => simp at *; omega
section
variable {d : Int} {m : List Tok} {E E' : Int} {num : List UInt8 → Int × Int} {idx : List UInt8 → Int → Option Int} {nam : List UInt8 → Bool} {shp : List UInt8 → Int} {tks : Int → Nat} {fnd : List UInt8 → Int × Int} {mks : Int → Int → Int} {prt : Nat → List UInt8 → Bool}
theorem taken_sh {l : List Tok} (h : l.tail ≠ []) : taken (sh d l ++ m) = taken l := by
  unfold taken; rw [peek0_sh (ne_of_tail h), peek1_sh h]
theorem taken_not {l : List Tok} (hl : l ≠ []) (h : taken l = false) : taken (sh d l ++ m) = false := by
  by_cases ht : l.tail = []
  · match l, hl, ht with
    | [x], _, _ =>
      have h1 : (x.1.head? == some 37 && ([] : List UInt8) != [61]) = false := h
      have h2 : (x.1.head? == some 37) = false := by simpa using h1
      show (x.1.head? == some 37 && peek1 (sh d [x] ++ m) != [61]) = false
      rw [h2]; rfl
  · rw [taken_sh ht]; exact h
theorem paired_sh {l : List Tok} (h : l.tail ≠ []) : paired (sh d l ++ m) = paired l := by
  unfold paired; rw [peek0_sh (ne_of_tail h), peek1_sh h]
theorem paired_not {l : List Tok} (hl : l ≠ []) (h : paired l = false) : paired (sh d l ++ m) = false := by
  by_cases ht : l.tail = []
  · match l, hl, ht with
    | [x], _, _ =>
      have h1 : (x.1.head? == some 98 && x.1 != [98, 114] && ([] : List UInt8) != [58]) = false := h
      have h2 : (x.1.head? == some 98 && x.1 != [98, 114]) = false := by simpa using h1
      show (x.1.head? == some 98 && x.1 != [98, 114] && peek1 (sh d [x] ++ m) != [58]) = false
      rw [h2]; rfl
  · rw [paired_sh ht]; exact h
theorem valuesW_sim : ∀ f f' acc l v r, f ≤ f' → l.length < f → valuesW idx E f acc l = .ok (v, r) → r <:+ l ∧ (r ≠ [] → valuesW idx E' f' acc (sh d l ++ m) = .ok (v, sh d r ++ m)) := by
  intro f
  induction f with
  | zero => intro f' acc l v r _ h; omega
  | succ f ih =>
    intro f' acc l v r hf hl h
    obtain ⟨f', rfl⟩ : ∃ k, f' = k + 1 := ⟨f' - 1, by omega⟩
    simp only [valuesW] at h ⊢
    cases ht : taken l with
    | true =>
      rw [ht, if_pos rfl] at h
      obtain ⟨u, q, h1, h2⟩ := then_ok h
      obtain ⟨hne, hq, _⟩ := value_ok h1
      subst hq
      obtain ⟨s, c⟩ := ih f' (acc ++ [u]) l.tail v r (by omega) (tail_len hl hne) h2
      refine ⟨s.trans (List.tail_suffix l), fun hr => ?_⟩
      have hq := ne_of_suffix s hr
      rw [taken_sh hq, ht, if_pos rfl, (value_sim (E := E) (E' := E') l u l.tail h1).2 hq]
      exact c hr
    | false =>
      rw [ht, if_neg (by simp)] at h
      cases h
      refine ⟨List.suffix_refl _, fun hr => ?_⟩
      rw [taken_not hr ht, if_neg (by simp)]
theorem values_sim : Sim d m id (values idx E) (values idx E') := by
  intro l v r h
  exact valuesW_sim (E' := E') (l.length + 1) ((sh d l ++ m).length + 1) [] l v r (by simp [sh]) (by omega) h
theorem valuesN_sim : ∀ n acc, Sim d m id (valuesN idx E n acc) (valuesN idx E' n acc) := by
  intro n
  induction n with
  | zero => intro acc; exact Sim.done rfl
  | succ n ih => intro acc; exact Sim.then value_sim (fun v => ih (acc ++ [v]))
theorem phiW_sim : ∀ f f' to args l v r, f ≤ f' → l.length < f → phiW idx E f to args l = .ok (v, r) → r <:+ l ∧ (r ≠ [] → phiW idx E' f' to args (sh d l ++ m) = .ok (v, sh d r ++ m)) := by
  intro f
  induction f with
  | zero => intro f' to args l v r _ h; omega
  | succ f ih =>
    intro f' to args l v r hf hl h
    obtain ⟨f', rfl⟩ : ∃ k, f' = k + 1 := ⟨f' - 1, by omega⟩
    simp only [phiW] at h ⊢
    by_cases hc : to = [] ∨ paired l = true
    · rw [if_pos hc] at h
      obtain ⟨b, q, h1, h2⟩ := then_ok h
      obtain ⟨hne, hq, _⟩ := label_ok h1
      subst hq
      obtain ⟨u, q, h3, h4⟩ := then_ok h2
      obtain ⟨hne2, hq, _⟩ := value_ok h3
      subst hq
      obtain ⟨s, c⟩ := ih f' (to ++ [b]) (args ++ [u]) l.tail.tail v r (by omega) (Nat.lt_of_le_of_lt (by simp) (tail_len hl hne)) h4
      refine ⟨(s.trans (List.tail_suffix _)).trans (List.tail_suffix l), fun hr => ?_⟩
      have hq := ne_of_suffix s hr
      rw [paired_sh hne2, if_pos hc, (label_sim (E := E) (E' := E') l b l.tail h1).2 hne2]
      show andThen (value idx E' (sh d l.tail ++ m)) _ = _
      rw [(value_sim (E := E) (E' := E') l.tail u l.tail.tail h3).2 hq]
      exact c hr
    · rw [if_neg hc] at h
      cases h
      refine ⟨List.suffix_refl _, fun hr => ?_⟩
      have h1 : ¬ to = [] := fun e => hc (.inl e)
      have h2 : paired l = false := by
        cases e : paired l with
        | true => exact absurd (.inr e) hc
        | false => rfl
      rw [if_neg (by rw [paired_not hr h2]; simp [h1])]
theorem phi_sim : Sim d m id (phi idx E) (phi idx E') := by
  intro l v r h
  exact phiW_sim (E' := E') (l.length + 1) ((sh d l ++ m).length + 1) [] [] l v r (by simp [sh]) (by omega) h
theorem ret1_sim : Sim d m id (ret1 idx E) (ret1 idx E') := by
  intro l v r h
  simp only [ret1] at h ⊢
  cases ht : taken l with
  | true =>
    rw [ht, if_pos rfl] at h
    obtain ⟨s, c⟩ := Sim.then (k := id) (G := fun v => done ((0, [v], [], []) : Opd)) (G' := fun v => done ((0, [v], [], []) : Opd)) (value_sim (d := d) (m := m) (E := E) (E' := E') (idx := idx)) (fun v => Sim.done rfl) l v r h
    obtain ⟨u, q, h1, h2⟩ := then_ok h
    obtain ⟨hne, hq, _⟩ := value_ok h1
    subst hq
    refine ⟨s, fun hr => ?_⟩
    have : l.tail ≠ [] := by cases h2; exact hr
    rw [taken_sh this, ht, if_pos rfl]
    exact c hr
  | false =>
    rw [ht, if_neg (by simp)] at h
    cases h
    refine ⟨List.suffix_refl _, fun hr => ?_⟩
    rw [taken_not hr ht, if_neg (by simp)]; rfl
theorem spot_sim : Sim d m id (spot idx E) (spot idx E') := by
  intro l v r h
  simp only [spot] at h ⊢
  by_cases hc : (peek0 l).head? = some 64
  · rw [if_pos hc] at h
    obtain ⟨hne, hq, _⟩ := index_ok h
    obtain ⟨s, c⟩ := index_sim (d := d) (m := m) (E := E) (E' := E') l v r h
    refine ⟨s, fun hr => ?_⟩
    rw [peek0_sh hne, if_pos hc]
    exact c hr
  · rw [if_neg hc] at h
    cases h
    refine ⟨List.suffix_refl _, fun hr => ?_⟩
    rw [peek0_sh hr, if_neg hc]; rfl
theorem operands_sim (hn : nam [] = false) (hnum : (num []).2 ≠ 0) (hshp : shp [] ≠ 0) (op : Int) : Sim d m id (operands num idx nam shp tks E op) (operands num idx nam shp tks E' op) := by
  unfold operands
  by_cases h : op = 1
  · simp only [h, if_true]; exact Sim.then (anyNum_sim hnum) (fun _ => Sim.done rfl)
  simp only [h, if_false]; clear h
  by_cases h : op = 29
  · simp only [h, if_true]; exact Sim.then (number_sim hnum) (fun _ => Sim.done rfl)
  simp only [h, if_false]; clear h
  by_cases h : op = 10
  · simp only [h, if_true]; exact Sim.then (shaped_sim hshp) (fun _ => Sim.done rfl)
  simp only [h, if_false]; clear h
  by_cases h : op = 20
  · simp only [h, if_true]; exact Sim.then phi_sim (fun _ => Sim.done rfl)
  simp only [h, if_false]; clear h
  by_cases h : op = 21
  · simp only [h, if_true]; exact Sim.then spot_sim (fun _ => Sim.then (name_sim hn) (fun _ => Sim.then values_sim (fun _ => Sim.done rfl)))
  simp only [h, if_false]; clear h
  by_cases h : op = 28
  · simp only [h, if_true]; exact ret1_sim
  simp only [h, if_false]; clear h
  by_cases h : op = 11 ∨ op = 12 ∨ op = 15
  · simp only [h, if_true]; exact Sim.then value_sim (fun _ => Sim.then (number_sim hnum) (fun _ => Sim.done rfl))
  simp only [h, if_false]; clear h
  by_cases h : op = 13 ∨ op = 14
  · simp only [h, if_true]; exact Sim.then value_sim (fun _ => Sim.then (number_sim hnum) (fun _ => Sim.then value_sim (fun _ => Sim.done rfl)))
  simp only [h, if_false]; clear h
  by_cases h : op = 23
  · simp only [h, if_true]; exact Sim.then (number_sim hnum) (fun _ => Sim.done rfl)
  simp only [h, if_false]; clear h
  by_cases h : op = 24
  · simp only [h, if_true]; exact Sim.then value_sim (fun _ => Sim.then (number_sim hnum) (fun _ => Sim.done rfl))
  simp only [h, if_false]; clear h
  by_cases h : op = 26
  · simp only [h, if_true]; exact Sim.then label_sim (fun _ => Sim.done rfl)
  simp only [h, if_false]; clear h
  by_cases h : op = 27
  · simp only [h, if_true]; exact Sim.then value_sim (fun _ => Sim.then label_sim (fun _ => Sim.then label_sim (fun _ => Sim.done rfl)))
  simp only [h, if_false]; clear h
  exact Sim.then (valuesN_sim _ _) (fun _ => Sim.done rfl)
end
end Go.Proofs.YtahhbckccdigoaaGreatDoor.G
