/- Layer 8, the program: where each block stands; edges that go back. Layer 8: what calls hand back, as properties that stay when memory grows. Layer 6, the reference's reader, where nothing is wrong: its words; one word is looked at, or taken. Layer 6, the reference's reader, where nothing is wrong: words, names, values, labels, numbers. Layer 6, the reference's reader, where nothing is wrong: whether a value, or a pair, stands next. -/
import Derived.Test.YtnlcpfijfjbgjaaTeAB
import Derived.Test.YtnlcpfijfjbgjaaTeAE
import Derived.Test.YtnlcpfijfjbgjaaTeAF
import Derived.Test.YtnlcpfijfjbgjaaTeAG
import Derived.Test.YtnlcpfijfjbgjaaTeAL
import Derived.Test.YtnlcpfijfjbgjaaTeAO
namespace Go.Proofs.Ytnlcpfijfjbgjaa
open Go Go.RowKit
open G (Tok Er Ins Fun)
set_option maxHeartbeats 4000000 in
set_option maxRecDepth 20000 in
theorem placesP_try (nm : List UInt8) (ps : List Int) (rt pl : Int) (bl : List (List Ins)) (ao bo : Option Addr) (c cb : Nat) (w : World)
    (hv : FunV w (nm, ps, rt, bl, pl) (.agg #[.string (bs nm), .slice ao ps.length c, .int .i64 rt, .slice bo bl.length cb, .int .i64 pl])) (hF : Ful (nm, ps, rt, bl, pl)) (hT : Tos (nm, ps, rt, bl, pl)) (h0 : 0 < bl.length) :
    Calls Try.prog 27 #[.agg #[.string (bs nm), .slice ao ps.length c, .int .i64 rt, .slice bo bl.length cb, .int .i64 pl]] w fun e w' => ∃ g, e = .returned (.slice (some ⟨g, 0, none⟩) bl.length bl.length) ∧ RowAt w' w.heap.size 3 g bl.length (ints (placesF (nm, ps, rt, bl, pl))) ∧ Below w.heap.size w w' := by
  have b0 := below_box w (.cells #[.string (bs nm), .slice ao ps.length c, .int .i64 rt, .slice bo bl.length cb, .int .i64 pl] 25)
  have X0 := hide (L5.Box.new w [.string (bs nm), .slice ao ps.length c, .int .i64 rt, .slice bo bl.length cb, .int .i64 pl] 25)
  have HC := hide (succs_any (nm, ps, rt, bl, pl) _ _ (hv.below b0) hF hT)
  have HO := hide (fun no nc w hr => places_try (nm, ps, rt, bl, pl) no nc w hr hF hT h0)
  have B0 := hide b0
  clear b0 hv hF hT h0
  go_enter Try.func27, Try.ntmps27
  go_upto_region 1 with fail
  show Code.wp _ _ _ _ (w.alloc (.cells #[.string (bs nm), .slice ao ps.length c, .int .i64 rt, .slice bo bl.length cb, .int .i64 pl] 25))
  replace X0 : Hid (L5.Box (w.alloc (.cells #[.string (bs nm), .slice ao ps.length c, .int .i64 rt, .slice bo bl.length cb, .int .i64 pl] 25)) w.heap.size [.string (bs nm), .slice ao ps.length c, .int .i64 rt, .slice bo bl.length cb, .int .i64 pl]) := X0
  generalize w.alloc (.cells #[.string (bs nm), .slice ao ps.length c, .int .i64 rt, .slice bo bl.length cb, .int .i64 pl] 25) = W at *
  obtain ⟨x0, x1, x2, x3, x4⟩ : _ ∧ _ ∧ _ ∧ _ ∧ _ := ⟨X0.out.2 0 _ rfl, X0.out.2 1 _ rfl, X0.out.2 2 _ rfl, X0.out.2 3 _ rfl, X0.out.2 4 _ rfl⟩
  go_wp2_with fail
  refine HC.out.mono ?_; rintro e w1 ⟨v, rfl, hr, b1⟩
  obtain ⟨no, nc, rfl, hrr⟩ := succs_read hr
  have HO1 := hide (HO.out no nc w1 hrr)
  have B1 := hide b1
  clear x0 x1 x2 x3 x4 hr hrr b1 HC HO
  go_wp2_with fail
  refine HO1.out.mono ?_; rintro e w2 ⟨g, rfl, hu, b2⟩
  have HE := hide (And.intro (hu.base (Nat.le_trans B0.out.size B1.out.size)) (below_step B0.out (below_step B1.out b2)))
  clear hu b2 HO1
  go_wp2_with fail
  go_ret
  exact ⟨g, rfl, HE.out.1, HE.out.2⟩
theorem placesP_any (f : Fun) (v : Value) (w : World) (hv : FunV w f v) (hF : Ful f) (hT : Tos f) (h0 : 0 < f.2.2.2.1.length) :
    Calls Try.prog 27 #[v] w fun e w' => ∃ g, e = .returned (.slice (some ⟨g, 0, none⟩) f.2.2.2.1.length f.2.2.2.1.length) ∧ RowAt w' w.heap.size 3 g f.2.2.2.1.length (ints (placesF f)) ∧ Below w.heap.size w w' := by
  obtain ⟨nm, ps, rt, bl, pl⟩ := f
  have hv2 := hv
  obtain ⟨vp, vb, rfl, ⟨ao, c, rfl, h1, _⟩, h2⟩ := hv
  obtain ⟨bo, cb, rfl, _⟩ := h2
  exact placesP_try nm ps rt pl bl ao bo c cb w hv2 hF hT h0
end Go.Proofs.Ytnlcpfijfjbgjaa
namespace Go.Proofs.Ytnlcpfijfjbgjaa
open Go Go.RowKit
open G (Tok Er Ins Fun)
open Mix (Up)
/-- Pairs that lie one by one. -/
def PairsV (w : World) (l : List (Int × Int)) (v : Value) : Prop := ∃ ao c, v = .slice ao l.length c ∧ (l = [] ∨ ∃ b, ao = some ⟨b, 0, none⟩ ∧ b < w.heap.size ∧ ∀ (i : Nat) (p : Int × Int), l[i]? = some p → w.cell? ⟨b, i * 2, none⟩ = some (.int .i64 p.1) ∧ w.cell? ⟨b, i * 2 + 1, none⟩ = some (.int .i64 p.2)) ∧ l.length ≤ maxLen
theorem PairsV.below {w w' : World} {l : List (Int × Int)} {v : Value} (h : PairsV w l v) (hb : Below w.heap.size w w') : PairsV w' l v := by
  obtain ⟨ao, c, e, h1, h2⟩ := h
  refine ⟨ao, c, e, ?_, h2⟩
  rcases h1 with h1 | ⟨b, e2, hl, hc⟩
  · exact .inl h1
  · exact .inr ⟨b, e2, Nat.lt_of_lt_of_le hl hb.size, fun i p hi => ⟨(hb.cell (p := ⟨b, i * 2, none⟩) hl).trans (hc i p hi).1, (hb.cell (p := ⟨b, i * 2 + 1, none⟩) hl).trans (hc i p hi).2⟩⟩
def Up.rows (ll : List (List Int)) : Up := ⟨fun v w => RowsV w ll v, fun _ _ _ b h => h.below b⟩
def Up.ints (l : List Int) : Up := ⟨fun v w => IntsV w l v, fun _ _ _ b h => h.below b⟩
def Up.pairs (l : List (Int × Int)) : Up := ⟨fun v w => PairsV w l v, fun _ _ _ b h => h.below b⟩
theorem calls_exist {P : Program} {f : FuncId} {args : Array Value} {w : World} {R : Ending → World → Prop} (h : Calls P f args w R) : ∃ e w', R e w' := by
  obtain ⟨e, w', _, h1, _⟩ := h []
  exact ⟨e, w', h1⟩
theorem valid_of {W : World} {F : Tmp → Up} {d : Tmp} {f : FuncId} {args : Array Value} (h : Calls Try.prog f args W fun e w' => ∃ v, e = .returned v ∧ Below W.heap.size W w' ∧ (F d).1 v w') : ∃ v, Mix.Valid W F (some d) v := by
  obtain ⟨e, w', v, _, b, hf⟩ := calls_exist h
  exact ⟨v, w', b, fun d' hd => by cases hd; exact hf⟩
theorem valid_eq {W : World} {F : Tmp → Up} {d : Tmp} (c : Value) (h : (F d).1 c W) : ∃ v, Mix.Valid W F (some d) v := ⟨c, W, Below.refl _ _, fun d' hd => by cases hd; exact h⟩
end Go.Proofs.Ytnlcpfijfjbgjaa
namespace Go.Proofs.Ytnlcpfijfjbgjaa
open Go Go.RowKit
open G (Tok Er Ins Fun peek0 peek1 atOf)
/-- All blocks but a are as they were. -/
def Kr (a : Nat) (w w' : World) : Prop := w'.os = w.os ∧ w'.tape = w.tape ∧ w'.output = w.output ∧ w.heap.size ≤ w'.heap.size ∧ ∀ k, k < w.heap.size → k ≠ a → w'.heap[k]? = w.heap[k]?
theorem Kr.refl (a : Nat) (w : World) : Kr a w w := ⟨rfl, rfl, rfl, Nat.le_refl _, fun _ _ _ => rfl⟩
theorem Kr.trans {a : Nat} {u v w : World} (h : Kr a u v) (k : Kr a v w) : Kr a u w :=
  ⟨k.1.trans h.1, k.2.1.trans h.2.1, k.2.2.1.trans h.2.2.1, Nat.le_trans h.2.2.2.1 k.2.2.2.1, fun i h1 h2 => (k.2.2.2.2 i (Nat.lt_of_lt_of_le h1 h.2.2.2.1) h2).trans (h.2.2.2.2 i h1 h2)⟩
theorem Kr.of_below {a : Nat} {u v : World} (h : Below u.heap.size u v) : Kr a u v := ⟨h.os, h.tape, h.output, h.size, fun i h1 _ => h.block i h1⟩
theorem Kr.size {a : Nat} {u v : World} (h : Kr a u v) : u.heap.size ≤ v.heap.size := h.2.2.2.1
theorem Kr.step {a : Nat} {u v w : World} (h : Kr a u v) (k : Below v.heap.size v w) : Kr a u w := h.trans (Kr.of_below k)
theorem Kr.below {a B : Nat} {u v : World} (h : Kr a u v) (ha : B ≤ a) (hB : B ≤ u.heap.size) : Below B u v := ⟨h.1, h.2.1, h.2.2.1, h.2.2.2.1, fun i h1 => h.2.2.2.2 i (by omega) (by omega)⟩
theorem Kr.set {a i : Nat} {u w : World} (h : Kr a u w) (x : Value) : Kr a u (w.setCell ⟨a, i, none⟩ x) := by
  have hb := (Below.refl 0 w).setCell (p := ⟨a, i, none⟩) (Nat.zero_le a) x
  exact h.trans ⟨hb.os, hb.tape, hb.output, hb.size, fun k _ h2 => Below.heap_setCell w ⟨a, i, none⟩ x k h2⟩
/-- The reference's reader at block a, where nothing was wrong; l are the words that are left. -/
def RR (a : Nat) (L : List Tok) (E : Int) (n : Nat) (l : List Tok) (w : World) : Prop :=
  ∃ v, w.heap[a]? = some (.cells #[v, .int .i64 ((L.length - l.length : Nat) : Int), .int .i64 E, .int .i64 (n : Int), .int .i64 0, .int .i64 0] 82 (0, 0)) ∧ w.ownsRow 0 92 2 v L.length (cellsK L) ∧ l <:+ L ∧ (L.length ≤ 131072 ∧ ∀ t ∈ L, t.1.length ≤ 65536) ∧ n ≤ 4096
theorem RR.lt {a : Nat} {L : List Tok} {E : Int} {n : Nat} {l : List Tok} {w : World} (h : RR a L E n l w) : a < w.heap.size := by
  obtain ⟨v, h1, _⟩ := h; exact (Array.getElem?_eq_some_iff.1 h1).1
theorem RR.keep {a : Nat} {L : List Tok} {E : Int} {n : Nat} {l : List Tok} {w w' : World} (h : RR a L E n l w) (hb : ∀ k, k < w.heap.size → w'.heap[k]? = w.heap[k]?) : RR a L E n l w' := by
  obtain ⟨v, h1, h2, h3⟩ := h
  refine ⟨v, (hb a (Array.getElem?_eq_some_iff.1 h1).1).trans h1, ⟨h2.1, ?_⟩, h3⟩
  rcases h2.2 with hn | ⟨g, cap, cur, hv2, hbb, hg, rest⟩
  · exact .inl hn
  · exact .inr ⟨g, cap, cur, hv2, hbb, (hb g (Array.getElem?_eq_some_iff.1 hg).1).trans hg, rest⟩
theorem RR.below {a : Nat} {L : List Tok} {E : Int} {n : Nat} {l : List Tok} {w w' : World} (h : RR a L E n l w) (b : Below w.heap.size w w') : RR a L E n l w' := h.keep fun k hk => b.block k hk
theorem RR.short {a : Nat} {L : List Tok} {E : Int} {n : Nat} {l : List Tok} {w : World} (h : RR a L E n l w) : (peek0 l).length ≤ 65536 ∧ (peek1 l).length ≤ 65536 := by
  obtain ⟨v, h1, h2, h5, h6, h7⟩ := h
  refine ⟨?_, ?_⟩
  · cases l with
    | nil => simp [peek0]
    | cons t r => exact h6.2 t (h5.subset (by simp))
  · match l, h5 with
    | [], _ => simp [peek1]
    | [_], _ => simp [peek1]
    | _ :: t :: r, h5 => exact h6.2 t (h5.subset (by simp))
theorem RR.cells {a : Nat} {L : List Tok} {E : Int} {n : Nat} {l : List Tok} {w : World} (h : RR a L E n l w) :
    ∃ ao cap, w.cell? ⟨a, 0, none⟩ = some (.slice ao L.length cap) ∧ w.cell? ⟨a, 1, none⟩ = some (.int .i64 ((L.length - l.length : Nat) : Int)) ∧ w.cell? ⟨a, 2, none⟩ = some (.int .i64 E) ∧ w.cell? ⟨a, 3, none⟩ = some (.int .i64 (n : Int)) ∧ w.cell? ⟨a, 4, none⟩ = some (.int .i64 0) ∧ w.cell? ⟨a, 5, none⟩ = some (.int .i64 0) ∧
      (∀ j, w.frozen? ⟨a, j, none⟩ = false) ∧ (L = [] ∨ ∃ g, ao = some ⟨g, 0, none⟩ ∧ ∀ j t, L[j]? = some t → w.cell? ⟨g, j * 2, none⟩ = some (.string (bs t.1)) ∧ w.cell? ⟨g, j * 2 + 1, none⟩ = some (.int .i64 t.2)) := by
  obtain ⟨v, h1, h2, h5, h6, h7⟩ := h
  rcases h2.2 with ⟨hv, hn⟩ | ⟨g, cap, cur, hv2, hbb, hg, hc1, hc2, hc3, hc4⟩
  · subst hv
    have e : L = [] := List.length_eq_zero_iff.1 hn
    subst e
    exact ⟨none, 0, by simp [World.cell?, h1], by simp [World.cell?, h1], by simp [World.cell?, h1], by simp [World.cell?, h1], by simp [World.cell?, h1], by simp [World.cell?, h1], fun j => by simp [World.frozen?, h1], .inl rfl⟩
  · subst hv2
    refine ⟨some ⟨g, 0, none⟩, cap, by simp [World.cell?, h1], by simp [World.cell?, h1], by simp [World.cell?, h1], by simp [World.cell?, h1], by simp [World.cell?, h1], by simp [World.cell?, h1], fun j => by simp [World.frozen?, h1], .inr ⟨g, rfl, fun j t hj => ?_⟩⟩
    have hc := h2.cells (g := g) rfl
    obtain ⟨k1, k2⟩ := cellsK_at L j t hj
    have e1 := hc _ _ k1
    have e2 := hc _ _ k2
    rw [Addr.add_lit, Nat.zero_add, Nat.mul_comm] at e1 e2
    exact ⟨e1, e2⟩
theorem RR.eat {a : Nat} {L : List Tok} {E : Int} {n : Nat} {l : List Tok} {w : World} (h : RR a L E n l w) (hl : l ≠ []) : RR a L E n l.tail (w.setCell ⟨a, 1, none⟩ (.int .i64 (((L.length - l.length : Nat) : Int) + 1))) := by
  obtain ⟨v, h1, h2, h5, h6, h7⟩ := h
  refine ⟨v, ?_, own_setCell h2 (own_ne h2 h1 (by decide)) _, (List.tail_suffix l).trans h5, h6, h7⟩
  rw [heap_setCell_same w a 1 _ 82 _ h1]
  have e : ((L.length - l.length : Nat) : Int) + 1 = ((L.length - l.tail.length : Nat) : Int) := by
    have := h5.length_le
    cases l with
    | nil => exact absurd rfl hl
    | cons t r => simp at *; omega
  rw [e]; rfl
theorem RR.kr {a : Nat} {w : World} (i : Nat) (x : Value) : Kr a w (w.setCell ⟨a, i, none⟩ x) := (Kr.refl a w).set x
/-- A word so far ahead. -/
def pk (i : Nat) (l : List Tok) : List UInt8 := match l[i]? with
  | some t => t.1
  | none => []
theorem pk0 (l : List Tok) : pk 0 l = peek0 l := by cases l <;> rfl
theorem pk1 (l : List Tok) : pk 1 l = peek1 l := by
  match l with
  | [] => rfl
  | [_] => rfl
  | _ :: t :: r => rfl
set_option maxHeartbeats 1000000 in
set_option maxRecDepth 20000 in
theorem rpeek (i : Nat) {a : Nat} {L : List Tok} {E : Int} {n : Nat} {l : List Tok} (w : World) (h : RR a L E n l w) (hi : i ≤ 1) :
    Calls Try.prog 59 #[.pointer (some ⟨a, 0, none⟩), .int .i64 i] w fun e w' => e = .returned (.string (bs (pk i l))) ∧ Below w.heap.size w w' := by
  obtain ⟨ao, cap, c0, c1, c2, c3, c4, c5, fz, hL⟩ := h.cells
  obtain ⟨v, h1, h2, h5, h6, h7⟩ := h
  have hLL := h6.1
  have hll := h5.length_le
  by_cases hlt : L.length - l.length + i < L.length
  · obtain ⟨t, ht⟩ : ∃ t, L[L.length - l.length + i]? = some t := ⟨_, List.getElem?_eq_getElem hlt⟩
    have HP : Hid (bs t.1 = bs (pk i l)) := hide (by
      have e := Rdr.word h5 i
      rw [ht] at e
      unfold pk; rw [← e])
    rcases hL with hL | ⟨g, rfl, hg⟩
    · subst hL; simp at hlt
    have hc := (hg _ t ht).1
    have hlt' : (((L.length - l.length : Nat) : Int) + (i : Int)) < L.length := by omega
    have hge : ¬ (L.length : Int) ≤ ((L.length - l.length : Nat) : Int) + (i : Int) := by omega
    have hidx : ((L.length - l.length : Nat) : Int) + (i : Int) = ((L.length - l.length + i : Nat) : Int) := by omega
    clear hg ht h1 h2 h5 h6 fz c2 c3 c5
    generalize L.length - l.length = q at *
    obtain ⟨m, hm⟩ : ∃ m : Nat, m = q + i := ⟨_, rfl⟩
    have hw : IntKind.i64.wrap ((q : Int) + (i : Int)) = (m : Int) := by rw [IntWalk.i64_in _ ⟨by omega, by omega⟩]; omega
    have hg1 : decide ((L.length : Int) ≤ (m : Int)) = false := by simp; omega
    have hm1 : (m : Int) < L.length := by omega
    have hm0 : (0 : Int) ≤ m := by omega
    rw [← hm] at hc
    clear hge hlt hm hlt' hidx
    go_enter Try.func59, Try.ntmps59
    go_wp2_with fail
    go_quiet (fail)
    go_wp2_with fail
    go_quiet (fail)
    go_wp2_with fail
    go_ret
    exact ⟨L5.ret_str HP.out, ⟨rfl, rfl, rfl, Nat.le_refl _, fun _ _ => rfl⟩⟩
  · have HP : Hid (bs [] = bs (pk i l)) := hide (by
      have e := Rdr.word h5 i
      rw [List.getElem?_eq_none (by omega)] at e
      unfold pk; rw [← e])
    have hge : (L.length : Int) ≤ ((L.length - l.length : Nat) : Int) + (i : Int) := by omega
    clear h1 h2 h5 h6 hL fz c2 c3 c5
    have hq : L.length - l.length ≤ L.length := by omega
    generalize L.length - l.length = q at *
    obtain ⟨m, hm⟩ : ∃ m : Nat, m = q + i := ⟨_, rfl⟩
    have hw : IntKind.i64.wrap ((q : Int) + (i : Int)) = (m : Int) := by rw [IntWalk.i64_in _ ⟨by omega, by omega⟩]; omega
    have hg1 : decide ((L.length : Int) ≤ (m : Int)) = true := by simp; omega
    have hg2 : (L.length : Int) ≤ (m : Int) := by omega
    have hg3 : L.length ≤ m := by omega
    clear hge hlt hm
    go_enter Try.func59, Try.ntmps59
    go_wp2_with fail
    go_quiet (fail)
    go_wp2_with fail
    go_ret
    exact ⟨L5.ret_str HP.out, ⟨rfl, rfl, rfl, Nat.le_refl _, fun _ _ => rfl⟩⟩
end Go.Proofs.Ytnlcpfijfjbgjaa
namespace Go.Proofs.Ytnlcpfijfjbgjaa
open Go Go.RowKit
open G (Tok Er Ins Fun peek0 peek1 atOf)
theorem rpeek0 {s : List UInt8} {a : Nat} {L : List Tok} {E : Int} {n : Nat} {l : List Tok} (w : World) (h : RR a L E n l w) (hs : peek0 l = s) :
    Calls Try.prog 59 #[.pointer (some ⟨a, 0, none⟩), .int .i64 0] w fun e w' => e = .returned (.string (bs s)) ∧ Below w.heap.size w w' := by
  have := rpeek 0 w h (by omega)
  rw [pk0, hs] at this
  exact this
theorem rpeek1 {s : List UInt8} {a : Nat} {L : List Tok} {E : Int} {n : Nat} {l : List Tok} (w : World) (h : RR a L E n l w) (hs : peek1 l = s) :
    Calls Try.prog 59 #[.pointer (some ⟨a, 0, none⟩), .int .i64 1] w fun e w' => e = .returned (.string (bs s)) ∧ Below w.heap.size w w' := by
  have := rpeek 1 w h (by omega)
  rw [pk1, hs] at this
  exact this
/-- What taking a word leaves. -/
def Ate (a : Nat) (L : List Tok) (E : Int) (n : Nat) (l : List Tok) (w w' : World) : Prop := RR a L E n l w' ∧ Kr a w w'
theorem ate_of {a : Nat} {L : List Tok} {E : Int} {n : Nat} {l : List Tok} {w w1 : World} (h : RR a L E n l w) (b : Below w.heap.size w w1) (hl : l ≠ []) : Ate a L E n l.tail w (w1.setCell ⟨a, 1, none⟩ (.int .i64 (((L.length - l.length : Nat) : Int) + 1))) :=
  ⟨(h.below b).eat hl, (Kr.of_below b).set _⟩
theorem RR.at1 {a : Nat} {L : List Tok} {E : Int} {n : Nat} {l : List Tok} {w : World} (h : RR a L E n l w) : w.cell? ⟨a, 1, none⟩ = some (.int .i64 ((L.length - l.length : Nat) : Int)) ∧ w.frozen? ⟨a, 1, none⟩ = false ∧ w.cell? ⟨a, 4, none⟩ = some (.int .i64 0) ∧ ((L.length - l.length : Nat) : Int) ≤ 131072 := by
  have hl : L.length ≤ 131072 := by obtain ⟨v, h1, h2, h5, h6, h7⟩ := h; exact h6.1
  obtain ⟨ao, cap, c0, c1, c2, c3, c4, c5, fz, hL⟩ := h.cells
  exact ⟨c1, fz 1, c4, by omega⟩
theorem endP' {P : Program} {fn : Func} {R : Ending → World → Prop} {t : Array Value} {d : List Deferred} {w : World} (hr : fn.results = #[]) (hd : d = []) (hR : R (.returned (.tuple #[])) w) : bodyPost P fn R .normal { tmps := t, defers := d } w :=
  bodyPost_end (results_none hr _ _ _) hd hR
theorem bs_beq (s : List UInt8) : ((bs s).toList == (bs s).toList) = true := by simp
set_option maxRecDepth 20000 in
theorem rwant (s : List UInt8) {a : Nat} {L : List Tok} {E : Int} {n : Nat} {l : List Tok} (w : World) (h : RR a L E n l w) (hs : peek0 l = s) (hne : s ≠ []) :
    Calls Try.prog 57 #[.pointer (some ⟨a, 0, none⟩), .string (bs s)] w fun e w' => e = .returned (.tuple #[]) ∧ Ate a L E n l.tail w w' := by
  have hl : l ≠ [] := fun e => by subst e; exact hne hs.symm
  obtain ⟨c1, z1, c4, hq⟩ := h.at1
  have H := hide h
  have HS := hide hs
  have he := bs_beq s
  clear h hs hne c1 z1
  go_enter Try.func57, Try.ntmps57
  go_wp2_with fail
  refine (rpeek0 w H.out HS.out).mono ?_; rintro e w1 ⟨rfl, b1⟩
  obtain ⟨c1, z1, c4', _⟩ := (H.out.below b1).at1
  have HA := hide (ate_of H.out b1 hl)
  clear b1 c4 c4'
  generalize L.length - l.length = q at *
  go_wp2_with fail
  exact endP' rfl rfl ⟨rfl, HA.out⟩
theorem namF_ne {s : List UInt8} (h : namF s = true) : s ≠ [] := fun e => by subst e; rw [nam_nil] at h; cases h
set_option maxRecDepth 20000 in
theorem rname (s : List UInt8) {a : Nat} {L : List Tok} {E : Int} {n : Nat} {l : List Tok} (w : World) (h : RR a L E n l w) (hs : peek0 l = s) (hn : namF s = true) :
    Calls Try.prog 58 #[.pointer (some ⟨a, 0, none⟩)] w fun e w' => e = .returned (.string (bs s)) ∧ Ate a L E n l.tail w w' := by
  have hl : l ≠ [] := fun e => by subst e; exact namF_ne hn hs.symm
  have hsz : (bs s).size ≤ maxLen := by rw [bs_size, ← hs]; have := h.short.1; unfold maxLen; omega
  have H := hide h
  have HS := hide hs
  have HN : Hid (L2.nameB s = true) := hide hn
  clear h hs hn
  go_enter Try.func58, Try.ntmps58
  go_wp2_with fail
  refine (rpeek0 w H.out HS.out).mono ?_; rintro e w1 ⟨rfl, b1⟩
  go_wp2_with fail
  refine (L2.rname_any (bs s) w1 hsz).mono ?_; rintro e w2 ⟨rfl, hw2⟩
  rw [hw2, bs_data, HN.out]
  clear hw2
  obtain ⟨c1, z1, c4, hq⟩ := (H.out.below b1).at1
  have HA := hide (ate_of H.out b1 hl)
  clear b1 c4
  generalize L.length - l.length = q at *
  go_wp2_with fail
  go_ret
  exact ⟨rfl, HA.out⟩
theorem mark_some {c : UInt8} {most v : Int} {s : List UInt8} (h : G.mark idxF c most s = some v) : ∃ r, s = c :: r ∧ r ≠ [] ∧ (L1.indexNum r most) = (v, 0) := by
  match s, h with
  | x :: y :: r, g =>
    clear h
    have h : (if x = c then idxF (y :: r) most else none) = some v := g
    clear g
    by_cases hx : x = c
    · rw [if_pos hx] at h
      subst hx
      refine ⟨y :: r, rfl, by simp, ?_⟩
      unfold idxF at h
      by_cases h0 : (L1.indexNum (y :: r) most).2 = 0
      · rw [if_pos h0] at h
        injection h with h1
        exact Prod.ext h1 h0
      · rw [if_neg h0] at h
        cases h
    · rw [if_neg hx] at h
      cases h
  | [x], h => cases h
  | [], h => cases h
theorem bs_tail (c : UInt8) (r : List UInt8) : (bs (c :: r)).extract 1 (bs (c :: r)).size = bs r := by
  apply ByteArray.ext
  apply Array.ext'
  rw [L1.extract_tail]
  rfl
set_option maxHeartbeats 1000000 in
set_option maxRecDepth 20000 in
theorem rindex (c : UInt8) (most k v : Int) {s : List UInt8} {a : Nat} {L : List Tok} {E : Int} {n : Nat} {l : List Tok} (w : World) (h : RR a L E n l w) (hs : peek0 l = s) (hm : G.mark idxF c most s = some v) :
    Calls Try.prog 71 #[.pointer (some ⟨a, 0, none⟩), .int .u8 (c.toNat : Int), .int .i64 most, .int .i64 k] w fun e w' => e = .returned (.int .i64 v) ∧ Ate a L E n l.tail w w' := by
  obtain ⟨r, rfl, hr, hi⟩ := mark_some hm
  have hl : l ≠ [] := fun e => by subst e; cases hs
  have hsh := h.short.1
  rw [hs] at hsh
  have HZ := hide (bs_size (c :: r))
  obtain ⟨C, hC⟩ : ∃ C, C = bs (c :: r) := ⟨_, rfl⟩
  have hz2 : 2 ≤ C.size := by rw [hC, bs_size]; cases r with | nil => exact absurd rfl hr | cons x y => simp
  have hz1 : decide ((C.size : Int) < 2) = false := by simp; omega
  have hz4 : 0 < C.size := by omega
  have hz5 : 1 ≤ C.size := by omega
  have hz3 : C.size ≤ 65536 := by rw [hC, bs_size]; exact hsh
  have hrz : (bs r).size ≤ maxLen := by rw [bs_size]; simp at hsh; unfold maxLen; omega
  have hT : C.extract 1 C.size = bs r := by rw [hC]; exact bs_tail c r
  have h0 : (C[0].toNat : Int) = (c.toNat : Int) := by subst hC; rfl
  have H := hide h
  have HS : Hid (bs (peek0 l) = C) := hide (by rw [hs, hC])
  have HI := hide hi
  clear h hs hm hr hi hsh hC
  go_enter Try.func71, Try.ntmps71
  go_wp2_with fail
  refine (rpeek0 w H.out rfl).mono ?_; rintro e w1 ⟨rfl, b1⟩
  rw [HS.out]
  go_wp2_with fail
  refine (L1.refIndex_any (bs r) most w1 hrz).mono ?_; rintro e w2 ⟨rfl, n2, hw2⟩
  rw [bs_data, HI.out]
  have b2 : Below w.heap.size w w2 := by rw [hw2]; exact below_drewN b1 _
  clear hw2 b1
  obtain ⟨c1, z1, c4, hq⟩ := (H.out.below b2).at1
  have HA := hide (ate_of H.out b2 hl)
  clear b2 c4
  generalize L.length - l.length = q at *
  go_wp2_with fail
  go_ret
  exact ⟨rfl, HA.out⟩
theorem rvalue {v : Int} {l r : List Tok} {a : Nat} {L : List Tok} {E : Int} {n : Nat} (w : World) (h : RR a L E n l w) (hv : G.value idxF E l = .ok (v, r)) :
    Calls Try.prog 67 #[.pointer (some ⟨a, 0, none⟩)] w fun e w' => e = .returned (.int .i64 v) ∧ Ate a L E n r w w' := by
  obtain ⟨_, rfl, hm⟩ := G.value_ok hv
  have H := hide h
  clear h hv
  go_enter Try.func67, Try.ntmps67
  go_wp2_with fail
  refine (rindex 37 1048576 8 v w H.out rfl hm).mono ?_; rintro e w1 ⟨rfl, b1⟩
  have HB := hide b1
  clear b1 hm
  go_wp2_with fail
  go_ret
  exact ⟨rfl, HB.out⟩
theorem rlabel {v : Int} {l r : List Tok} {a : Nat} {L : List Tok} {E : Int} {n : Nat} (w : World) (h : RR a L E n l w) (hv : G.label idxF E l = .ok (v, r)) :
    Calls Try.prog 88 #[.pointer (some ⟨a, 0, none⟩)] w fun e w' => e = .returned (.int .i64 v) ∧ Ate a L E n r w w' := by
  obtain ⟨_, rfl, hm⟩ := G.label_ok hv
  have H := hide h
  clear h hv
  go_enter Try.func88, Try.ntmps88
  go_wp2_with fail
  refine (rindex 98 255 7 v w H.out rfl hm).mono ?_; rintro e w1 ⟨rfl, b1⟩
  have HB := hide b1
  clear b1 hm
  go_wp2_with fail
  go_ret
  exact ⟨rfl, HB.out⟩
/-- A word is a number between two. -/
theorem rnumber (lo hi v : Int) {l : List Tok} {a : Nat} {L : List Tok} {E : Int} {n : Nat} (w : World) (h : RR a L E n l w) (hv : numF (peek0 l) = (v, 0)) (h1 : lo ≤ v) (h2 : v ≤ hi) :
    Calls Try.prog 75 #[.pointer (some ⟨a, 0, none⟩), .int .i64 lo, .int .i64 hi] w fun e w' => e = .returned (.int .i64 v) ∧ Ate a L E n l.tail w w' := by
  have hl : l ≠ [] := fun e => by subst e; exact num_nil (congrArg Prod.snd hv)
  have hsz : (bs (peek0 l)).size ≤ maxLen := by rw [bs_size]; have := h.short.1; unfold maxLen; omega
  have H := hide h
  have HV : Hid (L1.readNum (peek0 l) = (v, 0)) := hide hv
  have g1 : decide (v < lo) = false := by simp; omega
  have g2 : decide (hi < v) = false := by simp; omega
  have g3 : ¬ v < lo := by omega
  have g4 : ¬ hi < v := by omega
  clear h hv
  go_enter Try.func75, Try.ntmps75
  go_wp2_with fail
  refine (rpeek0 w H.out rfl).mono ?_; rintro e w1 ⟨rfl, b1⟩
  go_wp2_with fail
  refine (L1.refParse_any (bs (peek0 l)) w1 hsz).mono ?_; rintro e w2 ⟨rfl, n2, hw2⟩
  rw [bs_data, HV.out]
  have b2 : Below w.heap.size w w2 := by rw [hw2]; exact below_drewN b1 _
  clear hw2 b1
  obtain ⟨c1, z1, c4, hq⟩ := (H.out.below b2).at1
  have HA := hide (ate_of H.out b2 hl)
  clear b2 c4
  generalize L.length - l.length = q at *
  go_wp2_with fail
  go_ret
  exact ⟨rfl, HA.out⟩
theorem number_ok {E lo hi v : Int} {l r : List Tok} (h : G.number numF E lo hi l = .ok (v, r)) : r = l.tail ∧ numF (peek0 l) = (v, 0) ∧ lo ≤ v ∧ v ≤ hi := by
  obtain ⟨_, rfl, h3⟩ := G.one_ok (by simp [num_nil]) h
  by_cases hc : (numF (peek0 l)).2 ≠ 0 ∨ (numF (peek0 l)).1 < lo ∨ hi < (numF (peek0 l)).1
  · simp only [if_pos hc] at h3; cases h3
  · simp only [if_neg hc] at h3
    injection h3 with h4
    have e2 : (numF (peek0 l)).2 = 0 := Classical.byContradiction fun hn => hc (.inl hn)
    refine ⟨rfl, Prod.ext h4 e2, ?_, ?_⟩
    · rw [← h4]; omega
    · rw [← h4]; omega
theorem anyNum_ok {E v : Int} {l r : List Tok} (h : G.anyNum numF E l = .ok (v, r)) : r = l.tail ∧ numF (peek0 l) = (v, 0) := by
  obtain ⟨_, rfl, h3⟩ := G.one_ok (by simp [num_nil]) h
  by_cases hc : (numF (peek0 l)).2 ≠ 0
  · simp only [if_pos hc] at h3; cases h3
  · simp only [if_neg hc] at h3
    injection h3 with h4
    exact ⟨rfl, Prod.ext h4 (Classical.byContradiction fun hn => hc hn)⟩
end Go.Proofs.Ytnlcpfijfjbgjaa
namespace Go.Proofs.Ytnlcpfijfjbgjaa
open Go Go.RowKit
open G (Tok Er Ins Fun peek0 peek1 atOf)
theorem eq_word (s t : List UInt8) : ((bs s).toList == t) = decide (s = t) := by
  rw [ByteArray.toList_eq, bs_data]
  by_cases h : s = t
  · subst h; simp
  · simp [h]
/-- What a word is to a question after its first sign. -/
theorem first_of (c : UInt8) (s : List UInt8) : (s = [] ∧ ((bs s).toList == []) = true) ∨ (∃ x r, s = x :: r ∧ ((bs s).toList == []) = false ∧ 0 < (bs s).size ∧ ((x = c ∧ ∀ h : 0 < (bs s).size, ((bs s)[0].toNat : Int) = (c.toNat : Int)) ∨ (x ≠ c ∧ ∀ h : 0 < (bs s).size, (((bs s)[0].toNat : Int) == (c.toNat : Int)) = false))) := by
  cases s with
  | nil => exact .inl ⟨rfl, (eq_word [] []).trans (by simp)⟩
  | cons x r =>
    refine .inr ⟨x, r, rfl, (eq_word (x :: r) []).trans (by simp), by rw [bs_size]; simp, ?_⟩
    by_cases hx : x = c
    · exact .inl ⟨hx, fun _ => by subst hx; rfl⟩
    · refine .inr ⟨hx, fun _ => ?_⟩
      have : (bs (x :: r))[0] = x := rfl
      rw [this]
      have h2 : x.toNat ≠ c.toNat := fun e => hx (UInt8.toNat_inj.1 e)
      simpa using fun e : (x.toNat : Int) = c.toNat => h2 (by omega)
set_option maxRecDepth 20000 in
theorem rtaken {a : Nat} {L : List Tok} {E : Int} {n : Nat} {l : List Tok} (w : World) (h : RR a L E n l w) :
    Calls Try.prog 79 #[.pointer (some ⟨a, 0, none⟩)] w fun e w' => e = .returned (.bool (G.taken l)) ∧ Below w.heap.size w w' := by
  have H := hide h
  have HN := hide (ne_text (peek1 l) [61])
  have hz : (bs (peek0 l)).size ≤ 65536 := by rw [bs_size]; exact h.short.1
  clear h
  rcases first_of 37 (peek0 l) with ⟨hs, e0⟩ | ⟨x, r, hs, e0, hp, ⟨hx, e1⟩ | ⟨hx, e1⟩⟩
  · have HT : Hid (G.taken l = false) := hide (by unfold G.taken; rw [hs]; rfl)
    clear hs
    go_enter Try.func79, Try.ntmps79
    go_wp2_with fail
    refine (rpeek0 w H.out rfl).mono ?_; rintro e w1 ⟨rfl, b1⟩
    generalize bs (peek0 l) = C at *
    go_wp2_with fail
    go_ret
    exact ⟨ret_bool HT.out.symm, b1⟩
  · have HT : Hid (G.taken l = decide (peek1 l ≠ [61])) := hide (taken_yes (by rw [hs, hx]; simp [begins]))
    replace e1 : ((bs (peek0 l))[0].toNat : Int) = 37 := e1 hp
    clear hs hx
    go_enter Try.func79, Try.ntmps79
    go_wp2_with fail
    refine (rpeek0 w H.out rfl).mono ?_; rintro e w1 ⟨rfl, b1⟩
    generalize bs (peek0 l) = C at *
    go_wp2_with fail
    refine (rpeek1 w1 (H.out.below b1) rfl).mono ?_; rintro e w2 ⟨rfl, b2⟩
    go_wp2_with fail
    go_ret
    exact ⟨ret_bool (HN.out.trans HT.out.symm), below_step b1 b2⟩
  · have HT : Hid (G.taken l = false) := hide (taken_no (by rw [hs]; simp [begins, hx]))
    replace e1 : (((bs (peek0 l))[0].toNat : Int) == 37) = false := e1 hp
    clear hs hx
    go_enter Try.func79, Try.ntmps79
    go_wp2_with fail
    refine (rpeek0 w H.out rfl).mono ?_; rintro e w1 ⟨rfl, b1⟩
    generalize bs (peek0 l) = C at *
    go_wp2_with fail
    go_ret
    exact ⟨ret_bool HT.out.symm, b1⟩
set_option maxRecDepth 20000 in
theorem rpaired {a : Nat} {L : List Tok} {E : Int} {n : Nat} {l : List Tok} (w : World) (h : RR a L E n l w) :
    Calls Try.prog 87 #[.pointer (some ⟨a, 0, none⟩)] w fun e w' => e = .returned (.bool (G.paired l)) ∧ Below w.heap.size w w' := by
  have H := hide h
  have HN := hide (ne_text (peek1 l) [58])
  have hz : (bs (peek0 l)).size ≤ 65536 := by rw [bs_size]; exact h.short.1
  clear h
  rcases first_of 98 (peek0 l) with ⟨hs, e0⟩ | ⟨x, r, hs, e0, hp, ⟨hx, e1⟩ | ⟨hx, e1⟩⟩
  · have HT : Hid (G.paired l = false) := hide (paired_no (by rw [hs]; rfl))
    clear hs
    go_enter Try.func87, Try.ntmps87
    go_wp2_with fail
    refine (rpeek0 w H.out rfl).mono ?_; rintro e w1 ⟨rfl, b1⟩
    generalize bs (peek0 l) = C at *
    go_wp2_with fail
    go_ret
    exact ⟨ret_bool HT.out.symm, b1⟩
  · replace e1 : ((bs (peek0 l))[0].toNat : Int) = 98 := e1 hp
    by_cases hb : peek0 l = [98, 114]
    · have e2 : ((bs (peek0 l)).toList == [98, 114]) = true := (eq_word (peek0 l) [98, 114]).trans (decide_eq_true hb)
      have HT : Hid (G.paired l = false) := hide (by unfold G.paired; rw [hb]; rfl)
      clear hs hx hb
      go_enter Try.func87, Try.ntmps87
      go_wp2_with fail
      refine (rpeek0 w H.out rfl).mono ?_; rintro e w1 ⟨rfl, b1⟩
      generalize bs (peek0 l) = C at *
      go_wp2_with fail
      go_ret
      exact ⟨ret_bool HT.out.symm, b1⟩
    · have e2 : ((bs (peek0 l)).toList == [98, 114]) = false := (eq_word (peek0 l) [98, 114]).trans (decide_eq_false hb)
      have HT : Hid (G.paired l = decide (peek1 l ≠ [58])) := hide (by
        unfold G.paired
        have h1 : ((peek0 l).head? == some 98) = true := by rw [hs, hx]; rfl
        have h2 : (peek0 l != [98, 114]) = true := by simpa using hb
        rw [h1, h2]
        by_cases h : peek1 l = [58]
        · rw [h]; rfl
        · simp [h])
      clear hs hx hb
      go_enter Try.func87, Try.ntmps87
      go_wp2_with fail
      refine (rpeek0 w H.out rfl).mono ?_; rintro e w1 ⟨rfl, b1⟩
      generalize bs (peek0 l) = C at *
      go_wp2_with fail
      refine (rpeek1 w1 (H.out.below b1) rfl).mono ?_; rintro e w2 ⟨rfl, b2⟩
      go_wp2_with fail
      go_ret
      exact ⟨ret_bool (HN.out.trans HT.out.symm), below_step b1 b2⟩
  · have HT : Hid (G.paired l = false) := hide (paired_no (by rw [hs]; simp [begins, hx]))
    replace e1 : (((bs (peek0 l))[0].toNat : Int) == 98) = false := e1 hp
    clear hs hx
    go_enter Try.func87, Try.ntmps87
    go_wp2_with fail
    refine (rpeek0 w H.out rfl).mono ?_; rintro e w1 ⟨rfl, b1⟩
    generalize bs (peek0 l) = C at *
    go_wp2_with fail
    go_ret
    exact ⟨ret_bool HT.out.symm, b1⟩
end Go.Proofs.Ytnlcpfijfjbgjaa
