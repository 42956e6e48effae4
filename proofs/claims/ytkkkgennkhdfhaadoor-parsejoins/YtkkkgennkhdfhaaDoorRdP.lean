/- The types of parameters are read. -/
import Derived.Test.YtkkkgennkhdfhaaDoorRdL
namespace Go.Proofs.YtkkkgennkhdfhaaDoor
open Go Go.RowKit
open G (Tok Er Ins Fun peek0 peek1 atOf)

theorem own_kp {B a b e s n : Nat} {v : Value} {xs : List Value} {u w : World} (ho : u.ownsRow b e s v n xs) (h : Kp B a u w) (hv : ∀ g, v.ownBlock = some g → g < B ∧ g ≠ a) : w.ownsRow b e s v n xs := h.own ho hv
theorem own_len {w : World} {b e s n : Nat} {v : Value} {xs : List Value} (h : w.ownsRow b e s v n xs) : ∃ (ao : Option Addr) (cap : Nat), v = .slice ao n cap := by
  rcases h.2 with ⟨hv, hn⟩ | ⟨g, cap, cur, hv, _⟩
  · exact ⟨none, 0, by rw [hv, hn]⟩
  · exact ⟨_, _, hv⟩
theorem two_new' (w : World) (o : Obj) : w.heap.size + 1 < ((w.alloc o).alloc (.cells #[.int .i64 1, .int .i64 2] 3)).heap.size ∧ ∀ (k : Nat) (t : Int), [(1 : Int), 2][k]? = some t → ((w.alloc o).alloc (.cells #[.int .i64 1, .int .i64 2] 3)).cell? ⟨w.heap.size + 1, k, none⟩ = some (.int .i64 t) := by
  have e : (w.alloc o).heap.size = w.heap.size + 1 := by simp
  refine ⟨by simp, fun k t h => ?_⟩
  rw [← e]
  match k, h with
  | 0, h => simp at h; subst h; simp [go_sem]
  | 1, h => simp at h; subst h; simp [go_sem]
theorem parW_stop {E : Int} {f : Nat} {acc : List Int} {l : List Tok} (h : peek0 l = [41]) : G.parW E (f + 1) acc l = .ok (acc, l) := by
  unfold G.parW; rw [if_pos h]
theorem param_type {E : Int} {k : Nat} {l : List Tok} (h : twoKind (peek0 l) = none) : G.param E k l = .error (9, atOf E l) := by
  have h1 : G.kind (peek0 l) < 1 := by
    unfold twoKind at h
    split at h
    · assumption
    · cases h
  refine (one_none (if_pos (.inl h1))).trans ?_
  show Except.error ((if G.kind (peek0 l) < 1 then (9 : Int) else 6), atOf E l) = _
  rw [if_pos h1]
theorem param_many {E t : Int} {k : Nat} {l : List Tok} (h : twoKind (peek0 l) = some t) (hk : 8 ≤ k) : G.param E k l = .error (6, atOf E l) := by
  have h1 : ¬ G.kind (peek0 l) < 1 := by
    unfold twoKind at h
    split at h
    · cases h
    · assumption
  refine (one_none (if_pos (.inr hk))).trans ?_
  show Except.error ((if G.kind (peek0 l) < 1 then (9 : Int) else 6), atOf E l) = _
  rw [if_neg h1]
theorem param_good {E t : Int} {k : Nat} {l : List Tok} (h : twoKind (peek0 l) = some t) (hk : k < 8) : G.param E k l = .ok (t, l.tail) := by
  unfold twoKind at h
  split at h
  · cases h
  · rename_i h1
    cases h
    exact one_some (if_neg (by omega))
theorem parW_bad {E : Int} {f : Nat} {acc : List Int} {l : List Tok} {er : Er} (h : ¬ peek0 l = [41]) (hp : G.param E acc.length l = .error er) : G.parW E (f + 1) acc l = .error er := by
  unfold G.parW; rw [if_neg h, hp]; rfl
theorem parW_go {E t : Int} {f : Nat} {acc : List Int} {l l' : List Tok} (h : ¬ peek0 l = [41]) (hp : G.param E acc.length l = .ok (t, l')) : G.parW E (f + 1) acc l = G.parW E f (acc ++ [t]) l' := by
  conv => lhs; unfold G.parW
  rw [if_neg h, hp]; rfl
theorem two_ne {l : List Tok} {t : Int} (h : twoKind (peek0 l) = some t) : l ≠ [] := fun e => by subst e; cases h
theorem typeOf_some {s : List UInt8} {p t : Int} {x : Nat} {w : World} (hx : x < w.heap.size ∧ ∀ k t, [(1 : Int), 2][k]? = some t → w.cell? ⟨x, k, none⟩ = some (.int .i64 t)) (h : twoKind s = some t) : Calls Tryd.prog 37 #[.agg #[.string (bs s), .int .i64 p], .slice (some ⟨x, 0, none⟩) 2 2] w fun e w' => e = .returned (.int .i64 t) ∧ Below w.heap.size w w' :=
  (typeOf_two s p x w hx).mono fun e w' ⟨hb, hh⟩ => by
    rcases hh with ⟨x, hx, rfl⟩ | ⟨hx, _⟩
    · rw [h] at hx; cases hx; exact ⟨rfl, hb⟩
    · rw [h] at hx; cases hx
theorem typeOf_none {s : List UInt8} {p : Int} {x : Nat} {w : World} (hx : x < w.heap.size ∧ ∀ k t, [(1 : Int), 2][k]? = some t → w.cell? ⟨x, k, none⟩ = some (.int .i64 t)) (h : twoKind s = none) : Calls Tryd.prog 37 #[.agg #[.string (bs s), .int .i64 p], .slice (some ⟨x, 0, none⟩) 2 2] w fun e w' => e = thrown 9 p ∧ Below w.heap.size w w' :=
  (typeOf_two s p x w hx).mono fun e w' ⟨hb, hh⟩ => by
    rcases hh with ⟨x, hx, _⟩ | ⟨_, rfl⟩
    · rw [h] at hx; cases hx
    · exact ⟨rfl, hb⟩
/-- What the reading of a list of numbers answers. -/
def OutL (B a : Nat) (L : List Tok) (E : Int) (n : Nat) (r : Except Er (List Int × List Tok)) (w : World) (e : Ending) (w' : World) : Prop :=
  Kp w.heap.size a w w' ∧ ((∃ x l' v, r = .ok (x, l') ∧ e = .returned v ∧ w'.ownsRow w.heap.size 3 1 v x.length (ints x) ∧ Rdr B a L E n l' w') ∨ ∃ er : Er, r = .error er ∧ e = thrown er.1 er.2)
set_option maxHeartbeats 1000000 in
theorem params_any {B a : Nat} {L : List Tok} {E : Int} {n : Nat} {l : List Tok} (w : World) (h : Rdr B a L E n l w) :
    Calls Tryd.prog 36 #[.pointer (some ⟨a, 0, none⟩)] w (OutL B a L E n (G.params E l) w) := by
  obtain ⟨i0, hi0, hz0, hz1, hz2⟩ := info_parts Tryd.info3
  have hfd := field_tok
  have H := hide h
  have ha := h.suffix.2.2.2
  have hBw := h.size
  clear h
  go_enter Tryd.func36, Tryd.ntmps36
  go_wp2_with fail
  go_loopw [3] (fun v wr => ∃ (f : Nat) (acc : List Int) (l' : List Tok), wr.ownsRow w.heap.size 3 1 v acc.length (ints acc) ∧ acc.length ≤ 8 ∧ Rdr B a L E n l' wr ∧ Kp w.heap.size a w wr ∧ l'.length < f ∧ Hid (G.params E l = G.parW E f acc l')) (fun _ wr => L.length - readAt a wr)
  case atStart => exact ⟨l.length + 1, [], l, World.ownsRow_nil _ _ _ _, by simp, H.out, Kp.refl _ _ _, by omega, rfl⟩
  case round =>
    obtain ⟨f, acc, l', hO, h8, H1, K1, hlf, HM⟩ := hrel
    have hra := H1.readAt
    have hll := H1.suffix.1.length_le
    have hs := K1.size
    obtain ⟨ao3, cap3, rfl⟩ := own_len hO
    have hO := hide hO
    have H1 := hide H1
    have K1 := hide K1
    obtain ⟨f, rfl⟩ : ∃ q, f = q + 1 := ⟨f - 1, by omega⟩
    have HN1 := hide (is_text (peek0 l') [41])
    go_wp2_with fail
    refine (peek0_any _ H1.out).mono ?_; rintro e w1 ⟨rfl, b1⟩
    by_cases hcl : peek0 l' = [41]
    · have HW := hide (HM.out.trans (parW_stop hcl))
      have hne : ((bs (peek0 l')).toList == [41]) = true := HN1.out.trans (decide_eq_true hcl)
      have hne2 : ((bs (peek0 l')).toList != [41]) = false := by rw [bne, hne]; rfl
      clear hcl HN1
      go_wp2_with fail
      go_ret
      exact ⟨K1.out.trans (Kp.of_belowW b1 hs), .inl ⟨acc, l', _, HW.out, rfl, hO.out.kept (L2.below_grown b1) (by cases Value.ownBlock _ <;> simp), H1.out.step b1⟩⟩
    · have hne : ((bs (peek0 l')).toList == [41]) = false := HN1.out.trans (decide_eq_false hcl)
      have hne2 : ((bs (peek0 l')).toList != [41]) = true := by rw [bne, hne]; rfl
      have hcl := hide hcl
      clear HN1
      go_wp2_with fail
      refine (take_any _ (H1.out.step b1)).mono ?_; rintro e w2 ⟨rfl, k2, r2⟩
      have P2 := hide ((Pair.new w2 53 (a := .string (bs (peek0 l'))) (b := .int .i64 (atOf E l'))).below (below_box _ (.cells #[.int .i64 1, .int .i64 2] 3)))
      have X2 := hide (two_new' w2 (tokBox l' E))
      have B2 := hide (below_step (below_box w2 (tokBox l' E)) (below_box (w2.alloc (tokBox l' E)) (.cells #[.int .i64 1, .int .i64 2] 3)))
      have K2 := hide (((K1.out.trans (Kp.of_belowW b1 hs)).trans (k2.mono (Nat.le_trans hs b1.size))).trans (Kp.of_belowW B2.out (Nat.le_trans (Nat.le_trans hs b1.size) k2.size)))
      have R2 := hide (fun hl => (r2 hl).step B2.out)
      have O2 := hide ((own_kp (hO.out.kept (L2.below_grown b1) (by cases Value.ownBlock _ <;> simp)) k2 (fun g hg => by have := (hO.out.lt g hg); exact ⟨by have := b1.size; omega, by omega⟩)).kept (L2.below_grown B2.out) (by cases Value.ownBlock _ <;> simp))
      go_wp2_with fail
      show Calls _ _ _ ((w2.alloc (tokBox l' E)).alloc (.cells #[.int .i64 1, .int .i64 2] 3)) _
      generalize (w2.alloc (tokBox l' E)).alloc (.cells #[.int .i64 1, .int .i64 2] 3) = W2 at *
      clear B2 k2 r2 b1
      generalize w2.heap.size = g2 at *
      cases hk : twoKind (peek0 l') with
      | none =>
        have HW := hide (HM.out.trans (parW_bad hcl.out (param_type hk)))
        refine (typeOf_none X2.out hk).mono ?_; rintro e w3 ⟨rfl, b3⟩
        unfold thrown
        go_wp2_with fail
        exact bodyPost_thrown ⟨K2.out.trans (Kp.of_belowW b3 K2.out.size), .inr ⟨_, HW.out, rfl⟩⟩
      | some t =>
        have hl := two_ne hk
        refine (typeOf_some X2.out hk).mono ?_; rintro e w3 ⟨rfl, b3⟩
        obtain ⟨p0, p1, p2, p3, p4⟩ := P2.out.below b3
        by_cases h9 : acc.length < 8
        · have HW := hide (HM.out.trans (parW_go hcl.out (param_good hk h9)))
          have h9' : (acc.length : Int) < 8 := by omega
          go_wp2_with fail
          refine (need_ok _ _ _ _).mono ?_; rintro e w4 ⟨rfl, b4⟩
          have B4 := below_step b3 b4
          have O4 := hide (O2.out.kept (L2.below_grown B4) (by cases Value.ownBlock _ <;> simp))
          have K4 := hide (K2.out.trans (Kp.of_belowW B4 K2.out.size))
          have R4 := hide ((R2.out hl).step B4)
          have hs4 := K4.out.size
          clear O2 K2 R2 P2 X2 B4 b3 b4 p0 p1 p2 p3 p4
          go_wp2_with (at_builtin; refine wpList_append_own _ rfl (.tmp 20) (.tmp 22) 31 rfl w.heap.size 3 i0 _ 1 8 Tryd.underlying31 hi0 hz0 hz1 hz2 rfl (by decide) _ _ _ rfl (O4.out.alloc _) ⟨w4.heap.size, 0, none⟩ 1 1 [.int .i64 t] rfl rfl one_cell one_one (by unfold maxLen; omega) (by omega) (by simp; omega) ?_; intro v5 w5 own5 grow5 _)
          have K5 := hide ((K4.out.alloc hs4 (.cells #[.int .i64 t] 3)).grown grow5 (by simp; omega) (fun q hq => ⟨(O4.out.lt q hq).1, by have := (O4.out.lt q hq).1; omega⟩) (own_not80 (O4.out.alloc _) (by decide)))
          have R5 := (R4.out.step (below_box w4 (.cells #[.int .i64 t] 3))).grown grow5 (fun q hq => Nat.le_trans hBw (O4.out.lt q hq).1)
          have hra2 := R5.readAt
          have hll2 := R5.suffix.1.length_le
          have htb := tail_bulk hl
          have R5 := hide R5
          have own5 := hide own5
          clear grow5
          go_wp2_with fail
          go_roundw
          case rel => exact ⟨f, acc ++ [t], l'.tail, by have := own5.out; simpa using this, by simp; omega, R5.out, K5.out, by omega, HW⟩
          case measure => rw [hra, hra2]; omega
        · have HW := hide (HM.out.trans (parW_bad hcl.out (param_many hk (by omega))))
          have h9' : ¬ (acc.length : Int) < 8 := by omega
          have h9b : (8 : Int) ≤ acc.length := by omega
          have h9c : decide ((acc.length : Int) < 8) = false := by simpa using h9b
          go_wp2_with fail
          refine (need_no _ _ _ _).mono ?_; rintro e w4 ⟨rfl, b4⟩
          unfold thrown
          go_wp2_with fail
          exact bodyPost_thrown ⟨K2.out.trans (Kp.of_belowW (below_step b3 b4) K2.out.size), .inr ⟨_, HW.out, rfl⟩⟩
end Go.Proofs.YtkkkgennkhdfhaaDoor
