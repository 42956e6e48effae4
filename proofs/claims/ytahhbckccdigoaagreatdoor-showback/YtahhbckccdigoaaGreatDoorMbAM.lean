/- The types of parameters are read. -/
import Derived.Test.YtahhbckccdigoaaGreatDoorMbAK
import Derived.Test.YtahhbckccdigoaaGreatDoorMbAL
set_option maxHeartbeats 8000000
set_option maxRecDepth 20000
namespace Go.Proofs.YtahhbckccdigoaaGreatDoor
open Go Go.RowKit
open G (Tok Er Ins Fun peek0 peek1 atOf)
theorem own_kp {B a b e s n : Nat} {v : Value} {xs : List Value} {u w : World} (ho : u.ownsRow b e s v n xs) (h : Kp B a u w) (hv : ∀ g, v.ownBlock = some g -> g < B /\ g ≠ a) : w.ownsRow b e s v n xs := h.own ho hv
theorem own_len {w : World} {b e s n : Nat} {v : Value} {xs : List Value} (h : w.ownsRow b e s v n xs) : ∃ (ao : Option Addr) (cap : Nat), v = .slice ao n cap := by
  rcases h.2 with ⟨hv, hn⟩ | ⟨g, cap, cur, hv, _⟩
  . exact ⟨none, 0, by rw [hv, hn]⟩
  . exact ⟨_, _, hv⟩
theorem two_new' (w : World) (o : Obj) : w.heap.size + 1 < ((w.alloc o).alloc (.cells #[.int .i64 1, .int .i64 2] 3)).heap.size /\ ∀ (k : Nat) (t : Int), [(1 : Int), 2][k]? = some t -> ((w.alloc o).alloc (.cells #[.int .i64 1, .int .i64 2] 3)).cell? ⟨w.heap.size + 1, k, none⟩ = some (.int .i64 t) := by
  have e : (w.alloc o).heap.size = w.heap.size + 1 := by simp
  refine ⟨by simp, fun k t h => ?_⟩
  rw [<- e]
  match k, h with
  | 0, h => simp at h; subst h; simp [go_sem]
  | 1, h => simp at h; subst h; simp [go_sem]
theorem parW_stop {E : Int} {f : Nat} {acc : List Int} {l : List Tok} (h : peek0 l = [41]) : G.parW E (f + 1) acc l = .ok (acc, l) := by
  unfold G.parW; rw [if_pos h]
theorem param_type {E : Int} {k : Nat} {l : List Tok} (h : twoKind (peek0 l) = none) : G.param E k l = .error (9, atOf E l) := by
  have h1 : G.kind (peek0 l) < 1 := by
    unfold twoKind at h
    split at h
    . assumption
    . cases h
  refine (one_none (if_pos (.inl h1))).trans ?_
  show Except.error ((if G.kind (peek0 l) < 1 then (9 : Int) else 6), atOf E l) = _
  rw [if_pos h1]
theorem param_many {E t : Int} {k : Nat} {l : List Tok} (h : twoKind (peek0 l) = some t) (hk : 8 <= k) : G.param E k l = .error (6, atOf E l) := by
  have h1 : ¬ G.kind (peek0 l) < 1 := by
    unfold twoKind at h
    split at h
    . cases h
    . assumption
  refine (one_none (if_pos (.inr hk))).trans ?_
  show Except.error ((if G.kind (peek0 l) < 1 then (9 : Int) else 6), atOf E l) = _
  rw [if_neg h1]
theorem param_good {E t : Int} {k : Nat} {l : List Tok} (h : twoKind (peek0 l) = some t) (hk : k < 8) : G.param E k l = .ok (t, l.tail) := by
  unfold twoKind at h
  split at h
  . cases h
  . rename_i h1
    cases h
    exact one_some (if_neg (by omega))
theorem parW_bad {E : Int} {f : Nat} {acc : List Int} {l : List Tok} {er : Er} (h : ¬ peek0 l = [41]) (hp : G.param E acc.length l = .error er) : G.parW E (f + 1) acc l = .error er := by
  unfold G.parW; rw [if_neg h, hp]; rfl
theorem parW_go {E t : Int} {f : Nat} {acc : List Int} {l l' : List Tok} (h : ¬ peek0 l = [41]) (hp : G.param E acc.length l = .ok (t, l')) : G.parW E (f + 1) acc l = G.parW E f (acc ++ [t]) l' := by
  conv => lhs; unfold G.parW
  rw [if_neg h, hp]; rfl
theorem two_ne {l : List Tok} {t : Int} (h : twoKind (peek0 l) = some t) : l ≠ [] := fun e => by subst e; cases h
theorem typeOf_some {s : List UInt8} {p t : Int} {x : Nat} {w : World} (hx : x < w.heap.size /\ ∀ k t, [(1 : Int), 2][k]? = some t -> w.cell? ⟨x, k, none⟩ = some (.int .i64 t)) (h : twoKind s = some t) : Calls Tryz.prog 111 #[.agg #[.string (bs s), .int .i64 p], .slice (some ⟨x, 0, none⟩) 2 2] w fun e w' => e = .returned (.int .i64 t) /\ Below w.heap.size w w' :=
  (typeOf_two s p x w hx).mono fun e w' ⟨hb, hh⟩ => by
    rcases hh with ⟨x, hx, rfl⟩ | ⟨hx, _⟩
    . rw [h] at hx; cases hx; exact ⟨rfl, hb⟩
    . rw [h] at hx; cases hx
theorem typeOf_none {s : List UInt8} {p : Int} {x : Nat} {w : World} (hx : x < w.heap.size /\ ∀ k t, [(1 : Int), 2][k]? = some t -> w.cell? ⟨x, k, none⟩ = some (.int .i64 t)) (h : twoKind s = none) : Calls Tryz.prog 111 #[.agg #[.string (bs s), .int .i64 p], .slice (some ⟨x, 0, none⟩) 2 2] w fun e w' => e = thrown 9 p /\ Below w.heap.size w w' :=
  (typeOf_two s p x w hx).mono fun e w' ⟨hb, hh⟩ => by
    rcases hh with ⟨x, hx, _⟩ | ⟨_, rfl⟩
    . rw [h] at hx; cases hx
    . exact ⟨rfl, hb⟩
def OutL (B a : Nat) (L : List Tok) (E : Int) (n : Nat) (r : Except Er (List Int × List Tok)) (w : World) (e : Ending) (w' : World) : Prop :=
  Kp w.heap.size a w w' /\ ((∃ x l' v, r = .ok (x, l') /\ e = .returned v /\ w'.ownsRow w.heap.size 3 1 v x.length (ints x) /\ Rdr B a L E n l' w') \/ ∃ er : Er, r = .error er /\ e = thrown er.1 er.2)
theorem params_any {B a : Nat} {L : List Tok} {E : Int} {n : Nat} {l : List Tok} (w : World) (h : Rdr B a L E n l w) :
    Calls Tryz.prog 110 #[.pointer (some ⟨a, 0, none⟩)] w (OutL B a L E n (G.params E l) w) := by
  obtain ⟨i0, hi0, hz0, hz1, hz2⟩ := info_parts Tryz.info3
  have hfd := field_tok
  have H := hide h
  have ha := h.suffix.2.2.2
  have hBw := h.size
  clear h
  go_enter Tryz.func110, Tryz.ntmps110
  go_wp2_with fail
  go_loopw [3] (fun v wr => ∃ (f : Nat) (acc : List Int) (l' : List Tok), wr.ownsRow w.heap.size 3 1 v acc.length (ints acc) /\ acc.length <= 8 /\ Rdr B a L E n l' wr /\ Kp w.heap.size a w wr /\ l'.length < f /\ Hid (G.params E l = G.parW E f acc l')) (fun _ wr => L.length - readAt a wr)
  case atStart => exact ⟨l.length + 1, [], l, World.ownsRow_nil _ _ _ _, by simp, H.out, Kp.refl _ _ _, by omega, rfl⟩
  case round =>
    obtain ⟨f, acc, l', hO, h8, H1, K1, hlf, HM⟩ := hrel
    have hra := H1.readAt
    have hll := H1.suffix.1.length_le
    have hs := K1.size
    obtain ⟨ao3, cap3, rfl⟩ := own_len hO
    have hO := hide hO
    have H1 := hide H1
    have K1 := hide K1
    obtain ⟨f, rfl⟩ : ∃ q, f = q + 1 := ⟨f - 1, by omega⟩
    have HN1 := hide (is_text (peek0 l') [41])
    go_wp2_with fail
    refine (peek0_any _ H1.out).mono ?_; rintro e w1 ⟨rfl, b1⟩
    by_cases hcl : peek0 l' = [41]
    . have HW := hide (HM.out.trans (parW_stop hcl))
      have hne : ((bs (peek0 l')).toList == [41]) = true := HN1.out.trans (decide_eq_true hcl)
      have hne2 : ((bs (peek0 l')).toList != [41]) = false := by rw [bne, hne]; rfl
      clear hcl HN1
      go_wp2_with fail
      go_ret
      exact ⟨K1.out.trans (Kp.of_belowW b1 hs), .inl ⟨acc, l', _, HW.out, rfl, hO.out.kept (L2.below_grown b1) (by cases Value.ownBlock _ <;> simp), H1.out.step b1⟩⟩
    . have hne : ((bs (peek0 l')).toList == [41]) = false := HN1.out.trans (decide_eq_false hcl)
      have hne2 : ((bs (peek0 l')).toList != [41]) = true := by rw [bne, hne]; rfl
      have hcl := hide hcl
      clear HN1
      go_wp2_with fail
      refine (take_any _ (H1.out.step b1)).mono ?_; rintro e w2 ⟨rfl, k2, r2⟩
      have P2 := hide ((Pair.new w2 96 (a := .string (bs (peek0 l'))) (b := .int .i64 (atOf E l'))).below (below_box _ (.cells #[.int .i64 1, .int .i64 2] 3)))
      have X2 := hide (two_new' w2 (tokBox l' E))
      have B2 := hide (below_step (below_box w2 (tokBox l' E)) (below_box (w2.alloc (tokBox l' E)) (.cells #[.int .i64 1, .int .i64 2] 3)))
      have K2 := hide (((K1.out.trans (Kp.of_belowW b1 hs)).trans (k2.mono (Nat.le_trans hs b1.size))).trans (Kp.of_belowW B2.out (Nat.le_trans (Nat.le_trans hs b1.size) k2.size)))
      have R2 := hide (fun hl => (r2 hl).step B2.out)
      have O2 := hide ((own_kp (hO.out.kept (L2.below_grown b1) (by cases Value.ownBlock _ <;> simp)) k2 (fun g hg => by have := (hO.out.lt g hg); exact ⟨by have := b1.size; omega, by omega⟩)).kept (L2.below_grown B2.out) (by cases Value.ownBlock _ <;> simp))
      go_wp2_with fail
      show Calls _ _ _ ((w2.alloc (tokBox l' E)).alloc (.cells #[.int .i64 1, .int .i64 2] 3)) _
      generalize (w2.alloc (tokBox l' E)).alloc (.cells #[.int .i64 1, .int .i64 2] 3) = W2 at *
      clear B2 k2 r2 b1
      generalize w2.heap.size = g2 at *
      cases hk : twoKind (peek0 l') with
      | none =>
        have HW := hide (HM.out.trans (parW_bad hcl.out (param_type hk)))
        refine (typeOf_none X2.out hk).mono ?_; rintro e w3 ⟨rfl, b3⟩
        unfold thrown
        go_wp2_with fail
        exact bodyPost_thrown ⟨K2.out.trans (Kp.of_belowW b3 K2.out.size), .inr ⟨_, HW.out, rfl⟩⟩
      | some t =>
        have hl := two_ne hk
        refine (typeOf_some X2.out hk).mono ?_; rintro e w3 ⟨rfl, b3⟩
        obtain ⟨p0, p1, p2, p3, p4⟩ := P2.out.below b3
        by_cases h9 : acc.length < 8
        . have HW := hide (HM.out.trans (parW_go hcl.out (param_good hk h9)))
          have h9' : (acc.length : Int) < 8 := by omega
          go_wp2_with fail
          refine (need_ok _ _ _ _).mono ?_; rintro e w4 ⟨rfl, b4⟩
          have B4 := below_step b3 b4
          have O4 := hide (O2.out.kept (L2.below_grown B4) (by cases Value.ownBlock _ <;> simp))
          have K4 := hide (K2.out.trans (Kp.of_belowW B4 K2.out.size))
          have R4 := hide ((R2.out hl).step B4)
          have hs4 := K4.out.size
          clear O2 K2 R2 P2 X2 B4 b3 b4 p0 p1 p2 p3 p4
          go_wp2_with (at_builtin; refine wpList_append_own _ rfl (.tmp 20) (.tmp 22) 31 rfl w.heap.size 3 i0 _ 1 8 Tryz.underlying31 hi0 hz0 hz1 hz2 rfl (by decide) _ _ _ rfl (O4.out.alloc _) ⟨w4.heap.size, 0, none⟩ 1 1 [.int .i64 t] rfl rfl one_cell one_one (by unfold maxLen; omega) (by omega) (by simp; omega) ?_; intro v5 w5 own5 grow5 _)
          have K5 := hide ((K4.out.alloc hs4 (.cells #[.int .i64 t] 3)).grown grow5 (by simp; omega) (fun q hq => ⟨(O4.out.lt q hq).1, by have := (O4.out.lt q hq).1; omega⟩) (own_not80 (O4.out.alloc _) (by decide)))
          have R5 := (R4.out.step (below_box w4 (.cells #[.int .i64 t] 3))).grown grow5 (fun q hq => Nat.le_trans hBw (O4.out.lt q hq).1)
          have hra2 := R5.readAt
          have hll2 := R5.suffix.1.length_le
          have htb := tail_bulk hl
          have R5 := hide R5
          have own5 := hide own5
          clear grow5
          go_wp2_with fail
          go_roundw
          case rel => exact ⟨f, acc ++ [t], l'.tail, by have := own5.out; simpa using this, by simp; omega, R5.out, K5.out, by omega, HW⟩
          case measure => rw [hra, hra2]; omega
        . have HW := hide (HM.out.trans (parW_bad hcl.out (param_many hk (by omega))))
          have h9' : ¬ (acc.length : Int) < 8 := by omega
          have h9b : (8 : Int) <= acc.length := by omega
          have h9c : decide ((acc.length : Int) < 8) = false := by simpa using h9b
          go_wp2_with fail
          refine (need_no _ _ _ _).mono ?_; rintro e w4 ⟨rfl, b4⟩
          unfold thrown
          go_wp2_with fail
          exact bodyPost_thrown ⟨K2.out.trans (Kp.of_belowW (below_step b3 b4) K2.out.size), .inr ⟨_, HW.out, rfl⟩⟩
end Go.Proofs.YtahhbckccdigoaaGreatDoor
namespace Go.Proofs.YtahhbckccdigoaaGreatDoor
open Go Go.RowKit
open G (Tok Er Ins Fun peek0 peek1 atOf)
def InsRow (B : Nat) (w : World) : List Ins -> List Value -> Prop
  | [], cs => cs = []
  | x :: r, cs => ∃ va vt rest, cs = insCells x va vt ++ rest /\ w.ownsRow B 3 1 va x.2.2.2.2.1.length (ints x.2.2.2.2.1) /\ w.ownsRow B 3 1 vt x.2.2.2.2.2.1.length (ints x.2.2.2.2.2.1) /\ InsRow B w r rest
theorem InsRow.keep {B B' : Nat} {w w' : World} (hk : ∀ (v : Value) (n : Nat) (xs : List Value), w.ownsRow B 3 1 v n xs -> w'.ownsRow B' 3 1 v n xs) : ∀ (l : List Ins) (cs : List Value), InsRow B w l cs -> InsRow B' w' l cs := by
  intro l
  induction l with
  | nil => intro cs h; exact h
  | cons x r ih =>
    rintro cs ⟨va, vt, rest, h1, h2, h3, h4⟩
    exact ⟨va, vt, rest, h1, hk _ _ _ h2, hk _ _ _ h3, ih rest h4⟩
theorem InsRow.snoc {B : Nat} {w : World} {x : Ins} {va vt : Value} (h1 : w.ownsRow B 3 1 va x.2.2.2.2.1.length (ints x.2.2.2.2.1)) (h2 : w.ownsRow B 3 1 vt x.2.2.2.2.2.1.length (ints x.2.2.2.2.2.1)) : ∀ (l : List Ins) (cs : List Value), InsRow B w l cs -> InsRow B w (l ++ [x]) (cs ++ insCells x va vt) := by
  intro l
  induction l with
  | nil => intro cs h; cases h; exact ⟨va, vt, [], by simp, h1, h2, rfl⟩
  | cons y r ih =>
    rintro cs ⟨ua, ut, rest, rfl, h4, h5, h6⟩
    exact ⟨ua, ut, rest ++ insCells x va vt, by simp, h4, h5, ih rest h6⟩
def BlkVal (B : Nat) (xs : List Ins) (v : Value) (w : World) : Prop := ∃ cs, w.ownsRow B 39 8 v xs.length cs /\ InsRow B w xs cs
theorem own_below {w w' : World} (b : Below w.heap.size w w') (B e s : Nat) : ∀ (v : Value) (n : Nat) (xs : List Value), w.ownsRow B e s v n xs -> w'.ownsRow B e s v n xs :=
  fun v _ _ h => h.kept (L2.below_grown b) (by cases v.ownBlock <;> simp)
theorem own_kept {a : Nat} {w w' : World} (k : Kp w.heap.size a w w') {B : Nat} (ha : a < B) (e s : Nat) : ∀ (v : Value) (n : Nat) (xs : List Value), w.ownsRow B e s v n xs -> w'.ownsRow B e s v n xs :=
  fun _ _ _ h => own_kp h k (fun g hg => by have := h.lt g hg; omega)
theorem own_other {w w' : World} {row : Value} {B B' e s e' s' n : Nat} {xs : List Value} (hg : w.grownBy w' row.ownBlock) (hr : w.ownsRow B' e' s' row n xs) (he : e ≠ e') : ∀ (v : Value) (m : Nat) (ys : List Value), w.ownsRow B e s v m ys -> w'.ownsRow B e s v m ys :=
  fun _ _ _ h => h.kept hg (own_apart h hr he)
theorem BlkVal.below {B : Nat} {xs : List Ins} {v : Value} {w w' : World} (h : BlkVal B xs v w) (b : Below w.heap.size w w') : BlkVal B xs v w' := by
  obtain ⟨cs, h1, h2⟩ := h
  exact ⟨cs, own_below b _ _ _ _ _ _ h1, InsRow.keep (own_below b B 3 1) _ _ h2⟩
theorem BlkVal.kp {B a : Nat} {xs : List Ins} {v : Value} {w w' : World} (h : BlkVal B xs v w) (k : Kp w.heap.size a w w') (ha : a < B) : BlkVal B xs v w' := by
  obtain ⟨cs, h1, h2⟩ := h
  exact ⟨cs, own_kept k ha _ _ _ _ _ h1, InsRow.keep (own_kept k ha 3 1) _ _ h2⟩
theorem BlkVal.base {B B' : Nat} {xs : List Ins} {v : Value} {w : World} (h : BlkVal B xs v w) (hB : B' <= B) : BlkVal B' xs v w := by
  obtain ⟨cs, h1, h2⟩ := h
  exact ⟨cs, own_base h1 hB, InsRow.keep (fun _ _ _ h => own_base h hB) _ _ h2⟩
theorem Tryz.info39 : (Tryz.prog.info? 39).map (fun i => (i.zero, i.size, i.bytes)) = some (some (.agg #[.int .i64 0, .int .i64 0, .int .i64 0, .int .i64 0, .slice none 0 0, .slice none 0 0, .string ⟨#[]⟩, .int .i64 0]), 8, 104) := by kernel_rfl
theorem eight_cell {w : World} {x : Ins} {va vt : Value} : ∀ (j : Nat) (u : Value), (insCells x va vt)[j]? = some u -> (w.alloc (.cells (insCells x va vt).toArray 39)).cell? ((⟨w.heap.size, 0, none⟩ : Addr).add j) = some u :=
  World.news_of_block (cs := (insCells x va vt).toArray) (heap_alloc_new w _)
theorem eight_one {x : Ins} {ao ap : Option Addr} {m n c d : Nat} : ∀ u ∈ insCells x (.slice ao m c) (.slice ap n d), u.oneCell' = true := by
  intro u hu
  simp only [insCells, List.mem_cons, List.not_mem_nil, or_false] at hu
  rcases hu with rfl | rfl | rfl | rfl | rfl | rfl | rfl | rfl <;> rfl
theorem Rdr.count {B a : Nat} {L : List Tok} {E : Int} {n : Nat} {l : List Tok} {w : World} (h : Rdr B a L E n l w) (hn : n < 4096) : Rdr B a L E (n + 1) l (w.setCell ⟨a, 3, none⟩ (.int .i64 ((n : Int) + 1))) := by
  obtain ⟨v, h1, h2, h3, h4, h5, h6, h7, h8⟩ := h
  have hsz : (w.setCell ⟨a, 3, none⟩ (.int .i64 ((n : Int) + 1))).heap.size = w.heap.size := by simp [World.setCell]
  refine ⟨v, ?_, ?_, h3, h4, h5, h6, by omega, by rw [hsz]; exact h8⟩
  . rw [heap_setCell_same w a 3 _ 75 _ h1]
    rw [show (n : Int) + 1 = ((n + 1 : Nat) : Int) from by omega]; rfl
  . exact own_setCell h2 (own_ne h2 h1 (by decide)) _
abbrev blockG (E : Int) (k n : Nat) : G.Rd (List Ins × Nat) := G.block numF idxF namF shpF tksF fndF mksF prtF E k n
abbrev insG (E : Int) (f n : Nat) (acc : List Ins) : G.Rd (List Ins × Nat) := G.insW numF idxF namF shpF tksF fndF mksF E f n acc
theorem head_none {E : Int} {k : Nat} {l : List Tok} (hk : k < 256) (h : G.mark idxF 98 255 (peek0 l) = none) : G.head prtF E k l = .error (7, atOf E l) := by
  refine (one_none (if_pos (.inr (.inr (by unfold prtF; rw [h]; simp))))).trans ?_
  show Except.error ((if 256 <= k then (6 : Int) else 7), atOf E l) = _
  rw [if_neg (by omega)]
theorem head_other {E j : Int} {k : Nat} {l : List Tok} (hk : k < 256) (h : G.mark idxF 98 255 (peek0 l) = some j) (hj : ¬ j = (k : Int)) : G.head prtF E k l = .error (7, atOf E l) := by
  refine (one_none (if_pos (.inr (.inr (by unfold prtF; rw [h]; simp [hj]))))).trans ?_
  show Except.error ((if 256 <= k then (6 : Int) else 7), atOf E l) = _
  rw [if_neg (by omega)]
theorem head_good {E : Int} {k : Nat} {l : List Tok} (hk : k < 256) (h : G.mark idxF 98 255 (peek0 l) = some (k : Int)) : G.head prtF E k l = .ok ((), l.tail) := by
  refine one_some (if_neg (fun c => ?_))
  rcases c with c | c | c
  . omega
  . rw [c] at h; cases h
  . unfold prtF at c; rw [h] at c; simp at c
theorem block_head {E : Int} {k n : Nat} {l : List Tok} {er : Er} (h : G.head prtF E k l = .error er) : blockG E k n l = .error er := by
  unfold blockG G.block; rw [h]; rfl
theorem block_word {E : Int} {k n : Nat} {l l' : List Tok} {er : Er} (h : G.head prtF E k l = .ok ((), l')) (hw : G.want E [58] l' = .error er) : blockG E k n l = .error er := by
  unfold blockG G.block; rw [h]; show G.andThen (G.want E [58] l') _ = _; rw [hw]; rfl
theorem block_body {E : Int} {k n : Nat} {l l' l2 : List Tok} (h : G.head prtF E k l = .ok ((), l')) (hw : G.want E [58] l' = .ok ((), l2)) : blockG E k n l = insG E (l2.length + 1) n [] l2 := by
  unfold blockG G.block; rw [h]; show G.andThen (G.want E [58] l') _ = _; rw [hw]; rfl
theorem ins_stop {E : Int} {f n : Nat} {acc : List Ins} {l : List Tok} (h : peek0 l = [125] \/ peek1 l = [58]) : insG E (f + 1) n acc l = .ok ((acc, n), l) := by
  unfold insG G.insW; rw [if_pos h]
theorem ins_many {E : Int} {f n : Nat} {acc : List Ins} {l : List Tok} (h : ¬ (peek0 l = [125] \/ peek1 l = [58])) (hn : 4096 <= n) : insG E (f + 1) n acc l = .error (6, atOf E l) := by
  unfold insG G.insW; rw [if_neg h, if_pos hn]
theorem ins_bad {E : Int} {f n : Nat} {acc : List Ins} {l : List Tok} {er : Er} (h : ¬ (peek0 l = [125] \/ peek1 l = [58])) (hn : n < 4096) (hi : instrP E l = .error er) : insG E (f + 1) n acc l = .error er := by
  unfold insG G.insW; rw [if_neg h, if_neg (by omega), instr_eq, hi]; rfl
theorem ins_go {E : Int} {f n : Nat} {acc : List Ins} {l l' : List Tok} {x : Ins} (h : ¬ (peek0 l = [125] \/ peek1 l = [58])) (hn : n < 4096) (hi : instrP E l = .ok (x, l')) : insG E (f + 1) n acc l = insG E f (n + 1) (acc ++ [x]) l' := by
  conv => lhs; unfold insG G.insW
  rw [if_neg h, if_neg (by omega), instr_eq, hi]; rfl
theorem instr_less {E : Int} {l l' : List Tok} {x : Ins} (h : instrP E l = .ok (x, l')) : l'.length < l.length := by
  rw [<- instr_eq] at h
  obtain ⟨h1, h2⟩ := G.instr_eats nam_nil num_nil shp_nil fnd_nil l x l' h
  have := h2.length_le
  have := tail_bulk h1
  omega
end Go.Proofs.YtahhbckccdigoaaGreatDoor
namespace Go.Proofs.YtahhbckccdigoaaGreatDoor
open Go Go.RowKit
open G (Tok Er Ins Fun peek0 peek1 atOf)
theorem Tabs.grew {w w1 w2 : World} {row : Option Nat} (h : Tabs w) (b : Below w.heap.size w w1) (hg : w1.grownBy w2 row) (hr : ∀ k, row = some k -> 2 <= k) : Tabs w2 := by
  have h1 := h.below b
  exact h1.of hg.size (hg.block 0 h1.2.1 (fun e => by have := hr 0 e.symm; omega)) (hg.block 1 h1.1.1 (fun e => by have := hr 1 e.symm; omega))
theorem BlkVal.far {q B : Nat} {xs : List Ins} {v : Value} {w w' : World} (h : BlkVal B xs v w) (hf : Far q w w') (hq : q < B) : BlkVal B xs v w' := by
  obtain ⟨cs, h1, h2⟩ := h
  have key : ∀ (e s : Nat) (v : Value) (n : Nat) (xs : List Value), w.ownsRow B e s v n xs -> w'.ownsRow B e s v n xs := fun e s v n xs ho => hf.own ho (fun e => by have := ho.lt q e; omega)
  exact ⟨cs, key _ _ _ _ _ h1, InsRow.keep (key 3 1) _ _ h2⟩
theorem BlkVal.snoc {B : Nat} {acc : List Ins} {x : Ins} {v v2 va vt : Value} {cs : List Value} {w w2 : World} {o : Obj} (oR : w.ownsRow B 39 8 v acc.length cs) (hR : InsRow B w acc cs) (o1 : w.ownsRow B 3 1 va x.2.2.2.2.1.length (ints x.2.2.2.2.1)) (o2 : w.ownsRow B 3 1 vt x.2.2.2.2.2.1.length (ints x.2.2.2.2.2.1))
    (own : w2.ownsRow B 39 8 v2 (acc.length + 1) (cs ++ insCells x va vt)) (grow : (w.alloc o).grownBy w2 v.ownBlock) : BlkVal B (acc ++ [x]) v2 w2 := by
  have key : ∀ (v' : Value) (n : Nat) (xs : List Value), w.ownsRow B 3 1 v' n xs -> w2.ownsRow B 3 1 v' n xs := fun v' n xs h => own_other grow (oR.alloc o) (by decide) _ _ _ (h.alloc o)
  exact ⟨cs ++ insCells x va vt, by rw [List.length_append]; exact own, InsRow.snoc (key _ _ _ o1) (key _ _ _ o2) _ _ (InsRow.keep key _ _ hR)⟩
def OutB (B a : Nat) (L : List Tok) (E : Int) (r : Except Er ((List Ins × Nat) × List Tok)) (w : World) (e : Ending) (w' : World) : Prop :=
  Kp w.heap.size a w w' /\ ((∃ xs n l' v, r = .ok ((xs, n), l') /\ e = .returned v /\ BlkVal w.heap.size xs v w' /\ Rdr B a L E n l' w') \/ ∃ er : Er, r = .error er /\ e = thrown er.1 er.2)
theorem block_any {B a : Nat} {L : List Tok} {E : Int} {n k : Nat} {l : List Tok} (w : World) (h : Rdr B a L E n l w) (ht : Tabs w) (h2 : 2 <= a) (hk : k < 256) :
    Calls Tryz.prog 113 #[.pointer (some ⟨a, 0, none⟩), .int .i64 k] w (OutB B a L E (blockG E k n l) w) := by
  obtain ⟨i0, hi0, hz0, hz1, hz2⟩ := info_parts Tryz.info39
  have hfd := field_tok
  have H := hide h
  have T := hide ht
  have ha := h.suffix.2.2.2
  have hL := h.suffix.2.1
  have hBw := h.size
  have hsh := h.short
  clear h ht
  go_enter Tryz.func113, Tryz.ntmps113
  go_wp2_with fail
  refine (take_any _ H.out).mono ?_; rintro e w1 ⟨rfl, k1, r1⟩
  have P1 := hide (Pair.new w1 96 (a := .string (bs (peek0 l))) (b := .int .i64 (atOf E l)))
  have K1 := hide (k1.andBelow (below_box w1 (tokBox l E)))
  have R1 := hide (fun hl => (r1 hl).step (below_box w1 (tokBox l E)))
  have T1 := hide ((T.out.kp k1 h2 (by omega)).below (below_box w1 (tokBox l E)))
  clear k1 r1
  go_upto_region 2 with fail
  show Code.wp _ _ _ _ (w1.alloc (tokBox l E))
  generalize w1.alloc (tokBox l E) = W1 at *
  generalize w1.heap.size = tb at *
  obtain ⟨p0, p1, p2, p3, p4⟩ := P1.out
  cases hm : G.mark idxF 98 255 (peek0 l) with
  | none =>
    have HW := hide (block_head (n := n) (head_none (E := E) hk hm))
    go_region_with ((first
      | (go_at_call 124; refine (labelOf_none hsh hm).mono ?_; rintro e w2 ⟨rfl, b2⟩; refine step_done (P := Tryz.prog) (by exact bodyPost_thrown ⟨K1.out.andBelow (Below.undrew b2), .inr ⟨_, HW.out, rfl⟩⟩) ?_)))
    all_goals trivial
  | some j =>
    have hl : l ≠ [] := fun e => by subst e; cases hm
    by_cases hj : j = (k : Int)
    . subst hj
      have HH := hide (head_good (E := E) hk hm)
      have hjj : ((k : Int) == (k : Int)) = true := by simp
      go_region_held3 (fun w' => w'.cell? ⟨tb, 0, none⟩ = some (.string (bs (peek0 l))) /\ w'.cell? ⟨tb, 1, none⟩ = some (.int .i64 (atOf E l)))
        (first
          | (go_keep; done)
          | (go_split_ands; exact ⟨(b2.cell (p := ⟨tb, 0, none⟩) p4).trans (by assumption), (b2.cell (p := ⟨tb, 1, none⟩) p4).trans (by assumption)⟩)
          | (go_split_ands; exact ⟨(b3.cell (p := ⟨tb, 0, none⟩) p5).trans (by assumption), (b3.cell (p := ⟨tb, 1, none⟩) p5).trans (by assumption)⟩))
        ((first
          | (go_at_call 124; refine (labelOf_some hsh hm).mono ?_; rintro e w2 ⟨rfl, b2⟩; have p5 : tb < w2.heap.size := Nat.lt_of_lt_of_le p4 b2.size)
          | (go_at_call 101; refine (need_ok _ _ _ _).mono ?_; rintro e w3 ⟨rfl, b3⟩)))
      have b2' : Below W1.heap.size W1 w2 := Below.undrew b2
      have B3 := below_step b2' b3
      have K3 := hide (K1.out.andBelow B3)
      have R3 := hide ((R1.out hl).step B3)
      have T3 := hide (T1.out.below B3)
      clear K1 R1 T1 P1 b2 b2' b3 B3 p0 p1 p2 p3 p4 p5
      go_wp2_with fail
      refine (itself_any [58] (by simp) _ R3.out).mono ?_; rintro e w4 ⟨k4, ⟨u, l2, hx, rfl, r4⟩ | ⟨er, hx, rfl⟩⟩ <;> replace hx := hide hx
      . have HW := hide (block_body (n := n) HH.out hx.out)
        have K4 := hide (K3.out.trans (k4.mono K3.out.size))
        have T4 := hide (T3.out.kp k4 h2 (by have := K3.out.size; omega))
        have R4 := hide r4
        clear K3 R3 T3 k4 r4 hx HH
        go_wp2_with fail
        go_loopw [6] (fun v wr => ∃ (f m : Nat) (acc : List Ins) (l' : List Tok), BlkVal w.heap.size acc v wr /\ acc.length <= 131072 /\ Rdr B a L E m l' wr /\ Kp w.heap.size a w wr /\ Tabs wr /\ l'.length < f /\ acc.length + l'.length <= L.length /\ Hid (blockG E k n l = insG E f m acc l')) (fun _ wr => L.length - readAt a wr)
        case atStart => exact ⟨l2.length + 1, n, [], l2, ⟨[], World.ownsRow_nil _ _ _ _, rfl⟩, by simp, R4.out, K4.out, T4.out, by omega, by have := R4.out.suffix.1.length_le; simp; omega, HW⟩
        case round =>
          obtain ⟨f, m, acc, l', hV, h4, H5, K5, T5, hlf, hfit, HM⟩ := hrel
          have hra := H5.readAt
          have hll := H5.suffix.1.length_le
          have hs := K5.size
          obtain ⟨ao6, cap6, rfl⟩ := own_len hV.choose_spec.1
          have hV := hide hV
          have H5 := hide H5
          have K5 := hide K5
          have T5 := hide T5
          obtain ⟨f, rfl⟩ : ∃ q, f = q + 1 := ⟨f - 1, by omega⟩
          have HN1 := hide (is_text (peek0 l') [125])
          have HN2 := hide (is_text (peek1 l') [58])
          go_wp2_with fail
          refine (peek0_any _ H5.out).mono ?_; rintro e w5 ⟨rfl, b5⟩
          by_cases hc1 : peek0 l' = [125]
          . have HE := hide (HM.out.trans (ins_stop (.inl hc1)))
            have hne : ((bs (peek0 l')).toList == [125]) = true := HN1.out.trans (decide_eq_true hc1)
            have hne2 : ((bs (peek0 l')).toList != [125]) = false := by rw [bne, hne]; rfl
            clear hc1 HN1 HN2
            go_wp2_with fail
            go_ret
            exact ⟨K5.out.trans (Kp.of_belowW b5 hs), .inl ⟨acc, m, l', _, HE.out, rfl, hV.out.below b5, H5.out.step b5⟩⟩
          have hne : ((bs (peek0 l')).toList == [125]) = false := HN1.out.trans (decide_eq_false hc1)
          have hne2 : ((bs (peek0 l')).toList != [125]) = true := by rw [bne, hne]; rfl
          replace hc1 := hide hc1
          go_wp2_with fail
          refine (peek1_any _ (H5.out.step b5)).mono ?_; rintro e w6 ⟨z, rfl, b6⟩
          have B6 := hide (below_step b5 b6)
          clear b5 b6
          by_cases hc2 : peek1 l' = [58]
          . have HE := hide (HM.out.trans (ins_stop (.inr hc2)))
            have hnf : ((bs (peek1 l')).toList == [58]) = true := HN2.out.trans (decide_eq_true hc2)
            have hnf2 : ((bs (peek1 l')).toList != [58]) = false := by rw [bne, hnf]; rfl
            clear hc2 HN1 HN2
            go_wp2_with fail
            go_ret
            exact ⟨K5.out.trans (Kp.of_belowW B6.out hs), .inl ⟨acc, m, l', _, HE.out, rfl, hV.out.below B6.out, H5.out.step B6.out⟩⟩
          have hnf : ((bs (peek1 l')).toList == [58]) = false := HN2.out.trans (decide_eq_false hc2)
          have hnf2 : ((bs (peek1 l')).toList != [58]) = true := by rw [bne, hnf]; rfl
          have hcc : Hid (¬ (peek0 l' = [125] \/ peek1 l' = [58])) := hide (fun h => h.elim hc1.out hc2)
          clear hc1 hc2 HN1 HN2
          have V6 := hide (hV.out.below B6.out)
          have H6 := hide (H5.out.step B6.out)
          have K6 := hide (K5.out.trans (Kp.of_belowW B6.out hs))
          have T6 := hide (T5.out.below B6.out)
          have hs6 := K6.out.size
          clear hV H5 K5 T5 B6 hs
          obtain ⟨_, v6, c0, c1, c2, c3, f0, f1, f2, f3, hv⟩ := H6.out.cells
          have haw : a < w6.heap.size := by omega
          clear hv c0 c1 c2 f0 f1 f2
          by_cases hm4 : m < 4096
          . have hm4' : (m : Int) < 4096 := by omega
            go_wp2_with fail
            go_region_held3 (fun w' => w'.cell? ⟨a, 3, none⟩ = some (.int .i64 (m : Int)))
              (first
                | (go_keep; done)
                | (exact (b7.cell (p := ⟨a, 3, none⟩) haw).trans (by assumption))
                | (exact (b8.cell (p := ⟨a, 3, none⟩) haw7).trans (by assumption)))
              ((first
                | (go_at_call 102; refine (peek0_any _ H6.out.drew).mono ?_; rintro e w7 ⟨rfl, b7⟩; have haw7 : a < w7.heap.size := Nat.lt_of_lt_of_le haw b7.size)
                | (go_at_call 101; refine (need_ok _ _ _ _).mono ?_; rintro e w8 ⟨rfl, b8⟩)))
            have b7' : Below w6.heap.size w6 w7 := Below.undrew b7
            have B8 := below_step b7' b8
            have V8 := hide (V6.out.below B8)
            have H8 := hide (H6.out.step B8)
            have K8 := hide (K6.out.trans (Kp.of_belowW B8 hs6))
            have T8 := hide (T6.out.below B8)
            have hs8 := K8.out.size
            clear V6 H6 K6 T6 b7 b7' b8 B8 c3 f3 hs6 haw haw7
            obtain ⟨haw, v6, c0, c1, c2, c3, f0, f1, f2, f3, hv⟩ := H8.out.cells
            clear hv c0 c1 c2 f0 f1 f2
            have H9 := hide (H8.out.count hm4)
            have F9 := (Far.refl a w8).set 3 (.int .i64 ((m : Int) + 1))
            have K9 := hide (K8.out.setCell (p := ⟨a, 3, none⟩) (.inl ⟨rfl, by simp⟩) H8.out.not80 (.int .i64 ((m : Int) + 1)))
            have T9 := hide (T8.out.of (by rw [F9.2.2.2.1]; exact Nat.le_refl _) (F9.2.2.2.2 0 (by omega)) (F9.2.2.2.2 1 (by omega)))
            have V9 := hide (V8.out.far F9 (by omega))
            clear F9
            go_upto_region 8 with fail
            show Code.wp _ _ _ _ (w8.setCell ⟨a, 3, none⟩ (.int .i64 ((m : Int) + 1)))
            generalize w8.setCell ⟨a, 3, none⟩ (.int .i64 ((m : Int) + 1)) = W9 at *
            clear V8 H8 K8 T8 c3 f3 haw hs8
            have hs9 := K9.out.size
            go_wp2_with fail
            refine (instr_any _ H9.out T9.out h2).mono ?_; rintro e w10 ⟨k10, ⟨x, l10, v, hx, rfl, ⟨va, vt, rfl, o1, o2⟩, r10⟩ | ⟨er, hx, rfl⟩⟩ <;> replace hx := hide hx
            . have hless := instr_less hx.out
              have HE := hide (HM.out.trans (ins_go hcc.out hm4 hx.out))
              obtain ⟨aoA, mA, cA, rfl⟩ := own_slice o1
              obtain ⟨aoT, mT, cT, rfl⟩ := own_slice o2
              have V10 := V9.out.kp k10 (by omega)
              obtain ⟨cs, oR, hR⟩ := V10
              have K10 := hide (K9.out.trans (k10.mono hs9))
              have T10 := hide (T9.out.kp k10 h2 (by omega))
              have o1 := hide (own_base o1 hs9)
              have o2 := hide (own_base o2 hs9)
              have R10 := hide r10
              have oR := hide oR
              have hR := hide hR
              have hs10 := K10.out.size
              clear V9 H9 K9 T9 k10 r10
              unfold insCells
              go_wp2_with (at_builtin; refine wpList_append_own _ rfl (.tmp 42) (.tmp 45) 36 rfl w.heap.size 39 i0 _ 8 104 Tryz.underlying36 hi0 hz0 hz1 hz2 rfl (by decide) _ _ _ rfl (oR.out.alloc _) ⟨w10.heap.size, 0, none⟩ 1 1 (insCells x (.slice aoA mA cA) (.slice aoT mT cT)) rfl rfl eight_cell eight_one (by unfold maxLen; omega) (by omega) (by simp; omega) ?_; intro v11 w11 own11 grow11 _)
              have V11 := hide (BlkVal.snoc oR.out hR.out o1.out o2.out own11 grow11)
              have K11 := hide ((K10.out.alloc hs10 _).grown grow11 (by simp; omega) (fun q hq => ⟨(oR.out.lt q hq).1, by have := (oR.out.lt q hq).1; omega⟩) (own_not80 (oR.out.alloc _) (by decide)))
              have R11 := (R10.out.step (below_box w10 _)).grown grow11 (fun q hq => Nat.le_trans hBw (oR.out.lt q hq).1)
              have T11 := hide (T10.out.grew (below_box w10 _) grow11 (fun q hq => by have := (oR.out.lt q hq).1; omega))
              have hra2 := R11.readAt
              have hll2 := R11.suffix.1.length_le
              have R11 := hide R11
              clear own11 grow11
              go_wp2_with fail
              go_roundw
              case rel => exact ⟨f, m + 1, acc ++ [x], l10, V11.out, by simp; omega, R11.out, K11.out, T11.out, by omega, by simp; omega, HE⟩
              case measure => rw [hra, hra2]; omega
            . have HE := hide (HM.out.trans (ins_bad hcc.out hm4 hx.out))
              have K10 := hide (K9.out.trans (k10.mono hs9))
              unfold thrown
              go_wp2_with fail
              exact bodyPost_thrown ⟨K10.out, .inr ⟨er, HE.out, rfl⟩⟩
          . have HE := hide (HM.out.trans (ins_many hcc.out (by omega)))
            have hm4' : ¬ (m : Int) < 4096 := by omega
            have hm5 : (4096 : Int) <= m := by omega
            have hm6 : decide ((m : Int) < 4096) = false := by simpa using hm5
            go_wp2_with fail
            go_region_with ((first
              | (go_at_call 102; refine (peek0_any _ H6.out.drew).mono ?_; rintro e w7 ⟨rfl, b7⟩; have c37 := (b7.cell (p := ⟨a, 3, none⟩) haw).trans c3)
              | (go_at_call 101; refine (need_no _ _ _ _).mono ?_; rintro e w8 ⟨rfl, b8⟩; refine step_done (P := Tryz.prog) (by exact bodyPost_thrown (P := Tryz.prog) (fn := Tryz.f113) ⟨K6.out.trans (Kp.of_belowW (below_step (Below.undrew (w := w6) b7) b8) hs6), .inr ⟨_, HE.out, rfl⟩⟩) ?_)))
            all_goals trivial
      . have HW := hide (block_word (n := n) HH.out hx.out)
        have K4 := hide (K3.out.trans (k4.mono K3.out.size))
        unfold thrown
        go_wp2_with fail
        exact bodyPost_thrown ⟨K4.out, .inr ⟨er, HW.out, rfl⟩⟩
    . have HW := hide (block_head (n := n) (head_other (E := E) hk hm hj))
      have hjj : (j == (k : Int)) = false := by simpa using hj
      go_region_with ((first
        | (go_at_call 124; refine (labelOf_some hsh hm).mono ?_; rintro e w2 ⟨rfl, b2⟩; obtain ⟨q0, q1, q2, q3, q4⟩ := P1.out.below (Below.undrew b2))
        | (go_at_call 101; refine (need_no _ _ _ _).mono ?_; rintro e w3 ⟨rfl, b3⟩; refine step_done (P := Tryz.prog) (by exact bodyPost_thrown ⟨(K1.out.andBelow (Below.undrew b2)).andBelow b3, .inr ⟨_, HW.out, rfl⟩⟩) ?_)))
      all_goals trivial
end Go.Proofs.YtahhbckccdigoaaGreatDoor
namespace Go.Proofs.YtahhbckccdigoaaGreatDoor
open Go Go.RowKit
open G (Tok Er Ins Fun peek0 peek1 atOf)
def Stay (B B' : Nat) (w w' : World) : Prop := ∀ (e s : Nat) (v : Value) (n : Nat) (xs : List Value), e = 3 \/ e = 36 \/ e = 39 -> w.ownsRow B e s v n xs -> w'.ownsRow B' e s v n xs
theorem Stay.trans {A B C : Nat} {u v w : World} (h : Stay A B u v) (k : Stay B C v w) : Stay A C u w := fun e s x n xs he ho => k e s x n xs he (h e s x n xs he ho)
theorem stay_below {B : Nat} {w w' : World} (b : Below w.heap.size w w') : Stay B B w w' := fun e s v n xs _ h => own_below b B e s v n xs h
theorem stay_kp {B a : Nat} {w w' : World} (k : Kp w.heap.size a w w') (ha : a < B) : Stay B B w w' := fun e s v n xs _ h => own_kept k ha e s v n xs h
theorem stay_base {B B' : Nat} {w : World} (hB : B' <= B) : Stay B B' w w := fun _ _ _ _ _ _ h => own_base h hB
theorem stay_far {q B : Nat} {w w' : World} (hf : Far q w w') (hq : ∀ (e s : Nat) (v : Value) (n : Nat) (xs : List Value), e = 3 \/ e = 36 \/ e = 39 -> w.ownsRow B e s v n xs -> v.ownBlock ≠ some q) : Stay B B w w' := fun e s v n xs he h => hf.own h (hq e s v n xs he h)
theorem far_kind {q B t : Nat} {w w' : World} (hf : Far q w w') {c : Array Value} {fz : Nat × Nat} (hc : w.heap[q]? = some (.cells c t fz)) (ht : t ≠ 3 /\ t ≠ 36 /\ t ≠ 39) : Stay B B w w' :=
  stay_far hf fun e s v n xs he h => by
    refine own_ne h hc ?_
    rcases he with rfl | rfl | rfl
    . exact ht.1
    . exact ht.2.1
    . exact ht.2.2
theorem stay_grown {B B' e' s' n : Nat} {w w' : World} {row : Value} {ys : List Value} (hg : w.grownBy w' row.ownBlock) (hr : w.ownsRow B' e' s' row n ys) (he' : e' ≠ 3 /\ e' ≠ 36 /\ e' ≠ 39) : Stay B B w w' := fun e s v m xs he h => own_other hg hr (by omega) v m xs h
theorem BlkVal.stay {B B' : Nat} {xs : List Ins} {v : Value} {w w' : World} (h : BlkVal B xs v w) (hs : Stay B B' w w') : BlkVal B' xs v w' := by
  obtain ⟨cs, h1, h2⟩ := h
  exact ⟨cs, hs _ _ _ _ _ (by simp) h1, InsRow.keep (fun v n xs h => hs 3 1 v n xs (by simp) h) _ _ h2⟩
def BRow (B : Nat) (w : World) : List (List Ins) -> List Value -> Prop
  | [], vs => vs = []
  | b :: r, vs => ∃ v rest, vs = v :: rest /\ BlkVal B b v w /\ BRow B w r rest
theorem BRow.keep {B B' : Nat} {w w' : World} (hk : ∀ xs v, BlkVal B xs v w -> BlkVal B' xs v w') : ∀ (l : List (List Ins)) (vs : List Value), BRow B w l vs -> BRow B' w' l vs := by
  intro l
  induction l with
  | nil => intro vs h; exact h
  | cons b r ih =>
    rintro vs ⟨v, rest, h1, h2, h3⟩
    exact ⟨v, rest, h1, hk _ _ h2, ih rest h3⟩
theorem BRow.snoc {B : Nat} {w : World} {b : List Ins} {v : Value} (h : BlkVal B b v w) : ∀ (l : List (List Ins)) (vs : List Value), BRow B w l vs -> BRow B w (l ++ [b]) (vs ++ [v]) := by
  intro l
  induction l with
  | nil => intro vs hv; cases hv; exact ⟨v, [], rfl, h, rfl⟩
  | cons y r ih =>
    rintro vs ⟨u, rest, rfl, h4, h5⟩
    exact ⟨u, rest ++ [v], rfl, h4, ih rest h5⟩
def BlksVal (B : Nat) (bl : List (List Ins)) (v : Value) (w : World) : Prop := ∃ vs, w.ownsRow B 36 1 v bl.length vs /\ BRow B w bl vs
theorem BlksVal.stay {B B' : Nat} {bl : List (List Ins)} {v : Value} {w w' : World} (h : BlksVal B bl v w) (hs : Stay B B' w w') : BlksVal B' bl v w' := by
  obtain ⟨vs, h1, h2⟩ := h
  exact ⟨vs, hs _ _ _ _ _ (by simp) h1, BRow.keep (fun _ _ h => h.stay hs) _ _ h2⟩
def funCells (x : Fun) (vp vb : Value) : List Value := [.string (bs x.1), vp, .int .i64 x.2.2.1, vb, .int .i64 x.2.2.2.2]
def FunAt (B c : Nat) (x : Fun) (w : World) : Prop :=
  ∃ vp vb, w.heap[c]? = some (.cells (funCells x vp vb).toArray 34 (0, 0)) /\ w.ownsRow B 3 1 vp x.2.1.length (ints x.2.1) /\ BlksVal B x.2.2.2.1 vb w /\ B <= c
def FunVal (B : Nat) (x : Fun) (v : Value) (w : World) : Prop :=
  ∃ vp vb, v = .agg (funCells x vp vb).toArray /\ w.ownsRow B 3 1 vp x.2.1.length (ints x.2.1) /\ BlksVal B x.2.2.2.1 vb w
theorem FunAt.stay {B c : Nat} {x : Fun} {w w' : World} (h : FunAt B c x w) (hs : Stay B B w w') (hc : w'.heap[c]? = w.heap[c]?) : FunAt B c x w' := by
  obtain ⟨vp, vb, h1, h2, h3, h4⟩ := h
  exact ⟨vp, vb, hc.trans h1, hs _ _ _ _ _ (by simp) h2, h3.stay hs, h4⟩
theorem FunAt.lt {B c : Nat} {x : Fun} {w : World} (h : FunAt B c x w) : c < w.heap.size /\ B <= c := by
  obtain ⟨vp, vb, h1, h2, h3, h4⟩ := h
  exact ⟨(Array.getElem?_eq_some_iff.1 h1).1, h4⟩
theorem FunAt.put {B c i : Nat} {x y : Fun} {w : World} {v : Value} {vp' vb' : Value -> Value -> Value} (h : FunAt B c x w) (hy : ∀ vp vb, (funCells x vp vb).toArray.setIfInBounds i v = (funCells y (vp' vp vb) (vb' vp vb)).toArray) (hp : ∀ vp vb, w.ownsRow B 3 1 vp x.2.1.length (ints x.2.1) -> w.ownsRow B 3 1 (vp' vp vb) y.2.1.length (ints y.2.1)) (hb : ∀ vp vb, BlksVal B x.2.2.2.1 vb w -> BlksVal B y.2.2.2.1 (vb' vp vb) w) : FunAt B c y (w.setCell ⟨c, i, none⟩ v) := by
  obtain ⟨vp, vb, h1, h2, h3, h4⟩ := h
  have hs : Stay B B w (w.setCell ⟨c, i, none⟩ v) := far_kind ((Far.refl c w).set i v) h1 (by decide)
  refine ⟨vp' vp vb, vb' vp vb, ?_, hs _ _ _ _ _ (by simp) (hp vp vb h2), (hb vp vb h3).stay hs, h4⟩
  rw [heap_setCell_same w c i _ 34 _ h1, hy]
theorem FunAt.never80 {B c : Nat} {x : Fun} {w : World} (h : FunAt B c x w) : ∀ (cs : Array Value) (fz : Nat × Nat), w.heap[c]? ≠ some (.cells cs 152 fz) := fun cs fz hc => by
  obtain ⟨vp, vb, h1, _⟩ := h
  rw [h1] at hc
  simp at hc
def fName (x : Fun) (s : List UInt8) : Fun := (s, x.2.1, x.2.2.1, x.2.2.2.1, x.2.2.2.2)
def fParams (x : Fun) (p : List Int) : Fun := (x.1, p, x.2.2.1, x.2.2.2.1, x.2.2.2.2)
def fRet (x : Fun) (t : Int) : Fun := (x.1, x.2.1, t, x.2.2.2.1, x.2.2.2.2)
def fBlock (x : Fun) (b : List Ins) : Fun := (x.1, x.2.1, x.2.2.1, x.2.2.2.1 ++ [b], x.2.2.2.2)
theorem FunAt.name {B c : Nat} {x : Fun} {w : World} (h : FunAt B c x w) (s : List UInt8) : FunAt B c (fName x s) (w.setCell ⟨c, 0, none⟩ (.string (bs s))) :=
  h.put (vp' := fun vp _ => vp) (vb' := fun _ vb => vb) (fun _ _ => rfl) (fun _ _ h => h) (fun _ _ h => h)
theorem FunAt.params {B c : Nat} {x : Fun} {w : World} {p : List Int} {v : Value} (h : FunAt B c x w) (hp : w.ownsRow B 3 1 v p.length (ints p)) : FunAt B c (fParams x p) (w.setCell ⟨c, 1, none⟩ v) :=
  h.put (vp' := fun _ _ => v) (vb' := fun _ vb => vb) (fun _ _ => rfl) (fun _ _ _ => hp) (fun _ _ h => h)
theorem FunAt.ret {B c : Nat} {x : Fun} {w : World} (h : FunAt B c x w) (t : Int) : FunAt B c (fRet x t) (w.setCell ⟨c, 2, none⟩ (.int .i64 t)) :=
  h.put (vp' := fun vp _ => vp) (vb' := fun _ vb => vb) (fun _ _ => rfl) (fun _ _ h => h) (fun _ _ h => h)
theorem FunAt.new {B : Nat} {w : World} (hB : B <= w.heap.size) (p : Int) : FunAt B w.heap.size ([], [], 0, [], p) (w.alloc (.cells #[.string ⟨#[]⟩, .slice none 0 0, .int .i64 0, .slice none 0 0, .int .i64 p] 34)) :=
  ⟨.slice none 0 0, .slice none 0 0, heap_alloc_new w _, World.ownsRow_nil _ _ _ _, ⟨[], World.ownsRow_nil _ _ _ _, rfl⟩, hB⟩
theorem FunAt.cells {B c : Nat} {x : Fun} {w : World} (h : FunAt B c x w) : ∃ vp vb, (∀ i v, (funCells x vp vb)[i]? = some v -> w.cell? ⟨c, i, none⟩ = some v) /\ (∀ i, w.frozen? ⟨c, i, none⟩ = false) /\ w.ownsRow B 3 1 vp x.2.1.length (ints x.2.1) /\ BlksVal B x.2.2.2.1 vb w := by
  obtain ⟨vp, vb, h1, h2, h3, h4⟩ := h
  refine ⟨vp, vb, fun i v hv => ?_, fun i => by simp [World.frozen?, h1], h2, h3⟩
  simp only [World.cell?, h1]
  simpa using hv
def MidF (w : World) (a c : Nat) (L : List Tok) (E : Int) (n : Nat) (x : Fun) (l : List Tok) (wk : World) : Prop :=
  Rdr (w.heap.size + 1) a L E n l wk /\ FunAt (w.heap.size + 1) c x wk /\ wk.heap[w.heap.size]? = some (.cells #[.string ⟨#[]⟩, .slice none 0 0, .int .i64 0, .slice none 0 0, .int .i64 0] 34 (0, 0)) /\ Kp w.heap.size a w wk /\ Tabs wk /\ 2 <= a
theorem MidF.lt {w : World} {a c : Nat} {L : List Tok} {E : Int} {n : Nat} {x : Fun} {l : List Tok} {wk : World} (h : MidF w a c L E n x l wk) : a < w.heap.size /\ w.heap.size < c /\ c < wk.heap.size /\ w.heap.size < wk.heap.size := by
  obtain ⟨h1, h2, h3, h4, h5, h6⟩ := h
  have := h1.suffix.2.2.2
  have := h2.lt
  have hne : a ≠ w.heap.size := by
    intro e
    obtain ⟨v, hv, _⟩ := h1
    rw [e, h3] at hv
    simp at hv
  have := (Array.getElem?_eq_some_iff.1 h3).1
  omega
theorem MidF.kp {w : World} {a c : Nat} {L : List Tok} {E : Int} {n n' : Nat} {x : Fun} {l l' : List Tok} {wk wk' : World} (h : MidF w a c L E n x l wk) (k : Kp wk.heap.size a wk wk') (r : Rdr (w.heap.size + 1) a L E n' l' wk') : MidF w a c L E n' x l' wk' := by
  have hl := h.lt
  obtain ⟨h1, h2, h3, h4, h5, h6⟩ := h
  exact ⟨r, h2.stay (stay_kp k (by omega)) (k.2.2.2.2 _ (by omega) (by omega)), (k.2.2.2.2 _ (by omega) (by omega)).trans h3, h4.trans (k.mono h4.size), h5.kp k h6 (by omega), h6⟩
theorem MidF.step {w : World} {a c : Nat} {L : List Tok} {E : Int} {n : Nat} {x : Fun} {l : List Tok} {wk wk' : World} (h : MidF w a c L E n x l wk) (b : Below wk.heap.size wk wk') : MidF w a c L E n x l wk' :=
  h.kp (Kp.of_belowW b (Nat.le_refl _)) (h.1.step b)
theorem MidF.put {w : World} {a c i : Nat} {L : List Tok} {E : Int} {n : Nat} {x y : Fun} {l : List Tok} {wk : World} {v : Value} (h : MidF w a c L E n x l wk) (hi : FunAt (w.heap.size + 1) c y (wk.setCell ⟨c, i, none⟩ v)) : MidF w a c L E n y l (wk.setCell ⟨c, i, none⟩ v) := by
  have hl := h.lt
  have hf := (Far.refl c wk).set i v
  obtain ⟨h1, h2, h3, h4, h5, h6⟩ := h
  exact ⟨h1.set (by show _ <= c; omega) _, hi, (hf.2.2.2.2 _ (by omega)).trans h3, h4.trans (hf.kp (by omega) (by omega) h2.never80), h5.of (by rw [hf.2.2.2.1]; exact Nat.le_refl _) (hf.2.2.2.2 0 (by omega)) (hf.2.2.2.2 1 (by omega)), h6⟩
theorem MidF.cel {w : World} {a c : Nat} {L : List Tok} {E : Int} {n : Nat} {x : Fun} {l : List Tok} {wk : World} (h : MidF w a c L E n x l wk) : (∃ u, wk.cell? ⟨c, 0, none⟩ = some u) /\ (∃ u, wk.cell? ⟨c, 1, none⟩ = some u) /\ (∃ u, wk.cell? ⟨c, 2, none⟩ = some u) /\ ∀ i, wk.frozen? ⟨c, i, none⟩ = false := by
  obtain ⟨vp, vb, h1, h2, _⟩ := h.2.1.cells
  exact ⟨⟨_, h1 0 _ rfl⟩, ⟨_, h1 1 _ rfl⟩, ⟨_, h1 2 _ rfl⟩, h2⟩
end Go.Proofs.YtahhbckccdigoaaGreatDoor
