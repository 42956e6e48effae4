/- Words that stand for themselves, names, numbers and letters of shapes, and what becomes of them in an instruction. -/
import Derived.Test.YtahhbckccdigoaaGreatDoorMbAH
set_option maxHeartbeats 8000000
set_option maxRecDepth 20000
namespace Go.Proofs.YtahhbckccdigoaaGreatDoor
open Go Go.RowKit
open G (Tok Er Ins Fun peek0 peek1 atOf)
theorem InsAt.cel {B c : Nat} {x : Ins} {w : World} (h : InsAt B c x w) : w.cell? ⟨c, 2, none⟩ = some (.int .i64 x.2.2.1) /\ w.frozen? ⟨c, 2, none⟩ = false /\ w.cell? ⟨c, 6, none⟩ = some (.string (bs x.2.2.2.2.2.2.1)) /\ w.frozen? ⟨c, 6, none⟩ = false := by
  obtain ⟨va, vt, h1, h2, h3, h4, h5⟩ := h
  exact ⟨by simp [World.cell?, h1, insCells], by simp [World.frozen?, h1], by simp [World.cell?, h1, insCells], by simp [World.frozen?, h1]⟩
theorem InsAt.put {B c i : Nat} {x y : Ins} {w : World} {v : Value} (h : InsAt B c x w) (hy : ∀ va vt, (insCells x va vt).toArray.setIfInBounds i v = (insCells y va vt).toArray) (ha : y.2.2.2.2.1 = x.2.2.2.2.1) (ht : y.2.2.2.2.2.1 = x.2.2.2.2.2.1) : InsAt B c y (w.setCell ⟨c, i, none⟩ v) := by
  obtain ⟨va, vt, h1, h2, h3, h4, h5⟩ := h
  have n1 : va.ownBlock ≠ some c := own_ne h2 h1 (by decide)
  have n2 : vt.ownBlock ≠ some c := own_ne h3 h1 (by decide)
  refine ⟨va, vt, ?_, ?_, ?_, h4, h5⟩
  . rw [heap_setCell_same w c i _ 39 _ h1, hy]
  . rw [ha]; exact own_setCell h2 n1 _
  . rw [ht]; exact own_setCell h3 n2 _
theorem InsAt.setN {B c : Nat} {x : Ins} {w : World} (h : InsAt B c x w) (v : Int) : InsAt B c (setN x v) (w.setCell ⟨c, 2, none⟩ (.int .i64 v)) := h.put (fun _ _ => rfl) rfl rfl
theorem InsAt.setName {B c : Nat} {x : Ins} {w : World} (h : InsAt B c x w) (s : List UInt8) : InsAt B c (setName x s) (w.setCell ⟨c, 6, none⟩ (.string (bs s))) := h.put (fun _ _ => rfl) rfl rfl
abbrev tokBox (l : List Tok) (E : Int) : Obj := .cells #[.string (bs (peek0 l)), .int .i64 (atOf E l)] 96
theorem one_some {α : Type} {f : List UInt8 -> Option α} {c : List UInt8 -> Int} {E : Int} {l : List Tok} {v : α} (h : f (peek0 l) = some v) : G.one f c E l = .ok (v, l.tail) := by
  unfold G.one; rw [h]
theorem one_none {α : Type} {f : List UInt8 -> Option α} {c : List UInt8 -> Int} {E : Int} {l : List Tok} (h : f (peek0 l) = none) : G.one f c E l = .error (c (peek0 l), atOf E l) := by
  unfold G.one; rw [h]
theorem want_of (E : Int) (wd : List UInt8) (l : List Tok) : G.want E wd l = if peek0 l = wd then .ok ((), l.tail) else .error (2, atOf E l) := by
  by_cases h : peek0 l = wd
  . rw [if_pos h]; exact one_some (if_pos h)
  . rw [if_neg h]; exact one_none (if_neg h)
theorem eq_text (s t : List UInt8) : ((bs s).toList == (bs t).toList) = decide (s = t) := by
  rw [ByteArray.toList_eq, ByteArray.toList_eq, bs_data, bs_data]
  by_cases h : s = t
  . subst h; simp
  . simp [h]
theorem itself_any {B a : Nat} {L : List Tok} {E : Int} {n : Nat} {l : List Tok} (wd : List UInt8) (hw : wd ≠ []) (w : World) (h : Rdr B a L E n l w) :
    Calls Tryz.prog 108 #[.pointer (some ⟨a, 0, none⟩), .string (bs wd)] w (Out B a L E n (G.want E wd l) (fun _ => .tuple #[]) w) := by
  have HW := hide (want_of E wd l)
  have HE := hide (eq_text (peek0 l) wd)
  have H := hide h
  clear h
  go_enter Tryz.func108, Tryz.ntmps108
  go_wp2_with fail
  refine (take_any _ H.out).mono ?_; rintro e w1 ⟨rfl, k1, r1⟩
  by_cases hs : peek0 l = wd
  . have HW2 := hide (HW.out.trans (if_pos hs))
    have HE2 : ((bs (peek0 l)).toList == (bs wd).toList) = true := HE.out.trans (decide_eq_true hs)
    have hl : l ≠ [] := fun e => hw (by rw [<- hs, e]; rfl)
    clear HE
    go_wp2_with fail
    refine (need_ok _ _ _ _).mono ?_; rintro e w2 ⟨rfl, b2⟩
    go_wp2_with fail
    go_end0
    exact ⟨(k1.andBelow (below_box w1 _)).andBelow b2, .inl ⟨(), l.tail, HW2.out, rfl, ((r1 hl).step (below_box w1 _)).step b2⟩⟩
  . have HW2 := hide (HW.out.trans (if_neg hs))
    have HE2 : ((bs (peek0 l)).toList == (bs wd).toList) = false := HE.out.trans (decide_eq_false hs)
    clear HE
    go_wp2_with fail
    refine (need_no _ _ _ _).mono ?_; rintro e w2 ⟨rfl, b2⟩
    unfold thrown
    go_wp2_with fail
    exact bodyPost_thrown ⟨(k1.andBelow (below_box w1 _)).andBelow b2, .inr ⟨_, HW2.out, rfl⟩⟩
theorem anyNum_of (E : Int) (l : List Tok) : G.anyNum numF E l = if (numF (peek0 l)).2 = 0 then .ok ((numF (peek0 l)).1, l.tail) else .error ((numF (peek0 l)).2, atOf E l) := by
  by_cases h : (numF (peek0 l)).2 = 0
  . rw [if_pos h]; exact one_some (if_neg (by simp [h]))
  . rw [if_neg h]; exact one_none (if_pos h)
theorem numF_nil (l : List Tok) (h : (numF (peek0 l)).2 = 0) : l ≠ [] := fun e => by
  subst e; exact num_nil h
theorem number_step {B a c : Nat} {L : List Tok} {E : Int} {n : Nat} {l : List Tok} {x : Ins} (w : World) (h : Rdr B a L E n l w) (hi : InsAt B c x w) :
    Calls Tryz.prog 152 #[.pointer (some ⟨a, 0, none⟩), .pointer (some ⟨c, 0, none⟩)] w (Step B a c L E n (byWord x setN (G.anyNum numF E l)) w) := by
  have HW := hide (anyNum_of E l)
  have hN := numF_nil l
  have hsh : (bs (peek0 l)).size <= maxLen := by rw [bs_size]; have := h.short; unfold maxLen; omega
  have H := hide h
  have I := hide hi
  have ha := h.suffix.2.2.2
  have hBw := h.size
  have hBc := hi.lt.2
  clear h hi
  go_enter Tryz.func152, Tryz.ntmps152
  go_wp2_with fail
  refine (take_any _ H.out).mono ?_; rintro e w1 ⟨rfl, k1, r1⟩
  go_wp2_with fail
  refine (L1.parse_any _ _ hsh).mono ?_; rintro e w2 ⟨rfl, rfl⟩
  rw [bs_data]
  have e1 : L1.readNum (peek0 l) = numF (peek0 l) := rfl
  rw [e1]
  clear e1
  generalize numF (peek0 l) = r at *
  obtain ⟨v, z⟩ := r
  by_cases hz : z = 0
  . subst hz
    have HW2 := hide (HW.out.trans (if_pos rfl))
    have hl := hN rfl
    clear HW hN
    go_wp2_with fail
    refine (need_ok _ _ _ _).mono ?_; rintro e w2 ⟨rfl, b2⟩
    have I2 := ((I.out.kp k1 ha).step (below_box w1 (tokBox l E))).step b2
    obtain ⟨c2, z2, _, _⟩ := I2.cel
    have I2 := hide I2
    go_wp2_with fail
    go_end0
    exact ⟨(((k1.andBelow (below_box w1 _)).andBelow b2).mono hBw).setCell (.inr ⟨hBc, by show c ≠ a; omega⟩) I2.out.not80 _, .inl ⟨_, l.tail, by unfold byWord; rw [HW2.out]; rfl, rfl, ((((r1 hl).step (below_box w1 _)).step b2)).set hBc _, I2.out.setN v⟩⟩
  . have HW2 := hide (HW.out.trans (if_neg hz))
    have hz' : (z == 0) = false := by simpa using hz
    clear HW hN
    go_wp2_with fail
    refine (need_no _ _ _ _).mono ?_; rintro e w2 ⟨rfl, b2⟩
    unfold thrown
    go_wp2_with fail
    exact bodyPost_thrown ⟨((k1.andBelow (below_box w1 _)).andBelow b2).mono hBw, .inr ⟨_, by unfold byWord; rw [HW2.out]; rfl, rfl⟩⟩
theorem upTo_of (E most : Int) (l : List Tok) : G.number numF E 0 most l = if (L1.indexNum (peek0 l) most).2 = 0 then .ok ((L1.indexNum (peek0 l) most).1, l.tail) else .error ((L1.indexNum (peek0 l) most).2, atOf E l) := by
  by_cases h1 : (L1.readNum (peek0 l)).2 = 0
  . by_cases h2 : (L1.readNum (peek0 l)).1 < 0 \/ most < (L1.readNum (peek0 l)).1
    . rw [L1.indexNum_out _ most h1 h2, if_neg (by simp)]
      refine (one_none (if_pos (.inr h2))).trans ?_
      show Except.error ((if (L1.readNum (peek0 l)).2 ≠ 0 then (L1.readNum (peek0 l)).2 else 18), atOf E l) = _
      rw [if_neg (by simp [h1])]
    . rw [L1.indexNum_in _ most h1 h2, if_pos rfl]
      exact one_some (if_neg (fun h => h.elim (fun h => h h1) h2))
  . rw [L1.indexNum_bad _ most h1, if_neg h1]
    refine (one_none (if_pos (.inl h1))).trans ?_
    show Except.error ((if (L1.readNum (peek0 l)).2 ≠ 0 then (L1.readNum (peek0 l)).2 else 18), atOf E l) = _
    rw [if_pos h1]
theorem index_nil (most : Int) (l : List Tok) (h : (L1.indexNum (peek0 l) most).2 = 0) : l ≠ [] := fun e => by
  subst e
  have h2 : (L1.indexNum [] most).2 = 0 := h
  rw [L1.indexNum_bad [] most num_nil] at h2
  exact num_nil h2
theorem upTo_any {B a : Nat} {L : List Tok} {E : Int} {n : Nat} {l : List Tok} (most : Int) (w : World) (h : Rdr B a L E n l w) :
    Calls Tryz.prog 167 #[.pointer (some ⟨a, 0, none⟩), .int .i64 most] w (Out B a L E n (G.number numF E 0 most l) (fun v => .int .i64 v) w) := by
  have HW := hide (upTo_of E most l)
  have hN := index_nil most l
  have hsh : (bs (peek0 l)).size <= maxLen := by rw [bs_size]; have := h.short; unfold maxLen; omega
  have H := hide h
  clear h
  go_enter Tryz.func167, Tryz.ntmps167
  go_wp2_with fail
  refine (take_any _ H.out).mono ?_; rintro e w1 ⟨rfl, k1, r1⟩
  go_wp2_with fail
  refine (L1.index_any _ most _ hsh).mono ?_; rintro e w2 ⟨rfl, rfl⟩
  rw [bs_data]
  generalize L1.indexNum (peek0 l) most = r at *
  obtain ⟨v, z⟩ := r
  by_cases hz : z = 0
  . subst hz
    have HW2 := hide (HW.out.trans (if_pos rfl))
    have hl := hN rfl
    clear HW hN
    go_wp2_with fail
    refine (need_ok _ _ _ _).mono ?_; rintro e w2 ⟨rfl, b2⟩
    go_wp2_with fail
    go_ret
    exact ⟨(k1.andBelow (below_box w1 _)).andBelow b2, .inl ⟨v, l.tail, HW2.out, rfl, ((r1 hl).step (below_box w1 _)).step b2⟩⟩
  . have HW2 := hide (HW.out.trans (if_neg hz))
    have hz' : (z == 0) = false := by simpa using hz
    clear HW hN
    go_wp2_with fail
    refine (need_no _ _ _ _).mono ?_; rintro e w2 ⟨rfl, b2⟩
    unfold thrown
    go_wp2_with fail
    exact bodyPost_thrown ⟨(k1.andBelow (below_box w1 _)).andBelow b2, .inr ⟨_, HW2.out, rfl⟩⟩
theorem slot_step {B a c : Nat} {L : List Tok} {E : Int} {n : Nat} {l : List Tok} {x : Ins} (w : World) (h : Rdr B a L E n l w) (hi : InsAt B c x w) :
    Calls Tryz.prog 154 #[.pointer (some ⟨a, 0, none⟩), .pointer (some ⟨c, 0, none⟩)] w (Step B a c L E n (byWord x setN (G.number numF E 0 15 l)) w) := by
  have H := hide h
  have I := hide hi
  have ha := h.suffix.2.2.2
  have hBw := h.size
  have hBc := hi.lt.2
  clear h hi
  go_enter Tryz.func154, Tryz.ntmps154
  go_wp2_with fail
  refine (upTo_any 15 _ H.out).mono ?_; rintro e w1 ⟨k1, ⟨v, l', hx, rfl, r1⟩ | ⟨er, hx, rfl⟩⟩ <;> replace hx := hide hx
  . have I2 := I.out.kp k1 ha
    obtain ⟨c2, z2, _, _⟩ := I2.cel
    have I2 := hide I2
    go_wp2_with fail
    go_end0
    exact ⟨(k1.mono hBw).setCell (.inr ⟨hBc, by show c ≠ a; omega⟩) I2.out.not80 _, .inl ⟨_, l', by unfold byWord; rw [hx.out]; rfl, rfl, r1.set hBc _, I2.out.setN v⟩⟩
  . unfold thrown
    go_wp2_with fail
    exact bodyPost_thrown ⟨k1.mono hBw, .inr ⟨er, by unfold byWord; rw [hx.out]; rfl, rfl⟩⟩
theorem point_step {B a c : Nat} {L : List Tok} {E : Int} {n : Nat} {l : List Tok} {x : Ins} (w : World) (h : Rdr B a L E n l w) (hi : InsAt B c x w) :
    Calls Tryz.prog 159 #[.pointer (some ⟨a, 0, none⟩), .pointer (some ⟨c, 0, none⟩)] w (Step B a c L E n (byWord x setN (G.number numF E 0 1048576 l)) w) := by
  have H := hide h
  have I := hide hi
  have ha := h.suffix.2.2.2
  have hBw := h.size
  have hBc := hi.lt.2
  clear h hi
  go_enter Tryz.func159, Tryz.ntmps159
  go_wp2_with fail
  refine (upTo_any 1048576 _ H.out).mono ?_; rintro e w1 ⟨k1, ⟨v, l', hx, rfl, r1⟩ | ⟨er, hx, rfl⟩⟩ <;> replace hx := hide hx
  . have I2 := I.out.kp k1 ha
    obtain ⟨c2, z2, _, _⟩ := I2.cel
    have I2 := hide I2
    go_wp2_with fail
    go_end0
    exact ⟨(k1.mono hBw).setCell (.inr ⟨hBc, by show c ≠ a; omega⟩) I2.out.not80 _, .inl ⟨_, l', by unfold byWord; rw [hx.out]; rfl, rfl, r1.set hBc _, I2.out.setN v⟩⟩
  . unfold thrown
    go_wp2_with fail
    exact bodyPost_thrown ⟨k1.mono hBw, .inr ⟨er, by unfold byWord; rw [hx.out]; rfl, rfl⟩⟩
theorem trap_step {B a c : Nat} {L : List Tok} {E : Int} {n : Nat} {l : List Tok} {x : Ins} (w : World) (h : Rdr B a L E n l w) (hi : InsAt B c x w) :
    Calls Tryz.prog 161 #[.pointer (some ⟨a, 0, none⟩), .pointer (some ⟨c, 0, none⟩)] w (Step B a c L E n (byWord x setN (G.number numF E 0 255 l)) w) := by
  have H := hide h
  have I := hide hi
  have ha := h.suffix.2.2.2
  have hBw := h.size
  have hBc := hi.lt.2
  clear h hi
  go_enter Tryz.func161, Tryz.ntmps161
  go_wp2_with fail
  refine (upTo_any 255 _ H.out).mono ?_; rintro e w1 ⟨k1, ⟨v, l', hx, rfl, r1⟩ | ⟨er, hx, rfl⟩⟩ <;> replace hx := hide hx
  . have I2 := I.out.kp k1 ha
    obtain ⟨c2, z2, _, _⟩ := I2.cel
    have I2 := hide I2
    go_wp2_with fail
    go_end0
    exact ⟨(k1.mono hBw).setCell (.inr ⟨hBc, by show c ≠ a; omega⟩) I2.out.not80 _, .inl ⟨_, l', by unfold byWord; rw [hx.out]; rfl, rfl, r1.set hBc _, I2.out.setN v⟩⟩
  . unfold thrown
    go_wp2_with fail
    exact bodyPost_thrown ⟨k1.mono hBw, .inr ⟨er, by unfold byWord; rw [hx.out]; rfl, rfl⟩⟩
theorem shp_of (s : List UInt8) : ∃ a b : Int, L3.readS (bs s) = .tuple #[.agg #[.int .i64 a, .int .i64 b], .int .i64 (shpF s)] := by
  have key : ∃ a b c : Int, L3.readS (bs s) = .tuple #[.agg #[.int .i64 a, .int .i64 b], .int .i64 c] := by
    unfold L3.readS L3.readL
    split
    . exact ⟨_, _, _, rfl⟩
    . split
      . exact ⟨_, _, _, rfl⟩
      . split
        . exact ⟨_, _, _, rfl⟩
        . exact ⟨_, _, _, rfl⟩
  obtain ⟨a, b, c, h⟩ := key
  refine ⟨a, b, ?_⟩
  have e : shpF s = c := by unfold shpF; rw [h]; rfl
  rw [e, h]
theorem shaped_of (E : Int) (l : List Tok) : G.shaped shpF E l = if shpF (peek0 l) = 0 then .ok (peek0 l, l.tail) else .error (shpF (peek0 l), atOf E l) := by
  by_cases h : shpF (peek0 l) = 0
  . rw [if_pos h]; exact one_some (if_neg (by simp [h]))
  . rw [if_neg h]; exact one_none (if_pos h)
theorem shp_ne (l : List Tok) (h : shpF (peek0 l) = 0) : l ≠ [] := fun e => by subst e; exact shp_nil h
def Tabs (w : World) : Prop := L3.Tab w /\ L5.Tab w
theorem Tabs.below {w w' : World} (h : Tabs w) (b : Below w.heap.size w w') : Tabs w' := ⟨h.1.below b, h.2.below b⟩
theorem Tabs.of {w w' : World} (h : Tabs w) (hs : w.heap.size <= w'.heap.size) (e0 : w'.heap[0]? = w.heap[0]?) (e1 : w'.heap[1]? = w.heap[1]?) : Tabs w' := by
  have c0 : ∀ i, w'.cell? ⟨0, i, none⟩ = w.cell? ⟨0, i, none⟩ := fun i => World.cell?_of_block e0
  have c1 : ∀ i, w'.cell? ⟨1, i, none⟩ = w.cell? ⟨1, i, none⟩ := fun i => World.cell?_of_block e1
  refine ⟨⟨Nat.lt_of_lt_of_le h.1.1 hs, fun k hk => (c1 k).trans (h.1.2 k hk)⟩, Nat.lt_of_lt_of_le h.2.1 hs, fun k hk => ?_⟩
  rw [c0, c0, c0, c0, c0]
  exact h.2.2 k hk
theorem Tabs.kp {B a : Nat} {w w' : World} (h : Tabs w) (k : Kp B a w w') (ha : 2 <= a) (hB : a < B) : Tabs w' :=
  h.of k.size (k.2.2.2.2 0 (by omega) (by omega)) (k.2.2.2.2 1 (by omega) (by omega))
theorem letters_step {B a c : Nat} {L : List Tok} {E : Int} {n : Nat} {l : List Tok} {x : Ins} (w : World) (h : Rdr B a L E n l w) (hi : InsAt B c x w) (ht : Tabs w) (h2 : 2 <= a) :
    Calls Tryz.prog 153 #[.pointer (some ⟨a, 0, none⟩), .pointer (some ⟨c, 0, none⟩)] w (Step B a c L E n (byWord x setName (G.shaped shpF E l)) w) := by
  have HW := hide (shaped_of E l)
  have hN := shp_ne l
  have H := hide h
  have I := hide hi
  have T := hide ht
  have ha := h.suffix.2.2.2
  have hBw := h.size
  have hBc := hi.lt.2
  obtain ⟨u, v, HS⟩ := shp_of (peek0 l)
  have HS := hide HS
  clear h hi ht
  go_enter Tryz.func153, Tryz.ntmps153
  go_wp2_with fail
  refine (take_any _ H.out).mono ?_; rintro e w1 ⟨rfl, k1, r1⟩
  have T1 := hide ((T.out.kp k1 h2 (by omega)).below (below_box w1 (tokBox l E)))
  have P1 := hide (Pair.new w1 96 (a := .string (bs (peek0 l))) (b := .int .i64 (atOf E l)))
  go_wp2_with fail
  refine (L3.parse_all _ _ T1.out.1).mono ?_; rintro e w2 ⟨rfl, b2⟩
  rw [HS.out]
  have P2 := P1.out.below b2
  have P3 := hide (P2.below (below_box w2 (.cells #[.int .i64 u, .int .i64 v] 65)))
  have s1 := b2.size
  obtain ⟨p0, p1, p2, p3, p4⟩ := P3.out
  have hne : w1.heap.size ≠ w2.heap.size := by have := P2.2.2.2.2; omega
  clear P2 HS
  generalize shpF (peek0 l) = z at *
  by_cases hz : z = 0
  . have HW2 := hide (HW.out.trans (if_pos hz))
    have hl := hN hz
    subst hz
    clear HW hN
    go_wp2_with fail
    refine (need_ok _ _ _ _).mono ?_; rintro e w3 ⟨rfl, b3⟩
    have I2 := (((I.out.kp k1 ha).step (below_box w1 (tokBox l E))).step b2).step (below_step (below_box w2 (.cells #[.int .i64 u, .int .i64 v] 65)) b3)
    obtain ⟨_, _, c2, z2⟩ := I2.cel
    obtain ⟨q0, q1, q2, q3, q4⟩ := P3.out.below b3
    have I2 := hide I2
    go_wp2_with fail
    go_end0
    exact ⟨(((k1.andBelow (below_box w1 _)).andBelow b2).andBelow (below_step (below_box w2 _) b3) |>.mono hBw).setCell (.inr ⟨hBc, by show c ≠ a; omega⟩) I2.out.not80 _, .inl ⟨_, l.tail, by unfold byWord; rw [HW2.out]; rfl, rfl, ((((r1 hl).step (below_box w1 _)).step b2).step (below_step (below_box w2 _) b3)).set hBc _, I2.out.setName _⟩⟩
  . have HW2 := hide (HW.out.trans (if_neg hz))
    have hz' : (z == 0) = false := by simpa using hz
    clear HW hN
    go_wp2_with fail
    refine (need_no _ _ _ _).mono ?_; rintro e w3 ⟨rfl, b3⟩
    unfold thrown
    go_wp2_with fail
    exact bodyPost_thrown ⟨((k1.andBelow (below_box w1 _)).andBelow b2).andBelow (below_step (below_box w2 _) b3) |>.mono hBw, .inr ⟨_, by unfold byWord; rw [HW2.out]; rfl, rfl⟩⟩
end Go.Proofs.YtahhbckccdigoaaGreatDoor
namespace Go.Proofs.YtahhbckccdigoaaGreatDoor
open Go Go.RowKit
open G (Tok Er Ins Fun peek0 peek1 atOf)
theorem Below.undrew {B : Nat} {w w' : World} (h : Below B w.drew w') : Below B w w' := ⟨h.1, h.2, h.3, h.4, h.5⟩
theorem name_of (E : Int) (l : List Tok) : G.name namF E l = if namF (peek0 l) = true then .ok (peek0 l, l.tail) else .error (4, atOf E l) := by
  by_cases h : namF (peek0 l) = true
  . rw [if_pos h]; exact one_some (if_pos h)
  . rw [if_neg h]; exact one_none (if_neg h)
theorem nam_ne (l : List Tok) (h : namF (peek0 l) = true) : l ≠ [] := fun e => by subst e; exact absurd (nam_nil.symm.trans h) (by simp)
theorem nameB_any (s : List UInt8) (b : Bool) (w : World) (hs : s.length <= 65536) (hb : namF s = b) : Calls Tryz.prog 74 #[.string (bs s)] w fun e w' => e = .returned (.bool b) /\ Below w.heap.size w w' := by
  have := L2.name_any (bs s) w (by rw [bs_size]; unfold maxLen; omega)
  rw [bs_data] at this
  subst hb
  exact this
theorem name_any {B a : Nat} {L : List Tok} {E : Int} {n : Nat} {l : List Tok} (w : World) (h : Rdr B a L E n l w) :
    Calls Tryz.prog 109 #[.pointer (some ⟨a, 0, none⟩)] w (Out B a L E n (G.name namF E l) (fun s => .string (bs s)) w) := by
  have HW := hide (name_of E l)
  have hN := nam_ne l
  have hsh := h.short
  have H := hide h
  clear h
  go_enter Tryz.func109, Tryz.ntmps109
  go_wp2_with fail
  refine (take_any _ H.out).mono ?_; rintro e w1 ⟨rfl, k1, r1⟩
  have P1 := hide (Pair.new w1 96 (a := .string (bs (peek0 l))) (b := .int .i64 (atOf E l)))
  have K1 := hide (k1.andBelow (below_box w1 (.cells #[.string (bs (peek0 l)), .int .i64 (atOf E l)] 96)))
  have R1 := hide (fun hl => (r1 hl).step (below_box w1 (.cells #[.string (bs (peek0 l)), .int .i64 (atOf E l)] 96)))
  clear k1 r1
  go_upto_region 2 with fail
  show Code.wp _ _ _ _ (w1.alloc (.cells #[.string (bs (peek0 l)), .int .i64 (atOf E l)] 96))
  generalize w1.alloc (.cells #[.string (bs (peek0 l)), .int .i64 (atOf E l)] 96) = W1 at *
  generalize w1.heap.size = g at *
  obtain ⟨p0, p1, p2, p3, p4⟩ := P1.out
  cases hb : namF (peek0 l) with
  | true =>
    have HW2 := hide (HW.out.trans (if_pos hb))
    have hl := hN hb
    clear HW hN
    go_region_with ((first
      | (go_at_call 74; refine (nameB_any (peek0 l) true _ hsh hb).mono ?_; rintro e w2 ⟨rfl, b2⟩; obtain ⟨q0, q1, q2, q3, q4⟩ := P1.out.below (Below.undrew b2))
      | (go_at_call 101; refine (need_ok _ _ _ _).mono ?_; rintro e w3 ⟨rfl, b3⟩; obtain ⟨t0, t1, t2, t3, t4⟩ := (P1.out.below (Below.undrew b2)).below b3)))
    all_goals
      go_wp2_with fail
      go_ret
      exact ⟨(K1.out.andBelow (Below.undrew b2)).andBelow b3, .inl ⟨_, _, HW2.out, rfl, ((R1.out hl).step (Below.undrew b2)).step b3⟩⟩
  | false =>
    have HW2 := hide (HW.out.trans (if_neg (by simp [hb])))
    clear HW hN
    go_region_with ((first
      | (go_at_call 74; refine (nameB_any (peek0 l) false _ hsh hb).mono ?_; rintro e w2 ⟨rfl, b2⟩; obtain ⟨q0, q1, q2, q3, q4⟩ := P1.out.below (Below.undrew b2))
      | (go_at_call 101; refine (need_no _ _ _ _).mono ?_; rintro e w3 ⟨rfl, b3⟩; refine step_done (P := Tryz.prog) (by exact bodyPost_thrown ⟨(K1.out.andBelow (Below.undrew b2)).andBelow b3, .inr ⟨_, HW2.out, rfl⟩⟩) ?_)))
    all_goals trivial
theorem callee_step {B a c : Nat} {L : List Tok} {E : Int} {n : Nat} {l : List Tok} {x : Ins} (w : World) (h : Rdr B a L E n l w) (hi : InsAt B c x w) :
    Calls Tryz.prog 157 #[.pointer (some ⟨a, 0, none⟩), .pointer (some ⟨c, 0, none⟩)] w (Step B a c L E n (byWord x setName (G.name namF E l)) w) := by
  have H := hide h
  have I := hide hi
  have ha := h.suffix.2.2.2
  have hBw := h.size
  have hBc := hi.lt.2
  clear h hi
  go_enter Tryz.func157, Tryz.ntmps157
  go_wp2_with fail
  refine (name_any _ H.out).mono ?_; rintro e w1 ⟨k1, ⟨v, l', hx, rfl, r1⟩ | ⟨er, hx, rfl⟩⟩ <;> replace hx := hide hx
  . have I2 := I.out.kp k1 ha
    obtain ⟨_, _, c2, z2⟩ := I2.cel
    have I2 := hide I2
    go_wp2_with fail
    go_end0
    exact ⟨(k1.mono hBw).setCell (.inr ⟨hBc, by show c ≠ a; omega⟩) I2.out.not80 _, .inl ⟨_, l', by unfold byWord; rw [hx.out]; rfl, rfl, r1.set hBc _, I2.out.setName v⟩⟩
  . unfold thrown
    go_wp2_with fail
    exact bodyPost_thrown ⟨k1.mono hBw, .inr ⟨er, by unfold byWord; rw [hx.out]; rfl, rfl⟩⟩
theorem ne_text (s t : List UInt8) : ((bs s).toList != t) = decide (s ≠ t) := by
  rw [ByteArray.toList_eq, bs_data]
  by_cases h : s = t
  . subst h; simp
  . simp [h]
theorem field_tok (t a : Value) (w : World) : Sem.run Tryz.prog (Instr.field 96 (.agg #[t, a]) 0) w = .ok t w := rfl
theorem taken_no {l : List Tok} (h : begins 37 (peek0 l) = false) : G.taken l = false := by
  unfold G.taken
  unfold begins at h
  rw [h]; rfl
theorem taken_yes {l : List Tok} (h : begins 37 (peek0 l) = true) : G.taken l = decide (peek1 l ≠ [61]) := by
  unfold G.taken
  unfold begins at h
  rw [h, Bool.true_and]
  by_cases h : peek1 l = [61]
  . rw [h]; rfl
  . simp [h]
theorem next_any {B a : Nat} {L : List Tok} {E : Int} {n : Nat} {l : List Tok} (w : World) (h : Rdr B a L E n l w) :
    Calls Tryz.prog 169 #[.pointer (some ⟨a, 0, none⟩)] w fun e w' => e = .returned (.bool (G.taken l)) /\ Below w.heap.size w w' := by
  have H := hide h
  have hf := field_tok
  have HN := hide (ne_text (peek1 l) [61])
  clear h
  go_enter Tryz.func169, Tryz.ntmps169
  go_wp2_with fail
  refine (peek0_any _ H.out).mono ?_; rintro e w1 ⟨rfl, b1⟩
  go_wp2_with fail
  refine (prefix_any 37 _ _).mono ?_; rintro e w2 ⟨rfl, rfl⟩
  rw [bs_data]
  cases hb : begins 37 (peek0 l) with
  | false =>
    have HT := hide (taken_no hb)
    go_wp2_with fail
    go_ret
    exact ⟨ret_bool HT.out.symm, b1⟩
  | true =>
    have HT := hide (taken_yes hb)
    go_wp2_with fail
    refine (peek1_any _ (H.out.step b1)).mono ?_; rintro e w2 ⟨z, rfl, b2⟩
    go_wp2_with fail
    go_ret
    exact ⟨ret_bool (HN.out.trans HT.out.symm), below_step b1 b2⟩
end Go.Proofs.YtahhbckccdigoaaGreatDoor
namespace Go.Proofs.YtahhbckccdigoaaGreatDoor
open Go Go.RowKit
open G (Tok Er Ins Fun peek0 peek1 atOf)
abbrev Way := Ins -> List Tok -> Except Er (Ins × List Tok)
def valueW (E : Int) : Way := fun x l => byWord x addArg (G.value idxF E l)
def labelW (E : Int) : Way := fun x l => byWord x addTo (G.label idxF E l)
def bulk (x : Ins) (l : List Tok) : Nat := x.2.2.2.2.1.length + x.2.2.2.2.2.1.length + l.length
theorem byWord_ok {α : Type} {x x' : Ins} {f : Ins -> α -> Ins} {r : Except Er (α × List Tok)} {l' : List Tok} (h : byWord x f r = .ok (x', l')) : ∃ v, r = .ok (v, l') /\ x' = f x v := by
  unfold byWord at h
  obtain ⟨v, q, h1, h2⟩ : ∃ v q, r = .ok (v, q) /\ (Except.ok (f x v, q) : Except Er (Ins × List Tok)) = .ok (x', l') := by
    cases r with
    | error e => cases h
    | ok p => exact ⟨p.1, p.2, rfl, h⟩
  cases h2
  exact ⟨v, h1, rfl⟩
theorem tail_bulk {l : List Tok} (h : l ≠ []) : l.tail.length + 1 = l.length := by
  cases l with
  | nil => exact absurd rfl h
  | cons t r => simp
theorem valueW_bulk {E : Int} {x x' : Ins} {l l' : List Tok} (h : valueW E x l = .ok (x', l')) : bulk x' l' = bulk x l /\ l'.length < l.length := by
  obtain ⟨v, h1, rfl⟩ := byWord_ok h
  obtain ⟨h2, rfl, _⟩ := G.value_ok h1
  have := tail_bulk h2
  unfold bulk addArg
  simp only [List.length_append, List.length_cons, List.length_nil]
  omega
theorem labelW_bulk {E : Int} {x x' : Ins} {l l' : List Tok} (h : labelW E x l = .ok (x', l')) : bulk x' l' = bulk x l /\ l'.length < l.length := by
  obtain ⟨v, h1, rfl⟩ := byWord_ok h
  obtain ⟨h2, rfl, _⟩ := G.label_ok h1
  have := tail_bulk h2
  unfold bulk addTo
  simp only [List.length_append, List.length_cons, List.length_nil]
  omega
def readAt (a : Nat) (w : World) : Nat := (intOf ((w.cell? ⟨a, 1, none⟩).getD (.int .i64 0))).toNat
theorem Rdr.readAt {B a : Nat} {L : List Tok} {E : Int} {n : Nat} {l : List Tok} {w : World} (h : Rdr B a L E n l w) : YtahhbckccdigoaaGreatDoor.readAt a w = L.length - l.length := by
  obtain ⟨_, v, _, c1, _⟩ := h.cells
  unfold YtahhbckccdigoaaGreatDoor.readAt
  rw [c1]
  simp [intOf]
def perhapsValueW (E : Int) : Way := fun x l => if G.taken l then valueW E x l else .ok (x, l)
theorem perhapsValue_step {B a c : Nat} {L : List Tok} {E : Int} {n : Nat} {l : List Tok} {x : Ins} (w : World) (h : Rdr B a L E n l w) (hi : InsAt B c x w) (hf : bulk x l <= L.length) :
    Calls Tryz.prog 160 #[.pointer (some ⟨a, 0, none⟩), .pointer (some ⟨c, 0, none⟩)] w (Step B a c L E n (perhapsValueW E x l) w) := by
  have H := hide h
  have I := hide hi
  have hL := h.suffix.2.1
  have hBw := h.size
  have hlen : x.2.2.2.2.1.length <= 131072 := by unfold bulk at hf; omega
  clear h hi
  go_enter Tryz.func160, Tryz.ntmps160
  go_wp2_with fail
  refine (next_any _ H.out).mono ?_; rintro e w1 ⟨rfl, b1⟩
  cases ht : G.taken l with
  | false =>
    have HW : Hid (perhapsValueW E x l = .ok (x, l)) := hide (by unfold perhapsValueW; rw [ht]; rfl)
    go_wp2_with fail
    go_end0
    exact ⟨Kp.of_belowW b1 hBw, .inl ⟨x, l, HW.out, rfl, H.out.step b1, I.out.step b1⟩⟩
  | true =>
    have HW : Hid (perhapsValueW E x l = valueW E x l) := hide (by unfold perhapsValueW; rw [ht]; rfl)
    go_wp2_with fail
    refine (value_step _ (H.out.step b1) (I.out.step b1) hlen).mono ?_; rintro e w2 ⟨k2, ⟨x', l', hx, rfl, r2, i2⟩ | ⟨er, hx, rfl⟩⟩ <;> replace hx := hide hx
    . go_wp2_with fail
      go_end0
      exact ⟨(Kp.of_belowW b1 hBw).trans k2, .inl ⟨x', l', HW.out.trans hx.out, rfl, r2, i2⟩⟩
    . unfold thrown
      go_wp2_with fail
      exact bodyPost_thrown ⟨(Kp.of_belowW b1 hBw).trans k2, .inr ⟨er, HW.out.trans hx.out, rfl⟩⟩
def moreV (E : Int) : Nat -> Way
  | 0 => fun x l => .ok (x, l)
  | f + 1 => fun x l => if G.taken l then G.andThen (valueW E x l) fun x' l' => moreV E f x' l' else .ok (x, l)
def moreValuesW (E : Int) : Way := fun x l => moreV E (l.length + 1) x l
theorem moreV_stop {E : Int} {f : Nat} {x : Ins} {l : List Tok} (h : G.taken l = false) : moreV E (f + 1) x l = .ok (x, l) := by
  unfold moreV; rw [h]; rfl
theorem moreV_go {E : Int} {f : Nat} {x x' : Ins} {l l' : List Tok} (h : G.taken l = true) (hv : valueW E x l = .ok (x', l')) : moreV E (f + 1) x l = moreV E f x' l' := by
  conv => lhs; unfold moreV
  rw [h, hv]; rfl
theorem moreV_bad {E : Int} {f : Nat} {x : Ins} {l : List Tok} {er : Er} (h : G.taken l = true) (hv : valueW E x l = .error er) : moreV E (f + 1) x l = .error er := by
  conv => lhs; unfold moreV
  rw [h, hv]; rfl
theorem moreValues_step {B a c : Nat} {L : List Tok} {E : Int} {n : Nat} {l : List Tok} {x : Ins} (w : World) (h : Rdr B a L E n l w) (hi : InsAt B c x w) (hf : bulk x l <= L.length) :
    Calls Tryz.prog 158 #[.pointer (some ⟨a, 0, none⟩), .pointer (some ⟨c, 0, none⟩)] w (Step B a c L E n (moreValuesW E x l) w) := by
  have H := hide h
  have I := hide hi
  have hL := h.suffix.2.1
  have hBw := h.size
  clear h hi
  go_enter Tryz.func158, Tryz.ntmps158
  go_wp2_with fail
  go_loopw [] (fun wr => ∃ (f : Nat) (x' : Ins) (l' : List Tok), Rdr B a L E n l' wr /\ InsAt B c x' wr /\ Kp B a w wr /\ bulk x' l' <= L.length /\ l'.length < f /\ Hid (moreValuesW E x l = moreV E f x' l')) (fun wr => L.length - readAt a wr)
  case atStart => exact ⟨l.length + 1, x, l, H.out, I.out, Kp.refl _ _ _, hf, by omega, rfl⟩
  case round =>
    obtain ⟨f, x', l', H1, I1, K1, hf1, hlf, HM⟩ := hrel
    have hra := H1.readAt
    have hll := H1.suffix.1.length_le
    have hBr := H1.size
    have H1 := hide H1
    have I1 := hide I1
    have K1 := hide K1
    obtain ⟨f, rfl⟩ : ∃ q, f = q + 1 := ⟨f - 1, by omega⟩
    have hlen : x'.2.2.2.2.1.length <= 131072 := by unfold bulk at hf1; omega
    go_wp2_with fail
    refine (next_any _ H1.out).mono ?_; rintro e w1 ⟨rfl, b1⟩
    cases ht : G.taken l' with
    | false =>
      have HW := hide (HM.out.trans (moreV_stop ht))
      go_wp2_with fail
      go_end0
      exact ⟨K1.out.trans (Kp.of_belowW b1 hBr), .inl ⟨x', l', HW.out, rfl, H1.out.step b1, I1.out.step b1⟩⟩
    | true =>
      have HT := hide ht
      go_wp2_with fail
      refine (value_step _ (H1.out.step b1) (I1.out.step b1) hlen).mono ?_; rintro e w2 ⟨k2, ⟨x2, l2, hx, rfl, r2, i2⟩ | ⟨er, hx, rfl⟩⟩ <;> replace hx := hide hx
      . have hb := valueW_bulk hx.out
        have hra2 := r2.readAt
        have hll2 := r2.suffix.1.length_le
        have r2 := hide r2
        have i2 := hide i2
        go_wp2_with fail
        go_roundw
        case rel => exact ⟨f, x2, l2, r2.out, i2.out, (K1.out.trans (Kp.of_belowW b1 hBr)).trans k2, by omega, by omega, hide (HM.out.trans (moreV_go HT.out hx.out))⟩
        case measure => rw [hra, hra2]; omega
      . have HW := hide (HM.out.trans (moreV_bad HT.out hx.out))
        unfold thrown
        go_wp2_with fail
        exact bodyPost_thrown ⟨(K1.out.trans (Kp.of_belowW b1 hBr)).trans k2, .inr ⟨er, HW.out, rfl⟩⟩
theorem is_text (s t : List UInt8) : ((bs s).toList == t) = decide (s = t) := by
  rw [ByteArray.toList_eq, bs_data]
  by_cases h : s = t
  . subst h; simp
  . simp [h]
theorem paired_no {l : List Tok} (h : begins 98 (peek0 l) = false) : G.paired l = false := by
  unfold G.paired
  unfold begins at h
  rw [h]; rfl
theorem paired_br {l : List Tok} (h : peek0 l = [98, 114]) : G.paired l = false := by
  unfold G.paired
  rw [h]; rfl
theorem paired_yes {l : List Tok} (h : begins 98 (peek0 l) = true) (h2 : ¬ peek0 l = [98, 114]) : G.paired l = decide (peek1 l ≠ [58]) := by
  unfold G.paired
  unfold begins at h
  have h3 : (peek0 l != [98, 114]) = true := by simpa using h2
  rw [h, h3, Bool.true_and, Bool.true_and]
  by_cases h : peek1 l = [58]
  . rw [h]; rfl
  . simp [h]
def pairV (E : Int) : Nat -> Way
  | 0 => fun x l => .ok (x, l)
  | f + 1 => fun x l => if G.paired l then G.andThen (labelW E x l) fun x' l' => G.andThen (valueW E x' l') fun x'' l'' => pairV E f x'' l'' else .ok (x, l)
def morePairsW (E : Int) : Way := fun x l => pairV E (l.length + 1) x l
theorem pairV_stop {E : Int} {f : Nat} {x : Ins} {l : List Tok} (h : G.paired l = false) : pairV E (f + 1) x l = .ok (x, l) := by
  unfold pairV; rw [h]; rfl
theorem pairV_go {E : Int} {f : Nat} {x x' x2 : Ins} {l l' l2 : List Tok} (h : G.paired l = true) (hb : labelW E x l = .ok (x', l')) (hv : valueW E x' l' = .ok (x2, l2)) : pairV E (f + 1) x l = pairV E f x2 l2 := by
  conv => lhs; unfold pairV
  rw [h, hb]
  show (G.andThen (valueW E x' l') fun x'' l'' => pairV E f x'' l'') = _
  rw [hv]; rfl
theorem pairV_badL {E : Int} {f : Nat} {x : Ins} {l : List Tok} {er : Er} (h : G.paired l = true) (hb : labelW E x l = .error er) : pairV E (f + 1) x l = .error er := by
  conv => lhs; unfold pairV
  rw [h, hb]; rfl
theorem pairV_badV {E : Int} {f : Nat} {x x' : Ins} {l l' : List Tok} {er : Er} (h : G.paired l = true) (hb : labelW E x l = .ok (x', l')) (hv : valueW E x' l' = .error er) : pairV E (f + 1) x l = .error er := by
  conv => lhs; unfold pairV
  rw [h, hb]
  show (G.andThen (valueW E x' l') fun x'' l'' => pairV E f x'' l'') = _
  rw [hv]; rfl
theorem morePairs_step {B a c : Nat} {L : List Tok} {E : Int} {n : Nat} {l : List Tok} {x : Ins} (w : World) (h : Rdr B a L E n l w) (hi : InsAt B c x w) (hf : bulk x l <= L.length) :
    Calls Tryz.prog 155 #[.pointer (some ⟨a, 0, none⟩), .pointer (some ⟨c, 0, none⟩)] w (Step B a c L E n (morePairsW E x l) w) := by
  have H := hide h
  have I := hide hi
  have hfd := field_tok
  have hL := h.suffix.2.1
  have hBw := h.size
  clear h hi
  go_enter Tryz.func155, Tryz.ntmps155
  go_wp2_with fail
  go_loopw [] (fun wr => ∃ (f : Nat) (x' : Ins) (l' : List Tok), Rdr B a L E n l' wr /\ InsAt B c x' wr /\ Kp B a w wr /\ bulk x' l' <= L.length /\ l'.length < f /\ Hid (morePairsW E x l = pairV E f x' l')) (fun wr => L.length - readAt a wr)
  case atStart => exact ⟨l.length + 1, x, l, H.out, I.out, Kp.refl _ _ _, hf, by omega, rfl⟩
  case round =>
    obtain ⟨f, x', l', H1, I1, K1, hf1, hlf, HM⟩ := hrel
    have hra := H1.readAt
    have hll := H1.suffix.1.length_le
    have hBr := H1.size
    have H1 := hide H1
    have I1 := hide I1
    have K1 := hide K1
    obtain ⟨f, rfl⟩ : ∃ q, f = q + 1 := ⟨f - 1, by omega⟩
    have hlen : x'.2.2.2.2.1.length <= 131072 /\ x'.2.2.2.2.2.1.length <= 131072 := by unfold bulk at hf1; omega
    have HN1 := hide (is_text (peek0 l') [98, 114])
    have HN2 := hide (is_text (peek1 l') [58])
    go_wp2_with fail
    refine (peek0_any _ H1.out).mono ?_; rintro e w1 ⟨rfl, b1⟩
    go_wp2_with fail
    refine (prefix_any 98 _ _).mono ?_; rintro e w2 ⟨rfl, rfl⟩
    rw [bs_data]
    cases hb : begins 98 (peek0 l') with
    | false =>
      have HW := hide (HM.out.trans (pairV_stop (paired_no hb)))
      go_wp2_with fail
      go_end0
      exact ⟨K1.out.trans (Kp.of_belowW b1 hBr), .inl ⟨x', l', HW.out, rfl, H1.out.step b1, I1.out.step b1⟩⟩
    | true =>
      have HB := hide hb
      go_wp2_with fail
      refine (peek0_any _ (H1.out.step b1)).mono ?_; rintro e w2 ⟨rfl, b2⟩
      by_cases hbr : peek0 l' = [98, 114]
      . have HW := hide (HM.out.trans (pairV_stop (paired_br hbr)))
        have hne : ((bs (peek0 l')).toList == [98, 114]) = true := HN1.out.trans (decide_eq_true hbr)
        clear hbr
        go_wp2_with fail
        go_end0
        exact ⟨K1.out.trans (Kp.of_belowW (below_step b1 b2) hBr), .inl ⟨x', l', HW.out, rfl, H1.out.step (below_step b1 b2), I1.out.step (below_step b1 b2)⟩⟩
      . have hne : ((bs (peek0 l')).toList == [98, 114]) = false := HN1.out.trans (decide_eq_false hbr)
        have HP := hide (paired_yes hb hbr)
        clear hbr
        go_wp2_with fail
        refine (peek1_any _ ((H1.out.step b1).step b2)).mono ?_; rintro e w3 ⟨z, rfl, b3⟩
        have B3 := hide (below_step (below_step b1 b2) b3)
        clear b1 b2 b3
        by_cases hcl : peek1 l' = [58]
        . have HW := hide (HM.out.trans (pairV_stop (HP.out.trans (decide_eq_false (by simpa using hcl)))))
          have hne2 : ((bs (peek1 l')).toList == [58]) = true := HN2.out.trans (decide_eq_true hcl)
          clear hcl
          go_wp2_with fail
          go_end0
          exact ⟨K1.out.trans (Kp.of_belowW B3.out hBr), .inl ⟨x', l', HW.out, rfl, H1.out.step B3.out, I1.out.step B3.out⟩⟩
        . have hne2 : ((bs (peek1 l')).toList == [58]) = false := HN2.out.trans (decide_eq_false hcl)
          have HT := hide (HP.out.trans (decide_eq_true hcl))
          clear hcl
          go_wp2_with fail
          refine (label_step _ (H1.out.step B3.out) (I1.out.step B3.out) hlen.2).mono ?_; rintro e w4 ⟨k4, ⟨x4, l4, hx, rfl, r4, i4⟩ | ⟨er, hx, rfl⟩⟩ <;> replace hx := hide hx
          . have hb4 := labelW_bulk hx.out
            have hlen4 : x4.2.2.2.2.1.length <= 131072 := by unfold bulk at *; omega
            have r4 := hide r4
            have i4 := hide i4
            go_wp2_with fail
            refine (value_step _ r4.out i4.out hlen4).mono ?_; rintro e w5 ⟨k5, ⟨x5, l5, hx5, rfl, r5, i5⟩ | ⟨er, hx5, rfl⟩⟩ <;> replace hx5 := hide hx5
            . have hb5 := valueW_bulk hx5.out
              have hra2 := r5.readAt
              have hll2 := r5.suffix.1.length_le
              have r5 := hide r5
              have i5 := hide i5
              go_wp2_with fail
              go_roundw
              case rel => exact ⟨f, x5, l5, r5.out, i5.out, ((K1.out.trans (Kp.of_belowW B3.out hBr)).trans k4).trans k5, by omega, by omega, hide (HM.out.trans (pairV_go HT.out hx.out hx5.out))⟩
              case measure => rw [hra, hra2]; omega
            . have HW := hide (HM.out.trans (pairV_badV HT.out hx.out hx5.out))
              unfold thrown
              go_wp2_with fail
              exact bodyPost_thrown ⟨((K1.out.trans (Kp.of_belowW B3.out hBr)).trans k4).trans k5, .inr ⟨er, HW.out, rfl⟩⟩
          . have HW := hide (HM.out.trans (pairV_badL HT.out hx.out))
            unfold thrown
            go_wp2_with fail
            exact bodyPost_thrown ⟨(K1.out.trans (Kp.of_belowW B3.out hBr)).trans k4, .inr ⟨er, HW.out, rfl⟩⟩
def perhapsPointW (E : Int) : Way := fun x l => if begins 64 (peek0 l) then byWord x setN (G.index idxF 64 1048576 3 E l) else .ok (x, l)
theorem point_ok {E : Int} {x : Ins} {l : List Tok} (h : begins 64 (peek0 l) = true) (hz : (L1.indexNum (behindOf 64 (peek0 l)) 1048576).2 = 0) : perhapsPointW E x l = .ok (setN x (L1.indexNum (behindOf 64 (peek0 l)) 1048576).1, l.tail) := by
  unfold perhapsPointW
  rw [if_pos h]
  have e : G.mark idxF 64 1048576 (peek0 l) = some (L1.indexNum (behindOf 64 (peek0 l)) 1048576).1 := by rw [mark_of, if_pos ⟨h, hz⟩]
  have e2 : G.index idxF 64 1048576 3 E l = .ok ((L1.indexNum (behindOf 64 (peek0 l)) 1048576).1, l.tail) := one_some e
  rw [e2]; rfl
theorem point_bad {E : Int} {x : Ins} {l : List Tok} (h : begins 64 (peek0 l) = true) (hz : ¬ (L1.indexNum (behindOf 64 (peek0 l)) 1048576).2 = 0) : perhapsPointW E x l = .error (3, atOf E l) := by
  unfold perhapsPointW
  rw [if_pos h]
  have e : G.mark idxF 64 1048576 (peek0 l) = none := by rw [mark_of, if_neg (fun k => hz k.2)]
  have e2 : G.index idxF 64 1048576 3 E l = .error (3, atOf E l) := one_none e
  rw [e2]; rfl
theorem perhapsPoint_step {B a c : Nat} {L : List Tok} {E : Int} {n : Nat} {l : List Tok} {x : Ins} (w : World) (h : Rdr B a L E n l w) (hi : InsAt B c x w) :
    Calls Tryz.prog 156 #[.pointer (some ⟨a, 0, none⟩), .pointer (some ⟨c, 0, none⟩)] w (Step B a c L E n (perhapsPointW E x l) w) := by
  have hsh : (bs (behindOf 64 (peek0 l))).size <= maxLen := by
    rw [bs_size]
    have := h.short
    have : (behindOf 64 (peek0 l)).length <= (peek0 l).length := by unfold behindOf; split <;> simp
    unfold maxLen; omega
  have H := hide h
  have I := hide hi
  have hfd := field_tok
  have hBw := h.size
  have ha := h.suffix.2.2.2
  have hBc := hi.lt.2
  clear h hi
  go_enter Tryz.func156, Tryz.ntmps156
  go_wp2_with fail
  refine (peek0_any _ H.out).mono ?_; rintro e w1 ⟨rfl, b1⟩
  go_wp2_with fail
  refine (cut_any 64 _ _).mono ?_; rintro e w2 ⟨rfl, rfl⟩
  rw [bs_data]
  cases hb : begins 64 (peek0 l) with
  | false =>
    have HW : Hid (perhapsPointW E x l = .ok (x, l)) := hide (by unfold perhapsPointW; rw [hb]; rfl)
    go_wp2_with fail
    refine bodyPost_ret (results_none rfl _ _ _) rfl ?_
    exact ⟨Kp.of_belowW b1 hBw, .inl ⟨x, l, HW.out, rfl, H.out.step b1, I.out.step b1⟩⟩
  | true =>
    have hl : l ≠ [] := fun e => by subst e; cases hb
    have HG := hide (point_ok (E := E) (x := x) hb)
    have HX := hide (point_bad (E := E) (x := x) hb)
    go_wp2_with fail
    refine (L1.index_any _ 1048576 _ hsh).mono ?_; rintro e w2 ⟨rfl, rfl⟩
    rw [bs_data]
    generalize L1.indexNum (behindOf 64 (peek0 l)) 1048576 = r at *
    obtain ⟨v, z⟩ := r
    by_cases hz : z = 0
    . have HW := hide (HG.out hz)
      subst hz
      clear HG HX
      go_wp2_with fail
      refine (take_any _ (H.out.step b1)).mono ?_; rintro e w2 ⟨rfl, k2, r2⟩
      go_wp2_with fail
      refine (need_ok _ _ _ _).mono ?_; rintro e w3 ⟨rfl, b3⟩
      have I2 := ((I.out.step b1).kp k2 ha).step b3
      obtain ⟨c2, z2, _, _⟩ := I2.cel
      have I2 := hide I2
      go_wp2_with fail
      go_end0
      exact ⟨((Kp.of_belowW b1 hBw).trans ((k2.andBelow b3).mono (Nat.le_trans hBw b1.size))).setCell (.inr ⟨hBc, by show c ≠ a; omega⟩) I2.out.not80 _, .inl ⟨_, l.tail, HW.out, rfl, ((r2 hl).step b3).set hBc _, I2.out.setN v⟩⟩
    . have HW := hide (HX.out hz)
      have hz' : (z == 0) = false := by simpa using hz
      clear HG HX
      go_wp2_with fail
      refine (take_any _ (H.out.step b1)).mono ?_; rintro e w2 ⟨rfl, k2, r2⟩
      go_wp2_with fail
      refine (need_no _ _ _ _).mono ?_; rintro e w3 ⟨rfl, b3⟩
      unfold thrown
      go_wp2_with fail
      exact bodyPost_thrown ⟨(Kp.of_belowW b1 hBw).trans ((k2.andBelow b3).mono (Nat.le_trans hBw b1.size)), .inr ⟨_, HW.out, rfl⟩⟩
end Go.Proofs.YtahhbckccdigoaaGreatDoor
