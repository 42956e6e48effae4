/- Words that stand for themselves, names, numbers and letters of shapes, and what becomes of them in an instruction. -/
import Derived.Test.YtkkkgennkhdfhaaDoorRdE
namespace Go.Proofs.YtkkkgennkhdfhaaDoor
open Go Go.RowKit
open G (Tok Er Ins Fun peek0 peek1 atOf)

theorem InsAt.cel {B c : Nat} {x : Ins} {w : World} (h : InsAt B c x w) : w.cell? ⟨c, 2, none⟩ = some (.int .i64 x.2.2.1) ∧ w.frozen? ⟨c, 2, none⟩ = false ∧ w.cell? ⟨c, 6, none⟩ = some (.string (bs x.2.2.2.2.2.2.1)) ∧ w.frozen? ⟨c, 6, none⟩ = false := by
  obtain ⟨va, vt, h1, h2, h3, h4, h5⟩ := h
  exact ⟨by simp [World.cell?, h1, insCells], by simp [World.frozen?, h1], by simp [World.cell?, h1, insCells], by simp [World.frozen?, h1]⟩
theorem InsAt.put {B c i : Nat} {x y : Ins} {w : World} {v : Value} (h : InsAt B c x w) (hy : ∀ va vt, (insCells x va vt).toArray.setIfInBounds i v = (insCells y va vt).toArray) (ha : y.2.2.2.2.1 = x.2.2.2.2.1) (ht : y.2.2.2.2.2.1 = x.2.2.2.2.2.1) : InsAt B c y (w.setCell ⟨c, i, none⟩ v) := by
  obtain ⟨va, vt, h1, h2, h3, h4, h5⟩ := h
  have n1 : va.ownBlock ≠ some c := own_ne h2 h1 (by decide)
  have n2 : vt.ownBlock ≠ some c := own_ne h3 h1 (by decide)
  refine ⟨va, vt, ?_, ?_, ?_, h4, h5⟩
  · rw [heap_setCell_same w c i _ 38 _ h1, hy]
  · rw [ha]; exact own_setCell h2 n1 _
  · rw [ht]; exact own_setCell h3 n2 _
theorem InsAt.setN {B c : Nat} {x : Ins} {w : World} (h : InsAt B c x w) (v : Int) : InsAt B c (setN x v) (w.setCell ⟨c, 2, none⟩ (.int .i64 v)) := h.put (fun _ _ => rfl) rfl rfl
theorem InsAt.setName {B c : Nat} {x : Ins} {w : World} (h : InsAt B c x w) (s : List UInt8) : InsAt B c (setName x s) (w.setCell ⟨c, 6, none⟩ (.string (bs s))) := h.put (fun _ _ => rfl) rfl rfl

/-- Words in a row, kept as a token. -/
abbrev tokBox (l : List Tok) (E : Int) : Obj := .cells #[.string (bs (peek0 l)), .int .i64 (atOf E l)] 53
theorem one_some {α : Type} {f : List UInt8 → Option α} {c : List UInt8 → Int} {E : Int} {l : List Tok} {v : α} (h : f (peek0 l) = some v) : G.one f c E l = .ok (v, l.tail) := by
  unfold G.one; rw [h]
theorem one_none {α : Type} {f : List UInt8 → Option α} {c : List UInt8 → Int} {E : Int} {l : List Tok} (h : f (peek0 l) = none) : G.one f c E l = .error (c (peek0 l), atOf E l) := by
  unfold G.one; rw [h]
theorem want_of (E : Int) (wd : List UInt8) (l : List Tok) : G.want E wd l = if peek0 l = wd then .ok ((), l.tail) else .error (2, atOf E l) := by
  by_cases h : peek0 l = wd
  · rw [if_pos h]; exact one_some (if_pos h)
  · rw [if_neg h]; exact one_none (if_neg h)
theorem eq_text (s t : List UInt8) : ((bs s).toList == (bs t).toList) = decide (s = t) := by
  rw [ByteArray.toList_eq, ByteArray.toList_eq, bs_data, bs_data]
  by_cases h : s = t
  · subst h; simp
  · simp [h]
theorem itself_any {B a : Nat} {L : List Tok} {E : Int} {n : Nat} {l : List Tok} (wd : List UInt8) (hw : wd ≠ []) (w : World) (h : Rdr B a L E n l w) :
    Calls Tryd.prog 34 #[.pointer (some ⟨a, 0, none⟩), .string (bs wd)] w (Out B a L E n (G.want E wd l) (fun _ => .tuple #[]) w) := by
  have HW := hide (want_of E wd l)
  have HE := hide (eq_text (peek0 l) wd)
  have H := hide h
  clear h
  go_enter Tryd.func34, Tryd.ntmps34
  go_wp2_with fail
  refine (take_any _ H.out).mono ?_; rintro e w1 ⟨rfl, k1, r1⟩
  by_cases hs : peek0 l = wd
  · have HW2 := hide (HW.out.trans (if_pos hs))
    have HE2 : ((bs (peek0 l)).toList == (bs wd).toList) = true := HE.out.trans (decide_eq_true hs)
    have hl : l ≠ [] := fun e => hw (by rw [← hs, e]; rfl)
    clear HE
    go_wp2_with fail
    refine (need_ok _ _ _ _).mono ?_; rintro e w2 ⟨rfl, b2⟩
    go_wp2_with fail
    go_end0
    exact ⟨(k1.andBelow (below_box w1 _)).andBelow b2, .inl ⟨(), l.tail, HW2.out, rfl, ((r1 hl).step (below_box w1 _)).step b2⟩⟩
  · have HW2 := hide (HW.out.trans (if_neg hs))
    have HE2 : ((bs (peek0 l)).toList == (bs wd).toList) = false := HE.out.trans (decide_eq_false hs)
    clear HE
    go_wp2_with fail
    refine (need_no _ _ _ _).mono ?_; rintro e w2 ⟨rfl, b2⟩
    unfold thrown
    go_wp2_with fail
    exact bodyPost_thrown ⟨(k1.andBelow (below_box w1 _)).andBelow b2, .inr ⟨_, HW2.out, rfl⟩⟩

theorem anyNum_of (E : Int) (l : List Tok) : G.anyNum numF E l = if (numF (peek0 l)).2 = 0 then .ok ((numF (peek0 l)).1, l.tail) else .error ((numF (peek0 l)).2, atOf E l) := by
  by_cases h : (numF (peek0 l)).2 = 0
  · rw [if_pos h]; exact one_some (if_neg (by simp [h]))
  · rw [if_neg h]; exact one_none (if_pos h)
theorem numF_nil (l : List Tok) (h : (numF (peek0 l)).2 = 0) : l ≠ [] := fun e => by
  subst e; exact num_nil h
theorem number_step {B a c : Nat} {L : List Tok} {E : Int} {n : Nat} {l : List Tok} {x : Ins} (w : World) (h : Rdr B a L E n l w) (hi : InsAt B c x w) :
    Calls Tryd.prog 59 #[.pointer (some ⟨a, 0, none⟩), .pointer (some ⟨c, 0, none⟩)] w (Step B a c L E n (byWord x setN (G.anyNum numF E l)) w) := by
  have HW := hide (anyNum_of E l)
  have hN := numF_nil l
  have hsh : (bs (peek0 l)).size ≤ maxLen := by rw [bs_size]; have := h.short; unfold maxLen; omega
  have H := hide h
  have I := hide hi
  have ha := h.suffix.2.2.2
  have hBw := h.size
  have hBc := hi.lt.2
  clear h hi
  go_enter Tryd.func59, Tryd.ntmps59
  go_wp2_with fail
  refine (take_any _ H.out).mono ?_; rintro e w1 ⟨rfl, k1, r1⟩
  go_wp2_with fail
  refine (L1.parse_any _ _ hsh).mono ?_; rintro e w2 ⟨rfl, rfl⟩
  rw [bs_data]
  have e1 : L1.readNum (peek0 l) = numF (peek0 l) := rfl
  rw [e1]
  clear e1
  generalize numF (peek0 l) = r at *
  obtain ⟨v, z⟩ := r
  by_cases hz : z = 0
  · subst hz
    have HW2 := hide (HW.out.trans (if_pos rfl))
    have hl := hN rfl
    clear HW hN
    go_wp2_with fail
    refine (need_ok _ _ _ _).mono ?_; rintro e w2 ⟨rfl, b2⟩
    have I2 := ((I.out.kp k1 ha).step (below_box w1 (tokBox l E))).step b2
    obtain ⟨c2, z2, _, _⟩ := I2.cel
    have I2 := hide I2
    go_wp2_with fail
    go_end0
    exact ⟨(((k1.andBelow (below_box w1 _)).andBelow b2).mono hBw).setCell (.inr ⟨hBc, by show c ≠ a; omega⟩) I2.out.not80 _, .inl ⟨_, l.tail, by unfold byWord; rw [HW2.out]; rfl, rfl, ((((r1 hl).step (below_box w1 _)).step b2)).set hBc _, I2.out.setN v⟩⟩
  · have HW2 := hide (HW.out.trans (if_neg hz))
    have hz' : (z == 0) = false := by simpa using hz
    clear HW hN
    go_wp2_with fail
    refine (need_no _ _ _ _).mono ?_; rintro e w2 ⟨rfl, b2⟩
    unfold thrown
    go_wp2_with fail
    exact bodyPost_thrown ⟨((k1.andBelow (below_box w1 _)).andBelow b2).mono hBw, .inr ⟨_, by unfold byWord; rw [HW2.out]; rfl, rfl⟩⟩

theorem upTo_of (E most : Int) (l : List Tok) : G.number numF E 0 most l = if (L1.indexNum (peek0 l) most).2 = 0 then .ok ((L1.indexNum (peek0 l) most).1, l.tail) else .error ((L1.indexNum (peek0 l) most).2, atOf E l) := by
  by_cases h1 : (L1.readNum (peek0 l)).2 = 0
  · by_cases h2 : (L1.readNum (peek0 l)).1 < 0 ∨ most < (L1.readNum (peek0 l)).1
    · rw [L1.indexNum_out _ most h1 h2, if_neg (by simp)]
      refine (one_none (if_pos (.inr h2))).trans ?_
      show Except.error ((if (L1.readNum (peek0 l)).2 ≠ 0 then (L1.readNum (peek0 l)).2 else 18), atOf E l) = _
      rw [if_neg (by simp [h1])]
    · rw [L1.indexNum_in _ most h1 h2, if_pos rfl]
      exact one_some (if_neg (fun h => h.elim (fun h => h h1) h2))
  · rw [L1.indexNum_bad _ most h1, if_neg h1]
    refine (one_none (if_pos (.inl h1))).trans ?_
    show Except.error ((if (L1.readNum (peek0 l)).2 ≠ 0 then (L1.readNum (peek0 l)).2 else 18), atOf E l) = _
    rw [if_pos h1]
theorem index_nil (most : Int) (l : List Tok) (h : (L1.indexNum (peek0 l) most).2 = 0) : l ≠ [] := fun e => by
  subst e
  have h2 : (L1.indexNum [] most).2 = 0 := h
  rw [L1.indexNum_bad [] most num_nil] at h2
  exact num_nil h2
theorem upTo_any {B a : Nat} {L : List Tok} {E : Int} {n : Nat} {l : List Tok} (most : Int) (w : World) (h : Rdr B a L E n l w) :
    Calls Tryd.prog 74 #[.pointer (some ⟨a, 0, none⟩), .int .i64 most] w (Out B a L E n (G.number numF E 0 most l) (fun v => .int .i64 v) w) := by
  have HW := hide (upTo_of E most l)
  have hN := index_nil most l
  have hsh : (bs (peek0 l)).size ≤ maxLen := by rw [bs_size]; have := h.short; unfold maxLen; omega
  have H := hide h
  clear h
  go_enter Tryd.func74, Tryd.ntmps74
  go_wp2_with fail
  refine (take_any _ H.out).mono ?_; rintro e w1 ⟨rfl, k1, r1⟩
  go_wp2_with fail
  refine (L1.index_any _ most _ hsh).mono ?_; rintro e w2 ⟨rfl, rfl⟩
  rw [bs_data]
  generalize L1.indexNum (peek0 l) most = r at *
  obtain ⟨v, z⟩ := r
  by_cases hz : z = 0
  · subst hz
    have HW2 := hide (HW.out.trans (if_pos rfl))
    have hl := hN rfl
    clear HW hN
    go_wp2_with fail
    refine (need_ok _ _ _ _).mono ?_; rintro e w2 ⟨rfl, b2⟩
    go_wp2_with fail
    go_ret
    exact ⟨(k1.andBelow (below_box w1 _)).andBelow b2, .inl ⟨v, l.tail, HW2.out, rfl, ((r1 hl).step (below_box w1 _)).step b2⟩⟩
  · have HW2 := hide (HW.out.trans (if_neg hz))
    have hz' : (z == 0) = false := by simpa using hz
    clear HW hN
    go_wp2_with fail
    refine (need_no _ _ _ _).mono ?_; rintro e w2 ⟨rfl, b2⟩
    unfold thrown
    go_wp2_with fail
    exact bodyPost_thrown ⟨(k1.andBelow (below_box w1 _)).andBelow b2, .inr ⟨_, HW2.out, rfl⟩⟩
theorem slot_step {B a c : Nat} {L : List Tok} {E : Int} {n : Nat} {l : List Tok} {x : Ins} (w : World) (h : Rdr B a L E n l w) (hi : InsAt B c x w) :
    Calls Tryd.prog 61 #[.pointer (some ⟨a, 0, none⟩), .pointer (some ⟨c, 0, none⟩)] w (Step B a c L E n (byWord x setN (G.number numF E 0 15 l)) w) := by
  have H := hide h
  have I := hide hi
  have ha := h.suffix.2.2.2
  have hBw := h.size
  have hBc := hi.lt.2
  clear h hi
  go_enter Tryd.func61, Tryd.ntmps61
  go_wp2_with fail
  refine (upTo_any 15 _ H.out).mono ?_; rintro e w1 ⟨k1, ⟨v, l', hx, rfl, r1⟩ | ⟨er, hx, rfl⟩⟩ <;> replace hx := hide hx
  · have I2 := I.out.kp k1 ha
    obtain ⟨c2, z2, _, _⟩ := I2.cel
    have I2 := hide I2
    go_wp2_with fail
    go_end0
    exact ⟨(k1.mono hBw).setCell (.inr ⟨hBc, by show c ≠ a; omega⟩) I2.out.not80 _, .inl ⟨_, l', by unfold byWord; rw [hx.out]; rfl, rfl, r1.set hBc _, I2.out.setN v⟩⟩
  · unfold thrown
    go_wp2_with fail
    exact bodyPost_thrown ⟨k1.mono hBw, .inr ⟨er, by unfold byWord; rw [hx.out]; rfl, rfl⟩⟩
theorem point_step {B a c : Nat} {L : List Tok} {E : Int} {n : Nat} {l : List Tok} {x : Ins} (w : World) (h : Rdr B a L E n l w) (hi : InsAt B c x w) :
    Calls Tryd.prog 66 #[.pointer (some ⟨a, 0, none⟩), .pointer (some ⟨c, 0, none⟩)] w (Step B a c L E n (byWord x setN (G.number numF E 0 1048576 l)) w) := by
  have H := hide h
  have I := hide hi
  have ha := h.suffix.2.2.2
  have hBw := h.size
  have hBc := hi.lt.2
  clear h hi
  go_enter Tryd.func66, Tryd.ntmps66
  go_wp2_with fail
  refine (upTo_any 1048576 _ H.out).mono ?_; rintro e w1 ⟨k1, ⟨v, l', hx, rfl, r1⟩ | ⟨er, hx, rfl⟩⟩ <;> replace hx := hide hx
  · have I2 := I.out.kp k1 ha
    obtain ⟨c2, z2, _, _⟩ := I2.cel
    have I2 := hide I2
    go_wp2_with fail
    go_end0
    exact ⟨(k1.mono hBw).setCell (.inr ⟨hBc, by show c ≠ a; omega⟩) I2.out.not80 _, .inl ⟨_, l', by unfold byWord; rw [hx.out]; rfl, rfl, r1.set hBc _, I2.out.setN v⟩⟩
  · unfold thrown
    go_wp2_with fail
    exact bodyPost_thrown ⟨k1.mono hBw, .inr ⟨er, by unfold byWord; rw [hx.out]; rfl, rfl⟩⟩
theorem trap_step {B a c : Nat} {L : List Tok} {E : Int} {n : Nat} {l : List Tok} {x : Ins} (w : World) (h : Rdr B a L E n l w) (hi : InsAt B c x w) :
    Calls Tryd.prog 68 #[.pointer (some ⟨a, 0, none⟩), .pointer (some ⟨c, 0, none⟩)] w (Step B a c L E n (byWord x setN (G.number numF E 0 255 l)) w) := by
  have H := hide h
  have I := hide hi
  have ha := h.suffix.2.2.2
  have hBw := h.size
  have hBc := hi.lt.2
  clear h hi
  go_enter Tryd.func68, Tryd.ntmps68
  go_wp2_with fail
  refine (upTo_any 255 _ H.out).mono ?_; rintro e w1 ⟨k1, ⟨v, l', hx, rfl, r1⟩ | ⟨er, hx, rfl⟩⟩ <;> replace hx := hide hx
  · have I2 := I.out.kp k1 ha
    obtain ⟨c2, z2, _, _⟩ := I2.cel
    have I2 := hide I2
    go_wp2_with fail
    go_end0
    exact ⟨(k1.mono hBw).setCell (.inr ⟨hBc, by show c ≠ a; omega⟩) I2.out.not80 _, .inl ⟨_, l', by unfold byWord; rw [hx.out]; rfl, rfl, r1.set hBc _, I2.out.setN v⟩⟩
  · unfold thrown
    go_wp2_with fail
    exact bodyPost_thrown ⟨k1.mono hBw, .inr ⟨er, by unfold byWord; rw [hx.out]; rfl, rfl⟩⟩

theorem shp_of (s : List UInt8) : ∃ a b : Int, L3.readS (bs s) = .tuple #[.agg #[.int .i64 a, .int .i64 b], .int .i64 (shpF s)] := by
  have key : ∃ a b c : Int, L3.readS (bs s) = .tuple #[.agg #[.int .i64 a, .int .i64 b], .int .i64 c] := by
    unfold L3.readS L3.readL
    split
    · exact ⟨_, _, _, rfl⟩
    · split
      · exact ⟨_, _, _, rfl⟩
      · split
        · exact ⟨_, _, _, rfl⟩
        · exact ⟨_, _, _, rfl⟩
  obtain ⟨a, b, c, h⟩ := key
  refine ⟨a, b, ?_⟩
  have e : shpF s = c := by unfold shpF; rw [h]; rfl
  rw [e, h]
theorem shaped_of (E : Int) (l : List Tok) : G.shaped shpF E l = if shpF (peek0 l) = 0 then .ok (peek0 l, l.tail) else .error (shpF (peek0 l), atOf E l) := by
  by_cases h : shpF (peek0 l) = 0
  · rw [if_pos h]; exact one_some (if_neg (by simp [h]))
  · rw [if_neg h]; exact one_none (if_pos h)
theorem shp_ne (l : List Tok) (h : shpF (peek0 l) = 0) : l ≠ [] := fun e => by subst e; exact shp_nil h
/-- Both tables read as they were laid. -/
def Tabs (w : World) : Prop := L3.Tab w ∧ L5.Tab w
theorem Tabs.below {w w' : World} (h : Tabs w) (b : Below w.heap.size w w') : Tabs w' := ⟨h.1.below b, h.2.below b⟩
theorem Tabs.of {w w' : World} (h : Tabs w) (hs : w.heap.size ≤ w'.heap.size) (e0 : w'.heap[0]? = w.heap[0]?) (e1 : w'.heap[1]? = w.heap[1]?) : Tabs w' := by
  have c0 : ∀ i, w'.cell? ⟨0, i, none⟩ = w.cell? ⟨0, i, none⟩ := fun i => World.cell?_of_block e0
  have c1 : ∀ i, w'.cell? ⟨1, i, none⟩ = w.cell? ⟨1, i, none⟩ := fun i => World.cell?_of_block e1
  refine ⟨⟨Nat.lt_of_lt_of_le h.1.1 hs, fun k hk => (c1 k).trans (h.1.2 k hk)⟩, Nat.lt_of_lt_of_le h.2.1 hs, fun k hk => ?_⟩
  rw [c0, c0, c0, c0, c0]
  exact h.2.2 k hk
theorem Tabs.kp {B a : Nat} {w w' : World} (h : Tabs w) (k : Kp B a w w') (ha : 2 ≤ a) (hB : a < B) : Tabs w' :=
  h.of k.size (k.2.2.2.2 0 (by omega) (by omega)) (k.2.2.2.2 1 (by omega) (by omega))
theorem letters_step {B a c : Nat} {L : List Tok} {E : Int} {n : Nat} {l : List Tok} {x : Ins} (w : World) (h : Rdr B a L E n l w) (hi : InsAt B c x w) (ht : Tabs w) (h2 : 2 ≤ a) :
    Calls Tryd.prog 60 #[.pointer (some ⟨a, 0, none⟩), .pointer (some ⟨c, 0, none⟩)] w (Step B a c L E n (byWord x setName (G.shaped shpF E l)) w) := by
  have HW := hide (shaped_of E l)
  have hN := shp_ne l
  have H := hide h
  have I := hide hi
  have T := hide ht
  have ha := h.suffix.2.2.2
  have hBw := h.size
  have hBc := hi.lt.2
  obtain ⟨u, v, HS⟩ := shp_of (peek0 l)
  have HS := hide HS
  clear h hi ht
  go_enter Tryd.func60, Tryd.ntmps60
  go_wp2_with fail
  refine (take_any _ H.out).mono ?_; rintro e w1 ⟨rfl, k1, r1⟩
  have T1 := hide ((T.out.kp k1 h2 (by omega)).below (below_box w1 (tokBox l E)))
  have P1 := hide (Pair.new w1 53 (a := .string (bs (peek0 l))) (b := .int .i64 (atOf E l)))
  go_wp2_with fail
  refine (L3.parse_all _ _ T1.out.1).mono ?_; rintro e w2 ⟨rfl, b2⟩
  rw [HS.out]
  have P2 := P1.out.below b2
  have P3 := hide (P2.below (below_box w2 (.cells #[.int .i64 u, .int .i64 v] 98)))
  have s1 := b2.size
  obtain ⟨p0, p1, p2, p3, p4⟩ := P3.out
  have hne : w1.heap.size ≠ w2.heap.size := by have := P2.2.2.2.2; omega
  clear P2 HS
  generalize shpF (peek0 l) = z at *
  by_cases hz : z = 0
  · have HW2 := hide (HW.out.trans (if_pos hz))
    have hl := hN hz
    subst hz
    clear HW hN
    go_wp2_with fail
    refine (need_ok _ _ _ _).mono ?_; rintro e w3 ⟨rfl, b3⟩
    have I2 := (((I.out.kp k1 ha).step (below_box w1 (tokBox l E))).step b2).step (below_step (below_box w2 (.cells #[.int .i64 u, .int .i64 v] 98)) b3)
    obtain ⟨_, _, c2, z2⟩ := I2.cel
    obtain ⟨q0, q1, q2, q3, q4⟩ := P3.out.below b3
    have I2 := hide I2
    go_wp2_with fail
    go_end0
    exact ⟨(((k1.andBelow (below_box w1 _)).andBelow b2).andBelow (below_step (below_box w2 _) b3) |>.mono hBw).setCell (.inr ⟨hBc, by show c ≠ a; omega⟩) I2.out.not80 _, .inl ⟨_, l.tail, by unfold byWord; rw [HW2.out]; rfl, rfl, ((((r1 hl).step (below_box w1 _)).step b2).step (below_step (below_box w2 _) b3)).set hBc _, I2.out.setName _⟩⟩
  · have HW2 := hide (HW.out.trans (if_neg hz))
    have hz' : (z == 0) = false := by simpa using hz
    clear HW hN
    go_wp2_with fail
    refine (need_no _ _ _ _).mono ?_; rintro e w3 ⟨rfl, b3⟩
    unfold thrown
    go_wp2_with fail
    exact bodyPost_thrown ⟨((k1.andBelow (below_box w1 _)).andBelow b2).andBelow (below_step (below_box w2 _) b3) |>.mono hBw, .inr ⟨_, by unfold byWord; rw [HW2.out]; rfl, rfl⟩⟩
end Go.Proofs.YtkkkgennkhdfhaaDoor
