/- Plain facts on the words of a text: going through its bytes one by one, where each word begins and ends, and that words put together with a blank between each two are these words again. No condition; no program in this text. -/
import Derived.Laws.RangeAny
namespace Go.Proofs.Ytkgibdmjkanimaa

def smaB (c : Int) : Bool := decide (97 ≤ c) && decide (c ≤ 122)
def digB (c : Int) : Bool := decide (48 ≤ c) && decide (c ≤ 57)
def greB (c : Int) : Bool := decide (65 ≤ c) && decide (c ≤ 90)
def eolB (c : Int) : Bool := decide (c = 10) || decide (c = 13)
def blaB (c : Int) : Bool := decide (c = 32) || decide (c = 9) || eolB c
def aloB (c : Int) : Bool := decide (c = 40) || decide (c = 41) || decide (c = 123) || decide (c = 125) || decide (c = 61) || decide (c = 58)
def togB (c : Int) : Bool := decide (c = 46) || decide (c = 37) || decide (c = 64) || decide (c = 45) || decide (c = 95) || smaB c || greB c || digB c

/-- The words so far, and the one that has begun, if any, up to p. -/
def shutW (ws : List (Nat × Nat)) (b : Option Nat) (p : Nat) : List (Nat × Nat) := match b with
  | none => ws
  | some q => ws ++ [(q, p)]
/-- From place p on: the words behind ws, or the place of a byte that no word has. -/
def scan : List UInt8 → Nat → List (Nat × Nat) → Option Nat → Bool → Nat ⊕ List (Nat × Nat)
  | [], p, ws, b, _ => .inr (shutW ws b p)
  | c :: l, p, ws, b, true => scan l (p + 1) ws b (!eolB c.toNat)
  | c :: l, p, ws, b, false =>
    if togB c.toNat then scan l (p + 1) ws (some (b.getD p)) false
    else if aloB c.toNat then scan l (p + 1) (shutW ws b p ++ [(p, p + 1)]) none false
    else if (c.toNat : Int) = 35 then scan l (p + 1) (shutW ws b p) none true
    else if blaB c.toNat then scan l (p + 1) (shutW ws b p) none false
    else .inl p

theorem scan_note (c : UInt8) (l : List UInt8) (p : Nat) (ws : List (Nat × Nat)) (b : Option Nat) : scan (c :: l) p ws b true = scan l (p + 1) ws b (!eolB c.toNat) := by rw [scan]
theorem scan_tog {c : UInt8} (l : List UInt8) (p : Nat) (ws : List (Nat × Nat)) (b : Option Nat) (h : togB c.toNat = true) : scan (c :: l) p ws b false = scan l (p + 1) ws (some (b.getD p)) false := by rw [scan, if_pos h]
theorem scan_alo {c : UInt8} (l : List UInt8) (p : Nat) (ws : List (Nat × Nat)) (b : Option Nat) (h : togB c.toNat = false) (h2 : aloB c.toNat = true) : scan (c :: l) p ws b false = scan l (p + 1) (shutW ws b p ++ [(p, p + 1)]) none false := by
  rw [scan, if_neg (by simp [h]), if_pos h2]
theorem scan_hash {c : UInt8} (l : List UInt8) (p : Nat) (ws : List (Nat × Nat)) (b : Option Nat) (h : togB c.toNat = false) (h2 : aloB c.toNat = false) (h3 : (c.toNat : Int) = 35) : scan (c :: l) p ws b false = scan l (p + 1) (shutW ws b p) none true := by
  rw [scan, if_neg (by simp [h]), if_neg (by simp [h2]), if_pos h3]
theorem scan_bla {c : UInt8} (l : List UInt8) (p : Nat) (ws : List (Nat × Nat)) (b : Option Nat) (h : togB c.toNat = false) (h2 : aloB c.toNat = false) (h3 : ¬ (c.toNat : Int) = 35) (h4 : blaB c.toNat = true) : scan (c :: l) p ws b false = scan l (p + 1) (shutW ws b p) none false := by
  rw [scan, if_neg (by simp [h]), if_neg (by simp [h2]), if_neg h3, if_pos h4]
theorem scan_err {c : UInt8} (l : List UInt8) (p : Nat) (ws : List (Nat × Nat)) (b : Option Nat) (h : togB c.toNat = false) (h2 : aloB c.toNat = false) (h3 : ¬ (c.toNat : Int) = 35) (h4 : blaB c.toNat = false) : scan (c :: l) p ws b false = .inl p := by
  rw [scan, if_neg (by simp [h]), if_neg (by simp [h2]), if_neg h3, if_neg (by simp [h4])]

/-- A letter beyond 127 is of no kind. -/
theorem high_kinds {c : Int} (h : 128 ≤ c) : togB c = false ∧ aloB c = false ∧ ¬ c = 35 ∧ blaB c = false ∧ eolB c = false ∧ smaB c = false ∧ digB c = false ∧ ¬ c = 95 := by
  simp only [togB, aloB, blaB, eolB, smaB, digB, greB, Bool.or_eq_false_iff, Bool.and_eq_false_iff, decide_eq_false_iff_not]
  omega
theorem scan_highs (xs l : List UInt8) (p : Nat) (ws : List (Nat × Nat)) (b : Option Nat) (h : ∀ x ∈ xs, 128 ≤ x.toNat) : scan (xs ++ l) p ws b true = scan l (p + xs.length) ws b true := by
  induction xs generalizing p with
  | nil => simp
  | cons x xs ih =>
    have hx := (high_kinds (c := (x.toNat : Int)) (by have := h x (by simp); omega)).2.2.2.2.1
    rw [List.cons_append, scan_note, hx, Bool.not_false, ih (p + 1) (fun y hy => h y (by simp [hy]))]
    simp only [List.length_cons]
    rw [show p + 1 + xs.length = p + (xs.length + 1) by omega]
theorem drop_cons (s : ByteArray) (p : Nat) (h : p < s.size) : s.data.toList.drop p = s[p] :: s.data.toList.drop (p + 1) := by
  rw [List.drop_eq_getElem_cons (by simpa using h)]; rfl
/-- Of a letter of more than one byte no byte is below 128. -/
theorem decode_all (s : ByteArray) (pos : Nat) (h : pos < s.size) (ha : 128 ≤ (s[pos]'h).toNat) : pos + (Utf8.decode s pos).2 ≤ s.size ∧ ∀ j, j < (Utf8.decode s pos).2 → 128 ≤ (s.get! (pos + j)).toNat := by
  have e0 := get_at s pos h
  have hn : ¬ (s[pos]'h).toNat < 128 := by omega
  have h0 : 128 ≤ (s.get! (pos + 0)).toNat := by rw [e0]; exact ha
  have one : ∀ n, n = 1 → pos + n ≤ s.size ∧ ∀ j, j < n → 128 ≤ (s.get! (pos + j)).toNat := by
    rintro n rfl
    refine ⟨by omega, fun j hj => ?_⟩
    have : j = 0 := by omega
    subst this; exact h0
  simp only [Utf8.decode, e0, hn, if_false]
  split
  · rename_i c1
    simp only [Bool.and_eq_true, decide_eq_true_eq, beq_iff_eq] at c1
    split
    · refine ⟨by omega, fun j hj => ?_⟩
      rcases (show j = 0 ∨ j = 1 by omega) with rfl | rfl
      · exact h0
      · omega
    · exact one _ rfl
  · split
    · rename_i c1
      simp only [Bool.and_eq_true, decide_eq_true_eq, beq_iff_eq] at c1
      split
      · refine ⟨by omega, fun j hj => ?_⟩
        rcases (show j = 0 ∨ j = 1 ∨ j = 2 by omega) with rfl | rfl | rfl
        · exact h0
        · omega
        · omega
      · exact one _ rfl
    · split
      · rename_i c1
        simp only [Bool.and_eq_true, decide_eq_true_eq, beq_iff_eq] at c1
        split
        · refine ⟨by omega, fun j hj => ?_⟩
          rcases (show j = 0 ∨ j = 1 ∨ j = 2 ∨ j = 3 by omega) with rfl | rfl | rfl | rfl
          · exact h0
          · omega
          · omega
          · omega
        · exact one _ rfl
      · exact one _ rfl
theorem get_list (s : ByteArray) (j : Nat) (h : j < s.size) : s.data.toList[j]'(by simpa using h) = s.get! j := by
  rw [ByteArray.get!, getElem!_pos s.data j h]; simp
theorem blen (s : ByteArray) : s.data.toList.length = s.size := by rw [Array.length_toList]; rfl
/-- In a note a letter beyond 127 is passed over. -/
theorem scan_pass (s : ByteArray) (pos : Nat) (ws : List (Nat × Nat)) (b : Option Nat) (h : pos < s.size) (ha : 128 ≤ (s[pos]'h).toNat) :
    scan (s.data.toList.drop pos) pos ws b true = scan (s.data.toList.drop (pos + (Utf8.decode s pos).2)) (pos + (Utf8.decode s pos).2) ws b true := by
  obtain ⟨h1, h2⟩ := decode_all s pos h ha
  generalize (Utf8.decode s pos).2 = k at *
  have hlen := blen s
  have e : s.data.toList.drop pos = (s.data.toList.drop pos).take k ++ s.data.toList.drop (pos + k) := by
    rw [← List.drop_drop]; exact (List.take_append_drop k _).symm
  have hl : ((s.data.toList.drop pos).take k).length = k := by simp only [List.length_take, List.length_drop, hlen]; omega
  rw [e, scan_highs _ _ _ _ _ ?_, hl]
  intro x hx
  obtain ⟨j, hj, rfl⟩ := List.getElem_of_mem hx
  rw [hl] at hj
  have := h2 j hj
  rw [List.getElem_take, List.getElem_drop, get_list s (pos + j) (by omega)]
  exact this

/-! ### Where the words stand -/
def okW : Nat → List (Nat × Nat) → Nat → Prop
  | lo, [], hi => lo ≤ hi
  | lo, x :: r, hi => lo ≤ x.1 ∧ x.1 < x.2 ∧ okW x.2 r hi
theorem okW_snoc (ws : List (Nat × Nat)) : ∀ (lo a e hi : Nat), okW lo ws a → a < e → e ≤ hi → okW lo (ws ++ [(a, e)]) hi := by
  induction ws with
  | nil => intro lo a e hi h h2 h3; exact ⟨h, h2, h3⟩
  | cons x r ih => intro lo a e hi h h2 h3; exact ⟨h.1, h.2.1, ih _ _ _ _ h.2.2 h2 h3⟩
theorem okW_mono (ws : List (Nat × Nat)) : ∀ (lo hi hi2 : Nat), okW lo ws hi → hi ≤ hi2 → okW lo ws hi2 := by
  induction ws with
  | nil => intro lo hi hi2 h h2; exact Nat.le_trans h h2
  | cons x r ih => intro lo hi hi2 h h2; exact ⟨h.1, h.2.1, ih _ _ _ h.2.2 h2⟩
theorem okW_shut (ws : List (Nat × Nat)) (b : Option Nat) (p : Nat) (h : okW 0 ws (b.getD p)) (hb : ∀ q, b = some q → q < p) : okW 0 (shutW ws b p) p := by
  cases b with
  | none => exact h
  | some q => exact okW_snoc ws 0 q p p h (hb q rfl) (Nat.le_refl _)
theorem scan_stands (l : List UInt8) : ∀ (p : Nat) (ws : List (Nat × Nat)) (b : Option Nat) (n : Bool), okW 0 ws (b.getD p) → (∀ q, b = some q → q < p) →
    (∀ x, scan l p ws b n = .inl x → p ≤ x ∧ x < p + l.length) ∧ (∀ ws', scan l p ws b n = .inr ws' → okW 0 ws' (p + l.length)) := by
  induction l with
  | nil =>
    intro p ws b n h hb
    refine ⟨fun x hx => (by rw [scan] at hx; cases hx), fun ws' hx => ?_⟩
    rw [scan] at hx
    rw [← Sum.inr.inj hx]
    exact okW_shut ws b p h hb
  | cons c l ih =>
    intro p ws b n h hb
    have step : ∀ ws2 b2 n2, scan (c :: l) p ws b n = scan l (p + 1) ws2 b2 n2 → okW 0 ws2 (b2.getD (p + 1)) → (∀ q, b2 = some q → q < p + 1) →
        (∀ x, scan (c :: l) p ws b n = .inl x → p ≤ x ∧ x < p + (c :: l).length) ∧ (∀ ws', scan (c :: l) p ws b n = .inr ws' → okW 0 ws' (p + (c :: l).length)) := by
      intro ws2 b2 n2 e h2 hb2
      rw [e, List.length_cons]
      obtain ⟨i1, i2⟩ := ih (p + 1) ws2 b2 n2 h2 hb2
      refine ⟨fun x hx => ?_, fun ws' hx => ?_⟩
      · have := i1 x hx; omega
      · have := i2 ws' hx; rw [show p + (l.length + 1) = p + 1 + l.length by omega]; exact this
    have hs := okW_shut ws b p h hb
    cases n with
    | true =>
      refine step ws b _ (scan_note c l p ws b) ?_ (fun q hq => by have := hb q hq; omega)
      cases b with
      | none => exact okW_mono ws 0 p (p + 1) h (by omega)
      | some q => exact h
    | false =>
      cases ht : togB c.toNat with
      | true =>
        refine step ws (some (b.getD p)) false (scan_tog l p ws b ht) h (fun q hq => ?_)
        have e := Option.some.inj hq
        cases b with
        | none => simp at e; omega
        | some r => simp at e; have := hb r rfl; omega
      | false =>
        cases h2 : aloB c.toNat with
        | true => exact step _ none false (scan_alo l p ws b ht h2) (okW_snoc _ 0 p (p + 1) (p + 1) hs (by omega) (Nat.le_refl _)) (fun q hq => by cases hq)
        | false =>
          by_cases h3 : (c.toNat : Int) = 35
          · exact step _ none true (scan_hash l p ws b ht h2 h3) (okW_mono _ 0 p (p + 1) hs (by omega)) (fun q hq => by cases hq)
          · cases h4 : blaB c.toNat with
            | true => exact step _ none false (scan_bla l p ws b ht h2 h3 h4) (okW_mono _ 0 p (p + 1) hs (by omega)) (fun q hq => by cases hq)
            | false =>
              rw [scan_err l p ws b ht h2 h3 h4]
              exact ⟨fun x hx => by have := Sum.inl.inj hx; simp only [List.length_cons]; omega, fun ws' hx => by cases hx⟩
/-- Where word i − 1 ends; 0 ahead of the first one. -/
def endAt (ws : List (Nat × Nat)) : Nat → Nat
  | 0 => 0
  | i + 1 => (ws.getD i (0, 0)).2
theorem okW_get (ws : List (Nat × Nat)) : ∀ (lo hi i : Nat), okW lo ws hi → i < ws.length → (ws.getD i (0, 0)).1 < (ws.getD i (0, 0)).2 ∧ (ws.getD i (0, 0)).2 ≤ hi ∧ lo ≤ (ws.getD i (0, 0)).1 ∧ (0 < i → (ws.getD (i - 1) (0, 0)).2 ≤ (ws.getD i (0, 0)).1) := by
  have top : ∀ (r : List (Nat × Nat)) lo hi, okW lo r hi → lo ≤ hi := by
    intro r
    induction r with
    | nil => intro lo hi h; exact h
    | cons y r ih => intro lo hi h; have := ih _ _ h.2.2; have h1 := h.1; have h2 := h.2.1; omega
  induction ws with
  | nil => intro lo hi i h hi2; simp at hi2
  | cons x r ih =>
    intro lo hi i h hi2
    cases i with
    | zero =>
      simp only [List.getD_cons_zero]
      exact ⟨h.2.1, top _ _ _ h.2.2, h.1, fun k => absurd k (by omega)⟩
    | succ j =>
      have hj : j < r.length := by simpa using hi2
      obtain ⟨a1, a2, a3, a4⟩ := ih x.2 hi j h.2.2 hj
      have h1 := h.1; have h2 := h.2.1
      refine ⟨by simpa using a1, by simpa using a2, by simp only [List.getD_cons_succ]; omega, fun _ => ?_⟩
      cases j with
      | zero => simpa using a3
      | succ k => have := a4 (by omega); simpa using this
theorem okW_end {ws : List (Nat × Nat)} {hi i : Nat} (h : okW 0 ws hi) (hi2 : i < ws.length) : endAt ws i ≤ (ws.getD i (0, 0)).1 ∧ (ws.getD i (0, 0)).1 < (ws.getD i (0, 0)).2 ∧ (ws.getD i (0, 0)).2 ≤ hi := by
  obtain ⟨a1, a2, _, a4⟩ := okW_get ws 0 hi i h hi2
  refine ⟨?_, a1, a2⟩
  cases i with
  | zero => exact Nat.zero_le _
  | succ k => exact a4 (by omega)

/-! ### Words put together -/
def joinL : List (List UInt8) → List UInt8
  | [] => []
  | x :: r => x ++ r.flatMap fun y => 32 :: y
theorem joinL_snoc (l : List (List UInt8)) (x : List UInt8) (h : l ≠ []) : joinL (l ++ [x]) = joinL l ++ 32 :: x := by
  cases l with
  | nil => exact absurd rfl h
  | cons y r => simp [joinL, List.flatMap_append]
theorem joinL_one (x : List UInt8) : joinL [x] = x := by simp [joinL]
/-- A word: one that stands alone, or some that stand together. -/
def wordOk (x : List UInt8) : Prop := (∃ c : UInt8, x = [c] ∧ togB c.toNat = false ∧ aloB c.toNat = true) ∨ (x ≠ [] ∧ ∀ c ∈ x, togB (UInt8.toNat c) = true)
theorem scan_togs (x l : List UInt8) (p q : Nat) (ws : List (Nat × Nat)) (h : ∀ c ∈ x, togB (UInt8.toNat c) = true) : scan (x ++ l) p ws (some q) false = scan l (p + x.length) ws (some q) false := by
  induction x generalizing p with
  | nil => simp
  | cons c x ih =>
    rw [List.cons_append, scan_tog _ _ _ _ (h c (by simp))]
    simp only [Option.getD_some]
    rw [ih (p + 1) (fun y hy => h y (by simp [hy]))]
    simp only [List.length_cons]
    rw [show p + 1 + x.length = p + (x.length + 1) by omega]
theorem scan_word {x : List UInt8} (hx : wordOk x) (l : List UInt8) (p : Nat) (ws : List (Nat × Nat)) : ∃ ws2 b, scan (x ++ l) p ws none false = scan l (p + x.length) ws2 b false ∧ shutW ws2 b (p + x.length) = ws ++ [(p, p + x.length)] := by
  rcases hx with ⟨c, rfl, h1, h2⟩ | ⟨hne, h⟩
  · exact ⟨_, none, scan_alo l p ws none h1 h2, rfl⟩
  · cases x with
    | nil => exact absurd rfl hne
    | cons c x =>
      refine ⟨ws, some p, ?_, rfl⟩
      rw [List.cons_append, scan_tog _ _ _ _ (h c (by simp))]
      simp only [Option.getD_none]
      rw [scan_togs x l (p + 1) p ws (fun y hy => h y (by simp [hy]))]
      simp only [List.length_cons]
      rw [show p + 1 + x.length = p + (x.length + 1) by omega]
theorem blank_kinds : togB ((32 : UInt8).toNat) = false ∧ aloB ((32 : UInt8).toNat) = false ∧ ¬ (((32 : UInt8).toNat : Nat) : Int) = 35 ∧ blaB ((32 : UInt8).toNat) = true := by decide
def place : Nat → List (List UInt8) → List (Nat × Nat)
  | _, [] => []
  | p, x :: r => (p, p + x.length) :: place (p + x.length + 1) r
theorem scan_joined (xs : List (List UInt8)) : ∀ (p : Nat) (ws : List (Nat × Nat)), (∀ x ∈ xs, wordOk x) → scan (joinL xs) p ws none false = .inr (ws ++ place p xs) := by
  induction xs with
  | nil => intro p ws _; simp [joinL, scan, shutW, place]
  | cons x r ih =>
    intro p ws h
    obtain ⟨ws2, b, e1, e2⟩ := scan_word (h x (by simp)) (r.flatMap fun y => 32 :: y) p ws
    show scan (x ++ _) p ws none false = _
    rw [e1]
    cases r with
    | nil => simp only [List.flatMap_nil]; rw [scan, e2]; simp [place]
    | cons y r2 =>
      have hsp : scan ((y :: r2).flatMap fun y => 32 :: y) (p + x.length) ws2 b false = scan (joinL (y :: r2)) (p + x.length + 1) (shutW ws2 b (p + x.length)) none false :=
        scan_bla (c := 32) _ _ ws2 b blank_kinds.1 blank_kinds.2.1 blank_kinds.2.2.1 blank_kinds.2.2.2
      rw [hsp, e2, ih (p + x.length + 1) _ (fun z hz => h z (by simp [hz]))]
      simp [place]
/-- What stands from a up to e. -/
def cut (L : List UInt8) (x : Nat × Nat) : List UInt8 := (L.drop x.1).take (x.2 - x.1)
theorem cut_place (xs : List (List UInt8)) : ∀ (pre : List UInt8), (place pre.length xs).map (cut (pre ++ joinL xs)) = xs := by
  induction xs with
  | nil => intro pre; rfl
  | cons x r ih =>
    intro pre
    have e1 : cut (pre ++ joinL (x :: r)) (pre.length, pre.length + x.length) = x := by
      simp [cut, joinL]
    rw [place, List.map_cons, e1]
    congr 1
    cases r with
    | nil => rfl
    | cons y r2 =>
      have e2 : pre ++ joinL (x :: y :: r2) = (pre ++ x ++ [32]) ++ joinL (y :: r2) := by simp [joinL]
      have e3 : pre.length + x.length + 1 = (pre ++ x ++ [32]).length := by simp; omega
      rw [e2, e3]
      exact ih _
theorem place_length (xs : List (List UInt8)) : ∀ p, (place p xs).length = xs.length := by
  induction xs with
  | nil => intro p; rfl
  | cons x r ih => intro p; simp [place, ih]
/-- What is found is a word each. -/
def goodW (L : List UInt8) (x : Nat × Nat) : Prop := (x.2 = x.1 + 1 ∧ ∃ c, L[x.1]? = some c ∧ togB c.toNat = false ∧ aloB c.toNat = true) ∨ (x.1 < x.2 ∧ ∀ j, x.1 ≤ j → j < x.2 → ∃ c, L[j]? = some c ∧ togB c.toNat = true)
theorem good_ok {L : List UInt8} {x : Nat × Nat} (h : goodW L x) : wordOk (cut L x) := by
  rcases h with ⟨e, c, hc, h1, h2⟩ | ⟨hlt, h⟩
  · refine .inl ⟨c, ?_, h1, h2⟩
    obtain ⟨hl, rfl⟩ := List.getElem?_eq_some_iff.1 hc
    rw [cut, e, Nat.add_sub_cancel_left, List.drop_eq_getElem_cons hl]
    rfl
  · refine .inr ⟨?_, fun c hc => ?_⟩
    · obtain ⟨c, hc, _⟩ := h x.1 (Nat.le_refl _) hlt
      obtain ⟨hl, rfl⟩ := List.getElem?_eq_some_iff.1 hc
      intro e
      have := congrArg List.length e
      simp [cut] at this
      omega
    · obtain ⟨j, hj, rfl⟩ := List.getElem_of_mem hc
      have hj2 : j < x.2 - x.1 := by simp [cut] at hj; omega
      obtain ⟨c, hc2, h3⟩ := h (x.1 + j) (by omega) (by omega)
      obtain ⟨hl, rfl⟩ := List.getElem?_eq_some_iff.1 hc2
      simp only [cut, List.getElem_take, List.getElem_drop]
      exact h3
theorem good_shut {L : List UInt8} {ws : List (Nat × Nat)} {b : Option Nat} {p : Nat} (h : ∀ x ∈ ws, goodW L x) (hb : ∀ q, b = some q → q < p ∧ ∀ j, q ≤ j → j < p → ∃ c, L[j]? = some c ∧ togB c.toNat = true) : ∀ x ∈ shutW ws b p, goodW L x := by
  cases b with
  | none => exact h
  | some q =>
    intro x hx
    simp only [shutW, List.mem_append, List.mem_singleton] at hx
    rcases hx with hx | rfl
    · exact h x hx
    · exact .inr (hb q rfl)
theorem scan_good (L : List UInt8) (l : List UInt8) : ∀ (p : Nat) (ws : List (Nat × Nat)) (b : Option Nat) (n : Bool), L.drop p = l → (∀ x ∈ ws, goodW L x) →
    (∀ q, b = some q → q < p ∧ ∀ j, q ≤ j → j < p → ∃ c, L[j]? = some c ∧ togB c.toNat = true) → (n = true → b = none) → ∀ ws', scan l p ws b n = .inr ws' → ∀ x ∈ ws', goodW L x := by
  induction l with
  | nil =>
    intro p ws b n _ h hb _ ws' hx
    rw [scan] at hx
    rw [← Sum.inr.inj hx]
    exact good_shut h hb
  | cons c l ih =>
    intro p ws b n hd h hb hn ws' hx
    have hd2 : L.drop (p + 1) = l := by rw [← List.drop_drop, hd]; rfl
    have hc : L[p]? = some c := by
      have := congrArg (fun k => k[0]?) hd
      simpa using this
    have hs := good_shut h hb
    have nob : ∀ q, (none : Option Nat) = some q → q < p + 1 ∧ ∀ j, q ≤ j → j < p + 1 → ∃ c, L[j]? = some c ∧ togB c.toNat = true := fun q hq => by cases hq
    cases n with
    | true =>
      have hb0 := hn rfl
      subst hb0
      rw [scan_note] at hx
      exact ih (p + 1) ws none _ hd2 h nob (fun _ => rfl) ws' hx
    | false =>
      cases ht : togB c.toNat with
      | true =>
        rw [scan_tog l p ws b ht] at hx
        refine ih (p + 1) ws _ false hd2 h (fun q hq => ?_) (fun k => by cases k) ws' hx
        have e := Option.some.inj hq
        cases b with
        | none =>
          simp only [Option.getD_none] at e
          subst e
          refine ⟨by omega, fun j h1 h2 => ?_⟩
          have : j = p := by omega
          subst this
          exact ⟨c, hc, ht⟩
        | some r =>
          simp only [Option.getD_some] at e
          subst e
          obtain ⟨g1, g2⟩ := hb r rfl
          refine ⟨by omega, fun j h1 h2 => ?_⟩
          by_cases hj : j < p
          · exact g2 j h1 hj
          · have : j = p := by omega
            subst this
            exact ⟨c, hc, ht⟩
      | false =>
        cases h2 : aloB c.toNat with
        | true =>
          rw [scan_alo l p ws b ht h2] at hx
          refine ih (p + 1) _ none false hd2 (fun x hx2 => ?_) nob (fun _ => rfl) ws' hx
          simp only [List.mem_append, List.mem_singleton] at hx2
          rcases hx2 with hx2 | rfl
          · exact hs x hx2
          · exact .inl ⟨rfl, c, hc, ht, h2⟩
        | false =>
          by_cases h3 : (c.toNat : Int) = 35
          · rw [scan_hash l p ws b ht h2 h3] at hx
            exact ih (p + 1) _ none true hd2 hs nob (fun _ => rfl) ws' hx
          · cases h4 : blaB c.toNat with
            | true =>
              rw [scan_bla l p ws b ht h2 h3 h4] at hx
              exact ih (p + 1) _ none false hd2 hs nob (fun _ => rfl) ws' hx
            | false =>
              rw [scan_err l p ws b ht h2 h3 h4] at hx
              cases hx
/-- The words of a text: where each begins and ends, or the place of a byte that no word has. -/
def words (s : ByteArray) : Nat ⊕ List (Nat × Nat) := scan s.data.toList 0 [] none false
theorem words_ok {s : ByteArray} {ws : List (Nat × Nat)} (h : words s = .inr ws) : okW 0 ws s.size ∧ ∀ x ∈ ws, wordOk (cut s.data.toList x) := by
  refine ⟨?_, fun x hx => good_ok (scan_good s.data.toList _ 0 [] none false rfl (fun _ k => by cases k) (fun _ k => by cases k) (fun _ => rfl) ws h x hx)⟩
  have := (scan_stands s.data.toList 0 [] none false (Nat.le_refl 0) (fun _ k => by cases k)).2 ws h
  rw [blen, Nat.zero_add] at this
  exact this
theorem words_err {s : ByteArray} {x : Nat} (h : words s = .inl x) : x < s.size := by
  have := ((scan_stands s.data.toList 0 [] none false (Nat.le_refl 0) (fun _ k => by cases k)).1 x h).2
  rw [blen, Nat.zero_add] at this
  exact this
/-- Of words that stand in a text, put together: no more than twice as many bytes. -/
theorem join_len (L : List UInt8) (ws : List (Nat × Nat)) : ∀ lo hi, okW lo ws hi → (joinL (ws.map (cut L))).length + lo ≤ hi + ws.length ∧ ws.length + lo ≤ hi := by
  have tail : ∀ (ws : List (Nat × Nat)) lo hi, okW lo ws hi → ((ws.map (cut L)).flatMap fun y => 32 :: y).length + lo ≤ hi + ws.length ∧ ws.length + lo ≤ hi := by
    intro ws
    induction ws with
    | nil => intro lo hi h; simp; exact h
    | cons x r ih =>
      intro lo hi h
      have h1 := h.1; have h2 := h.2.1
      obtain ⟨i1, i2⟩ := ih _ _ h.2.2
      have hc : (cut L x).length ≤ x.2 - x.1 := by simp [cut]; omega
      simp only [List.map_cons, List.flatMap_cons, List.length_append, List.length_cons]
      omega
  intro lo hi h
  cases ws with
  | nil => simp [joinL]; exact h
  | cons x r =>
    have h1 := h.1; have h2 := h.2.1
    obtain ⟨i1, i2⟩ := tail r _ _ h.2.2
    have hc : (cut L x).length ≤ x.2 - x.1 := by simp [cut]; omega
    simp only [List.map_cons, joinL, List.length_append, List.length_cons]
    omega
/-- THERE AND BACK: the words of a text put together are these words again. -/
theorem words_back {s : ByteArray} {ws : List (Nat × Nat)} (h : words s = .inr ws) (t : ByteArray) (ht : t.data.toList = joinL (ws.map (cut s.data.toList))) :
    ∃ ks, words t = .inr ks ∧ ks.map (cut t.data.toList) = ws.map (cut s.data.toList) := by
  refine ⟨place 0 (ws.map (cut s.data.toList)), ?_, ?_⟩
  · rw [words, ht, scan_joined _ 0 [] (fun x hx => by obtain ⟨y, hy, rfl⟩ := List.mem_map.1 hx; exact (words_ok h).2 y hy), List.nil_append]
  · rw [ht]; exact cut_place _ []

/-! ### Names -/
def nameFrom : List UInt8 → Nat → Bool
  | [], _ => true
  | c :: l, p => (smaB c.toNat || (decide (0 < p) && (digB c.toNat || decide ((c.toNat : Int) = 95)))) && nameFrom l (p + 1)
def nameB (l : List UInt8) : Bool := decide (l.length ≤ 24) && nameFrom l 0 && !l.isEmpty
end Go.Proofs.Ytkgibdmjkanimaa
