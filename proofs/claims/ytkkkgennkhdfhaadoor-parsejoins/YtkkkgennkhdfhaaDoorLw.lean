/- More of the words of a text: where they stand. -/
import Derived.Test.YtkkkgennkhdfhaaDoorL2
namespace Go.Proofs.YtkkkgennkhdfhaaDoor.L2
open Go.RowKit

def okW : Nat → List (Nat × Nat) → Nat → Prop
  | lo, [], hi => lo ≤ hi
  | lo, x :: r, hi => lo ≤ x.1 ∧ x.1 < x.2 ∧ okW x.2 r hi
theorem okW_snoc (ws : List (Nat × Nat)) : ∀ (lo a e hi : Nat), okW lo ws a → a < e → e ≤ hi → okW lo (ws ++ [(a, e)]) hi := by
  induction ws with
  | nil => intro lo a e hi h h2 h3; exact ⟨h, h2, h3⟩
  | cons x r ih => intro lo a e hi h h2 h3; exact ⟨h.1, h.2.1, ih _ _ _ _ h.2.2 h2 h3⟩
theorem okW_mono (ws : List (Nat × Nat)) : ∀ (lo hi hi2 : Nat), okW lo ws hi → hi ≤ hi2 → okW lo ws hi2 := by
  induction ws with
  | nil => intro lo hi hi2 h h2; exact Nat.le_trans h h2
  | cons x r ih => intro lo hi hi2 h h2; exact ⟨h.1, h.2.1, ih _ _ _ h.2.2 h2⟩
theorem okW_shut (ws : List (Nat × Nat)) (b : Option Nat) (p : Nat) (h : okW 0 ws (b.getD p)) (hb : ∀ q, b = some q → q < p) : okW 0 (shutW ws b p) p := by
  cases b with
  | none => exact h
  | some q => exact okW_snoc ws 0 q p p h (hb q rfl) (Nat.le_refl _)
theorem scan_stands (l : List UInt8) : ∀ (p : Nat) (ws : List (Nat × Nat)) (b : Option Nat) (n : Bool), okW 0 ws (b.getD p) → (∀ q, b = some q → q < p) →
    (∀ x, scan l p ws b n = .inl x → p ≤ x ∧ x < p + l.length) ∧ (∀ ws', scan l p ws b n = .inr ws' → okW 0 ws' (p + l.length)) := by
  induction l with
  | nil =>
    intro p ws b n h hb
    refine ⟨fun x hx => (by rw [scan] at hx; cases hx), fun ws' hx => ?_⟩
    rw [scan] at hx
    rw [← Sum.inr.inj hx]
    exact okW_shut ws b p h hb
  | cons c l ih =>
    intro p ws b n h hb
    have step : ∀ ws2 b2 n2, scan (c :: l) p ws b n = scan l (p + 1) ws2 b2 n2 → okW 0 ws2 (b2.getD (p + 1)) → (∀ q, b2 = some q → q < p + 1) →
        (∀ x, scan (c :: l) p ws b n = .inl x → p ≤ x ∧ x < p + (c :: l).length) ∧ (∀ ws', scan (c :: l) p ws b n = .inr ws' → okW 0 ws' (p + (c :: l).length)) := by
      intro ws2 b2 n2 e h2 hb2
      rw [e, List.length_cons]
      obtain ⟨i1, i2⟩ := ih (p + 1) ws2 b2 n2 h2 hb2
      refine ⟨fun x hx => ?_, fun ws' hx => ?_⟩
      · have := i1 x hx; omega
      · have := i2 ws' hx; rw [show p + (l.length + 1) = p + 1 + l.length by omega]; exact this
    have hs := okW_shut ws b p h hb
    cases n with
    | true =>
      refine step ws b _ (scan_note c l p ws b) ?_ (fun q hq => by have := hb q hq; omega)
      cases b with
      | none => exact okW_mono ws 0 p (p + 1) h (by omega)
      | some q => exact h
    | false =>
      cases ht : togB c.toNat with
      | true =>
        refine step ws (some (b.getD p)) false (scan_tog l p ws b ht) h (fun q hq => ?_)
        have e := Option.some.inj hq
        cases b with
        | none => simp at e; omega
        | some r => simp at e; have := hb r rfl; omega
      | false =>
        cases h2 : aloB c.toNat with
        | true => exact step _ none false (scan_alo l p ws b ht h2) (okW_snoc _ 0 p (p + 1) (p + 1) hs (by omega) (Nat.le_refl _)) (fun q hq => by cases hq)
        | false =>
          by_cases h3 : (c.toNat : Int) = 35
          · exact step _ none true (scan_hash l p ws b ht h2 h3) (okW_mono _ 0 p (p + 1) hs (by omega)) (fun q hq => by cases hq)
          · cases h4 : blaB c.toNat with
            | true => exact step _ none false (scan_bla l p ws b ht h2 h3 h4) (okW_mono _ 0 p (p + 1) hs (by omega)) (fun q hq => by cases hq)
            | false =>
              rw [scan_err l p ws b ht h2 h3 h4]
              exact ⟨fun x hx => by have := Sum.inl.inj hx; simp only [List.length_cons]; omega, fun ws' hx => by cases hx⟩
theorem okW_get (ws : List (Nat × Nat)) : ∀ (lo hi i : Nat), okW lo ws hi → i < ws.length → (ws.getD i (0, 0)).1 < (ws.getD i (0, 0)).2 ∧ (ws.getD i (0, 0)).2 ≤ hi ∧ lo ≤ (ws.getD i (0, 0)).1 ∧ (0 < i → (ws.getD (i - 1) (0, 0)).2 ≤ (ws.getD i (0, 0)).1) := by
  have top : ∀ (r : List (Nat × Nat)) lo hi, okW lo r hi → lo ≤ hi := by
    intro r
    induction r with
    | nil => intro lo hi h; exact h
    | cons y r ih => intro lo hi h; have := ih _ _ h.2.2; have h1 := h.1; have h2 := h.2.1; omega
  induction ws with
  | nil => intro lo hi i h hi2; simp at hi2
  | cons x r ih =>
    intro lo hi i h hi2
    cases i with
    | zero =>
      simp only [List.getD_cons_zero]
      exact ⟨h.2.1, top _ _ _ h.2.2, h.1, fun k => absurd k (by omega)⟩
    | succ j =>
      have hj : j < r.length := by simpa using hi2
      obtain ⟨a1, a2, a3, a4⟩ := ih x.2 hi j h.2.2 hj
      have h1 := h.1; have h2 := h.2.1
      refine ⟨by simpa using a1, by simpa using a2, by simp only [List.getD_cons_succ]; omega, fun _ => ?_⟩
      cases j with
      | zero => simpa using a3
      | succ k => have := a4 (by omega); simpa using this
def joinL : List (List UInt8) → List UInt8
  | [] => []
  | x :: r => x ++ r.flatMap fun y => 32 :: y
/-- A word: one that stands alone, or some that stand together. -/
def wordOk (x : List UInt8) : Prop := (∃ c : UInt8, x = [c] ∧ togB c.toNat = false ∧ aloB c.toNat = true) ∨ (x ≠ [] ∧ ∀ c ∈ x, togB (UInt8.toNat c) = true)
/-- What stands from a up to e. -/
def cut (L : List UInt8) (x : Nat × Nat) : List UInt8 := (L.drop x.1).take (x.2 - x.1)
/-- What is found is a word each. -/
def goodW (L : List UInt8) (x : Nat × Nat) : Prop := (x.2 = x.1 + 1 ∧ ∃ c, L[x.1]? = some c ∧ togB c.toNat = false ∧ aloB c.toNat = true) ∨ (x.1 < x.2 ∧ ∀ j, x.1 ≤ j → j < x.2 → ∃ c, L[j]? = some c ∧ togB c.toNat = true)
theorem good_ok {L : List UInt8} {x : Nat × Nat} (h : goodW L x) : wordOk (cut L x) := by
  rcases h with ⟨e, c, hc, h1, h2⟩ | ⟨hlt, h⟩
  · refine .inl ⟨c, ?_, h1, h2⟩
    obtain ⟨hl, rfl⟩ := List.getElem?_eq_some_iff.1 hc
    rw [cut, e, Nat.add_sub_cancel_left, List.drop_eq_getElem_cons hl]
    rfl
  · refine .inr ⟨?_, fun c hc => ?_⟩
    · obtain ⟨c, hc, _⟩ := h x.1 (Nat.le_refl _) hlt
      obtain ⟨hl, rfl⟩ := List.getElem?_eq_some_iff.1 hc
      intro e
      have := congrArg List.length e
      simp [cut] at this
      omega
    · obtain ⟨j, hj, rfl⟩ := List.getElem_of_mem hc
      have hj2 : j < x.2 - x.1 := by simp [cut] at hj; omega
      obtain ⟨c, hc2, h3⟩ := h (x.1 + j) (by omega) (by omega)
      obtain ⟨hl, rfl⟩ := List.getElem?_eq_some_iff.1 hc2
      simp only [cut, List.getElem_take, List.getElem_drop]
      exact h3
theorem good_shut {L : List UInt8} {ws : List (Nat × Nat)} {b : Option Nat} {p : Nat} (h : ∀ x ∈ ws, goodW L x) (hb : ∀ q, b = some q → q < p ∧ ∀ j, q ≤ j → j < p → ∃ c, L[j]? = some c ∧ togB c.toNat = true) : ∀ x ∈ shutW ws b p, goodW L x := by
  cases b with
  | none => exact h
  | some q =>
    intro x hx
    simp only [shutW, List.mem_append, List.mem_singleton] at hx
    rcases hx with hx | rfl
    · exact h x hx
    · exact .inr (hb q rfl)
theorem scan_good (L : List UInt8) (l : List UInt8) : ∀ (p : Nat) (ws : List (Nat × Nat)) (b : Option Nat) (n : Bool), L.drop p = l → (∀ x ∈ ws, goodW L x) →
    (∀ q, b = some q → q < p ∧ ∀ j, q ≤ j → j < p → ∃ c, L[j]? = some c ∧ togB c.toNat = true) → (n = true → b = none) → ∀ ws', scan l p ws b n = .inr ws' → ∀ x ∈ ws', goodW L x := by
  induction l with
  | nil =>
    intro p ws b n _ h hb _ ws' hx
    rw [scan] at hx
    rw [← Sum.inr.inj hx]
    exact good_shut h hb
  | cons c l ih =>
    intro p ws b n hd h hb hn ws' hx
    have hd2 : L.drop (p + 1) = l := by rw [← List.drop_drop, hd]; rfl
    have hc : L[p]? = some c := by
      have := congrArg (fun k => k[0]?) hd
      simpa using this
    have hs := good_shut h hb
    have nob : ∀ q, (none : Option Nat) = some q → q < p + 1 ∧ ∀ j, q ≤ j → j < p + 1 → ∃ c, L[j]? = some c ∧ togB c.toNat = true := fun q hq => by cases hq
    cases n with
    | true =>
      have hb0 := hn rfl
      subst hb0
      rw [scan_note] at hx
      exact ih (p + 1) ws none _ hd2 h nob (fun _ => rfl) ws' hx
    | false =>
      cases ht : togB c.toNat with
      | true =>
        rw [scan_tog l p ws b ht] at hx
        refine ih (p + 1) ws _ false hd2 h (fun q hq => ?_) (fun k => by cases k) ws' hx
        have e := Option.some.inj hq
        cases b with
        | none =>
          simp only [Option.getD_none] at e
          subst e
          refine ⟨by omega, fun j h1 h2 => ?_⟩
          have : j = p := by omega
          subst this
          exact ⟨c, hc, ht⟩
        | some r =>
          simp only [Option.getD_some] at e
          subst e
          obtain ⟨g1, g2⟩ := hb r rfl
          refine ⟨by omega, fun j h1 h2 => ?_⟩
          by_cases hj : j < p
          · exact g2 j h1 hj
          · have : j = p := by omega
            subst this
            exact ⟨c, hc, ht⟩
      | false =>
        cases h2 : aloB c.toNat with
        | true =>
          rw [scan_alo l p ws b ht h2] at hx
          refine ih (p + 1) _ none false hd2 (fun x hx2 => ?_) nob (fun _ => rfl) ws' hx
          simp only [List.mem_append, List.mem_singleton] at hx2
          rcases hx2 with hx2 | rfl
          · exact hs x hx2
          · exact .inl ⟨rfl, c, hc, ht, h2⟩
        | false =>
          by_cases h3 : (c.toNat : Int) = 35
          · rw [scan_hash l p ws b ht h2 h3] at hx
            exact ih (p + 1) _ none true hd2 hs nob (fun _ => rfl) ws' hx
          · cases h4 : blaB c.toNat with
            | true =>
              rw [scan_bla l p ws b ht h2 h3 h4] at hx
              exact ih (p + 1) _ none false hd2 hs nob (fun _ => rfl) ws' hx
            | false =>
              rw [scan_err l p ws b ht h2 h3 h4] at hx
              cases hx
theorem words_ok {s : ByteArray} {ws : List (Nat × Nat)} (h : words s = .inr ws) : okW 0 ws s.size ∧ ∀ x ∈ ws, wordOk (cut s.data.toList x) := by
  refine ⟨?_, fun x hx => good_ok (scan_good s.data.toList _ 0 [] none false rfl (fun _ k => by cases k) (fun _ k => by cases k) (fun _ => rfl) ws h x hx)⟩
  have := (scan_stands s.data.toList 0 [] none false (Nat.le_refl 0) (fun _ k => by cases k)).2 ws h
  rw [blen, Nat.zero_add] at this
  exact this
theorem words_err {s : ByteArray} {x : Nat} (h : words s = .inl x) : x < s.size := by
  have := ((scan_stands s.data.toList 0 [] none false (Nat.le_refl 0) (fun _ k => by cases k)).1 x h).2
  rw [blen, Nat.zero_add] at this
  exact this
/-- Of words that stand in a text, put together: no more than twice as many bytes. -/
theorem join_len (L : List UInt8) (ws : List (Nat × Nat)) : ∀ lo hi, okW lo ws hi → (joinL (ws.map (cut L))).length + lo ≤ hi + ws.length ∧ ws.length + lo ≤ hi := by
  have tail : ∀ (ws : List (Nat × Nat)) lo hi, okW lo ws hi → ((ws.map (cut L)).flatMap fun y => 32 :: y).length + lo ≤ hi + ws.length ∧ ws.length + lo ≤ hi := by
    intro ws
    induction ws with
    | nil => intro lo hi h; simp; exact h
    | cons x r ih =>
      intro lo hi h
      have h1 := h.1; have h2 := h.2.1
      obtain ⟨i1, i2⟩ := ih _ _ h.2.2
      have hc : (cut L x).length ≤ x.2 - x.1 := by simp [cut]; omega
      simp only [List.map_cons, List.flatMap_cons, List.length_append, List.length_cons]
      omega
  intro lo hi h
  cases ws with
  | nil => simp [joinL]; exact h
  | cons x r =>
    have h1 := h.1; have h2 := h.2.1
    obtain ⟨i1, i2⟩ := tail r _ _ h.2.2
    have hc : (cut L x).length ≤ x.2 - x.1 := by simp [cut]; omega
    simp only [List.map_cons, joinL, List.length_append, List.length_cons]
    omega
end Go.Proofs.YtkkkgennkhdfhaaDoor.L2
