/- Layer 6: two lists of words, one behind the other, each of which is a program, are one program of both. -/
import Derived.Test.YtkkkgennkhdfhaaDoorSim
namespace Go.Proofs.YtkkkgennkhdfhaaDoor.G

section
variable {d : Int} {m : List Tok} {E E' : Int} {num : List UInt8 → Int × Int} {idx : List UInt8 → Int → Option Int} {nam : List UInt8 → Bool} {shp : List UInt8 → Int} {tks : Int → Nat} {fnd : List UInt8 → Int × Int} {mks : Int → Int → Int} {prt : Nat → List UInt8 → Bool}

theorem opword_ok {i : Int} {o : Int × Int} {l r : List Tok} (hf : (fnd []).1 = 0) (h : opword fnd mks E i l = .ok (o, r)) : l ≠ [] ∧ r = l.tail ∧ o = fnd (peek0 l) ∧ o.1 ≠ 0 ∧ decide (mks o.1 o.2 ≠ 0) = decide (0 ≤ i) := by
  obtain ⟨h1, h2, h3⟩ := one_ok (by simp [hf]) h
  split at h3
  · cases h3
  · rename_i hc
    cases h3
    exact ⟨h1, h2, rfl, fun e => hc (.inl e), by
      by_cases e : decide (mks (fnd (peek0 l)).1 (fnd (peek0 l)).2 ≠ 0) = decide (0 ≤ i)
      · exact e
      · exact absurd (.inr e) hc⟩
theorem want_ok {w : List UInt8} (hw : w ≠ []) {u : Unit} {l r : List Tok} (h : want E w l = .ok (u, r)) : l ≠ [] ∧ r = l.tail ∧ peek0 l = w := by
  obtain ⟨h1, h2, h3⟩ := one_ok (want_none hw) h
  refine ⟨h1, h2, ?_⟩
  by_cases e : peek0 l = w
  · exact e
  · rw [if_neg e] at h3; cases h3
theorem ident_cases {i : Int} {l r : List Tok} (h : ident idx E l = .ok (i, r)) :
    (peek1 l = [61] ∧ l ≠ [] ∧ mark idx 37 1048576 (peek0 l) = some i ∧ l.tail ≠ [] ∧ r = l.tail.tail ∧ value idx E l = .ok (i, l.tail) ∧ want E [61] l.tail = .ok ((), l.tail.tail)) ∨ (peek1 l ≠ [61] ∧ i = -1 ∧ r = l) := by
  unfold ident at h
  by_cases hc : peek1 l = [61]
  · rw [if_pos hc] at h
    obtain ⟨v, q, h1, h2⟩ := then_ok h
    obtain ⟨hl, hq, hv⟩ := value_ok h1
    subst hq
    obtain ⟨u, q, h3, h4⟩ := then_ok h2
    obtain ⟨hl2, hq, _⟩ := want_ok (by simp) h3
    subst hq
    cases h4
    exact .inl ⟨hc, hl, hv, hl2, rfl, h1, h3⟩
  · rw [if_neg hc] at h
    cases h
    exact .inr ⟨hc, rfl, rfl⟩
theorem start_sim (hf : (fnd []).1 = 0) : Sim d m id (start idx fnd mks E) (start idx fnd mks E') := by
  intro l v r h
  obtain ⟨i, q, h1, h2⟩ := then_ok h
  obtain ⟨o, q2, h3, h4⟩ := then_ok h2
  obtain ⟨hq, hq2, _⟩ := opword_ok hf h3
  subst hq2
  cases h4
  have hs : q <:+ l := by
    rcases ident_cases h1 with ⟨_, _, _, _, rfl, _⟩ | ⟨_, _, rfl⟩
    · exact (List.tail_suffix _).trans (List.tail_suffix _)
    · exact List.suffix_refl _
  refine ⟨(List.tail_suffix q).trans hs, fun hr => ?_⟩
  have hid : ident idx E' (sh d l ++ m) = .ok (i, sh d q ++ m) := by
    rcases ident_cases h1 with ⟨hc, hl, hv, hl2, rfl, hV, hW⟩ | ⟨hc, rfl, rfl⟩
    · unfold ident
      rw [peek1_sh hl2, if_pos hc, (value_sim (E := E) (E' := E') l i l.tail hV).2 hl2]
      show andThen (want E' [61] (sh d l.tail ++ m)) _ = _
      rw [(want_sim (E := E) (E' := E') (by simp) l.tail () l.tail.tail hW).2 hq]; rfl
    · unfold ident
      rw [peek1_sh hr, if_neg hc]
  show andThen (ident idx E' (sh d l ++ m)) _ = _
  rw [hid]
  show andThen (opword fnd mks E' i (sh d q ++ m)) _ = _
  rw [(opword_sim (E := E) (E' := E') hf q o q.tail h3).2 hr]; rfl
theorem start_eats (hf : (fnd []).1 = 0) : Eats (start idx fnd mks E) := by
  intro l v r h
  obtain ⟨i, q, h1, h2⟩ := then_ok h
  obtain ⟨o, q2, h3, h4⟩ := then_ok h2
  obtain ⟨hq, hq2, _⟩ := opword_ok hf h3
  subst hq2
  cases h4
  rcases ident_cases h1 with ⟨_, hl, _, _, rfl, _⟩ | ⟨_, _, rfl⟩
  · exact ⟨hl, (List.tail_suffix _).trans (List.tail_suffix _)⟩
  · exact ⟨hq, List.suffix_refl _⟩
theorem instrA_sim (hn : nam [] = false) (hnum : (num []).2 ≠ 0) (hshp : shp [] ≠ 0) (hf : (fnd []).1 = 0) (a : Int) :
    Sim d m (shI d) (instrA num idx nam shp tks fnd mks E a) (instrA num idx nam shp tks fnd mks E' (a + d)) :=
  Sim.then (start_sim hf) (fun x => Sim.then (operands_sim hn hnum hshp x.2.1) (fun _ => Sim.done rfl))
theorem instr_eats (hn : nam [] = false) (hnum : (num []).2 ≠ 0) (hshp : shp [] ≠ 0) (hf : (fnd []).1 = 0) : Eats (instr num idx nam shp tks fnd mks E) := by
  intro l v r h
  obtain ⟨x, q, h1, h2⟩ := then_ok h
  obtain ⟨hl, hs⟩ := start_eats hf l x q h1
  obtain ⟨y, q2, h3, h4⟩ := then_ok h2
  cases h4
  exact ⟨hl, ((operands_sim (d := 0) (m := []) (E' := E) hn hnum hshp x.2.1) q y r h3).1.trans hs⟩
theorem instr_sim (hn : nam [] = false) (hnum : (num []).2 ≠ 0) (hshp : shp [] ≠ 0) (hf : (fnd []).1 = 0) : Sim d m (shI d) (instr num idx nam shp tks fnd mks E) (instr num idx nam shp tks fnd mks E') := by
  intro l v r h
  obtain ⟨hl, _⟩ := instr_eats hn hnum hshp hf l v r h
  obtain ⟨s, c⟩ := instrA_sim (d := d) (m := m) (E' := E') hn hnum hshp hf (atOf E l) l v r h
  refine ⟨s, fun hr => ?_⟩
  show instrA num idx nam shp tks fnd mks E' (atOf E' (sh d l ++ m)) (sh d l ++ m) = _
  rw [at_sh (E := E) hl]
  exact c hr
theorem len_of {r l : List Tok} (hl : l ≠ []) (h : r <:+ l.tail) : r.length + 1 ≤ l.length := by
  have := h.length_le
  cases l with
  | nil => exact absurd rfl hl
  | cons t q => simp at *; omega

theorem insW_sim (hn : nam [] = false) (hnum : (num []).2 ≠ 0) (hshp : shp [] ≠ 0) (hf : (fnd []).1 = 0) : ∀ f f' n n' acc l v r, f ≤ f' → l.length < f → n' + l.length ≤ 4096 → insW num idx nam shp tks fnd mks E f n acc l = .ok (v, r) →
    r <:+ l ∧ n ≤ v.2 ∧ v.2 + r.length ≤ n + l.length ∧ (r ≠ [] → insW num idx nam shp tks fnd mks E' f' n' (acc.map (shI d)) (sh d l ++ m) = .ok ((v.1.map (shI d), n' + (v.2 - n)), sh d r ++ m)) := by
  intro f
  induction f with
  | zero => intro f' n n' acc l v r _ h; omega
  | succ f ih =>
    intro f' n n' acc l v r hff hl hn' h
    obtain ⟨f', rfl⟩ : ∃ k, f' = k + 1 := ⟨f' - 1, by omega⟩
    simp only [insW] at h ⊢
    by_cases hc : peek0 l = [125] ∨ peek1 l = [58]
    · rw [if_pos hc] at h
      cases h
      refine ⟨List.suffix_refl _, Nat.le_refl _, Nat.le_refl _, fun hr => ?_⟩
      have hc' : peek0 (sh d l ++ m) = [125] ∨ peek1 (sh d l ++ m) = [58] := by
        rcases hc with hc | hc
        · exact .inl (by rw [peek0_sh hr]; exact hc)
        · exact .inr (by
            rw [peek1_sh (fun e => ?_)]
            · exact hc
            · match l, hr, e, hc with
              | [x], _, _, hc => exact absurd hc (by simp [peek1]))
      rw [if_pos hc']
      simp
    · rw [if_neg hc] at h
      by_cases h4 : 4096 ≤ n
      · rw [if_pos h4] at h; cases h
      · rw [if_neg h4] at h
        obtain ⟨x, q, h1, h2⟩ := then_ok h
        obtain ⟨hne, hs⟩ := instr_eats hn hnum hshp hf l x q h1
        have hlen := len_of hne hs
        obtain ⟨s, k1, k2, c⟩ := ih f' (n + 1) (n' + 1) (acc ++ [x]) q v r (by omega) (by omega) (by omega) h2
        refine ⟨(s.trans hs).trans (List.tail_suffix l), by omega, by omega, fun hr => ?_⟩
        have hq := ne_of_suffix s hr
        have ht : l.tail ≠ [] := ne_of_suffix hs hq
        rw [peek0_sh hne, peek1_sh ht, if_neg hc, if_neg (by omega), (instr_sim (E' := E') hn hnum hshp hf l x q h1).2 hq]
        have := c hr
        rw [show n' + 1 + (v.2 - (n + 1)) = n' + (v.2 - n) by omega, List.map_append] at this
        exact this
theorem head_ok {k : Nat} {u : Unit} {l r : List Tok} (h : head prt E k l = .ok (u, r)) : l ≠ [] ∧ r = l.tail ∧ k < 256 := by
  obtain ⟨h1, h2, h3⟩ := one_ok (by simp) h
  refine ⟨h1, h2, ?_⟩
  split at h3
  · cases h3
  · rename_i hc
    by_cases e : 256 ≤ k
    · exact absurd (.inl e) hc
    · omega
theorem block_sim (hn : nam [] = false) (hnum : (num []).2 ≠ 0) (hshp : shp [] ≠ 0) (hf : (fnd []).1 = 0) (k n n' : Nat) (l : List Tok) (v : List Ins × Nat) (r : List Tok) (hl : n' + l.length ≤ 4096) (h : block num idx nam shp tks fnd mks prt E k n l = .ok (v, r)) :
    l ≠ [] ∧ r <:+ l.tail ∧ n ≤ v.2 ∧ v.2 + r.length ≤ n + l.length ∧ (r ≠ [] → block num idx nam shp tks fnd mks prt E' k n' (sh d l ++ m) = .ok ((v.1.map (shI d), n' + (v.2 - n)), sh d r ++ m)) := by
  obtain ⟨u, q, h1, h2⟩ := then_ok h
  obtain ⟨w, q2, h3, h4⟩ := then_ok h2
  obtain ⟨hne, hq, _⟩ := head_ok h1
  subst hq
  obtain ⟨hne2, hq, _⟩ := want_ok (by simp) h3
  subst hq
  have e1 := len_of hne (List.suffix_refl _)
  have e2 := len_of hne2 (List.suffix_refl _)
  obtain ⟨s, k1, k2, c⟩ := insW_sim (d := d) (m := m) (E' := E') hn hnum hshp hf _ ((sh d l.tail.tail ++ m).length + 1) n n' [] l.tail.tail v r (by simp [sh]) (by omega) (by omega) h4
  refine ⟨hne, s.trans (List.tail_suffix _), k1, by omega, fun hr => ?_⟩
  have hq := ne_of_suffix s hr
  show andThen (head prt E' k (sh d l ++ m)) _ = _
  rw [(head_sim (E := E) (E' := E') l u l.tail h1).2 hne2]
  show andThen (want E' [58] (sh d l.tail ++ m)) _ = _
  rw [(want_sim (E := E) (E' := E') (by simp) l.tail w l.tail.tail h3).2 hq]
  exact c hr
theorem blkW_sim (hn : nam [] = false) (hnum : (num []).2 ≠ 0) (hshp : shp [] ≠ 0) (hf : (fnd []).1 = 0) : ∀ f f' n n' acc l v r, f ≤ f' → l.length < f → n' + l.length ≤ 4096 → blkW num idx nam shp tks fnd mks prt E f n acc l = .ok (v, r) →
    r <:+ l ∧ n ≤ v.2 ∧ v.2 + r.length ≤ n + l.length ∧ (r ≠ [] → blkW num idx nam shp tks fnd mks prt E' f' n' (acc.map fun b => b.map (shI d)) (sh d l ++ m) = .ok ((v.1.map (fun b => b.map (shI d)), n' + (v.2 - n)), sh d r ++ m)) := by
  intro f
  induction f with
  | zero => intro f' n n' acc l v r _ h; omega
  | succ f ih =>
    intro f' n n' acc l v r hff hl hn' h
    obtain ⟨f', rfl⟩ : ∃ k, f' = k + 1 := ⟨f' - 1, by omega⟩
    simp only [blkW] at h ⊢
    by_cases hc : peek0 l = [125]
    · rw [if_pos hc] at h
      cases h
      refine ⟨List.suffix_refl _, Nat.le_refl _, Nat.le_refl _, fun hr => ?_⟩
      rw [peek0_sh hr, if_pos hc]
      simp
    · rw [if_neg hc] at h
      obtain ⟨x, q, h1, h2⟩ := then_ok h
      obtain ⟨hne, hs, j1, j2, b⟩ := block_sim (d := d) (m := m) (E' := E') hn hnum hshp hf acc.length n n' l x q hn' h1
      have hlen := len_of hne hs
      obtain ⟨s, k1, k2, c⟩ := ih f' x.2 (n' + (x.2 - n)) (acc ++ [x.1]) q v r (by omega) (by omega) (by omega) h2
      refine ⟨(s.trans hs).trans (List.tail_suffix l), by omega, by omega, fun hr => ?_⟩
      have hq := ne_of_suffix s hr
      rw [peek0_sh hne, if_neg hc, List.length_map, b hq]
      have := c hr
      rw [show n' + (x.2 - n) + (v.2 - x.2) = n' + (v.2 - n) by omega, List.map_append] at this
      exact this
theorem parW_sim : ∀ f f' acc l v r, f ≤ f' → l.length < f → parW E f acc l = .ok (v, r) → r <:+ l ∧ (r ≠ [] → parW E' f' acc (sh d l ++ m) = .ok (v, sh d r ++ m)) := by
  intro f
  induction f with
  | zero => intro f' acc l v r _ h; omega
  | succ f ih =>
    intro f' acc l v r hff hl h
    obtain ⟨f', rfl⟩ : ∃ k, f' = k + 1 := ⟨f' - 1, by omega⟩
    simp only [parW] at h ⊢
    by_cases hc : peek0 l = [41]
    · rw [if_pos hc] at h
      cases h
      exact ⟨List.suffix_refl _, fun hr => by rw [peek0_sh hr, if_pos hc]⟩
    · rw [if_neg hc] at h
      obtain ⟨t, q, h1, h2⟩ := then_ok h
      obtain ⟨hne, hs⟩ := param_eats l t q h1
      have hlen := len_of hne hs
      obtain ⟨s, c⟩ := ih f' (acc ++ [t]) q v r (by omega) (by omega) h2
      refine ⟨(s.trans hs).trans (List.tail_suffix l), fun hr => ?_⟩
      have hq := ne_of_suffix s hr
      rw [peek0_sh hne, if_neg hc, (param_sim (E := E) (E' := E') l t q h1).2 hq]
      exact c hr
theorem params_sim : Sim d m id (params E) (params E') := by
  intro l v r h
  exact parW_sim (E' := E') (l.length + 1) ((sh d l ++ m).length + 1) [] l v r (by simp [sh]) (by omega) h

/-- A function is read alike, whatever stands behind it. -/
theorem function_sim (hn : nam [] = false) (hnum : (num []).2 ≠ 0) (hshp : shp [] ≠ 0) (hf : (fnd []).1 = 0) (n n' : Nat) (l : List Tok) (v : Fun × Nat) (r : List Tok) (hl : n' + l.length ≤ 4096) (h : function num idx nam shp tks fnd mks prt E n l = .ok (v, r)) :
    l ≠ [] ∧ r <:+ l.tail ∧ n ≤ v.2 ∧ v.2 + r.length ≤ n + l.length ∧ function num idx nam shp tks fnd mks prt E' n' (sh d l ++ m) = .ok ((shF d v.1, n' + (v.2 - n)), sh d r ++ m) := by
  obtain ⟨u1, l1, h1, h⟩ := then_ok h
  obtain ⟨s, l2, h2, h⟩ := then_ok h
  obtain ⟨u3, l3, h3, h⟩ := then_ok h
  obtain ⟨p, l4, h4, h⟩ := then_ok h
  obtain ⟨u5, l5, h5, h⟩ := then_ok h
  obtain ⟨t, l6, h6, h⟩ := then_ok h
  obtain ⟨u7, l7, h7, h⟩ := then_ok h
  obtain ⟨b, l8, h8, h⟩ := then_ok h
  obtain ⟨u9, l9, h9, h⟩ := then_ok h
  cases h
  obtain ⟨hne, e1, _⟩ := want_ok (by simp) h1
  have s1 := (want_sim (d := d) (m := m) (E' := E') (by simp) l u1 l1 h1)
  have s2 := (name_sim (d := d) (m := m) (E' := E') hn l1 s l2 h2)
  have s3 := (want_sim (d := d) (m := m) (E' := E') (by simp) l2 u3 l3 h3)
  have s4 := (params_sim (d := d) (m := m) (E' := E') l3 p l4 h4)
  have s5 := (want_sim (d := d) (m := m) (E' := E') (by simp) l4 u5 l5 h5)
  have s6 := (answer_sim (d := d) (m := m) (E' := E') l5 t l6 h6)
  have s7 := (want_sim (d := d) (m := m) (E' := E') (by simp) l6 u7 l7 h7)
  have f7 : l7 <:+ l.tail := ((((((s7.1.trans s6.1).trans s5.1).trans s4.1).trans s3.1).trans s2.1)).trans (by rw [e1]; exact List.suffix_refl _)
  have hlen := len_of hne f7
  obtain ⟨s8, k1, k2, c8⟩ := blkW_sim (d := d) (m := m) (E' := E') hn hnum hshp hf _ ((sh d l7 ++ m).length + 1) n n' [] l7 b l8 (by simp [sh]) (by omega) (by omega) h8
  obtain ⟨hne8, e9, e10⟩ := want_ok (by simp) h9
  have g7 := ne_of_suffix s8 hne8
  have g6 := ne_of_suffix s7.1 g7
  have g5 := ne_of_suffix s6.1 g6
  have g4 := ne_of_suffix s5.1 g5
  have g3 := ne_of_suffix s4.1 g4
  have g2 := ne_of_suffix s3.1 g3
  have g1 := ne_of_suffix s2.1 g2
  have hl9 : r.length + 1 ≤ l8.length := len_of hne8 (by rw [e9]; exact List.suffix_refl _)
  refine ⟨hne, (by rw [e9]; exact ((List.tail_suffix l8).trans s8).trans f7), k1, ?_, ?_⟩
  · show b.2 + r.length ≤ n + l.length
    omega
  have w9 : want E' [125] (sh d l8 ++ m) = .ok ((), sh d r ++ m) := by
    unfold want one
    rw [peek0_sh hne8, e10, tail_sh hne8, e9]
    simp
  show andThen (want E' [102, 117, 110, 99] (sh d l ++ m)) _ = _
  rw [s1.2 g1]
  show andThen (name nam E' (sh d l1 ++ m)) _ = _
  rw [s2.2 g2]
  show andThen (want E' [40] (sh d l2 ++ m)) _ = _
  rw [s3.2 g3]
  show andThen (params E' (sh d l3 ++ m)) _ = _
  rw [s4.2 g4]
  show andThen (want E' [41] (sh d l4 ++ m)) _ = _
  rw [s5.2 g5]
  show andThen (answer E' (sh d l5 ++ m)) _ = _
  rw [s6.2 g6]
  show andThen (want E' [123] (sh d l6 ++ m)) _ = _
  rw [s7.2 g7]
  show andThen (blkW num idx nam shp tks fnd mks prt E' ((sh d l7 ++ m).length + 1) n' [] (sh d l7 ++ m)) _ = _
  have := c8 hne8
  rw [List.map_nil] at this
  rw [this]
  show andThen (want E' [125] (sh d l8 ++ m)) _ = _
  rw [w9, at_sh (E := E) hne]
  rfl

theorem funW_len : ∀ f n acc l v r, acc.length ≤ 32 → funW num idx nam shp tks fnd mks prt E f n acc l = .ok (v, r) → v.1.length ≤ 32 := by
  intro f
  induction f with
  | zero => intro n acc l v r h1 h; cases h; exact h1
  | succ f ih =>
    intro n acc l v r h1 h
    simp only [funW] at h
    by_cases hc : l = []
    · rw [if_pos hc] at h; cases h; exact h1
    · rw [if_neg hc] at h
      by_cases h3 : 32 ≤ acc.length
      · rw [if_pos h3] at h; cases h
      · rw [if_neg h3] at h
        obtain ⟨x, q, _, h2⟩ := then_ok h
        exact ih x.2 (acc ++ [x.1]) q v r (by simp; omega) h2
theorem funW_go (hn : nam [] = false) (hnum : (num []).2 ≠ 0) (hshp : shp [] ≠ 0) (hf : (fnd []).1 = 0) : ∀ f f' n n' acc acc' l v r, l.length < f → l.length + m.length < f' → n' + l.length ≤ 4096 → funW num idx nam shp tks fnd mks prt E f n acc l = .ok (v, r) → acc'.length + (v.1.length - acc.length) ≤ 32 →
    ∃ new g, r = [] ∧ v.1 = acc ++ new ∧ m.length < g ∧ v.2 ≤ n + l.length ∧ n ≤ v.2 ∧ funW num idx nam shp tks fnd mks prt E' f' n' acc' (sh d l ++ m) = funW num idx nam shp tks fnd mks prt E' g (n' + (v.2 - n)) (acc' ++ new.map (shF d)) m := by
  intro f
  induction f with
  | zero => intro f' n n' acc acc' l v r h; omega
  | succ f ih =>
    intro f' n n' acc acc' l v r hl hf' hn' h h32
    simp only [funW] at h
    by_cases hc : l = []
    · subst hc
      rw [if_pos rfl] at h
      cases h
      refine ⟨[], f', rfl, by simp, by simpa using hf', by simp, Nat.le_refl _, ?_⟩
      simp [sh]
    · rw [if_neg hc] at h
      by_cases h3 : 32 ≤ acc.length
      · rw [if_pos h3] at h; cases h
      · rw [if_neg h3] at h
        obtain ⟨x, q, h1, h2⟩ := then_ok h
        obtain ⟨hne, hs, j1, j2, c1⟩ := function_sim (d := d) (m := m) (E' := E') hn hnum hshp hf n n' l x q hn' h1
        have hlen := len_of hne hs
        obtain ⟨f', rfl⟩ : ∃ k, f' = k + 1 := ⟨f' - 1, by omega⟩
        -- how many functions there are in the end
        have hmono : acc.length + 1 ≤ v.1.length := by
          obtain ⟨new, g, _, e, _⟩ := ih (l.length + m.length + f + 1) x.2 (n' + (x.2 - n)) (acc ++ [x.1]) [] q v r (by omega) (by omega) (by omega) h2 (by
            have := funW_len f x.2 (acc ++ [x.1]) q v r (by simp; omega) h2
            simp; omega)
          rw [e]; simp
        obtain ⟨new, g, hr, e, hg, k2, k1, c⟩ := ih f' x.2 (n' + (x.2 - n)) (acc ++ [x.1]) (acc' ++ [shF d x.1]) q v r (by omega) (by omega) (by omega) h2 (by simp; omega)
        refine ⟨x.1 :: new, g, hr, by rw [e]; simp, hg, by omega, by omega, ?_⟩
        rw [show n' + (v.2 - n) = n' + (x.2 - n) + (v.2 - x.2) by omega]
        rw [show acc' ++ (x.1 :: new).map (shF d) = acc' ++ [shF d x.1] ++ new.map (shF d) by simp]
        rw [← c]
        have hne' : sh d l ++ m ≠ [] := by
          cases l with
          | nil => exact absurd rfl hc
          | cons t r => simp [sh]
        simp only [funW]
        rw [if_neg hne', if_neg (by omega), c1]
        rfl

/-- Two programs' words, one behind the other, are one program of both. -/
theorem program_join {d2 : Int} (hn : nam [] = false) (hnum : (num []).2 ≠ 0) (hshp : shp [] ≠ 0) (hf : (fnd []).1 = 0) {E2 : Int} {l l2 : List Tok} {v v2 : List Fun × Nat} {r r2 : List Tok}
    (h1 : program num idx nam shp tks fnd mks prt E l = .ok (v, r)) (h2 : program num idx nam shp tks fnd mks prt E2 l2 = .ok (v2, r2)) (hv : v.1.length + v2.1.length ≤ 32) (hl : l.length + l2.length ≤ 4096) :
    program num idx nam shp tks fnd mks prt E' (sh d l ++ sh d2 l2) = .ok ((v.1.map (shF d) ++ v2.1.map (shF d2), v.2 + v2.2), []) := by
  have e2 : (sh d2 l2).length = l2.length := by simp [sh]
  obtain ⟨new, g, _, e, hg, k2, _, c⟩ := funW_go (d := d) (m := sh d2 l2) (E' := E') hn hnum hshp hf (l.length + 1) ((sh d l ++ sh d2 l2).length + 1) 0 0 [] [] l v r (by omega) (by simp [sh]) (by omega) h1 (by simp; omega)
  have ev : v.1 = new := by simpa using e
  obtain ⟨new2, g2, _, f2, hg2, _, _, c2⟩ := funW_go (d := d2) (m := []) (E' := E') hn hnum hshp hf (l2.length + 1) g 0 (0 + (v.2 - 0)) [] ([] ++ new.map (shF d)) l2 v2 r2 (by omega) (by simp; omega) (by omega) h2 (by simp [← ev]; omega)
  have ev2 : v2.1 = new2 := by simpa using f2
  unfold program
  rw [c]
  rw [List.append_nil] at c2
  rw [c2]
  obtain ⟨g2, rfl⟩ : ∃ k, g2 = k + 1 := ⟨g2 - 1, by omega⟩
  simp only [funW, if_true]
  rw [ev, ev2]
  simp
end
end Go.Proofs.YtkkkgennkhdfhaaDoor.G
