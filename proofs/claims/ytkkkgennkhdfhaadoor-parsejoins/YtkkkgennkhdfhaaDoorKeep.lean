/- Layer 6: what is read keeps the limits. -/
import Derived.Test.YtkkkgennkhdfhaaDoorJoin
namespace Go.Proofs.YtkkkgennkhdfhaaDoor.G

section
variable {E : Int} {num : List UInt8 → Int × Int} {idx : List UInt8 → Int → Option Int} {nam : List UInt8 → Bool} {shp : List UInt8 → Int} {tks : Int → Nat} {fnd : List UInt8 → Int × Int} {mks : Int → Int → Int} {prt : Nat → List UInt8 → Bool}

/-- An instruction has a value just where its operation makes one, the value is no greater than it may be, and it stands where a word stands. -/
def GoodI (mks : Int → Int → Int) (L : List Tok) (x : Ins) : Prop := decide (mks x.1 x.2.2.2.1 ≠ 0) = decide (0 ≤ x.2.1) ∧ x.2.1 ≤ 1048576 ∧ ∃ t ∈ L, x.2.2.2.2.2.2.2 = t.2
/-- A function keeps the limits. -/
def GoodF (nam : List UInt8 → Bool) (mks : Int → Int → Int) (L : List Tok) (f : Fun) : Prop := nam f.1 = true ∧ f.2.1.length ≤ 8 ∧ f.2.2.2.1.length ≤ 256 ∧ (∀ b ∈ f.2.2.2.1, ∀ x ∈ b, GoodI mks L x) ∧ ∃ t ∈ L, f.2.2.2.2 = t.2
theorem at_mem {l L : List Tok} (hl : l ≠ []) (hs : l <:+ L) : ∃ t ∈ L, atOf E l = t.2 := by
  cases l with
  | nil => exact absurd rfl hl
  | cons t r => exact ⟨t, hs.subset (by simp), rfl⟩
theorem mark_le (hi : ∀ s most n, idx s most = some n → n ≤ most) {sign : UInt8} {most n : Int} {s : List UInt8} (h : mark idx sign most s = some n) : n ≤ most := by
  unfold mark at h
  split at h
  · split at h
    · exact hi _ _ _ h
    · cases h
  · cases h
theorem instr_good (hi : ∀ s most n, idx s most = some n → n ≤ most) (hf : (fnd []).1 = 0) {L l r : List Tok} {x : Ins} (hs : l <:+ L) (h : instr num idx nam shp tks fnd mks E l = .ok (x, r)) : GoodI mks L x := by
  obtain ⟨y, q, h1, h2⟩ := then_ok h
  obtain ⟨hl, _⟩ := start_eats hf l y q h1
  obtain ⟨z, q2, h3, h4⟩ := then_ok h2
  obtain ⟨i, p, g1, g2⟩ := then_ok h1
  obtain ⟨o, p2, g3, g4⟩ := then_ok g2
  obtain ⟨_, _, _, _, hd⟩ := opword_ok hf g3
  cases g4
  cases h4
  refine ⟨hd, ?_, at_mem hl hs⟩
  rcases ident_cases g1 with ⟨_, _, hm, _⟩ | ⟨_, rfl, _⟩
  · exact mark_le hi hm
  · show (-1 : Int) ≤ 1048576; omega
theorem insW_good (hn : nam [] = false) (hnum : (num []).2 ≠ 0) (hshp : shp [] ≠ 0) (hf : (fnd []).1 = 0) (hi : ∀ s most n, idx s most = some n → n ≤ most) {L : List Tok} : ∀ f n acc l v r, l <:+ L → n ≤ 4096 → (∀ x ∈ acc, GoodI mks L x) → insW num idx nam shp tks fnd mks E f n acc l = .ok (v, r) → (∀ x ∈ v.1, GoodI mks L x) ∧ v.2 ≤ 4096 ∧ v.2 + acc.length = n + v.1.length ∧ r <:+ l := by
  intro f
  induction f with
  | zero => intro n acc l v r _ h4 hg h; cases h; exact ⟨hg, h4, rfl, List.suffix_refl _⟩
  | succ f ih =>
    intro n acc l v r hs h4 hg h
    simp only [insW] at h
    split at h
    · cases h; exact ⟨hg, h4, rfl, List.suffix_refl _⟩
    · split at h
      · cases h
      · rename_i hlt
        obtain ⟨x, q, h1, h2⟩ := then_ok h
        have hx := instr_good hi hf hs h1
        obtain ⟨_, hq⟩ := instr_eats hn hnum hshp hf l x q h1
        have hq := hq.trans (List.tail_suffix l)
        obtain ⟨a, b, c, e⟩ := ih (n + 1) (acc ++ [x]) q v r (hq.trans hs) (by omega) (by
          intro y hy
          rcases List.mem_append.1 hy with hy | hy
          · exact hg y hy
          · simp at hy; subst hy; exact hx) h2
        simp at c
        exact ⟨a, b, by omega, e.trans hq⟩
theorem block_good (hn : nam [] = false) (hnum : (num []).2 ≠ 0) (hshp : shp [] ≠ 0) (hf : (fnd []).1 = 0) (hi : ∀ s most n, idx s most = some n → n ≤ most) {L : List Tok} {k n : Nat} {l r : List Tok} {v : List Ins × Nat} (hs : l <:+ L) (h4 : n ≤ 4096) (h : block num idx nam shp tks fnd mks prt E k n l = .ok (v, r)) : k < 256 ∧ (∀ x ∈ v.1, GoodI mks L x) ∧ v.2 ≤ 4096 ∧ v.2 = n + v.1.length ∧ r <:+ l := by
  obtain ⟨u, q, h1, h2⟩ := then_ok h
  obtain ⟨w, q2, h3, h5⟩ := then_ok h2
  obtain ⟨_, hq, hk⟩ := head_ok h1
  subst hq
  obtain ⟨_, hq, _⟩ := want_ok (by simp) h3
  subst hq
  have hl : l.tail.tail <:+ l := (List.tail_suffix _).trans (List.tail_suffix l)
  obtain ⟨a, b, c, e⟩ := insW_good hn hnum hshp hf hi _ n [] l.tail.tail v r (hl.trans hs) h4 (fun _ hx => by cases hx) h5
  exact ⟨hk, a, b, by simpa using c, e.trans hl⟩
theorem blkW_good (hn : nam [] = false) (hnum : (num []).2 ≠ 0) (hshp : shp [] ≠ 0) (hf : (fnd []).1 = 0) (hi : ∀ s most n, idx s most = some n → n ≤ most) {L : List Tok} : ∀ f n acc l v r, l <:+ L → n ≤ 4096 → acc.length ≤ 256 → (∀ b ∈ acc, ∀ x ∈ b, GoodI mks L x) → blkW num idx nam shp tks fnd mks prt E f n acc l = .ok (v, r) →
    v.1.length ≤ 256 ∧ (∀ b ∈ v.1, ∀ x ∈ b, GoodI mks L x) ∧ v.2 ≤ 4096 ∧ v.2 + (acc.map List.length).sum = n + (v.1.map List.length).sum ∧ r <:+ l := by
  intro f
  induction f with
  | zero => intro n acc l v r _ h4 hk hg h; cases h; exact ⟨hk, hg, h4, rfl, List.suffix_refl _⟩
  | succ f ih =>
    intro n acc l v r hs h4 hk hg h
    simp only [blkW] at h
    split at h
    · cases h; exact ⟨hk, hg, h4, rfl, List.suffix_refl _⟩
    · obtain ⟨x, q, h1, h2⟩ := then_ok h
      obtain ⟨k1, k2, k3, k4, k5⟩ := block_good hn hnum hshp hf hi hs h4 h1
      obtain ⟨a, b, c, e, g⟩ := ih x.2 (acc ++ [x.1]) q v r (k5.trans hs) k3 (by simp; omega) (by
        intro y hy
        rcases List.mem_append.1 hy with hy | hy
        · exact hg y hy
        · simp at hy; subst hy; exact k2) h2
      simp at e
      exact ⟨a, b, c, by omega, g.trans k5⟩
theorem parW_good : ∀ f acc l v r, acc.length ≤ 8 → parW E f acc l = .ok (v, r) → v.length ≤ 8 := by
  intro f
  induction f with
  | zero => intro acc l v r h8 h; cases h; exact h8
  | succ f ih =>
    intro acc l v r h8 h
    simp only [parW] at h
    split at h
    · cases h; exact h8
    · obtain ⟨t, q, h1, h2⟩ := then_ok h
      obtain ⟨_, _, h3⟩ := one_ok (by simp [kind]) h1
      split at h3
      · cases h3
      · rename_i hc
        exact ih (acc ++ [t]) q v r (by
          by_cases e : 8 ≤ acc.length
          · exact absurd (.inr e) hc
          · simp; omega) h2
theorem function_good (hn : nam [] = false) (hnum : (num []).2 ≠ 0) (hshp : shp [] ≠ 0) (hf : (fnd []).1 = 0) (hi : ∀ s most n, idx s most = some n → n ≤ most) {L : List Tok} {n : Nat} {l r : List Tok} {v : Fun × Nat} (hs : l <:+ L) (h4 : n ≤ 4096) (h : function num idx nam shp tks fnd mks prt E n l = .ok (v, r)) :
    GoodF nam mks L v.1 ∧ v.2 ≤ 4096 ∧ v.2 = n + (v.1.2.2.2.1.map List.length).sum ∧ r <:+ l := by
  obtain ⟨u1, l1, h1, h⟩ := then_ok h
  obtain ⟨s, l2, h2, h⟩ := then_ok h
  obtain ⟨u3, l3, h3, h⟩ := then_ok h
  obtain ⟨p, l4, h4', h⟩ := then_ok h
  obtain ⟨u5, l5, h5, h⟩ := then_ok h
  obtain ⟨t, l6, h6, h⟩ := then_ok h
  obtain ⟨u7, l7, h7, h⟩ := then_ok h
  obtain ⟨b, l8, h8, h⟩ := then_ok h
  obtain ⟨u9, l9, h9, h⟩ := then_ok h
  cases h
  obtain ⟨hne, _, _⟩ := want_ok (by simp) h1
  have s1 := (want_sim (d := 0) (m := []) (E' := E) (by simp) l u1 l1 h1).1
  have s2 := (name_sim (d := 0) (m := []) (E' := E) hn l1 s l2 h2).1
  have s3 := (want_sim (d := 0) (m := []) (E' := E) (by simp) l2 u3 l3 h3).1
  have s4 := (params_sim (d := 0) (m := []) (E' := E) l3 p l4 h4').1
  have s5 := (want_sim (d := 0) (m := []) (E' := E) (by simp) l4 u5 l5 h5).1
  have s6 := (answer_sim (d := 0) (m := []) (E' := E) l5 t l6 h6).1
  have s7 := (want_sim (d := 0) (m := []) (E' := E) (by simp) l6 u7 l7 h7).1
  have s9 := (want_sim (d := 0) (m := []) (E' := E) (by simp) l8 u9 r h9).1
  have f7 : l7 <:+ l := (((((s7.trans s6).trans s5).trans s4).trans s3).trans s2).trans s1
  obtain ⟨a, c, e, g, k⟩ := blkW_good hn hnum hshp hf hi _ n [] l7 b l8 (f7.trans hs) h4 (by simp) (fun _ hx => by cases hx) h8
  obtain ⟨_, _, hnm⟩ := one_ok (by simp [hn]) h2
  have hnam : nam s = true := by
    split at hnm
    · rename_i hc; cases hnm; exact hc
    · cases hnm
  exact ⟨⟨hnam, parW_good _ [] l3 p l4 (by simp) h4', a, c, at_mem hne hs⟩, e, by simpa using g, (s9.trans k).trans f7⟩
theorem funW_good (hn : nam [] = false) (hnum : (num []).2 ≠ 0) (hshp : shp [] ≠ 0) (hf : (fnd []).1 = 0) (hi : ∀ s most n, idx s most = some n → n ≤ most) {L : List Tok} : ∀ f n acc l v r, l <:+ L → n ≤ 4096 → acc.length ≤ 32 → (∀ x ∈ acc, GoodF nam mks L x) → funW num idx nam shp tks fnd mks prt E f n acc l = .ok (v, r) →
    v.1.length ≤ 32 ∧ (∀ x ∈ v.1, GoodF nam mks L x) ∧ v.2 ≤ 4096 ∧ v.2 + (acc.map (fun x : Fun => (x.2.2.2.1.map List.length).sum)).sum = n + (v.1.map (fun x : Fun => (x.2.2.2.1.map List.length).sum)).sum := by
  intro f
  induction f with
  | zero => intro n acc l v r _ h4 hk hg h; cases h; exact ⟨hk, hg, h4, rfl⟩
  | succ f ih =>
    intro n acc l v r hs h4 hk hg h
    simp only [funW] at h
    split at h
    · cases h; exact ⟨hk, hg, h4, rfl⟩
    · split at h
      · cases h
      · obtain ⟨x, q, h1, h2⟩ := then_ok h
        obtain ⟨k1, k2, k3, k4⟩ := function_good hn hnum hshp hf hi hs h4 h1
        obtain ⟨a, b, c, e⟩ := ih x.2 (acc ++ [x.1]) q v r (k4.trans hs) k2 (by simp; omega) (by
          intro y hy
          rcases List.mem_append.1 hy with hy | hy
          · exact hg y hy
          · simp at hy; subst hy; exact k1) h2
        simp at e
        exact ⟨a, b, c, by omega⟩
/-- What is read keeps the limits. -/
theorem program_good (hn : nam [] = false) (hnum : (num []).2 ≠ 0) (hshp : shp [] ≠ 0) (hf : (fnd []).1 = 0) (hi : ∀ s most n, idx s most = some n → n ≤ most) {l r : List Tok} {v : List Fun × Nat} (h : program num idx nam shp tks fnd mks prt E l = .ok (v, r)) :
    v.1.length ≤ 32 ∧ (∀ x ∈ v.1, GoodF nam mks l x) ∧ v.2 ≤ 4096 ∧ v.2 = (v.1.map (fun x : Fun => (x.2.2.2.1.map List.length).sum)).sum := by
  obtain ⟨a, b, c, e⟩ := funW_good hn hnum hshp hf hi (L := l) _ 0 [] l v r (List.suffix_refl _) (by omega) (by simp) (fun _ hx => by cases hx) h
  exact ⟨a, b, c, by simpa using e⟩
end
end Go.Proofs.YtkkkgennkhdfhaaDoor.G
