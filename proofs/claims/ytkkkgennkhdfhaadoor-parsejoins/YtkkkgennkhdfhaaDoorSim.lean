/- Layer 6: what is read is read alike where other words stand behind it, and where the words stand elsewhere. -/
import Derived.Test.YtkkkgennkhdfhaaDoorGram
namespace Go.Proofs.YtkkkgennkhdfhaaDoor.G

theorem then_ok {α β : Type} {x : Except Er (α × List Tok)} {f : α → Rd β} {y : β × List Tok} (h : andThen x f = .ok y) : ∃ v q, x = .ok (v, q) ∧ f v q = .ok y := by
  cases x with
  | error e => cases h
  | ok p => exact ⟨p.1, p.2, rfl, h⟩
theorem tail_len {l : List Tok} {f : Nat} (h : l.length < f + 1) (hl : l ≠ []) : l.tail.length < f := by
  cases l with
  | nil => exact absurd rfl hl
  | cons t r => simp at *; omega
section
variable {d : Int} {m : List Tok} {E E' : Int} {num : List UInt8 → Int × Int} {idx : List UInt8 → Int → Option Int} {nam : List UInt8 → Bool} {shp : List UInt8 → Int} {tks : Int → Nat} {fnd : List UInt8 → Int × Int} {mks : Int → Int → Int} {prt : Nat → List UInt8 → Bool}

theorem taken_sh {l : List Tok} (h : l.tail ≠ []) : taken (sh d l ++ m) = taken l := by
  unfold taken; rw [peek0_sh (ne_of_tail h), peek1_sh h]
theorem taken_not {l : List Tok} (hl : l ≠ []) (h : taken l = false) : taken (sh d l ++ m) = false := by
  by_cases ht : l.tail = []
  · match l, hl, ht with
    | [x], _, _ =>
      have h1 : (x.1.head? == some 37 && ([] : List UInt8) != [61]) = false := h
      have h2 : (x.1.head? == some 37) = false := by simpa using h1
      show (x.1.head? == some 37 && peek1 (sh d [x] ++ m) != [61]) = false
      rw [h2]; rfl
  · rw [taken_sh ht]; exact h
theorem paired_sh {l : List Tok} (h : l.tail ≠ []) : paired (sh d l ++ m) = paired l := by
  unfold paired; rw [peek0_sh (ne_of_tail h), peek1_sh h]
theorem paired_not {l : List Tok} (hl : l ≠ []) (h : paired l = false) : paired (sh d l ++ m) = false := by
  by_cases ht : l.tail = []
  · match l, hl, ht with
    | [x], _, _ =>
      have h1 : (x.1.head? == some 98 && x.1 != [98, 114] && ([] : List UInt8) != [58]) = false := h
      have h2 : (x.1.head? == some 98 && x.1 != [98, 114]) = false := by simpa using h1
      show (x.1.head? == some 98 && x.1 != [98, 114] && peek1 (sh d [x] ++ m) != [58]) = false
      rw [h2]; rfl
  · rw [paired_sh ht]; exact h

theorem valuesW_sim : ∀ f f' acc l v r, f ≤ f' → l.length < f → valuesW idx E f acc l = .ok (v, r) → r <:+ l ∧ (r ≠ [] → valuesW idx E' f' acc (sh d l ++ m) = .ok (v, sh d r ++ m)) := by
  intro f
  induction f with
  | zero => intro f' acc l v r _ h; omega
  | succ f ih =>
    intro f' acc l v r hf hl h
    obtain ⟨f', rfl⟩ : ∃ k, f' = k + 1 := ⟨f' - 1, by omega⟩
    simp only [valuesW] at h ⊢
    cases ht : taken l with
    | true =>
      rw [ht, if_pos rfl] at h
      obtain ⟨u, q, h1, h2⟩ := then_ok h
      obtain ⟨hne, hq, _⟩ := value_ok h1
      subst hq
      obtain ⟨s, c⟩ := ih f' (acc ++ [u]) l.tail v r (by omega) (tail_len hl hne) h2
      refine ⟨s.trans (List.tail_suffix l), fun hr => ?_⟩
      have hq := ne_of_suffix s hr
      rw [taken_sh hq, ht, if_pos rfl, (value_sim (E := E) (E' := E') l u l.tail h1).2 hq]
      exact c hr
    | false =>
      rw [ht, if_neg (by simp)] at h
      cases h
      refine ⟨List.suffix_refl _, fun hr => ?_⟩
      rw [taken_not hr ht, if_neg (by simp)]
theorem values_sim : Sim d m id (values idx E) (values idx E') := by
  intro l v r h
  exact valuesW_sim (E' := E') (l.length + 1) ((sh d l ++ m).length + 1) [] l v r (by simp [sh]) (by omega) h
theorem valuesN_sim : ∀ n acc, Sim d m id (valuesN idx E n acc) (valuesN idx E' n acc) := by
  intro n
  induction n with
  | zero => intro acc; exact Sim.done rfl
  | succ n ih => intro acc; exact Sim.then value_sim (fun v => ih (acc ++ [v]))
theorem phiW_sim : ∀ f f' to args l v r, f ≤ f' → l.length < f → phiW idx E f to args l = .ok (v, r) → r <:+ l ∧ (r ≠ [] → phiW idx E' f' to args (sh d l ++ m) = .ok (v, sh d r ++ m)) := by
  intro f
  induction f with
  | zero => intro f' to args l v r _ h; omega
  | succ f ih =>
    intro f' to args l v r hf hl h
    obtain ⟨f', rfl⟩ : ∃ k, f' = k + 1 := ⟨f' - 1, by omega⟩
    simp only [phiW] at h ⊢
    by_cases hc : to = [] ∨ paired l = true
    · rw [if_pos hc] at h
      obtain ⟨b, q, h1, h2⟩ := then_ok h
      obtain ⟨hne, hq, _⟩ := label_ok h1
      subst hq
      obtain ⟨u, q, h3, h4⟩ := then_ok h2
      obtain ⟨hne2, hq, _⟩ := value_ok h3
      subst hq
      obtain ⟨s, c⟩ := ih f' (to ++ [b]) (args ++ [u]) l.tail.tail v r (by omega) (Nat.lt_of_le_of_lt (by simp) (tail_len hl hne)) h4
      refine ⟨(s.trans (List.tail_suffix _)).trans (List.tail_suffix l), fun hr => ?_⟩
      have hq := ne_of_suffix s hr
      rw [paired_sh hne2, if_pos hc, (label_sim (E := E) (E' := E') l b l.tail h1).2 hne2]
      show andThen (value idx E' (sh d l.tail ++ m)) _ = _
      rw [(value_sim (E := E) (E' := E') l.tail u l.tail.tail h3).2 hq]
      exact c hr
    · rw [if_neg hc] at h
      cases h
      refine ⟨List.suffix_refl _, fun hr => ?_⟩
      have h1 : ¬ to = [] := fun e => hc (.inl e)
      have h2 : paired l = false := by
        cases e : paired l with
        | true => exact absurd (.inr e) hc
        | false => rfl
      rw [if_neg (by rw [paired_not hr h2]; simp [h1])]
theorem phi_sim : Sim d m id (phi idx E) (phi idx E') := by
  intro l v r h
  exact phiW_sim (E' := E') (l.length + 1) ((sh d l ++ m).length + 1) [] [] l v r (by simp [sh]) (by omega) h
theorem ret1_sim : Sim d m id (ret1 idx E) (ret1 idx E') := by
  intro l v r h
  simp only [ret1] at h ⊢
  cases ht : taken l with
  | true =>
    rw [ht, if_pos rfl] at h
    obtain ⟨s, c⟩ := Sim.then (k := id) (G := fun v => done ((0, [v], [], []) : Opd)) (G' := fun v => done ((0, [v], [], []) : Opd)) (value_sim (d := d) (m := m) (E := E) (E' := E') (idx := idx)) (fun v => Sim.done rfl) l v r h
    obtain ⟨u, q, h1, h2⟩ := then_ok h
    obtain ⟨hne, hq, _⟩ := value_ok h1
    subst hq
    refine ⟨s, fun hr => ?_⟩
    have : l.tail ≠ [] := by cases h2; exact hr
    rw [taken_sh this, ht, if_pos rfl]
    exact c hr
  | false =>
    rw [ht, if_neg (by simp)] at h
    cases h
    refine ⟨List.suffix_refl _, fun hr => ?_⟩
    rw [taken_not hr ht, if_neg (by simp)]; rfl
theorem spot_sim : Sim d m id (spot idx E) (spot idx E') := by
  intro l v r h
  simp only [spot] at h ⊢
  by_cases hc : (peek0 l).head? = some 64
  · rw [if_pos hc] at h
    obtain ⟨hne, hq, _⟩ := index_ok h
    obtain ⟨s, c⟩ := index_sim (d := d) (m := m) (E := E) (E' := E') l v r h
    refine ⟨s, fun hr => ?_⟩
    rw [peek0_sh hne, if_pos hc]
    exact c hr
  · rw [if_neg hc] at h
    cases h
    refine ⟨List.suffix_refl _, fun hr => ?_⟩
    rw [peek0_sh hr, if_neg hc]; rfl

theorem operands_sim (hn : nam [] = false) (hnum : (num []).2 ≠ 0) (hshp : shp [] ≠ 0) (op : Int) : Sim d m id (operands num idx nam shp tks E op) (operands num idx nam shp tks E' op) := by
  unfold operands
  by_cases h : op = 1
  · simp only [h, if_true]; exact Sim.then (anyNum_sim hnum) (fun _ => Sim.done rfl)
  simp only [h, if_false]; clear h
  by_cases h : op = 29
  · simp only [h, if_true]; exact Sim.then (number_sim hnum) (fun _ => Sim.done rfl)
  simp only [h, if_false]; clear h
  by_cases h : op = 10
  · simp only [h, if_true]; exact Sim.then (shaped_sim hshp) (fun _ => Sim.done rfl)
  simp only [h, if_false]; clear h
  by_cases h : op = 20
  · simp only [h, if_true]; exact Sim.then phi_sim (fun _ => Sim.done rfl)
  simp only [h, if_false]; clear h
  by_cases h : op = 21
  · simp only [h, if_true]; exact Sim.then spot_sim (fun _ => Sim.then (name_sim hn) (fun _ => Sim.then values_sim (fun _ => Sim.done rfl)))
  simp only [h, if_false]; clear h
  by_cases h : op = 28
  · simp only [h, if_true]; exact ret1_sim
  simp only [h, if_false]; clear h
  by_cases h : op = 11 ∨ op = 12 ∨ op = 15
  · simp only [h, if_true]; exact Sim.then value_sim (fun _ => Sim.then (number_sim hnum) (fun _ => Sim.done rfl))
  simp only [h, if_false]; clear h
  by_cases h : op = 13 ∨ op = 14
  · simp only [h, if_true]; exact Sim.then value_sim (fun _ => Sim.then (number_sim hnum) (fun _ => Sim.then value_sim (fun _ => Sim.done rfl)))
  simp only [h, if_false]; clear h
  by_cases h : op = 23
  · simp only [h, if_true]; exact Sim.then (number_sim hnum) (fun _ => Sim.done rfl)
  simp only [h, if_false]; clear h
  by_cases h : op = 24
  · simp only [h, if_true]; exact Sim.then value_sim (fun _ => Sim.then (number_sim hnum) (fun _ => Sim.done rfl))
  simp only [h, if_false]; clear h
  by_cases h : op = 26
  · simp only [h, if_true]; exact Sim.then label_sim (fun _ => Sim.done rfl)
  simp only [h, if_false]; clear h
  by_cases h : op = 27
  · simp only [h, if_true]; exact Sim.then value_sim (fun _ => Sim.then label_sim (fun _ => Sim.then label_sim (fun _ => Sim.done rfl)))
  simp only [h, if_false]; clear h
  exact Sim.then (valuesN_sim _ _) (fun _ => Sim.done rfl)
end
end Go.Proofs.YtkkkgennkhdfhaaDoor.G
