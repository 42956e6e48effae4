/- Layer 12, ahead of its code: objects that never move as plain lists, whatever tells which slots hold pointers; what is stored is loaded; what is reached. -/
import Derived.WalkKit
namespace Go.Proofs.YthmeafnofckoiaaDoor.Layertwelve

/-- An object: how many slots, which hold pointers, and what they hold. -/
abbrev Ob := (Nat × Nat) × List Int
section
variable (has : Nat → Nat → Int → Bool)
/-- The trap of an object and a slot. -/
def trapF (l : List Ob) (id slot : Int) (p : Bool) : Int :=
  if id = 0 then 1 else if id < 0 ∨ (l.length : Int) < id then 2
  else
    let x := (l.getD (id - 1).toNat ((0, 0), [])).1
    if slot < 0 ∨ (x.1 : Int) ≤ slot ∨ has x.1 x.2 slot ≠ p then 2 else 0
def objN (l : List Ob) (id : Int) : Ob := l.getD (id - 1).toNat ((0, 0), [])
def loadF (l : List Ob) (id slot : Int) (p : Bool) : Int × Int := if trapF has l id slot p ≠ 0 then (0, trapF has l id slot p) else ((objN l id).2.getD slot.toNat 0, 0)
def storeF (l : List Ob) (id slot : Int) (p : Bool) (n : Int) : List Ob := if trapF has l id slot p ≠ 0 then l else l.set (id - 1).toNat ((objN l id).1, (objN l id).2.set slot.toNat n)
def slotF (l : List Ob) (id slot : Int) : Int := if trapF has l id slot true = 0 ∨ trapF has l id slot false = 0 then 0 else trapF has l id slot true
def wordsF (l : List Ob) : Nat := (l.map fun o => o.2.length + 1).sum
def shapeF (l : List Ob) (id : Int) : Nat × Nat := if id < 1 ∨ (l.length : Int) < id then (0, 0) else (objN l id).1
def makeF (l : List Ob) (x : Nat × Nat) : List Ob := l ++ [(x, List.replicate x.1 0)]
/-- Each object has as many slots as its shape says. -/
def Wf (l : List Ob) : Prop := ∀ o ∈ l, o.2.length = o.1.1
theorem Wf.make {l : List Ob} (h : Wf l) (x : Nat × Nat) : Wf (makeF l x) := by
  intro o ho
  rcases List.mem_append.1 ho with ho | ho
  · exact h o ho
  · rw [List.mem_singleton.1 ho]; simp
variable {has}
theorem trap_in {l : List Ob} {id slot : Int} {p : Bool} (h : trapF has l id slot p = 0) : 1 ≤ id ∧ id ≤ l.length ∧ 0 ≤ slot ∧ slot < (objN l id).1.1 ∧ has (objN l id).1.1 (objN l id).1.2 slot = p := by
  unfold trapF at h
  by_cases h0 : id = 0
  · rw [if_pos h0] at h; cases h
  · rw [if_neg h0] at h
    by_cases h1 : id < 0 ∨ (l.length : Int) < id
    · rw [if_pos h1] at h; cases h
    · rw [if_neg h1] at h
      by_cases h2 : slot < 0 ∨ ((l.getD (id - 1).toNat ((0, 0), [])).1.1 : Int) ≤ slot ∨ has (l.getD (id - 1).toNat ((0, 0), [])).1.1 (l.getD (id - 1).toNat ((0, 0), [])).1.2 slot ≠ p
      · simp only [if_pos h2] at h; cases h
      · refine ⟨by omega, by omega, by omega, ?_, ?_⟩
        · unfold objN; omega
        · exact Classical.byContradiction fun hc => h2 (.inr (.inr hc))
theorem objN_mem {l : List Ob} {id : Int} (h1 : 1 ≤ id) (h2 : id ≤ l.length) : l[(id - 1).toNat]? = some (objN l id) := by
  unfold objN
  rw [List.getD_eq_getElem?_getD, List.getElem?_eq_getElem (by omega)]; rfl
theorem store_len {l : List Ob} {id slot : Int} {p : Bool} {n : Int} : (storeF has l id slot p n).length = l.length := by
  unfold storeF; split <;> simp
/-- What an object is behind a store. -/
theorem store_obj {l : List Ob} {id slot : Int} {p : Bool} {n : Int} (id' : Int) (h1 : 1 ≤ id') : objN (storeF has l id slot p n) id' = if trapF has l id slot p = 0 ∧ id' = id then ((objN l id).1, (objN l id).2.set slot.toNat n) else objN l id' := by
  unfold storeF
  by_cases h : trapF has l id slot p = 0
  · have ht := trap_in h
    rw [if_neg (by simpa using h)]
    by_cases e : id' = id
    · subst e
      rw [if_pos ⟨h, rfl⟩]
      show (l.set _ _).getD _ _ = _
      rw [List.getD_eq_getElem?_getD, List.getElem?_set_self (by omega)]; rfl
    · rw [if_neg (fun k => e k.2)]
      show (l.set _ _).getD _ _ = l.getD _ _
      rw [List.getD_eq_getElem?_getD, List.getD_eq_getElem?_getD, List.getElem?_set_ne (by omega)]
  · rw [if_pos (by simpa using h), if_neg (fun k => h k.1)]
theorem store_shape {l : List Ob} {id slot : Int} {p : Bool} {n : Int} (id' : Int) (h1 : 1 ≤ id') : (objN (storeF has l id slot p n) id').1 = (objN l id').1 := by
  rw [store_obj id' h1]
  split
  · rename_i h; rw [h.2]
  · rfl
theorem store_trap {l : List Ob} {id slot : Int} {p : Bool} {n : Int} (id' slot' : Int) (p' : Bool) : trapF has (storeF has l id slot p n) id' slot' p' = trapF has l id' slot' p' := by
  unfold trapF
  rw [store_len]
  by_cases h0 : id' = 0
  · rw [if_pos h0, if_pos h0]
  · rw [if_neg h0, if_neg h0]
    by_cases h1 : id' < 0 ∨ (l.length : Int) < id'
    · rw [if_pos h1, if_pos h1]
    · rw [if_neg h1, if_neg h1]
      have e : ((storeF has l id slot p n).getD (id' - 1).toNat ((0, 0), [])).1 = (l.getD (id' - 1).toNat ((0, 0), [])).1 := store_shape id' (by omega)
      simp only [e]
theorem Wf.store {l : List Ob} (h : Wf l) {id slot : Int} {p : Bool} {n : Int} : Wf (storeF has l id slot p n) := by
  unfold storeF
  split
  · exact h
  · rename_i ht
    intro o ho
    rcases List.mem_or_eq_of_mem_set ho with ho | ho
    · exact h o ho
    · rw [ho]
      have hi := trap_in (show trapF has l id slot p = 0 from Classical.byContradiction ht)
      simpa using h _ (List.mem_of_getElem? (objN_mem hi.1 hi.2.1))
theorem load_same {l : List Ob} (hw : Wf l) {id slot : Int} {p : Bool} {n : Int} (h : trapF has l id slot p = 0) : loadF has (storeF has l id slot p n) id slot p = (n, 0) := by
  have hi := trap_in h
  unfold loadF
  rw [store_trap, if_neg (by simpa using h), store_obj id hi.1, if_pos ⟨h, rfl⟩]
  have hl := hw _ (List.mem_of_getElem? (objN_mem hi.1 hi.2.1))
  rw [List.getD_eq_getElem?_getD, List.getElem?_set_self (by omega)]; rfl
theorem load_other {l : List Ob} {id slot : Int} {p : Bool} {n : Int} {id' slot' : Int} {p' : Bool} (hne : id' ≠ id ∨ slot' ≠ slot) : loadF has (storeF has l id slot p n) id' slot' p' = loadF has l id' slot' p' := by
  unfold loadF
  rw [store_trap]
  by_cases h : trapF has l id' slot' p' = 0
  · have hi := trap_in h
    rw [if_neg (by simpa using h), if_neg (by simpa using h), store_obj id' hi.1]
    split
    · rename_i hc
      have hs := trap_in hc.1
      have hne' : slot' ≠ slot := by
        rcases hne with e | e
        · exact absurd hc.2 e
        · exact e
      rw [hc.2]
      show (((objN l id).2.set slot.toNat n).getD slot'.toNat 0, (0 : Int)) = ((objN l id).2.getD slot'.toNat 0, 0)
      rw [List.getD_eq_getElem?_getD, List.getD_eq_getElem?_getD, List.getElem?_set_ne (by omega)]
    · rfl
  · rw [if_pos (by simpa using h), if_pos (by simpa using h)]
variable (has)
/-- Those of some that are objects, none twice. -/
def firstF (n : Nat) : List Int → List Int → List Int
  | [], out => out
  | x :: r, out => firstF n r (if 1 ≤ x ∧ x ≤ (n : Int) ∧ x ∉ out then out ++ [x] else out)
/-- What an object's slots from s on hold, that was not met yet. -/
def slotsF (n : Nat) (o : Ob) : Nat → Nat → List Int → List Int
  | 0, _, out => out
  | k + 1, s, out => slotsF n o k (s + 1) (if has o.1.1 o.1.2 s = true ∧ 1 ≤ o.2.getD s 0 ∧ o.2.getD s 0 ≤ (n : Int) ∧ o.2.getD s 0 ∉ out then out ++ [o.2.getD s 0] else out)
/-- One by one. -/
def goF (l : List Ob) : Nat → Nat → List Int → List Int
  | 0, _, out => out
  | f + 1, i, out => if i < out.length then goF l f (i + 1) (slotsF has l.length (objN l (out.getD i 0)) (objN l (out.getD i 0)).2.length 0 out) else out
def reachF (l : List Ob) (from_ : List Int) : List Int := goF has l (l.length + 1) 0 (firstF l.length from_ [])
variable {has}
/-- None twice, all objects. -/
def Ok (n : Nat) (out : List Int) : Prop := out.Nodup ∧ ∀ x ∈ out, 1 ≤ x ∧ x ≤ (n : Int)
theorem Ok.add {n : Nat} {out : List Int} {x : Int} (h : Ok n out) (h1 : 1 ≤ x ∧ x ≤ (n : Int)) (h2 : x ∉ out) : Ok n (out ++ [x]) := by
  refine ⟨List.nodup_append.2 ⟨h.1, by simp, fun a ha b hb => by rw [List.mem_singleton.1 hb]; intro e; exact h2 (e ▸ ha)⟩, fun y hy => ?_⟩
  rcases List.mem_append.1 hy with hy | hy
  · exact h.2 y hy
  · rw [List.mem_singleton.1 hy]; exact h1
theorem nodup_len : ∀ (n : Nat) (out : List Int), out.Nodup → (∀ x ∈ out, 1 ≤ x ∧ x ≤ (n : Int)) → out.length ≤ n
  | 0, out, _, h => by
    cases out with
    | nil => simp
    | cons x r => have := h x (by simp); omega
  | n + 1, out, hn, h => by
    have h1 : (out.filter fun x => x ≠ ((n + 1 : Nat) : Int)).length ≤ n := nodup_len n _ (hn.filter _) (fun x hx => by
      obtain ⟨k1, k2⟩ := List.mem_filter.1 hx
      have := h x k1
      have k3 : x ≠ ((n + 1 : Nat) : Int) := by simpa using k2
      omega)
    have h2 : out.length = (out.filter fun x => x ≠ ((n + 1 : Nat) : Int)).length + (out.filter fun x => !(decide (x ≠ ((n + 1 : Nat) : Int)))).length := by
      have := List.length_eq_countP_add_countP (fun x : Int => decide (x ≠ ((n + 1 : Nat) : Int))) (l := out)
      simpa [List.countP_eq_length_filter] using this
    have h3 : (out.filter fun x => !(decide (x ≠ ((n + 1 : Nat) : Int)))).length ≤ 1 := by
      have hk := hn.filter (fun x => !(decide (x ≠ ((n + 1 : Nat) : Int))))
      generalize hf : (out.filter fun x => !(decide (x ≠ ((n + 1 : Nat) : Int)))) = g at hk
      have hall : ∀ x ∈ g, x = ((n + 1 : Nat) : Int) := fun x hx => by
        rw [← hf] at hx
        have := (List.mem_filter.1 hx).2
        simpa using this
      match g, hk, hall with
      | [], _, _ => simp
      | [_], _, _ => simp
      | a :: b :: r, hk, hall =>
        exfalso
        have e1 := hall a (by simp)
        have e2 := hall b (by simp)
        have := (List.nodup_cons.1 hk).1
        exact this (by rw [e1, e2]; simp)
    omega
theorem Ok.len {n : Nat} {out : List Int} (h : Ok n out) : out.length ≤ n := nodup_len n out h.1 h.2
/-- What was added stands behind. -/
def Grows (a b : List Int) : Prop := ∃ r, b = a ++ r
theorem Grows.refl (a : List Int) : Grows a a := ⟨[], by simp⟩
theorem Grows.trans {a b c : List Int} (h : Grows a b) (k : Grows b c) : Grows a c := by
  obtain ⟨r, rfl⟩ := h
  obtain ⟨s, rfl⟩ := k
  exact ⟨r ++ s, by simp⟩
theorem first_ok {n : Nat} : ∀ (f out : List Int), Ok n out → Ok n (firstF n f out) ∧ Grows out (firstF n f out) ∧ ∀ x ∈ firstF n f out, x ∈ out ∨ x ∈ f
  | [], out, h => ⟨h, Grows.refl _, fun x hx => .inl hx⟩
  | x :: r, out, h => by
    unfold firstF
    by_cases hc : 1 ≤ x ∧ x ≤ (n : Int) ∧ x ∉ out
    · rw [if_pos hc]
      obtain ⟨h1, h2, h3⟩ := first_ok r (out ++ [x]) (h.add ⟨hc.1, hc.2.1⟩ hc.2.2)
      refine ⟨h1, (show Grows out (out ++ [x]) from ⟨[x], rfl⟩).trans h2, fun y hy => ?_⟩
      rcases h3 y hy with k | k
      · rcases List.mem_append.1 k with k | k
        · exact .inl k
        · rw [List.mem_singleton.1 k]; exact .inr (by simp)
      · exact .inr (by simp [k])
    · rw [if_neg hc]
      obtain ⟨h1, h2, h3⟩ := first_ok r out h
      exact ⟨h1, h2, fun y hy => (h3 y hy).imp id (fun k => by simp [k])⟩
/-- A slot for pointers of an object holds a number. -/
def Holds (has : Nat → Nat → Int → Bool) (o : Ob) (x : Int) : Prop := ∃ s : Nat, s < o.2.length ∧ has o.1.1 o.1.2 s = true ∧ o.2.getD s 0 = x
theorem slots_ok {n : Nat} {o : Ob} : ∀ (k s : Nat) (out : List Int), s + k = o.2.length → Ok n out → Ok n (slotsF has n o k s out) ∧ Grows out (slotsF has n o k s out) ∧ (∀ x ∈ slotsF has n o k s out, x ∈ out ∨ Holds has o x) ∧
    (∀ t : Nat, s ≤ t → t < o.2.length → has o.1.1 o.1.2 t = true → 1 ≤ o.2.getD t 0 → o.2.getD t 0 ≤ (n : Int) → o.2.getD t 0 ∈ slotsF has n o k s out)
  | 0, s, out, hs, h => ⟨h, Grows.refl _, fun x hx => .inl hx, fun t h1 h2 => by omega⟩
  | k + 1, s, out, hs, h => by
    unfold slotsF
    by_cases hc : has o.1.1 o.1.2 s = true ∧ 1 ≤ o.2.getD s 0 ∧ o.2.getD s 0 ≤ (n : Int) ∧ o.2.getD s 0 ∉ out
    · rw [if_pos hc]
      obtain ⟨h1, h2, h3, h4⟩ := slots_ok (o := o) k (s + 1) (out ++ [o.2.getD s 0]) (by omega) (h.add ⟨hc.2.1, hc.2.2.1⟩ hc.2.2.2)
      have hg : Grows (out ++ [o.2.getD s 0]) (slotsF has n o k (s + 1) (out ++ [o.2.getD s 0])) := h2
      refine ⟨h1, (show Grows out (out ++ [o.2.getD s 0]) from ⟨_, rfl⟩).trans h2, fun y hy => ?_, fun t t1 t2 t3 t4 t5 => ?_⟩
      · rcases h3 y hy with q | q
        · rcases List.mem_append.1 q with q | q
          · exact .inl q
          · rw [List.mem_singleton.1 q]; exact .inr ⟨s, by omega, hc.1, rfl⟩
        · exact .inr q
      · by_cases e : t = s
        · subst e
          obtain ⟨r, hr⟩ := hg
          rw [hr]; simp
        · exact h4 t (by omega) t2 t3 t4 t5
    · rw [if_neg hc]
      obtain ⟨h1, h2, h3, h4⟩ := slots_ok (o := o) k (s + 1) out (by omega) h
      refine ⟨h1, h2, h3, fun t t1 t2 t3 t4 t5 => ?_⟩
      by_cases e : t = s
      · subst e
        have hin : o.2.getD t 0 ∈ out := Classical.byContradiction fun q => hc ⟨t3, t4, t5, q⟩
        obtain ⟨r, hr⟩ := h2
        rw [hr]; exact List.mem_append.2 (.inl hin)
      · exact h4 t (by omega) t2 t3 t4 t5
/-- What stands in the list: one of the first, or held by one that stands ahead; and what those below i hold is there. -/
def Walk (has : Nat → Nat → Int → Bool) (l : List Ob) (from_ : List Int) (i : Nat) (out : List Int) : Prop :=
  Ok l.length out ∧ (∀ j x, out[j]? = some x → x ∈ from_ ∨ ∃ k y, k < j ∧ k < i ∧ out[k]? = some y ∧ Holds has (objN l y) x) ∧
    ∀ j y, j < i → out[j]? = some y → ∀ x, Holds has (objN l y) x → 1 ≤ x → x ≤ (l.length : Int) → x ∈ out
theorem Walk.step {l : List Ob} {from_ : List Int} {i : Nat} {out : List Int} (h : Walk has l from_ i out) (hi : i < out.length) : Walk has l from_ (i + 1) (slotsF has l.length (objN l (out.getD i 0)) (objN l (out.getD i 0)).2.length 0 out) := by
  obtain ⟨h1, h2, h3⟩ := h
  obtain ⟨k1, k2, k3, k4⟩ := slots_ok (has := has) (n := l.length) (o := objN l (out.getD i 0)) (objN l (out.getD i 0)).2.length 0 out (by omega) h1
  have hi' : out[i]? = some (out.getD i 0) := by rw [List.getD_eq_getElem?_getD, List.getElem?_eq_getElem hi]; rfl
  obtain ⟨r, hr⟩ := k2
  generalize slotsF has l.length (objN l (out.getD i 0)) (objN l (out.getD i 0)).2.length 0 out = o2 at *
  subst hr
  have old : ∀ j x, out[j]? = some x → (out ++ r)[j]? = some x := fun j x hx => by
    rw [List.getElem?_append_left (List.getElem?_eq_some_iff.1 hx).1]; exact hx
  refine ⟨k1, fun j x hx => ?_, fun j y hj hy x hx x1 x2 => ?_⟩
  · by_cases hj : j < out.length
    · rw [List.getElem?_append_left hj] at hx
      rcases h2 j x hx with q | ⟨k, y, q1, q2, q3, q4⟩
      · exact .inl q
      · exact .inr ⟨k, y, q1, by omega, old k y q3, q4⟩
    · have hxin := List.mem_of_getElem? hx
      rcases k3 x hxin with q | q
      · exfalso
        obtain ⟨j', hj'⟩ := List.mem_iff_getElem?.1 q
        have hlt := (List.getElem?_eq_some_iff.1 hj').1
        have hn := k1.1
        have e1 := old j' x hj'
        have := (List.getElem?_inj (i := j') (j := j) (by rw [List.length_append]; omega) hn).1 (e1.trans hx.symm)
        omega
      · exact .inr ⟨i, out.getD i 0, by omega, by omega, old i _ hi', q⟩
  · by_cases hji : j = i
    · subst hji
      rw [List.getElem?_append_left hi, hi'] at hy
      obtain rfl := Option.some.inj hy
      obtain ⟨s, s1, s2, s3⟩ := hx
      rw [← s3] at x1 x2 ⊢
      exact k4 s (Nat.zero_le _) s1 s2 x1 x2
    · have hjl : j < out.length := by omega
      rw [List.getElem?_append_left hjl] at hy
      exact List.mem_append.2 (.inl (h3 j y (by omega) hy x hx x1 x2))
theorem go_walk {l : List Ob} {from_ : List Int} : ∀ (f i : Nat) (out : List Int), l.length + 1 ≤ f + i → i ≤ out.length → Walk has l from_ i out → ∃ i', Walk has l from_ i' (goF has l f i out) ∧ (goF has l f i out).length ≤ i'
  | 0, i, out, hf, hi, h => ⟨i, h, by have := h.1.len; show out.length ≤ i; omega⟩
  | f + 1, i, out, hf, hi, h => by
    unfold goF
    by_cases hc : i < out.length
    · rw [if_pos hc]
      have hs := h.step hc
      refine go_walk f (i + 1) _ (by omega) ?_ hs
      obtain ⟨_, ⟨r, hr⟩, _⟩ := slots_ok (has := has) (n := l.length) (o := objN l (out.getD i 0)) (objN l (out.getD i 0)).2.length 0 out (by omega) h.1
      rw [hr, List.length_append]; omega
    · rw [if_neg hc]; exact ⟨i, h, by omega⟩
/-- All that is reached is one of the first, or held by what was met ahead; none is met twice; and what it holds is reached. -/
theorem reach_walk (l : List Ob) (from_ : List Int) : Ok l.length (reachF has l from_) ∧ (∀ (j : Nat) (x : Int), (reachF has l from_)[j]? = some x → x ∈ from_ ∨ ∃ (k : Nat) (y : Int), k < j ∧ (reachF has l from_)[k]? = some y ∧ Holds has (objN l y) x) ∧
    ∀ y ∈ reachF has l from_, ∀ x, Holds has (objN l y) x → 1 ≤ x → x ≤ (l.length : Int) → x ∈ reachF has l from_ := by
  obtain ⟨h1, _, h3⟩ := first_ok (n := l.length) from_ [] ⟨by simp, by simp⟩
  have hw : Walk has l from_ 0 (firstF l.length from_ []) := ⟨h1, fun j x hx => .inl ((h3 x (List.mem_of_getElem? hx)).resolve_left (by simp)), fun _ _ hj => absurd hj (Nat.not_lt_zero _)⟩
  obtain ⟨i, ⟨k1, k2, k3⟩, hi⟩ := go_walk (has := has) (l.length + 1) 0 _ (by omega) (Nat.zero_le _) hw
  refine ⟨k1, fun j x hx => (k2 j x hx).imp id (fun ⟨k, y, q1, _, q3, q4⟩ => ⟨k, y, q1, q3, q4⟩), fun y hy x hx x1 x2 => ?_⟩
  obtain ⟨j, hj⟩ := List.mem_iff_getElem?.1 hy
  have := (List.getElem?_eq_some_iff.1 hj).1
  exact k3 j y (Nat.lt_of_lt_of_le this hi) hj x hx x1 x2
end
end Go.Proofs.YthmeafnofckoiaaDoor.Layertwelve
