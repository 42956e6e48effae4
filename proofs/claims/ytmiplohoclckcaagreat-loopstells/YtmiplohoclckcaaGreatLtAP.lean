/- A region that draws its order and holds calls that make memory: one walk of the written order serves every order, where what each operation yields has a property that stays when memory grows. Layer 8: what calls hand back, as properties that stay when memory grows. Layer 6, the reference's reader, where nothing is wrong: its words; one word is looked at, or taken. -/
import Derived.Test.YtmiplohoclckcaaGreatLtAB
import Derived.Test.YtmiplohoclckcaaGreatLtAF
import Derived.Test.YtmiplohoclckcaaGreatLtAG
import Derived.Test.YtmiplohoclckcaaGreatLtAL
import Derived.Test.YtmiplohoclckcaaGreatLtAN
import Derived.Deep.Quiet
import Derived.Below
namespace Go.Proofs.YtmiplohoclckcaaGreat.Mix
open Go Go.RowKit
/-- A property of a value in a world that stays when memory grows. -/
def Up : Type := { p : Value → World → Prop // ∀ v w w', Below w.heap.size w w' → p v w → p v w' }
def Up.eq (c : Value) : Up := ⟨fun v _ => v = c, fun _ _ _ _ h => h⟩
def Up.any : Up := ⟨fun _ _ => True, fun _ _ _ _ h => h⟩
theorem grow_step {a b c : World} (h : Below a.heap.size a b) (k : Below b.heap.size b c) : Below a.heap.size a c := h.trans (k.mono h.size)
section
variable (P : Program) (ops : Array Oper) (W : World) (F : Tmp → Up)
def Fd (dst : Option Tmp) (v : Value) (w : World) : Prop := ∀ d, dst = some d → (F d).1 v w
def Valid (dst : Option Tmp) (v : Value) : Prop := ∃ w, Below W.heap.size W w ∧ Fd F dst v w
def add (dst : Option Tmp) (S : Tmp → Prop) : Tmp → Prop := fun t => dst = some t ∨ S t
def del (dst : Option Tmp) (S : Tmp → Prop) : Tmp → Prop := fun t => dst ≠ some t ∧ S t
def Known (S : Tmp → Prop) (ts : List Tmp) (a : Act) (w : World) : Prop := ∀ t ∈ ts, S t → ∀ v, a.tmps[t]? = some v → (F t).1 v w
def AllK (S : Tmp → Prop) (a : Act) (w : World) : Prop := ∀ t, S t → ∀ v, a.tmps[t]? = some v → (F t).1 v w
def mixUpon (o : Oper) (w : World) : Result Next → Prop
  | .ok (.value v) w' => Below w.heap.size w w' ∧ Fd F o.dst v w'
  | .ok .skip w' => Below w.heap.size w w' ∧ Fd F o.dst undef w'
  | .ok (.enter f args) w' => Calls P f args w' fun e w'' => ∃ v, e = .returned v ∧ Below w.heap.size w w'' ∧ Fd F o.dst v w''
  | .ok (.row row args) w' => Rows P row args w' fun v w'' => Below w.heap.size w w'' ∧ Fd F o.dst v w''
  | _ => False
def mixAt (o : Oper) (a : Act) (S : Tmp → Prop) : Prop := ∀ w, Below W.heap.size W w → Known F S (o.looksAt ops) a w → mixUpon P F o w ((execOp a.eval o).run P w)
def body (o : Oper) (K : Act → (Tmp → Prop) → Prop) (a : Act) (S : Tmp → Prop) : Prop :=
  if Region.wanted o (yielded ops a.tmps) then mixAt P ops W F o a S ∧ ∀ v, Valid W F o.dst v → K (a.put o.dst v) (add o.dst S) else K (a.put o.dst undef) (del o.dst S)
def mOp (i : Nat) (K : Act → (Tmp → Prop) → Prop) (a : Act) (S : Tmp → Prop) : Prop := match ops[i]? with
  | none => K a S
  | some o => body P ops W F o K a S
/-- The walk in the written order. -/
def wpMix (Q : Act → (Tmp → Prop) → Prop) : List Oper → Act → (Tmp → Prop) → Prop
  | [], a, S => Q a S
  | o :: rest, a, S => (Region.wanted o (yielded ops a.tmps) = true → ∃ v, Valid W F o.dst v) ∧ body P ops W F o (wpMix Q rest) a S
/-- Whatever order is picked from here on. -/
def wpAnyM (md : Region.Mode) (Q : Act → (Tmp → Prop) → Prop) : Nat → Array Bool → Act → (Tmp → Prop) → Prop
  | 0, listed, a, S => Region.ready md ops listed = [] ∧ Q a S
  | fuel + 1, listed, a, S =>
    (Region.ready md ops listed = [] → Q a S) ∧
    ∀ i ∈ Region.ready md ops listed, mOp P ops W F i (wpAnyM md Q fuel (listed.setIfInBounds i true)) a S
end
section
variable {P : Program} {ops : Array Oper} {W : World} {F : Tmp → Up} {md : Region.Mode}
theorem put_other {a : Act} {dst : Option Tmp} {v : Value} {t : Tmp} (h : dst ≠ some t) : (a.put dst v).tmps[t]? = a.tmps[t]? := by
  cases dst with
  | none => rfl
  | some d =>
    have : d ≠ t := fun e => h (by rw [e])
    simp [Act.put, this]
theorem put_same {a : Act} {v u : Value} {t : Tmp} (h : (a.put (some t) v).tmps[t]? = some u) : u = v := by
  simp only [Act.put, Array.getElem?_setIfInBounds, if_true] at h
  split at h
  · injection h with h; exact h.symm
  · cases h
theorem AllK.add {S : Tmp → Prop} {a : Act} {w w' : World} {dst : Option Tmp} {v : Value} (h : AllK F S a w) (b : Below w.heap.size w w') (hf : Fd F dst v w') : AllK F (add dst S) (a.put dst v) w' := by
  intro t ht u hu
  by_cases e : dst = some t
  · subst e
    rw [put_same hu]
    exact hf t rfl
  · rw [put_other e] at hu
    rcases ht with ht | ht
    · exact absurd ht e
    · exact (F t).2 _ _ _ b (h t ht u hu)
theorem AllK.del {S : Tmp → Prop} {a : Act} {w : World} {dst : Option Tmp} {v : Value} (h : AllK F S a w) : AllK F (del dst S) (a.put dst v) w := by
  intro t ht u hu
  rw [put_other ht.1] at hu
  exact h t ht.2 u hu
theorem body_mono {o : Oper} {K K' : Act → (Tmp → Prop) → Prop} {a : Act} {S : Tmp → Prop} (h : ∀ a S, K a S → K' a S) (hh : body P ops W F o K a S) : body P ops W F o K' a S := by
  unfold body at *
  split
  · rename_i hw; rw [if_pos hw] at hh; exact ⟨hh.1, fun v hv => h _ _ (hh.2 v hv)⟩
  · rename_i hw; rw [if_neg hw] at hh; exact h _ _ hh
theorem wp_of_body {o : Oper} {a : Act} {S : Tmp → Prop} {K : Act → (Tmp → Prop) → Prop} {K' : Act → World → Prop} {Q' : Exit → Act → World → Prop} {w : World} (hC : Below W.heap.size W w) (hA : AllK F S a w)
    (h : ∀ a' S' w', Below W.heap.size W w' → AllK F S' a' w' → K a' S' → K' a' w') (hm : mixAt P ops W F o a S) (hn : ∀ v, Valid W F o.dst v → K (a.put o.dst v) (add o.dst S)) : o.wp P a w K' Q' := by
  have h3 := hm w hC (fun t _ hs v hv => hA t hs v hv)
  have fin : ∀ v w', Below w.heap.size w w' → Fd F o.dst v w' → K' (a.put o.dst v) w' := fun v w' hb hf =>
    h _ _ _ (grow_step hC hb) (hA.add hb hf) (hn v ⟨w', grow_step hC hb, hf⟩)
  unfold Oper.wp
  generalize (execOp a.eval o).run P w = r at *
  cases r with
  | ok n w' =>
    cases n <;> simp only [mixUpon] at h3 <;> simp only [Oper.upon]
    case value v => exact fin _ _ h3.1 h3.2
    case skip => exact fin _ _ h3.1 h3.2
    case enter f args => exact h3.mono fun e w'' ⟨v, he, hb, hf⟩ => by subst he; exact fin _ _ hb hf
    case row row args => exact h3.mono fun v w'' ⟨hb, hf⟩ => fin _ _ hb hf
  | halt x w' => simp only [mixUpon] at h3
theorem wpAny_of_mix {Q : Act → (Tmp → Prop) → Prop} {Q' : Exit → Act → World → Prop} (hQ : ∀ a S w, Below W.heap.size W w → AllK F S a w → Q a S → Q' .normal a w) : ∀ (fuel : Nat) (listed : Array Bool) (a : Act) (S : Tmp → Prop) (w : World), Below W.heap.size W w → AllK F S a w →
    wpAnyM P ops W F md Q fuel listed a S → wpAny P md ops Q' fuel listed a w
  | 0, _, _, _, _, hC, hA, h => ⟨h.1, hQ _ _ _ hC hA h.2⟩
  | fuel + 1, listed, a, S, w, hC, hA, h => ⟨fun h0 => hQ _ _ _ hC hA (h.1 h0), fun i hi => by
      have hh := h.2 i hi
      unfold mOp at hh
      unfold wpOp
      split
      · rename_i ho; simp only [ho] at hh; exact wpAny_of_mix hQ fuel _ _ _ _ hC hA hh
      · rename_i o ho
        simp only [ho] at hh
        unfold body at hh
        split
        · rename_i hw
          rw [if_pos hw] at hh
          exact .inl (wp_of_body hC hA (fun a' S' w' c k q => wpAny_of_mix hQ fuel _ _ _ _ c k q) hh.1 hh.2)
        · rename_i hw
          rw [if_neg hw] at hh
          exact wpAny_of_mix hQ fuel _ _ _ _ hC hA.del hh⟩
/-- What an operation needs is not moved by a value that it does not look at. -/
theorem mix_move {o : Oper} (hs : ∀ cs b, o.op ≠ .select cs b) {a : Act} {dst : Option Tmp} {v : Value} {S S' : Tmp → Prop} (hd : ∀ d, dst = some d → d ∉ o.looksAt ops) (hS : ∀ t, dst ≠ some t → (S' t ↔ S t)) : mixAt P ops W F o (a.put dst v) S' ↔ mixAt P ops W F o a S := by
  have e := execOp_put (ops := ops) o hs a dst v hd
  have ne : ∀ t, t ∈ o.looksAt ops → dst ≠ some t := fun t ht e => hd t e ht
  unfold mixAt
  rw [e]
  constructor
  · intro h w hC hK
    refine h w hC fun t ht hs v hv => ?_
    rw [put_other (ne t ht)] at hv
    exact hK t ht ((hS t (ne t ht)).1 hs) v hv
  · intro h w hC hK
    refine h w hC fun t ht hs v hv => ?_
    exact hK t ht ((hS t (ne t ht)).2 hs) v (by rw [put_other (ne t ht)]; exact hv)
theorem add_iff {dst : Option Tmp} {S : Tmp → Prop} : ∀ t, dst ≠ some t → (add dst S t ↔ S t) := fun _ h => ⟨fun k => k.resolve_left h, .inr⟩
theorem del_iff {dst : Option Tmp} {S : Tmp → Prop} : ∀ t, dst ≠ some t → (del dst S t ↔ S t) := fun _ h => ⟨fun k => k.2, fun k => ⟨h, k⟩⟩
theorem add_add (x y : Option Tmp) (S : Tmp → Prop) : add x (add y S) = add y (add x S) := by
  funext t; unfold add; exact propext or_left_comm
theorem del_del (x y : Option Tmp) (S : Tmp → Prop) : del x (del y S) = del y (del x S) := by
  funext t; unfold del; exact propext and_left_comm
theorem add_del {x y : Option Tmp} (h : ∀ d, x = some d → y ≠ some d) (S : Tmp → Prop) : add x (del y S) = del y (add x S) := by
  funext t; unfold add del
  refine propext ⟨?_, ?_⟩
  · rintro (e | ⟨h1, h2⟩)
    · exact ⟨h t e, .inl e⟩
    · exact ⟨h1, .inr h2⟩
  · rintro ⟨h1, e | h2⟩
    · exact .inl e
    · exact .inr ⟨h1, h2⟩
theorem body_swap {oi oj : Oper} (hap : oi.apart ops oj = true) (hsi : ∀ cs b, oi.op ≠ .select cs b) (hsj : ∀ cs b, oj.op ≠ .select cs b) {K : Act → (Tmp → Prop) → Prop} {a : Act} {S : Tmp → Prop}
    (hex : Region.wanted oi (yielded ops a.tmps) = true → ∃ v, Valid W F oi.dst v) (h : body P ops W F oi (fun a' S' => body P ops W F oj K a' S') a S) : body P ops W F oj (fun a' S' => body P ops W F oi K a' S') a S := by
  obtain ⟨h1, h2, h3⟩ := Oper.apart_spec hap
  have h2' : ∀ d, oj.dst = some d → oi.dst ≠ some d := fun d e e2 => h2 d e2 e
  unfold body at *
  by_cases wi : Region.wanted oi (yielded ops a.tmps) = true
  · rw [if_pos wi] at h
    obtain ⟨m1, n1⟩ := h
    obtain ⟨v0, hv0⟩ := hex wi
    by_cases wj : Region.wanted oj (yielded ops a.tmps) = true
    · rw [if_pos wj]
      refine ⟨?_, fun u hu => ?_⟩
      · have := n1 v0 hv0
        dsimp only at this
        rw [wanted_put oj a oi.dst v0 h1, if_pos wj] at this
        exact (mix_move hsj h1 add_iff).1 this.1
      · dsimp only
        rw [wanted_put oi a oj.dst u h3, if_pos wi]
        refine ⟨(mix_move hsi h3 add_iff).2 m1, fun v hv => ?_⟩
        have := n1 v hv
        dsimp only at this
        rw [wanted_put oj a oi.dst v h1, if_pos wj] at this
        have := this.2 u hu
        rw [Act.put_comm a v u h2, add_add] at this
        exact this
    · rw [if_neg wj]
      dsimp only
      rw [wanted_put oi a oj.dst undef h3, if_pos wi]
      refine ⟨(mix_move hsi h3 del_iff).2 m1, fun v hv => ?_⟩
      have := n1 v hv
      dsimp only at this
      rw [wanted_put oj a oi.dst v h1, if_neg wj, Act.put_comm a v undef h2, ← add_del h2] at this
      exact this
  · rw [if_neg wi] at h
    rw [wanted_put oj a oi.dst undef h1] at h
    by_cases wj : Region.wanted oj (yielded ops a.tmps) = true
    · rw [if_pos wj] at h ⊢
      refine ⟨(mix_move hsj h1 del_iff).1 h.1, fun u hu => ?_⟩
      dsimp only
      rw [wanted_put oi a oj.dst u h3, if_neg wi]
      have := h.2 u hu
      rw [Act.put_comm a undef u h2, add_del h2'] at this
      exact this
    · rw [if_neg wj] at h ⊢
      dsimp only
      rw [wanted_put oi a oj.dst undef h3, if_neg wi]
      rw [Act.put_comm a undef undef h2, del_del] at h
      exact h
theorem wanted_body {o : Oper} {K : Act → (Tmp → Prop) → Prop} {a : Act} {S : Tmp → Prop} {A : Act → Prop} (hu : ∀ u, A (a.put o.dst u)) (hh : body P ops W F o K a S) : body P ops W F o (fun a' S' => A a' ∧ K a' S') a S := by
  unfold body at *
  split
  · rename_i hw; rw [if_pos hw] at hh; exact ⟨hh.1, fun v hv => ⟨hu v, hh.2 v hv⟩⟩
  · rename_i hw; rw [if_neg hw] at hh; exact ⟨hu _, hh⟩
/-- An operation that may come up now may be taken first. -/
theorem wpAnyM_first {Q : Act → (Tmp → Prop) → Prop} {i : Nat} {oi : Oper} (hi : ops[i]? = some oi) (hsel : ∀ (j : Nat) (o : Oper) cs b, ops[j]? = some o → o.op ≠ .select cs b) :
    ∀ (fuel : Nat) (listed : Array Bool) (a : Act) (S : Tmp → Prop),
      (∀ j oj, ops[j]? = some oj → j ≠ i → listed.getD j true = false → (∀ e ∈ oj.after, Region.binds md e = true → e.on ≠ i) → oi.apart ops oj = true) →
      i ∈ Region.ready md ops listed → (Region.wanted oi (yielded ops a.tmps) = true → ∃ v, Valid W F oi.dst v) →
      body P ops W F oi (wpAnyM P ops W F md Q fuel (listed.setIfInBounds i true)) a S → wpAnyM P ops W F md Q (fuel + 1) listed a S := by
  intro fuel
  induction fuel with
  | zero =>
    intro listed a S _ hr hex H
    refine ⟨fun h => (by rw [h] at hr; cases hr), fun j hj => ?_⟩
    by_cases hji : j = i
    · subst hji; unfold mOp; simp only [hi]; exact H
    · have hno := ready_mono hj hji
      have : Region.ready md ops (listed.setIfInBounds i true) = [] := by
        unfold body at H
        split at H
        · rename_i hw
          obtain ⟨v, hv⟩ := hex hw
          exact (H.2 v hv).1
        · exact H.1
      rw [this] at hno
      cases hno
  | succ fuel ih =>
    intro listed a S hfree hr hex H
    refine ⟨fun h => (by rw [h] at hr; cases hr), fun j hj => ?_⟩
    by_cases hji : j = i
    · subst hji; unfold mOp; simp only [hi]; exact H
    · obtain ⟨hjun, oj, hoj, hall⟩ := mem_ready.1 hj
      have hnot : ∀ e ∈ oj.after, Region.binds md e = true → e.on ≠ i := fun e he hb heq => by
        have h1 := hall e he hb
        have h0 := (mem_ready.1 hr).1
        rw [heq] at h1
        rcases Nat.lt_or_ge i listed.size with h' | h'
        · simp [h'] at h0 h1; rw [h0] at h1; cases h1
        · simp [Array.getElem?_eq_none h'] at h1
      have hap := hfree j oj hoj hji hjun hnot
      obtain ⟨_, _, h3⟩ := Oper.apart_spec hap
      have H1 : body P ops W F oi (fun a' S' => body P ops W F oj (wpAnyM P ops W F md Q fuel ((listed.setIfInBounds i true).setIfInBounds j true)) a' S') a S := body_mono (fun a' S' h => by
        have := h.2 j (ready_mono hj hji)
        unfold mOp at this
        simp only [hoj] at this
        exact this) H
      have H2 := body_swap hap (fun cs b => hsel i oi cs b hi) (fun cs b => hsel j oj cs b hoj) hex H1
      have H3 := wanted_body (A := fun a' => Region.wanted oi (yielded ops a'.tmps) = true → ∃ v, Valid W F oi.dst v) (fun u => by rw [wanted_put oi a oj.dst u h3]; exact hex) H2
      have hfree' : ∀ k ok, ops[k]? = some ok → k ≠ i → (listed.setIfInBounds j true).getD k true = false →
          (∀ e ∈ ok.after, Region.binds md e = true → e.on ≠ i) → oi.apart ops ok = true := fun k ok hk hki hun hno => by
        refine hfree k ok hk hki ?_ hno
        by_cases hjk : j = k
        · subst hjk; exact hjun
        · rw [getD_set_ne true hjk] at hun; exact hun
      unfold mOp
      simp only [hoj]
      refine body_mono (fun a' S' h => ih (listed.setIfInBounds j true) a' S' hfree' (ready_mono hr (Ne.symm hji)) h.1 ?_) H3
      rw [Array.setIfInBounds_comm _ _ hji]
      exact h.2
theorem wpAnyM_lex {Q : Act → (Tmp → Prop) → Prop} (hs : Region.noSelect ops = true) : ∀ (l : List Oper) (k : Nat) (listed : Array Bool) (a : Act) (S : Tmp → Prop), (∀ j, l[j]? = ops[k + j]?) →
    Region.lexFrom md ops l.length k listed = true → wpMix P ops W F Q l a S → wpAnyM P ops W F md Q l.length listed a S
  | [], _, _, _, _, _, hB, h => ⟨by simpa [Region.lexFrom] using hB, h⟩
  | o :: l, k, listed, a, S, hl, hB, h => by
    have h0 : ops[k]? = some o := by simpa using (hl 0).symm
    simp only [List.length_cons, Region.lexFrom, Bool.and_eq_true] at hB
    obtain ⟨⟨hr, hf⟩, hB'⟩ := hB
    refine wpAnyM_first h0 (Region.noSelect_spec hs) l.length listed a S (Region.free_spec h0 hf) (by simpa using hr) h.1 ?_
    exact body_mono (fun a' S' q => wpAnyM_lex hs l (k + 1) _ _ _ (fun j => by have := hl (j + 1); simpa [Nat.add_assoc, Nat.add_comm 1 j] using this) hB' q) h.2
/-- One walk of the written order serves every order. -/
theorem wp_region_mix {id : Nat} {Q : Exit → Act → World → Prop} {a : Act} {l : List Oper} (F : Tmp → Up) (hm : P.follows .mixedOrders = true) (hB : Region.lexB .any l.toArray = true)
    (h : wpMix P l.toArray W F (fun a' S => ∀ w', Below W.heap.size W w' → AllK F S a' w' → Q .normal a' w') l a (fun _ => False)) : (Code.region id l.toArray true).wp P Q a W := by
  simp only [Region.lexB, Bool.and_eq_true] at hB
  refine wp_region_any hm (wpAny_of_mix (W := W) (F := F) (Q := fun a' S => ∀ w', Below W.heap.size W w' → AllK F S a' w' → Q .normal a' w') (fun _ _ w' hC hA h => h w' hC hA) _ _ _ (fun _ => False) _ (Below.refl _ _).drew (fun t ht => ht.elim) ?_)
  have := wpAnyM_lex (W := W) (F := F) (md := .any) hB.1 l 0 (Array.replicate l.toArray.size false) a (fun _ => False) (by simp) (by simpa using hB.2) h
  simpa using this
theorem mix_nil {Q : Act → (Tmp → Prop) → Prop} {a : Act} {S : Tmp → Prop} (h : Q a S) : wpMix P ops W F Q [] a S := h
theorem mix_step {Q : Act → (Tmp → Prop) → Prop} {a : Act} {S : Tmp → Prop} {o : Oper} {rest : List Oper} (hw : Region.wanted o (yielded ops a.tmps) = true) (hex : ∃ v, Valid W F o.dst v)
    (hm : ∀ w, Below W.heap.size W w → Known F S (o.looksAt ops) a w → mixUpon P F o w ((execOp a.eval o).run P w)) (h : ∀ v, Valid W F o.dst v → wpMix P ops W F Q rest (a.put o.dst v) (add o.dst S)) : wpMix P ops W F Q (o :: rest) a S := by
  refine ⟨fun _ => hex, ?_⟩
  unfold body
  rw [if_pos hw]
  exact ⟨hm, h⟩
end
end Go.Proofs.YtmiplohoclckcaaGreat.Mix
namespace Go.Proofs.YtmiplohoclckcaaGreat
open Go Go.RowKit
open G (Tok Er Ins Fun)
open Mix (Up)
/-- Pairs that lie one by one. -/
def PairsV (w : World) (l : List (Int × Int)) (v : Value) : Prop := ∃ ao c, v = .slice ao l.length c ∧ (l = [] ∨ ∃ b, ao = some ⟨b, 0, none⟩ ∧ b < w.heap.size ∧ ∀ (i : Nat) (p : Int × Int), l[i]? = some p → w.cell? ⟨b, i * 2, none⟩ = some (.int .i64 p.1) ∧ w.cell? ⟨b, i * 2 + 1, none⟩ = some (.int .i64 p.2)) ∧ l.length ≤ maxLen
theorem PairsV.below {w w' : World} {l : List (Int × Int)} {v : Value} (h : PairsV w l v) (hb : Below w.heap.size w w') : PairsV w' l v := by
  obtain ⟨ao, c, e, h1, h2⟩ := h
  refine ⟨ao, c, e, ?_, h2⟩
  rcases h1 with h1 | ⟨b, e2, hl, hc⟩
  · exact .inl h1
  · exact .inr ⟨b, e2, Nat.lt_of_lt_of_le hl hb.size, fun i p hi => ⟨(hb.cell (p := ⟨b, i * 2, none⟩) hl).trans (hc i p hi).1, (hb.cell (p := ⟨b, i * 2 + 1, none⟩) hl).trans (hc i p hi).2⟩⟩
theorem pairsC_at (l : List (Int × Int)) (i : Nat) (p : Int × Int) (h : l[i]? = some p) : (pairsC l)[i * 2]? = some (.int .i64 p.1) ∧ (pairsC l)[i * 2 + 1]? = some (.int .i64 p.2) := by
  induction l generalizing i with
  | nil => simp at h
  | cons q l ih =>
    cases i with
    | zero => simp at h; subst h; simp [pairsC]
    | succ i =>
      have e1 : (i + 1) * 2 = i * 2 + 2 := by omega
      have := ih i (by simpa using h)
      rw [e1]
      simpa [pairsC] using this
def Up.rows (ll : List (List Int)) : Up := ⟨fun v w => RowsV w ll v, fun _ _ _ b h => h.below b⟩
def Up.ints (l : List Int) : Up := ⟨fun v w => IntsV w l v, fun _ _ _ b h => h.below b⟩
def Up.pairs (l : List (Int × Int)) : Up := ⟨fun v w => PairsV w l v, fun _ _ _ b h => h.below b⟩
theorem calls_exist {P : Program} {f : FuncId} {args : Array Value} {w : World} {R : Ending → World → Prop} (h : Calls P f args w R) : ∃ e w', R e w' := by
  obtain ⟨e, w', _, h1, _⟩ := h []
  exact ⟨e, w', h1⟩
theorem valid_of {W : World} {F : Tmp → Up} {d : Tmp} {f : FuncId} {args : Array Value} (h : Calls Tryz.prog f args W fun e w' => ∃ v, e = .returned v ∧ Below W.heap.size W w' ∧ (F d).1 v w') : ∃ v, Mix.Valid W F (some d) v := by
  obtain ⟨e, w', v, _, b, hf⟩ := calls_exist h
  exact ⟨v, w', b, fun d' hd => by cases hd; exact hf⟩
theorem valid_eq {W : World} {F : Tmp → Up} {d : Tmp} (c : Value) (h : (F d).1 c W) : ∃ v, Mix.Valid W F (some d) v := ⟨c, W, Below.refl _ _, fun d' hd => by cases hd; exact h⟩
end Go.Proofs.YtmiplohoclckcaaGreat
namespace Go.Proofs.YtmiplohoclckcaaGreat
open Go Go.RowKit
open G (Tok Er Ins Fun peek0 peek1 atOf)
/-- All blocks but a are as they were. -/
def Kr (a : Nat) (w w' : World) : Prop := w'.os = w.os ∧ w'.tape = w.tape ∧ w'.output = w.output ∧ w.heap.size ≤ w'.heap.size ∧ ∀ k, k < w.heap.size → k ≠ a → w'.heap[k]? = w.heap[k]?
theorem Kr.refl (a : Nat) (w : World) : Kr a w w := ⟨rfl, rfl, rfl, Nat.le_refl _, fun _ _ _ => rfl⟩
theorem Kr.trans {a : Nat} {u v w : World} (h : Kr a u v) (k : Kr a v w) : Kr a u w :=
  ⟨k.1.trans h.1, k.2.1.trans h.2.1, k.2.2.1.trans h.2.2.1, Nat.le_trans h.2.2.2.1 k.2.2.2.1, fun i h1 h2 => (k.2.2.2.2 i (Nat.lt_of_lt_of_le h1 h.2.2.2.1) h2).trans (h.2.2.2.2 i h1 h2)⟩
theorem Kr.of_below {a : Nat} {u v : World} (h : Below u.heap.size u v) : Kr a u v := ⟨h.os, h.tape, h.output, h.size, fun i h1 _ => h.block i h1⟩
theorem Kr.size {a : Nat} {u v : World} (h : Kr a u v) : u.heap.size ≤ v.heap.size := h.2.2.2.1
theorem Kr.step {a : Nat} {u v w : World} (h : Kr a u v) (k : Below v.heap.size v w) : Kr a u w := h.trans (Kr.of_below k)
theorem Kr.below {a B : Nat} {u v : World} (h : Kr a u v) (ha : B ≤ a) (hB : B ≤ u.heap.size) : Below B u v := ⟨h.1, h.2.1, h.2.2.1, h.2.2.2.1, fun i h1 => h.2.2.2.2 i (by omega) (by omega)⟩
theorem Kr.set {a i : Nat} {u w : World} (h : Kr a u w) (x : Value) : Kr a u (w.setCell ⟨a, i, none⟩ x) := by
  have hb := (Below.refl 0 w).setCell (p := ⟨a, i, none⟩) (Nat.zero_le a) x
  exact h.trans ⟨hb.os, hb.tape, hb.output, hb.size, fun k _ h2 => Below.heap_setCell w ⟨a, i, none⟩ x k h2⟩
/-- The reference's reader at block a, where nothing was wrong; l are the words that are left. -/
def RR (a : Nat) (L : List Tok) (E : Int) (n : Nat) (l : List Tok) (w : World) : Prop :=
  ∃ v, w.heap[a]? = some (.cells #[v, .int .i64 ((L.length - l.length : Nat) : Int), .int .i64 E, .int .i64 (n : Int), .int .i64 0, .int .i64 0] 96 (0, 0)) ∧ w.ownsRow 0 109 2 v L.length (cellsK L) ∧ l <:+ L ∧ (L.length ≤ 131072 ∧ ∀ t ∈ L, t.1.length ≤ 65536) ∧ n ≤ 4096
theorem RR.lt {a : Nat} {L : List Tok} {E : Int} {n : Nat} {l : List Tok} {w : World} (h : RR a L E n l w) : a < w.heap.size := by
  obtain ⟨v, h1, _⟩ := h; exact (Array.getElem?_eq_some_iff.1 h1).1
theorem RR.keep {a : Nat} {L : List Tok} {E : Int} {n : Nat} {l : List Tok} {w w' : World} (h : RR a L E n l w) (hb : ∀ k, k < w.heap.size → w'.heap[k]? = w.heap[k]?) : RR a L E n l w' := by
  obtain ⟨v, h1, h2, h3⟩ := h
  refine ⟨v, (hb a (Array.getElem?_eq_some_iff.1 h1).1).trans h1, ⟨h2.1, ?_⟩, h3⟩
  rcases h2.2 with hn | ⟨g, cap, cur, hv2, hbb, hg, rest⟩
  · exact .inl hn
  · exact .inr ⟨g, cap, cur, hv2, hbb, (hb g (Array.getElem?_eq_some_iff.1 hg).1).trans hg, rest⟩
theorem RR.below {a : Nat} {L : List Tok} {E : Int} {n : Nat} {l : List Tok} {w w' : World} (h : RR a L E n l w) (b : Below w.heap.size w w') : RR a L E n l w' := h.keep fun k hk => b.block k hk
theorem RR.short {a : Nat} {L : List Tok} {E : Int} {n : Nat} {l : List Tok} {w : World} (h : RR a L E n l w) : (peek0 l).length ≤ 65536 ∧ (peek1 l).length ≤ 65536 := by
  obtain ⟨v, h1, h2, h5, h6, h7⟩ := h
  refine ⟨?_, ?_⟩
  · cases l with
    | nil => simp [peek0]
    | cons t r => exact h6.2 t (h5.subset (by simp))
  · match l, h5 with
    | [], _ => simp [peek1]
    | [_], _ => simp [peek1]
    | _ :: t :: r, h5 => exact h6.2 t (h5.subset (by simp))
theorem RR.cells {a : Nat} {L : List Tok} {E : Int} {n : Nat} {l : List Tok} {w : World} (h : RR a L E n l w) :
    ∃ ao cap, w.cell? ⟨a, 0, none⟩ = some (.slice ao L.length cap) ∧ w.cell? ⟨a, 1, none⟩ = some (.int .i64 ((L.length - l.length : Nat) : Int)) ∧ w.cell? ⟨a, 2, none⟩ = some (.int .i64 E) ∧ w.cell? ⟨a, 3, none⟩ = some (.int .i64 (n : Int)) ∧ w.cell? ⟨a, 4, none⟩ = some (.int .i64 0) ∧ w.cell? ⟨a, 5, none⟩ = some (.int .i64 0) ∧
      (∀ j, w.frozen? ⟨a, j, none⟩ = false) ∧ (L = [] ∨ ∃ g, ao = some ⟨g, 0, none⟩ ∧ ∀ j t, L[j]? = some t → w.cell? ⟨g, j * 2, none⟩ = some (.string (bs t.1)) ∧ w.cell? ⟨g, j * 2 + 1, none⟩ = some (.int .i64 t.2)) := by
  obtain ⟨v, h1, h2, h5, h6, h7⟩ := h
  rcases h2.2 with ⟨hv, hn⟩ | ⟨g, cap, cur, hv2, hbb, hg, hc1, hc2, hc3, hc4⟩
  · subst hv
    have e : L = [] := List.length_eq_zero_iff.1 hn
    subst e
    exact ⟨none, 0, by simp [World.cell?, h1], by simp [World.cell?, h1], by simp [World.cell?, h1], by simp [World.cell?, h1], by simp [World.cell?, h1], by simp [World.cell?, h1], fun j => by simp [World.frozen?, h1], .inl rfl⟩
  · subst hv2
    refine ⟨some ⟨g, 0, none⟩, cap, by simp [World.cell?, h1], by simp [World.cell?, h1], by simp [World.cell?, h1], by simp [World.cell?, h1], by simp [World.cell?, h1], by simp [World.cell?, h1], fun j => by simp [World.frozen?, h1], .inr ⟨g, rfl, fun j t hj => ?_⟩⟩
    have hc := h2.cells (g := g) rfl
    obtain ⟨k1, k2⟩ := cellsK_at L j t hj
    have e1 := hc _ _ k1
    have e2 := hc _ _ k2
    rw [Addr.add_lit, Nat.zero_add, Nat.mul_comm] at e1 e2
    exact ⟨e1, e2⟩
theorem RR.eat {a : Nat} {L : List Tok} {E : Int} {n : Nat} {l : List Tok} {w : World} (h : RR a L E n l w) (hl : l ≠ []) : RR a L E n l.tail (w.setCell ⟨a, 1, none⟩ (.int .i64 (((L.length - l.length : Nat) : Int) + 1))) := by
  obtain ⟨v, h1, h2, h5, h6, h7⟩ := h
  refine ⟨v, ?_, own_setCell h2 (own_ne h2 h1 (by decide)) _, (List.tail_suffix l).trans h5, h6, h7⟩
  rw [heap_setCell_same w a 1 _ 96 _ h1]
  have e : ((L.length - l.length : Nat) : Int) + 1 = ((L.length - l.tail.length : Nat) : Int) := by
    have := h5.length_le
    cases l with
    | nil => exact absurd rfl hl
    | cons t r => simp at *; omega
  rw [e]; rfl
theorem RR.kr {a : Nat} {w : World} (i : Nat) (x : Value) : Kr a w (w.setCell ⟨a, i, none⟩ x) := (Kr.refl a w).set x
/-- A word so far ahead. -/
def pk (i : Nat) (l : List Tok) : List UInt8 := match l[i]? with
  | some t => t.1
  | none => []
theorem pk0 (l : List Tok) : pk 0 l = peek0 l := by cases l <;> rfl
theorem pk1 (l : List Tok) : pk 1 l = peek1 l := by
  match l with
  | [] => rfl
  | [_] => rfl
  | _ :: t :: r => rfl
set_option maxHeartbeats 1000000 in
set_option maxRecDepth 20000 in
theorem rpeek (i : Nat) {a : Nat} {L : List Tok} {E : Int} {n : Nat} {l : List Tok} (w : World) (h : RR a L E n l w) (hi : i ≤ 1) :
    Calls Tryz.prog 77 #[.pointer (some ⟨a, 0, none⟩), .int .i64 i] w fun e w' => e = .returned (.string (bs (pk i l))) ∧ Below w.heap.size w w' := by
  obtain ⟨ao, cap, c0, c1, c2, c3, c4, c5, fz, hL⟩ := h.cells
  obtain ⟨v, h1, h2, h5, h6, h7⟩ := h
  have hLL := h6.1
  have hll := h5.length_le
  by_cases hlt : L.length - l.length + i < L.length
  · obtain ⟨t, ht⟩ : ∃ t, L[L.length - l.length + i]? = some t := ⟨_, List.getElem?_eq_getElem hlt⟩
    have HP : Hid (bs t.1 = bs (pk i l)) := hide (by
      have e := Rdr.word h5 i
      rw [ht] at e
      unfold pk; rw [← e])
    rcases hL with hL | ⟨g, rfl, hg⟩
    · subst hL; simp at hlt
    have hc := (hg _ t ht).1
    have hlt' : (((L.length - l.length : Nat) : Int) + (i : Int)) < L.length := by omega
    have hge : ¬ (L.length : Int) ≤ ((L.length - l.length : Nat) : Int) + (i : Int) := by omega
    have hidx : ((L.length - l.length : Nat) : Int) + (i : Int) = ((L.length - l.length + i : Nat) : Int) := by omega
    clear hg ht h1 h2 h5 h6 fz c2 c3 c5
    generalize L.length - l.length = q at *
    obtain ⟨m, hm⟩ : ∃ m : Nat, m = q + i := ⟨_, rfl⟩
    have hw : IntKind.i64.wrap ((q : Int) + (i : Int)) = (m : Int) := by rw [IntWalk.i64_in _ ⟨by omega, by omega⟩]; omega
    have hg1 : decide ((L.length : Int) ≤ (m : Int)) = false := by simp; omega
    have hm1 : (m : Int) < L.length := by omega
    have hm0 : (0 : Int) ≤ m := by omega
    rw [← hm] at hc
    clear hge hlt hm hlt' hidx
    go_enter Tryz.func77, Tryz.ntmps77
    go_wp2_with fail
    go_quiet (fail)
    go_wp2_with fail
    go_quiet (fail)
    go_wp2_with fail
    go_ret
    exact ⟨L5.ret_str HP.out, ⟨rfl, rfl, rfl, Nat.le_refl _, fun _ _ => rfl⟩⟩
  · have HP : Hid (bs [] = bs (pk i l)) := hide (by
      have e := Rdr.word h5 i
      rw [List.getElem?_eq_none (by omega)] at e
      unfold pk; rw [← e])
    have hge : (L.length : Int) ≤ ((L.length - l.length : Nat) : Int) + (i : Int) := by omega
    clear h1 h2 h5 h6 hL fz c2 c3 c5
    have hq : L.length - l.length ≤ L.length := by omega
    generalize L.length - l.length = q at *
    obtain ⟨m, hm⟩ : ∃ m : Nat, m = q + i := ⟨_, rfl⟩
    have hw : IntKind.i64.wrap ((q : Int) + (i : Int)) = (m : Int) := by rw [IntWalk.i64_in _ ⟨by omega, by omega⟩]; omega
    have hg1 : decide ((L.length : Int) ≤ (m : Int)) = true := by simp; omega
    have hg2 : (L.length : Int) ≤ (m : Int) := by omega
    have hg3 : L.length ≤ m := by omega
    clear hge hlt hm
    go_enter Tryz.func77, Tryz.ntmps77
    go_wp2_with fail
    go_quiet (fail)
    go_wp2_with fail
    go_ret
    exact ⟨L5.ret_str HP.out, ⟨rfl, rfl, rfl, Nat.le_refl _, fun _ _ => rfl⟩⟩
end Go.Proofs.YtmiplohoclckcaaGreat
