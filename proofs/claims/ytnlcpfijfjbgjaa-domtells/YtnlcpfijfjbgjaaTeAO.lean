/- A region that draws its order and holds calls that make memory: one walk of the written order serves every order, where what each operation yields has a property that stays when memory grows. Layer 8, the program: which blocks go to each block. Layer 8, the program: the order, and where each block stands in it. Layer 8, the reference: edges that go back. -/
import Derived.Test.YtnlcpfijfjbgjaaTeAI
import Derived.Test.YtnlcpfijfjbgjaaTeAJ
import Derived.Test.YtnlcpfijfjbgjaaTeAK
import Derived.Test.YtnlcpfijfjbgjaaTeAL
import Derived.Deep.Quiet
import Derived.Below
namespace Go.Proofs.Ytnlcpfijfjbgjaa.Mix
open Go Go.RowKit
/-- A property of a value in a world that stays when memory grows. -/
def Up : Type := { p : Value → World → Prop // ∀ v w w', Below w.heap.size w w' → p v w → p v w' }
def Up.eq (c : Value) : Up := ⟨fun v _ => v = c, fun _ _ _ _ h => h⟩
def Up.any : Up := ⟨fun _ _ => True, fun _ _ _ _ h => h⟩
theorem grow_step {a b c : World} (h : Below a.heap.size a b) (k : Below b.heap.size b c) : Below a.heap.size a c := h.trans (k.mono h.size)
section
variable (P : Program) (ops : Array Oper) (W : World) (F : Tmp → Up)
def Fd (dst : Option Tmp) (v : Value) (w : World) : Prop := ∀ d, dst = some d → (F d).1 v w
def Valid (dst : Option Tmp) (v : Value) : Prop := ∃ w, Below W.heap.size W w ∧ Fd F dst v w
def add (dst : Option Tmp) (S : Tmp → Prop) : Tmp → Prop := fun t => dst = some t ∨ S t
def del (dst : Option Tmp) (S : Tmp → Prop) : Tmp → Prop := fun t => dst ≠ some t ∧ S t
def Known (S : Tmp → Prop) (ts : List Tmp) (a : Act) (w : World) : Prop := ∀ t ∈ ts, S t → ∀ v, a.tmps[t]? = some v → (F t).1 v w
def AllK (S : Tmp → Prop) (a : Act) (w : World) : Prop := ∀ t, S t → ∀ v, a.tmps[t]? = some v → (F t).1 v w
def mixUpon (o : Oper) (w : World) : Result Next → Prop
  | .ok (.value v) w' => Below w.heap.size w w' ∧ Fd F o.dst v w'
  | .ok .skip w' => Below w.heap.size w w' ∧ Fd F o.dst undef w'
  | .ok (.enter f args) w' => Calls P f args w' fun e w'' => ∃ v, e = .returned v ∧ Below w.heap.size w w'' ∧ Fd F o.dst v w''
  | .ok (.row row args) w' => Rows P row args w' fun v w'' => Below w.heap.size w w'' ∧ Fd F o.dst v w''
  | _ => False
def mixAt (o : Oper) (a : Act) (S : Tmp → Prop) : Prop := ∀ w, Below W.heap.size W w → Known F S (o.looksAt ops) a w → mixUpon P F o w ((execOp a.eval o).run P w)
def body (o : Oper) (K : Act → (Tmp → Prop) → Prop) (a : Act) (S : Tmp → Prop) : Prop :=
  if Region.wanted o (yielded ops a.tmps) then mixAt P ops W F o a S ∧ ∀ v, Valid W F o.dst v → K (a.put o.dst v) (add o.dst S) else K (a.put o.dst undef) (del o.dst S)
def mOp (i : Nat) (K : Act → (Tmp → Prop) → Prop) (a : Act) (S : Tmp → Prop) : Prop := match ops[i]? with
  | none => K a S
  | some o => body P ops W F o K a S
/-- The walk in the written order. -/
def wpMix (Q : Act → (Tmp → Prop) → Prop) : List Oper → Act → (Tmp → Prop) → Prop
  | [], a, S => Q a S
  | o :: rest, a, S => (Region.wanted o (yielded ops a.tmps) = true → ∃ v, Valid W F o.dst v) ∧ body P ops W F o (wpMix Q rest) a S
/-- Whatever order is picked from here on. -/
def wpAnyM (md : Region.Mode) (Q : Act → (Tmp → Prop) → Prop) : Nat → Array Bool → Act → (Tmp → Prop) → Prop
  | 0, listed, a, S => Region.ready md ops listed = [] ∧ Q a S
  | fuel + 1, listed, a, S =>
    (Region.ready md ops listed = [] → Q a S) ∧
    ∀ i ∈ Region.ready md ops listed, mOp P ops W F i (wpAnyM md Q fuel (listed.setIfInBounds i true)) a S
end
section
variable {P : Program} {ops : Array Oper} {W : World} {F : Tmp → Up} {md : Region.Mode}
theorem put_other {a : Act} {dst : Option Tmp} {v : Value} {t : Tmp} (h : dst ≠ some t) : (a.put dst v).tmps[t]? = a.tmps[t]? := by
  cases dst with
  | none => rfl
  | some d =>
    have : d ≠ t := fun e => h (by rw [e])
    simp [Act.put, this]
theorem put_same {a : Act} {v u : Value} {t : Tmp} (h : (a.put (some t) v).tmps[t]? = some u) : u = v := by
  simp only [Act.put, Array.getElem?_setIfInBounds, if_true] at h
  split at h
  · injection h with h; exact h.symm
  · cases h
theorem AllK.add {S : Tmp → Prop} {a : Act} {w w' : World} {dst : Option Tmp} {v : Value} (h : AllK F S a w) (b : Below w.heap.size w w') (hf : Fd F dst v w') : AllK F (add dst S) (a.put dst v) w' := by
  intro t ht u hu
  by_cases e : dst = some t
  · subst e
    rw [put_same hu]
    exact hf t rfl
  · rw [put_other e] at hu
    rcases ht with ht | ht
    · exact absurd ht e
    · exact (F t).2 _ _ _ b (h t ht u hu)
theorem AllK.del {S : Tmp → Prop} {a : Act} {w : World} {dst : Option Tmp} {v : Value} (h : AllK F S a w) : AllK F (del dst S) (a.put dst v) w := by
  intro t ht u hu
  rw [put_other ht.1] at hu
  exact h t ht.2 u hu
theorem body_mono {o : Oper} {K K' : Act → (Tmp → Prop) → Prop} {a : Act} {S : Tmp → Prop} (h : ∀ a S, K a S → K' a S) (hh : body P ops W F o K a S) : body P ops W F o K' a S := by
  unfold body at *
  split
  · rename_i hw; rw [if_pos hw] at hh; exact ⟨hh.1, fun v hv => h _ _ (hh.2 v hv)⟩
  · rename_i hw; rw [if_neg hw] at hh; exact h _ _ hh
theorem wp_of_body {o : Oper} {a : Act} {S : Tmp → Prop} {K : Act → (Tmp → Prop) → Prop} {K' : Act → World → Prop} {Q' : Exit → Act → World → Prop} {w : World} (hC : Below W.heap.size W w) (hA : AllK F S a w)
    (h : ∀ a' S' w', Below W.heap.size W w' → AllK F S' a' w' → K a' S' → K' a' w') (hm : mixAt P ops W F o a S) (hn : ∀ v, Valid W F o.dst v → K (a.put o.dst v) (add o.dst S)) : o.wp P a w K' Q' := by
  have h3 := hm w hC (fun t _ hs v hv => hA t hs v hv)
  have fin : ∀ v w', Below w.heap.size w w' → Fd F o.dst v w' → K' (a.put o.dst v) w' := fun v w' hb hf =>
    h _ _ _ (grow_step hC hb) (hA.add hb hf) (hn v ⟨w', grow_step hC hb, hf⟩)
  unfold Oper.wp
  generalize (execOp a.eval o).run P w = r at *
  cases r with
  | ok n w' =>
    cases n <;> simp only [mixUpon] at h3 <;> simp only [Oper.upon]
    case value v => exact fin _ _ h3.1 h3.2
    case skip => exact fin _ _ h3.1 h3.2
    case enter f args => exact h3.mono fun e w'' ⟨v, he, hb, hf⟩ => by subst he; exact fin _ _ hb hf
    case row row args => exact h3.mono fun v w'' ⟨hb, hf⟩ => fin _ _ hb hf
  | halt x w' => simp only [mixUpon] at h3
theorem wpAny_of_mix {Q : Act → (Tmp → Prop) → Prop} {Q' : Exit → Act → World → Prop} (hQ : ∀ a S w, Below W.heap.size W w → AllK F S a w → Q a S → Q' .normal a w) : ∀ (fuel : Nat) (listed : Array Bool) (a : Act) (S : Tmp → Prop) (w : World), Below W.heap.size W w → AllK F S a w →
    wpAnyM P ops W F md Q fuel listed a S → wpAny P md ops Q' fuel listed a w
  | 0, _, _, _, _, hC, hA, h => ⟨h.1, hQ _ _ _ hC hA h.2⟩
  | fuel + 1, listed, a, S, w, hC, hA, h => ⟨fun h0 => hQ _ _ _ hC hA (h.1 h0), fun i hi => by
      have hh := h.2 i hi
      unfold mOp at hh
      unfold wpOp
      split
      · rename_i ho; simp only [ho] at hh; exact wpAny_of_mix hQ fuel _ _ _ _ hC hA hh
      · rename_i o ho
        simp only [ho] at hh
        unfold body at hh
        split
        · rename_i hw
          rw [if_pos hw] at hh
          exact .inl (wp_of_body hC hA (fun a' S' w' c k q => wpAny_of_mix hQ fuel _ _ _ _ c k q) hh.1 hh.2)
        · rename_i hw
          rw [if_neg hw] at hh
          exact wpAny_of_mix hQ fuel _ _ _ _ hC hA.del hh⟩
/-- What an operation needs is not moved by a value that it does not look at. -/
theorem mix_move {o : Oper} (hs : ∀ cs b, o.op ≠ .select cs b) {a : Act} {dst : Option Tmp} {v : Value} {S S' : Tmp → Prop} (hd : ∀ d, dst = some d → d ∉ o.looksAt ops) (hS : ∀ t, dst ≠ some t → (S' t ↔ S t)) : mixAt P ops W F o (a.put dst v) S' ↔ mixAt P ops W F o a S := by
  have e := execOp_put (ops := ops) o hs a dst v hd
  have ne : ∀ t, t ∈ o.looksAt ops → dst ≠ some t := fun t ht e => hd t e ht
  unfold mixAt
  rw [e]
  constructor
  · intro h w hC hK
    refine h w hC fun t ht hs v hv => ?_
    rw [put_other (ne t ht)] at hv
    exact hK t ht ((hS t (ne t ht)).1 hs) v hv
  · intro h w hC hK
    refine h w hC fun t ht hs v hv => ?_
    exact hK t ht ((hS t (ne t ht)).2 hs) v (by rw [put_other (ne t ht)]; exact hv)
theorem add_iff {dst : Option Tmp} {S : Tmp → Prop} : ∀ t, dst ≠ some t → (add dst S t ↔ S t) := fun _ h => ⟨fun k => k.resolve_left h, .inr⟩
theorem del_iff {dst : Option Tmp} {S : Tmp → Prop} : ∀ t, dst ≠ some t → (del dst S t ↔ S t) := fun _ h => ⟨fun k => k.2, fun k => ⟨h, k⟩⟩
theorem add_add (x y : Option Tmp) (S : Tmp → Prop) : add x (add y S) = add y (add x S) := by
  funext t; unfold add; exact propext or_left_comm
theorem del_del (x y : Option Tmp) (S : Tmp → Prop) : del x (del y S) = del y (del x S) := by
  funext t; unfold del; exact propext and_left_comm
theorem add_del {x y : Option Tmp} (h : ∀ d, x = some d → y ≠ some d) (S : Tmp → Prop) : add x (del y S) = del y (add x S) := by
  funext t; unfold add del
  refine propext ⟨?_, ?_⟩
  · rintro (e | ⟨h1, h2⟩)
    · exact ⟨h t e, .inl e⟩
    · exact ⟨h1, .inr h2⟩
  · rintro ⟨h1, e | h2⟩
    · exact .inl e
    · exact .inr ⟨h1, h2⟩
theorem body_swap {oi oj : Oper} (hap : oi.apart ops oj = true) (hsi : ∀ cs b, oi.op ≠ .select cs b) (hsj : ∀ cs b, oj.op ≠ .select cs b) {K : Act → (Tmp → Prop) → Prop} {a : Act} {S : Tmp → Prop}
    (hex : Region.wanted oi (yielded ops a.tmps) = true → ∃ v, Valid W F oi.dst v) (h : body P ops W F oi (fun a' S' => body P ops W F oj K a' S') a S) : body P ops W F oj (fun a' S' => body P ops W F oi K a' S') a S := by
  obtain ⟨h1, h2, h3⟩ := Oper.apart_spec hap
  have h2' : ∀ d, oj.dst = some d → oi.dst ≠ some d := fun d e e2 => h2 d e2 e
  unfold body at *
  by_cases wi : Region.wanted oi (yielded ops a.tmps) = true
  · rw [if_pos wi] at h
    obtain ⟨m1, n1⟩ := h
    obtain ⟨v0, hv0⟩ := hex wi
    by_cases wj : Region.wanted oj (yielded ops a.tmps) = true
    · rw [if_pos wj]
      refine ⟨?_, fun u hu => ?_⟩
      · have := n1 v0 hv0
        dsimp only at this
        rw [wanted_put oj a oi.dst v0 h1, if_pos wj] at this
        exact (mix_move hsj h1 add_iff).1 this.1
      · dsimp only
        rw [wanted_put oi a oj.dst u h3, if_pos wi]
        refine ⟨(mix_move hsi h3 add_iff).2 m1, fun v hv => ?_⟩
        have := n1 v hv
        dsimp only at this
        rw [wanted_put oj a oi.dst v h1, if_pos wj] at this
        have := this.2 u hu
        rw [Act.put_comm a v u h2, add_add] at this
        exact this
    · rw [if_neg wj]
      dsimp only
      rw [wanted_put oi a oj.dst undef h3, if_pos wi]
      refine ⟨(mix_move hsi h3 del_iff).2 m1, fun v hv => ?_⟩
      have := n1 v hv
      dsimp only at this
      rw [wanted_put oj a oi.dst v h1, if_neg wj, Act.put_comm a v undef h2, ← add_del h2] at this
      exact this
  · rw [if_neg wi] at h
    rw [wanted_put oj a oi.dst undef h1] at h
    by_cases wj : Region.wanted oj (yielded ops a.tmps) = true
    · rw [if_pos wj] at h ⊢
      refine ⟨(mix_move hsj h1 del_iff).1 h.1, fun u hu => ?_⟩
      dsimp only
      rw [wanted_put oi a oj.dst u h3, if_neg wi]
      have := h.2 u hu
      rw [Act.put_comm a undef u h2, add_del h2'] at this
      exact this
    · rw [if_neg wj] at h ⊢
      dsimp only
      rw [wanted_put oi a oj.dst undef h3, if_neg wi]
      rw [Act.put_comm a undef undef h2, del_del] at h
      exact h
theorem wanted_body {o : Oper} {K : Act → (Tmp → Prop) → Prop} {a : Act} {S : Tmp → Prop} {A : Act → Prop} (hu : ∀ u, A (a.put o.dst u)) (hh : body P ops W F o K a S) : body P ops W F o (fun a' S' => A a' ∧ K a' S') a S := by
  unfold body at *
  split
  · rename_i hw; rw [if_pos hw] at hh; exact ⟨hh.1, fun v hv => ⟨hu v, hh.2 v hv⟩⟩
  · rename_i hw; rw [if_neg hw] at hh; exact ⟨hu _, hh⟩
/-- An operation that may come up now may be taken first. -/
theorem wpAnyM_first {Q : Act → (Tmp → Prop) → Prop} {i : Nat} {oi : Oper} (hi : ops[i]? = some oi) (hsel : ∀ (j : Nat) (o : Oper) cs b, ops[j]? = some o → o.op ≠ .select cs b) :
    ∀ (fuel : Nat) (listed : Array Bool) (a : Act) (S : Tmp → Prop),
      (∀ j oj, ops[j]? = some oj → j ≠ i → listed.getD j true = false → (∀ e ∈ oj.after, Region.binds md e = true → e.on ≠ i) → oi.apart ops oj = true) →
      i ∈ Region.ready md ops listed → (Region.wanted oi (yielded ops a.tmps) = true → ∃ v, Valid W F oi.dst v) →
      body P ops W F oi (wpAnyM P ops W F md Q fuel (listed.setIfInBounds i true)) a S → wpAnyM P ops W F md Q (fuel + 1) listed a S := by
  intro fuel
  induction fuel with
  | zero =>
    intro listed a S _ hr hex H
    refine ⟨fun h => (by rw [h] at hr; cases hr), fun j hj => ?_⟩
    by_cases hji : j = i
    · subst hji; unfold mOp; simp only [hi]; exact H
    · have hno := ready_mono hj hji
      have : Region.ready md ops (listed.setIfInBounds i true) = [] := by
        unfold body at H
        split at H
        · rename_i hw
          obtain ⟨v, hv⟩ := hex hw
          exact (H.2 v hv).1
        · exact H.1
      rw [this] at hno
      cases hno
  | succ fuel ih =>
    intro listed a S hfree hr hex H
    refine ⟨fun h => (by rw [h] at hr; cases hr), fun j hj => ?_⟩
    by_cases hji : j = i
    · subst hji; unfold mOp; simp only [hi]; exact H
    · obtain ⟨hjun, oj, hoj, hall⟩ := mem_ready.1 hj
      have hnot : ∀ e ∈ oj.after, Region.binds md e = true → e.on ≠ i := fun e he hb heq => by
        have h1 := hall e he hb
        have h0 := (mem_ready.1 hr).1
        rw [heq] at h1
        rcases Nat.lt_or_ge i listed.size with h' | h'
        · simp [h'] at h0 h1; rw [h0] at h1; cases h1
        · simp [Array.getElem?_eq_none h'] at h1
      have hap := hfree j oj hoj hji hjun hnot
      obtain ⟨_, _, h3⟩ := Oper.apart_spec hap
      have H1 : body P ops W F oi (fun a' S' => body P ops W F oj (wpAnyM P ops W F md Q fuel ((listed.setIfInBounds i true).setIfInBounds j true)) a' S') a S := body_mono (fun a' S' h => by
        have := h.2 j (ready_mono hj hji)
        unfold mOp at this
        simp only [hoj] at this
        exact this) H
      have H2 := body_swap hap (fun cs b => hsel i oi cs b hi) (fun cs b => hsel j oj cs b hoj) hex H1
      have H3 := wanted_body (A := fun a' => Region.wanted oi (yielded ops a'.tmps) = true → ∃ v, Valid W F oi.dst v) (fun u => by rw [wanted_put oi a oj.dst u h3]; exact hex) H2
      have hfree' : ∀ k ok, ops[k]? = some ok → k ≠ i → (listed.setIfInBounds j true).getD k true = false →
          (∀ e ∈ ok.after, Region.binds md e = true → e.on ≠ i) → oi.apart ops ok = true := fun k ok hk hki hun hno => by
        refine hfree k ok hk hki ?_ hno
        by_cases hjk : j = k
        · subst hjk; exact hjun
        · rw [getD_set_ne true hjk] at hun; exact hun
      unfold mOp
      simp only [hoj]
      refine body_mono (fun a' S' h => ih (listed.setIfInBounds j true) a' S' hfree' (ready_mono hr (Ne.symm hji)) h.1 ?_) H3
      rw [Array.setIfInBounds_comm _ _ hji]
      exact h.2
theorem wpAnyM_lex {Q : Act → (Tmp → Prop) → Prop} (hs : Region.noSelect ops = true) : ∀ (l : List Oper) (k : Nat) (listed : Array Bool) (a : Act) (S : Tmp → Prop), (∀ j, l[j]? = ops[k + j]?) →
    Region.lexFrom md ops l.length k listed = true → wpMix P ops W F Q l a S → wpAnyM P ops W F md Q l.length listed a S
  | [], _, _, _, _, _, hB, h => ⟨by simpa [Region.lexFrom] using hB, h⟩
  | o :: l, k, listed, a, S, hl, hB, h => by
    have h0 : ops[k]? = some o := by simpa using (hl 0).symm
    simp only [List.length_cons, Region.lexFrom, Bool.and_eq_true] at hB
    obtain ⟨⟨hr, hf⟩, hB'⟩ := hB
    refine wpAnyM_first h0 (Region.noSelect_spec hs) l.length listed a S (Region.free_spec h0 hf) (by simpa using hr) h.1 ?_
    exact body_mono (fun a' S' q => wpAnyM_lex hs l (k + 1) _ _ _ (fun j => by have := hl (j + 1); simpa [Nat.add_assoc, Nat.add_comm 1 j] using this) hB' q) h.2
/-- One walk of the written order serves every order. -/
theorem wp_region_mix {id : Nat} {Q : Exit → Act → World → Prop} {a : Act} {l : List Oper} (F : Tmp → Up) (hm : P.follows .mixedOrders = true) (hB : Region.lexB .any l.toArray = true)
    (h : wpMix P l.toArray W F (fun a' S => ∀ w', Below W.heap.size W w' → AllK F S a' w' → Q .normal a' w') l a (fun _ => False)) : (Code.region id l.toArray true).wp P Q a W := by
  simp only [Region.lexB, Bool.and_eq_true] at hB
  refine wp_region_any hm (wpAny_of_mix (W := W) (F := F) (Q := fun a' S => ∀ w', Below W.heap.size W w' → AllK F S a' w' → Q .normal a' w') (fun _ _ w' hC hA h => h w' hC hA) _ _ _ (fun _ => False) _ (Below.refl _ _).drew (fun t ht => ht.elim) ?_)
  have := wpAnyM_lex (W := W) (F := F) (md := .any) hB.1 l 0 (Array.replicate l.toArray.size false) a (fun _ => False) (by simp) (by simpa using hB.2) h
  simpa using this
theorem mix_nil {Q : Act → (Tmp → Prop) → Prop} {a : Act} {S : Tmp → Prop} (h : Q a S) : wpMix P ops W F Q [] a S := h
theorem mix_step {Q : Act → (Tmp → Prop) → Prop} {a : Act} {S : Tmp → Prop} {o : Oper} {rest : List Oper} (hw : Region.wanted o (yielded ops a.tmps) = true) (hex : ∃ v, Valid W F o.dst v)
    (hm : ∀ w, Below W.heap.size W w → Known F S (o.looksAt ops) a w → mixUpon P F o w ((execOp a.eval o).run P w)) (h : ∀ v, Valid W F o.dst v → wpMix P ops W F Q rest (a.put o.dst v) (add o.dst S)) : wpMix P ops W F Q (o :: rest) a S := by
  refine ⟨fun _ => hex, ?_⟩
  unfold body
  rw [if_pos hw]
  exact ⟨hm, h⟩
end
end Go.Proofs.Ytnlcpfijfjbgjaa.Mix
namespace Go.Proofs.Ytnlcpfijfjbgjaa
open Go Go.RowKit
open G (Tok Er Ins Fun)
theorem succs_any (f : Fun) (v : Value) (w : World) (hv : FunV w f v) (hF : Ful f) (hT : Tos f) :
    Calls Try.prog 38 #[v] w fun e w' => ∃ u, e = .returned u ∧ RowsO w.heap.size w' (succsF f) u ∧ Below w.heap.size w w' := by
  obtain ⟨nm, ps, rt, bl, pl⟩ := f
  have hv2 := hv
  obtain ⟨vp, vb, rfl, ⟨ao, c, rfl, h1, _⟩, h2⟩ := hv
  obtain ⟨bo, cb, rfl, _⟩ := h2
  exact succs_try nm ps rt pl bl ao bo c cb w hv2 hF hT
/-- Preds under way. -/
def PreW (g1 : Nat) (W w2 : World) (n : Nat) (ll : List (List Int)) (B1 : Nat) (wr : World) : Prop := ∃ us, RowAt wr W.heap.size 22 g1 n us ∧ RowsS w2.heap.size wr ll us ∧ Below W.heap.size W wr ∧ Mid B1 w2 wr
set_option maxHeartbeats 4000000 in
set_option maxRecDepth 20000 in
theorem preds_try (nm : List UInt8) (ps : List Int) (rt pl : Int) (bl : List (List Ins)) (ao bo : Option Addr) (c cb : Nat) (w : World)
    (hv : FunV w (nm, ps, rt, bl, pl) (.agg #[.string (bs nm), .slice ao ps.length c, .int .i64 rt, .slice bo bl.length cb, .int .i64 pl])) (hF : Ful (nm, ps, rt, bl, pl)) (hT : Tos (nm, ps, rt, bl, pl)) :
    Calls Try.prog 28 #[.agg #[.string (bs nm), .slice ao ps.length c, .int .i64 rt, .slice bo bl.length cb, .int .i64 pl]] w fun e w' => ∃ v, e = .returned v ∧ RowsO w.heap.size w' (predsF (nm, ps, rt, bl, pl)) v ∧ Below w.heap.size w w' := by
  obtain ⟨i0, hi0, hz0, hz1, hz2⟩ := info_parts Try.info22
  obtain ⟨i3, hi3, hz3, hz4, hz5⟩ := info_parts Try.info3
  have b0 := below_box w (.cells #[.string (bs nm), .slice ao ps.length c, .int .i64 rt, .slice bo bl.length cb, .int .i64 pl] 25)
  have X0 := hide (L5.Box.new w [.string (bs nm), .slice ao ps.length c, .int .i64 rt, .slice bo bl.length cb, .int .i64 pl] 25)
  have HV := hide (hv.below b0)
  have B0 := hide b0
  have HFu := hide hF
  have HTo := hide hT
  have hbl : bl.length ≤ 1000000 := hF.1
  clear b0 hv hF hT
  go_enter Try.func28, Try.ntmps28
  go_upto_region 1 with fail
  show Code.wp _ _ _ _ (w.alloc (.cells #[.string (bs nm), .slice ao ps.length c, .int .i64 rt, .slice bo bl.length cb, .int .i64 pl] 25))
  replace X0 : Hid (L5.Box (w.alloc (.cells #[.string (bs nm), .slice ao ps.length c, .int .i64 rt, .slice bo bl.length cb, .int .i64 pl] 25)) w.heap.size [.string (bs nm), .slice ao ps.length c, .int .i64 rt, .slice bo bl.length cb, .int .i64 pl]) := X0
  generalize w.alloc (.cells #[.string (bs nm), .slice ao ps.length c, .int .i64 rt, .slice bo bl.length cb, .int .i64 pl] 25) = W at *
  have x3 := X0.out.2 3 _ rfl
  go_upto_region 2 with (at_make; refine wpList_make_full _ rfl _ _ 50 rfl W.heap.size 22 i0 _ 1 Try.underlying50 hi0 hz0 hz1 .i64 .i64 bl.length bl.length bl.length rfl rfl rfl rfl (by rw [hz2]; omega) (by unfold maxLen; omega) (Nat.le_refl _) ?_; intro w1 own1 grow1; refine Hid.out ?_)
  rw [made_rows] at own1
  have R1 : Hid (RowAt w1 W.heap.size 22 W.heap.size bl.length (List.replicate bl.length (.slice none 0 0))) := hide own1
  have B1 := hide (grown_b grow1)
  clear own1 grow1 x3
  have hg1 : W.heap.size < w1.heap.size := R1.out.lt.2
  obtain ⟨x0, x1, x2, x3, x4⟩ : _ ∧ _ ∧ _ ∧ _ ∧ _ := ⟨(X0.out.below B1.out).2 0 _ rfl, (X0.out.below B1.out).2 1 _ rfl, (X0.out.below B1.out).2 2 _ rfl, (X0.out.below B1.out).2 3 _ rfl, (X0.out.below B1.out).2 4 _ rfl⟩
  have HC := hide (succs_any (nm, ps, rt, bl, pl) _ w1 (HV.out.below B1.out) HFu.out HTo.out)
  refine hide ?_
  go_wp2_with fail
  refine HC.out.mono ?_; rintro e w2 ⟨v, rfl, hr, b2⟩
  clear x0 x1 x2 x3 x4
  have HR := hide hr
  obtain ⟨so, sc, rfl⟩ := hr.len
  have hsl : (succsF (nm, ps, rt, bl, pl)).length = bl.length := succsF_len _
  rw [hsl] at HR ⊢
  have B12 := hide (below_step B1.out b2)
  have HSt : Hid (PreW W.heap.size W w2 bl.length (pRows (nm, ps, rt, bl, pl) 0 []) w1.heap.size w2) := hide ⟨_, R1.out.below b2, by
    have := RowsS.start w2.heap.size w2 bl.length
    have e := pRows_start (nm, ps, rt, bl, pl)
    rw [e]; exact this, B12.out, Mid.refl _ _⟩
  have hg2 : w1.heap.size ≤ w2.heap.size := b2.size
  clear R1 B1 B12 b2 hr HC hsl
  generalize w1.heap.size = Bq at *
  generalize hg : W.heap.size = g1 at *
  go_wp2_with fail
  go_loopw [15] (fun i wr => ∃ K : Nat, K ≤ bl.length ∧ i = .int .i64 K ∧ Hid (PreW g1 W w2 bl.length (pRows (nm, ps, rt, bl, pl) K []) Bq wr)) (fun i _ => bl.length - (intOf i).toNat)
  case atStart => exact ⟨0, Nat.zero_le _, rfl, HSt⟩
  case round =>
    clear HSt
    obtain ⟨K, hK, rfl, HS⟩ := hrel
    by_cases hkt : K < bl.length
    · have hkI : (K : Int) < bl.length := by omega
      have HMi : Hid (Mid Bq w2 wr) := hide (by obtain ⟨us, _, _, _, h⟩ := HS.out; exact h)
      obtain ⟨gs, lo, lc, rfl, c0, hlw, hgs, hgt⟩ := HR.out.row (succsF_at (f := (nm, ps, rt, bl, pl)) hkt)
      have c1 := (HMi.out.cell (p := ⟨gs, K, none⟩) hgs hgt).trans c0
      have HLw := hide hlw
      have HPn : Hid (pRows (nm, ps, rt, bl, pl) K (nextF (nm, ps, rt, bl, pl) K) = pRows (nm, ps, rt, bl, pl) (K + 1) []) := hide (pRows_next _ K)
      have HNu : Hid (Num bl.length (nextF (nm, ps, rt, bl, pl) K)) := hide (HTo.out K)
      have hll : (nextF (nm, ps, rt, bl, pl) K).length ≤ 1000000 := nextF_len HFu.out hkt
      have HNd : Hid (nextF (nm, ps, rt, bl, pl) K).Nodup := hide (once_nodup _)
      have HS0 : Hid (PreW g1 W w2 bl.length (pRows (nm, ps, rt, bl, pl) K ((nextF (nm, ps, rt, bl, pl) K).take 0)) Bq wr) := hide HS.out
      have hpl := fun M => predTo_len (nm, ps, rt, bl, pl) M K
      generalize nextF (nm, ps, rt, bl, pl) K = l at *
      clear HMi c0 hlw HS
      go_wp2_with fail
      clear c1
      go_loopw [22] (fun i wr => ∃ J : Nat, J ≤ l.length ∧ i = .int .i64 J ∧ Hid (PreW g1 W w2 bl.length (pRows (nm, ps, rt, bl, pl) K (l.take J)) Bq wr)) (fun i _ => l.length - (intOf i).toNat)
      case atStart => exact ⟨0, Nat.zero_le _, rfl, HS0⟩
      case round =>
        clear HS0
        obtain ⟨J, hJ, rfl, HS⟩ := hrel
        by_cases hjt : J < l.length
        · have hjI : (J : Int) < l.length := by omega
          obtain ⟨m, hm⟩ : ∃ m, l[J]? = some m := ⟨l[J], List.getElem?_eq_getElem hjt⟩
          obtain ⟨hm0, hm1⟩ := HNu.out m (List.mem_of_getElem? hm)
          obtain ⟨M, rfl⟩ : ∃ M : Nat, m = (M : Int) := ⟨m.toNat, by omega⟩
          have hMl : M < bl.length := by omega
          have HTk : Hid (l.take (J + 1) = l.take J ++ [(M : Int)]) := hide (take_more hm)
          have hfr := take_fresh HNd.out hm
          obtain ⟨us, q1, q2, q3, q4⟩ := HS.out
          obtain ⟨gl, rfl, c9, _⟩ := own_cell (own_mid HLw.out q4) hm
          obtain ⟨row, u, y1, y2, y3⟩ := q2.at (i := M) (by rw [pRows_len]; exact hMl)
          rw [pRows_at _ _ hMl, hfr] at y1
          simp only [Bool.false_eq_true, if_false, List.append_nil, Option.some.injEq] at y1
          have hrl := hpl M
          have HPu : Hid ((pRows (nm, ps, rt, bl, pl) K (l.take J)).set M (row ++ [(K : Int)]) = pRows (nm, ps, rt, bl, pl) K (l.take J ++ [(M : Int)])) := hide (by rw [← y1]; exact pRows_put hMl)
          have HPa : Hid ((pRows (nm, ps, rt, bl, pl) K (l.take J))[M]? = some row) := hide (by rw [pRows_at _ _ hMl, hfr, ← y1]; simp)
          rw [y1] at hrl
          have c8 := q1.cell y2
          have Q1 := hide q1
          have Q2 := hide q2
          have Q3 := hide q3
          have Q4 := hide q4
          have Y2 := hide y2
          have Y3 := hide y3
          obtain ⟨uo, uc, rfl⟩ := own_len y3
          have hws := q4.1
          have hMI : (M : Int) < bl.length := by omega
          clear hm q1 q2 q3 q4 y1 y2 y3 HS hfr hm0 hm1
          go_wp2_with (at_builtin; refine wpList_append_own_at _ rfl (.tmp 31) (.tmp 33) 22 rfl w2.heap.size 3 i3 _ 1 8 Try.underlying22 hi3 hz3 hz4 hz5 rfl (by decide) _ _ _ rfl (Y3.out.alloc _) ⟨wr.heap.size, 0, none⟩ 1 1 [.int .i64 K] rfl rfl one_cell one_one (by unfold maxLen; omega) (by omega) (by simp; omega) ?_; intro v2 wB own2 grow2 _ at2; refine Hid.out ?_)
          have far : ∀ g, g < w2.heap.size → some g ≠ (Value.slice uo row.length uc).ownBlock := fun g hg e => by have := (Y3.out.lt g e.symm).1; omega
          have P1 : Hid (RowAt wB W.heap.size 22 g1 bl.length us) := hide ((Q1.out.alloc _).kept grow2 (far g1 (by omega)))
          have P2 := hide (Q2.out.step HPa.out Y2.out own2 grow2 at2)
          rw [HPu.out, ← HTk.out] at P2
          have P3 : Hid (Below W.heap.size W wB) := hide (Below.grown (Q3.out.alloc Q3.out.size _) grow2 (by simp; omega) (fun k hk => by have := (Y3.out.lt k hk).1; omega))
          have P4 : Hid (Mid Bq w2 wB) := hide ((Q4.out.alloc _).grown grow2 (fun k hk => .inr (Y3.out.lt k hk).1))
          have HE : Hid (PreW g1 W w2 bl.length (pRows (nm, ps, rt, bl, pl) K (l.take (J + 1))) Bq (wB.setCell ⟨g1, M, none⟩ v2)) := hide (by
            exact ⟨us.set M v2, P1.out.set M v2, P2.out.put (p := ⟨g1, M, none⟩) (by show g1 < w2.heap.size; omega) _, P3.out.setCell (p := ⟨g1, M, none⟩) (by show W.heap.size ≤ g1; omega) _, P4.out.put (p := ⟨g1, M, none⟩) (.inl (by show g1 < Bq; omega)) _⟩)
          obtain ⟨vo, vc, rfl⟩ := own_len own2
          have k2 := P1.out.cell Y2.out
          have k3 := P1.out.frozen M
          clear own2 grow2 at2 far P1 P2 P3 P4 Q1 Q2 Q3 Q4 Y2 Y3 c8 c9
          refine hide ?_
          go_wp2_with fail
          go_roundw
          case rel => exact ⟨J + 1, by omega, by go_num, HE⟩
          case measure => simp [intOf]; omega
        · obtain rfl : J = l.length := by omega
          have HE : Hid (PreW g1 W w2 bl.length (pRows (nm, ps, rt, bl, pl) (K + 1) []) Bq wr) := hide (by
            have := HS.out
            rw [List.take_length, HPn.out] at this
            exact this)
          go_wp2_with fail
          go_roundw
          case rel => exact ⟨K + 1, by omega, by go_num, HE⟩
          case measure => simp [intOf]; omega
    · obtain rfl : K = bl.length := by omega
      have HE : Hid (RowsO w.heap.size wr (predsF (nm, ps, rt, bl, pl)) (.slice (some ⟨g1, 0, none⟩) bl.length bl.length) ∧ Below w.heap.size w wr) := hide (by
        obtain ⟨us, q1, q2, q3, q4⟩ := HS.out
        refine ⟨?_, below_step B0.out q3⟩
        have := q2.rows q1 (by omega)
        have e : pRows (nm, ps, rt, bl, pl) bl.length [] = predsF (nm, ps, rt, bl, pl) := pRows_end (nm, ps, rt, bl, pl)
        rw [e] at this
        exact this.base B0.out.size)
      go_wp2_with fail
      go_ret
      exact ⟨_, rfl, HE.out.1, HE.out.2⟩
theorem preds_any (f : Fun) (v : Value) (w : World) (hv : FunV w f v) (hF : Ful f) (hT : Tos f) :
    Calls Try.prog 28 #[v] w fun e w' => ∃ u, e = .returned u ∧ RowsO w.heap.size w' (predsF f) u ∧ Below w.heap.size w w' := by
  obtain ⟨nm, ps, rt, bl, pl⟩ := f
  have hv2 := hv
  obtain ⟨vp, vb, rfl, ⟨ao, c, rfl, h1, _⟩, h2⟩ := hv
  obtain ⟨bo, cb, rfl, _⟩ := h2
  exact preds_try nm ps rt pl bl ao bo c cb w hv2 hF hT
end Go.Proofs.Ytnlcpfijfjbgjaa
namespace Go.Proofs.Ytnlcpfijfjbgjaa
open Go Go.RowKit
open G (Tok Er Ins Fun)
/-- What Succs gave, as order takes it. -/
theorem succs_read {B : Nat} {f : Fun} {w : World} {v : Value} (h : RowsO B w (succsF f) v) : ∃ ao c, v = .slice ao f.2.2.2.1.length c ∧ RowsR w ao (succsF f) := by
  obtain ⟨ao, c, e, h1, _⟩ := h.read
  exact ⟨ao, c, by rw [e, succsF_len], h1⟩
set_option maxHeartbeats 4000000 in
set_option maxRecDepth 20000 in
theorem orderP_try (nm : List UInt8) (ps : List Int) (rt pl : Int) (bl : List (List Ins)) (ao bo : Option Addr) (c cb : Nat) (w : World)
    (hv : FunV w (nm, ps, rt, bl, pl) (.agg #[.string (bs nm), .slice ao ps.length c, .int .i64 rt, .slice bo bl.length cb, .int .i64 pl])) (hF : Ful (nm, ps, rt, bl, pl)) (hT : Tos (nm, ps, rt, bl, pl)) (h0 : 0 < bl.length) :
    Calls Try.prog 25 #[.agg #[.string (bs nm), .slice ao ps.length c, .int .i64 rt, .slice bo bl.length cb, .int .i64 pl]] w fun e w' => ∃ u, e = .returned u ∧ w'.ownsRow w.heap.size 3 1 u (orderF (nm, ps, rt, bl, pl)).length (ints (orderF (nm, ps, rt, bl, pl))) ∧ Below w.heap.size w w' := by
  have b0 := below_box w (.cells #[.string (bs nm), .slice ao ps.length c, .int .i64 rt, .slice bo bl.length cb, .int .i64 pl] 25)
  have X0 := hide (L5.Box.new w [.string (bs nm), .slice ao ps.length c, .int .i64 rt, .slice bo bl.length cb, .int .i64 pl] 25)
  have HC := hide (succs_any (nm, ps, rt, bl, pl) _ _ (hv.below b0) hF hT)
  have HO := hide (fun no nc w hr => order_any (nm, ps, rt, bl, pl) no nc w hr hF hT h0)
  have B0 := hide b0
  clear b0 hv hF hT h0
  go_enter Try.func25, Try.ntmps25
  go_upto_region 1 with fail
  show Code.wp _ _ _ _ (w.alloc (.cells #[.string (bs nm), .slice ao ps.length c, .int .i64 rt, .slice bo bl.length cb, .int .i64 pl] 25))
  replace X0 : Hid (L5.Box (w.alloc (.cells #[.string (bs nm), .slice ao ps.length c, .int .i64 rt, .slice bo bl.length cb, .int .i64 pl] 25)) w.heap.size [.string (bs nm), .slice ao ps.length c, .int .i64 rt, .slice bo bl.length cb, .int .i64 pl]) := X0
  generalize w.alloc (.cells #[.string (bs nm), .slice ao ps.length c, .int .i64 rt, .slice bo bl.length cb, .int .i64 pl] 25) = W at *
  obtain ⟨x0, x1, x2, x3, x4⟩ : _ ∧ _ ∧ _ ∧ _ ∧ _ := ⟨X0.out.2 0 _ rfl, X0.out.2 1 _ rfl, X0.out.2 2 _ rfl, X0.out.2 3 _ rfl, X0.out.2 4 _ rfl⟩
  go_wp2_with fail
  refine HC.out.mono ?_; rintro e w1 ⟨v, rfl, hr, b1⟩
  obtain ⟨no, nc, rfl, hrr⟩ := succs_read hr
  have HO1 := hide (HO.out no nc w1 hrr)
  have B1 := hide b1
  clear x0 x1 x2 x3 x4 hr hrr b1 HC HO
  go_wp2_with fail
  refine HO1.out.mono ?_; rintro e w2 ⟨u, rfl, hu, b2⟩
  have HE := hide (And.intro (own_base hu (Nat.le_trans B0.out.size B1.out.size)) (below_step B0.out (below_step B1.out b2)))
  clear hu b2 HO1
  go_wp2_with fail
  go_ret
  exact ⟨_, rfl, HE.out.1, HE.out.2⟩
theorem orderP_any (f : Fun) (v : Value) (w : World) (hv : FunV w f v) (hF : Ful f) (hT : Tos f) (h0 : 0 < f.2.2.2.1.length) :
    Calls Try.prog 25 #[v] w fun e w' => ∃ u, e = .returned u ∧ w'.ownsRow w.heap.size 3 1 u (orderF f).length (ints (orderF f)) ∧ Below w.heap.size w w' := by
  obtain ⟨nm, ps, rt, bl, pl⟩ := f
  have hv2 := hv
  obtain ⟨vp, vb, rfl, ⟨ao, c, rfl, h1, _⟩, h2⟩ := hv
  obtain ⟨bo, cb, rfl, _⟩ := h2
  exact orderP_try nm ps rt pl bl ao bo c cb w hv2 hF hT h0
def fillTo (n I : Nat) : List Int := List.replicate I (-1) ++ List.replicate (n - I) 0
theorem fillTo_len {n I : Nat} (h : I ≤ n) : (fillTo n I).length = n := by simp [fillTo]; omega
theorem fillTo_set {n I : Nat} (h : I < n) : (fillTo n I).set I (-1) = fillTo n (I + 1) := by
  unfold fillTo
  obtain ⟨M, hM⟩ : ∃ M, n - I = M + 1 := ⟨n - I - 1, by omega⟩
  rw [List.set_append_right _ _ (by simp), List.length_replicate, Nat.sub_self, hM, List.replicate_succ, List.set_cons_zero, Nat.sub_add_eq, hM, Nat.add_sub_cancel, List.replicate_succ', List.append_assoc]; rfl
theorem fillTo_end (n : Nat) : fillTo n n = placesTo n [] := by rw [placesTo_nil]; simp [fillTo]
theorem order_num {f : Fun} (hT : Tos f) (h0 : 0 < f.2.2.2.1.length) : (orderF f).Nodup ∧ Num f.2.2.2.1.length (orderF f) := by
  obtain ⟨h1, h2⟩ := post0_num hT h0
  exact ⟨List.pairwise_reverse.2 (h1.imp fun h e => h e.symm), fun m hm => h2 m (List.mem_reverse.1 hm)⟩
set_option maxHeartbeats 4000000 in
set_option maxRecDepth 20000 in
theorem places_try (f : Fun) (no : Option Addr) (nc : Nat) (w : World) (hr : RowsR w no (succsF f)) (hF : Ful f) (hT : Tos f) (h0 : 0 < f.2.2.2.1.length) :
    Calls Try.prog 42 #[.slice no f.2.2.2.1.length nc] w fun e w' => ∃ g, e = .returned (.slice (some ⟨g, 0, none⟩) f.2.2.2.1.length f.2.2.2.1.length) ∧ RowAt w' w.heap.size 3 g f.2.2.2.1.length (ints (placesF f)) ∧ Below w.heap.size w w' := by
  obtain ⟨i3, hi3, hz3, hz4, hz5⟩ := info_parts Try.info3
  have HR := hide hr
  have HO := hide (fun w hr => order_any f no nc w hr hF hT h0)
  have hbl : f.2.2.2.1.length ≤ 1000000 := hF.1
  have hol := orderF_len hT h0
  obtain ⟨hnd, hnu⟩ := order_num hT h0
  have HNd := hide hnd
  have HNu := hide hnu
  have HPl := hide (placesF_to f)
  generalize orderF f = l at *
  generalize placesF f = pf at *
  generalize f.2.2.2.1.length = N at *
  clear hr hF hT h0 hnd hnu
  go_enter Try.func42, Try.ntmps42
  go_upto_region 2 with (at_make; refine wpList_make_full _ rfl _ _ 22 rfl w.heap.size 3 i3 _ 1 Try.underlying22 hi3 hz3 hz4 .i64 .i64 N N N rfl rfl rfl rfl (by rw [hz5]; omega) (by unfold maxLen; omega) (Nat.le_refl _) ?_; intro w1 own1 grow1; refine Hid.out ?_)
  rw [made_ints] at own1
  have R1 : Hid (RowAt w1 w.heap.size 3 w.heap.size N (ints (fillTo N 0))) := hide (by
    have e : fillTo N 0 = List.replicate N 0 := by simp [fillTo]
    rw [e]; exact own1)
  have B1 := hide (grown_b grow1)
  clear own1 grow1
  generalize hg : w.heap.size = g at *
  refine hide ?_
  go_wp2_with fail
  go_loopw [12] (fun i wr => ∃ I : Nat, I ≤ N ∧ i = .int .i64 I ∧ Hid (RowAt wr g 3 g N (ints (fillTo N I))) ∧ Hid (Below g w wr)) (fun i _ => N - (intOf i).toNat)
  case atStart => exact ⟨0, Nat.zero_le _, rfl, R1, B1⟩
  case round =>
    clear R1 B1
    obtain ⟨I, hI, rfl, HA, HW⟩ := hrel
    by_cases hit : I < N
    · have hiI : (I : Int) < N := by omega
      obtain ⟨x, hx⟩ : ∃ x, (fillTo N I)[I]? = some x := ⟨_, List.getElem?_eq_getElem (by rw [fillTo_len hI]; exact hit)⟩
      have c1 := HA.out.cell (ints_at hx)
      have z1 := HA.out.frozen I
      have HE : Hid (RowAt (wr.setCell ⟨g, I, none⟩ (.int .i64 (-1))) g 3 g N (ints (fillTo N (I + 1)))) := hide (by rw [← fillTo_set hit, ← ints_set]; exact HA.out.set I _)
      have HE2 : Hid (Below g w (wr.setCell ⟨g, I, none⟩ (.int .i64 (-1)))) := hide (HW.out.setCell (p := ⟨g, I, none⟩) (Nat.le_refl _) _)
      clear hx
      go_wp2_with fail
      go_roundw
      case rel => exact ⟨I + 1, by omega, by go_num, HE, HE2⟩
      case measure => simp [intOf]; omega
    · obtain rfl : I = N := by omega
      have HA0 : Hid (RowAt wr g 3 g I (ints (placesTo I (l.take 0)))) := hide (by have := HA.out; rw [fillTo_end] at this; exact this)
      have HRr : Hid (RowsR wr no (succsF f)) := hide (HR.out.below (by rw [hg]; exact HW.out))
      have HO1 := hide (HO.out wr HRr.out)
      have hgl : g < wr.heap.size := HA.out.lt.2
      clear HA
      go_wp2_with fail
      refine HO1.out.mono ?_; rintro e w2 ⟨u, rfl, hu, b2⟩
      have HA2 := hide (HA0.out.below b2)
      have HW2 : Hid (Below g w w2) := hide (HW.out.trans (b2.mono (by omega)))
      have HU := hide hu
      obtain ⟨uo, uc, rfl⟩ := own_len hu
      clear hu b2 HO1 HA0 HRr HW
      go_wp2_with fail
      generalize wr.heap.size = B at *
      go_loopw [22] (fun i wr => ∃ J : Nat, J ≤ l.length ∧ i = .int .i64 J ∧ Hid (RowAt wr g 3 g I (ints (placesTo I (l.take J)))) ∧ Hid (Below g w wr) ∧ Hid (wr.ownsRow B 3 1 (.slice uo l.length uc) l.length (ints l))) (fun i _ => l.length - (intOf i).toNat)
      case atStart => exact ⟨0, Nat.zero_le _, rfl, HA2, HW2, HU⟩
      case round =>
        clear HA2 HW2 HU
        obtain ⟨J, hJ, rfl, HA, HW, HU⟩ := hrel
        by_cases hjt : J < l.length
        · have hjI : (J : Int) < l.length := by omega
          obtain ⟨m, hm⟩ : ∃ m, l[J]? = some m := ⟨_, List.getElem?_eq_getElem hjt⟩
          obtain ⟨hm0, hm1⟩ := HNu.out m (List.mem_of_getElem? hm)
          obtain ⟨M, rfl⟩ : ∃ M : Nat, m = (M : Int) := ⟨m.toNat, by omega⟩
          have hMI : M < I := by omega
          have hfr := take_fresh HNd.out hm
          obtain ⟨gl, rfl, c9, _⟩ := own_cell HU.out hm
          obtain ⟨x, hx⟩ : ∃ x, (placesTo I (l.take J))[M]? = some x := ⟨_, List.getElem?_eq_getElem (by rw [placesTo_len]; exact hMI)⟩
          have c1 := HA.out.cell (ints_at hx)
          have z1 := HA.out.frozen M
          have hlj : (l.take J).length = J := by rw [List.length_take]; omega
          have HE : Hid (RowAt (wr.setCell ⟨g, M, none⟩ (.int .i64 J)) g 3 g I (ints (placesTo I (l.take (J + 1))))) := hide (by
            have e := placesTo_snoc (n := I) hfr
            rw [take_more hm, e, hlj, ← ints_set]
            exact HA.out.set M _)
          have HE2 : Hid (Below g w (wr.setCell ⟨g, M, none⟩ (.int .i64 J))) := hide (HW.out.setCell (p := ⟨g, M, none⟩) (Nat.le_refl _) _)
          have HE3 : Hid ((wr.setCell ⟨g, M, none⟩ (.int .i64 J)).ownsRow B 3 1 (.slice (some ⟨gl, 0, none⟩) l.length uc) l.length (ints l)) := hide (ownsRow_setCell_below HU.out (a := ⟨g, M, none⟩) hgl _)
          clear hx hm hfr hlj
          go_wp2_with fail
          go_roundw
          case rel => exact ⟨J + 1, by omega, by go_num, HE, HE2, HE3⟩
          case measure => simp [intOf]; omega
        · obtain rfl : J = l.length := by omega
          have HE : Hid (RowAt wr w.heap.size 3 g I (ints pf) ∧ Below w.heap.size w wr) := hide (by
            refine ⟨?_, by rw [hg]; exact HW.out⟩
            have := HA.out
            rw [List.take_length, ← HPl.out] at this
            rw [hg]; exact this)
          go_wp2_with fail
          go_ret
          exact ⟨g, rfl, HE.out.1, HE.out.2⟩
end Go.Proofs.Ytnlcpfijfjbgjaa
namespace Go.Proofs.Ytnlcpfijfjbgjaa
open Go Go.RowKit
open G (Tok Er Ins Fun)
/-- Where a block stands in the order. -/
def atF (f : Fun) (k : Int) : Int := placeL (orderF f) k
theorem placesF_at {f : Fun} {k : Nat} (h : k < f.2.2.2.1.length) : (placesF f)[k]? = some (atF f k) := by
  unfold placesF; rw [List.getElem?_map, List.getElem?_range h]; rfl
end Go.Proofs.Ytnlcpfijfjbgjaa
