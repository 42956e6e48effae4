/- A region that draws its order and holds calls that make memory: one walk of the written order serves every order, where what each operation yields has a property that stays when memory grows. Layer 6: the grammar over a list of words as plain functions, whatever the words' own functions (numbers, names, shapes, operations) are. Memory: what stays as it was but for the reader; the reader and its words. strings.CutPrefix and strings.HasPrefix, where the letters ahead are one. The small functions of the reader: need, peek, take, itself. -/
import Derived.Deep.Quiet
import Derived.Below
import Derived.WalkKit
import Derived.Laws.AppendOwn
import Derived.OwnWalk
import Derived.Lib.OthersKept
import Derived.Test.YtfmeadbiokcboaaDoorProg
import Derived.WalkSpells
import Derived.WalkSmall
import Derived.WalkLawsBesides
import Derived.KernelRfl
import Derived.Deep.QuietTactic
import Derived.BigQuiet
import Derived.RegionTactic
import Derived.BigRegion
import Derived.Deep.Cut
namespace Go.Proofs.YtfmeadbiokcboaaDoor.Mix
open Go Go.RowKit
/-- A property of a value in a world that stays when memory grows. -/
def Up : Type := { p : Value → World → Prop // ∀ v w w', Below w.heap.size w w' → p v w → p v w' }
def Up.eq (c : Value) : Up := ⟨fun v _ => v = c, fun _ _ _ _ h => h⟩
def Up.any : Up := ⟨fun _ _ => True, fun _ _ _ _ h => h⟩
theorem grow_step {a b c : World} (h : Below a.heap.size a b) (k : Below b.heap.size b c) : Below a.heap.size a c := h.trans (k.mono h.size)
section
variable (P : Program) (ops : Array Oper) (W : World) (F : Tmp → Up)
def Fd (dst : Option Tmp) (v : Value) (w : World) : Prop := ∀ d, dst = some d → (F d).1 v w
def Valid (dst : Option Tmp) (v : Value) : Prop := ∃ w, Below W.heap.size W w ∧ Fd F dst v w
def add (dst : Option Tmp) (S : Tmp → Prop) : Tmp → Prop := fun t => dst = some t ∨ S t
def del (dst : Option Tmp) (S : Tmp → Prop) : Tmp → Prop := fun t => dst ≠ some t ∧ S t
def Known (S : Tmp → Prop) (ts : List Tmp) (a : Act) (w : World) : Prop := ∀ t ∈ ts, S t → ∀ v, a.tmps[t]? = some v → (F t).1 v w
def AllK (S : Tmp → Prop) (a : Act) (w : World) : Prop := ∀ t, S t → ∀ v, a.tmps[t]? = some v → (F t).1 v w
def mixUpon (o : Oper) (w : World) : Result Next → Prop
  | .ok (.value v) w' => Below w.heap.size w w' ∧ Fd F o.dst v w'
  | .ok .skip w' => Below w.heap.size w w' ∧ Fd F o.dst undef w'
  | .ok (.enter f args) w' => Calls P f args w' fun e w'' => ∃ v, e = .returned v ∧ Below w.heap.size w w'' ∧ Fd F o.dst v w''
  | .ok (.row row args) w' => Rows P row args w' fun v w'' => Below w.heap.size w w'' ∧ Fd F o.dst v w''
  | _ => False
def mixAt (o : Oper) (a : Act) (S : Tmp → Prop) : Prop := ∀ w, Below W.heap.size W w → Known F S (o.looksAt ops) a w → mixUpon P F o w ((execOp a.eval o).run P w)
def body (o : Oper) (K : Act → (Tmp → Prop) → Prop) (a : Act) (S : Tmp → Prop) : Prop :=
  if Region.wanted o (yielded ops a.tmps) then mixAt P ops W F o a S ∧ ∀ v, Valid W F o.dst v → K (a.put o.dst v) (add o.dst S) else K (a.put o.dst undef) (del o.dst S)
def mOp (i : Nat) (K : Act → (Tmp → Prop) → Prop) (a : Act) (S : Tmp → Prop) : Prop := match ops[i]? with
  | none => K a S
  | some o => body P ops W F o K a S
/-- The walk in the written order. -/
def wpMix (Q : Act → (Tmp → Prop) → Prop) : List Oper → Act → (Tmp → Prop) → Prop
  | [], a, S => Q a S
  | o :: rest, a, S => (Region.wanted o (yielded ops a.tmps) = true → ∃ v, Valid W F o.dst v) ∧ body P ops W F o (wpMix Q rest) a S
/-- Whatever order is picked from here on. -/
def wpAnyM (md : Region.Mode) (Q : Act → (Tmp → Prop) → Prop) : Nat → Array Bool → Act → (Tmp → Prop) → Prop
  | 0, listed, a, S => Region.ready md ops listed = [] ∧ Q a S
  | fuel + 1, listed, a, S =>
    (Region.ready md ops listed = [] → Q a S) ∧
    ∀ i ∈ Region.ready md ops listed, mOp P ops W F i (wpAnyM md Q fuel (listed.setIfInBounds i true)) a S
end
section
variable {P : Program} {ops : Array Oper} {W : World} {F : Tmp → Up} {md : Region.Mode}
theorem put_other {a : Act} {dst : Option Tmp} {v : Value} {t : Tmp} (h : dst ≠ some t) : (a.put dst v).tmps[t]? = a.tmps[t]? := by
  cases dst with
  | none => rfl
  | some d =>
    have : d ≠ t := fun e => h (by rw [e])
    simp [Act.put, this]
theorem put_same {a : Act} {v u : Value} {t : Tmp} (h : (a.put (some t) v).tmps[t]? = some u) : u = v := by
  simp only [Act.put, Array.getElem?_setIfInBounds, if_true] at h
  split at h
  · injection h with h; exact h.symm
  · cases h
theorem AllK.add {S : Tmp → Prop} {a : Act} {w w' : World} {dst : Option Tmp} {v : Value} (h : AllK F S a w) (b : Below w.heap.size w w') (hf : Fd F dst v w') : AllK F (add dst S) (a.put dst v) w' := by
  intro t ht u hu
  by_cases e : dst = some t
  · subst e
    rw [put_same hu]
    exact hf t rfl
  · rw [put_other e] at hu
    rcases ht with ht | ht
    · exact absurd ht e
    · exact (F t).2 _ _ _ b (h t ht u hu)
theorem AllK.del {S : Tmp → Prop} {a : Act} {w : World} {dst : Option Tmp} {v : Value} (h : AllK F S a w) : AllK F (del dst S) (a.put dst v) w := by
  intro t ht u hu
  rw [put_other ht.1] at hu
  exact h t ht.2 u hu
theorem body_mono {o : Oper} {K K' : Act → (Tmp → Prop) → Prop} {a : Act} {S : Tmp → Prop} (h : ∀ a S, K a S → K' a S) (hh : body P ops W F o K a S) : body P ops W F o K' a S := by
  unfold body at *
  split
  · rename_i hw; rw [if_pos hw] at hh; exact ⟨hh.1, fun v hv => h _ _ (hh.2 v hv)⟩
  · rename_i hw; rw [if_neg hw] at hh; exact h _ _ hh
theorem wp_of_body {o : Oper} {a : Act} {S : Tmp → Prop} {K : Act → (Tmp → Prop) → Prop} {K' : Act → World → Prop} {Q' : Exit → Act → World → Prop} {w : World} (hC : Below W.heap.size W w) (hA : AllK F S a w)
    (h : ∀ a' S' w', Below W.heap.size W w' → AllK F S' a' w' → K a' S' → K' a' w') (hm : mixAt P ops W F o a S) (hn : ∀ v, Valid W F o.dst v → K (a.put o.dst v) (add o.dst S)) : o.wp P a w K' Q' := by
  have h3 := hm w hC (fun t _ hs v hv => hA t hs v hv)
  have fin : ∀ v w', Below w.heap.size w w' → Fd F o.dst v w' → K' (a.put o.dst v) w' := fun v w' hb hf =>
    h _ _ _ (grow_step hC hb) (hA.add hb hf) (hn v ⟨w', grow_step hC hb, hf⟩)
  unfold Oper.wp
  generalize (execOp a.eval o).run P w = r at *
  cases r with
  | ok n w' =>
    cases n <;> simp only [mixUpon] at h3 <;> simp only [Oper.upon]
    case value v => exact fin _ _ h3.1 h3.2
    case skip => exact fin _ _ h3.1 h3.2
    case enter f args => exact h3.mono fun e w'' ⟨v, he, hb, hf⟩ => by subst he; exact fin _ _ hb hf
    case row row args => exact h3.mono fun v w'' ⟨hb, hf⟩ => fin _ _ hb hf
  | halt x w' => simp only [mixUpon] at h3
theorem wpAny_of_mix {Q : Act → (Tmp → Prop) → Prop} {Q' : Exit → Act → World → Prop} (hQ : ∀ a S w, Below W.heap.size W w → AllK F S a w → Q a S → Q' .normal a w) : ∀ (fuel : Nat) (listed : Array Bool) (a : Act) (S : Tmp → Prop) (w : World), Below W.heap.size W w → AllK F S a w →
    wpAnyM P ops W F md Q fuel listed a S → wpAny P md ops Q' fuel listed a w
  | 0, _, _, _, _, hC, hA, h => ⟨h.1, hQ _ _ _ hC hA h.2⟩
  | fuel + 1, listed, a, S, w, hC, hA, h => ⟨fun h0 => hQ _ _ _ hC hA (h.1 h0), fun i hi => by
      have hh := h.2 i hi
      unfold mOp at hh
      unfold wpOp
      split
      · rename_i ho; simp only [ho] at hh; exact wpAny_of_mix hQ fuel _ _ _ _ hC hA hh
      · rename_i o ho
        simp only [ho] at hh
        unfold body at hh
        split
        · rename_i hw
          rw [if_pos hw] at hh
          exact .inl (wp_of_body hC hA (fun a' S' w' c k q => wpAny_of_mix hQ fuel _ _ _ _ c k q) hh.1 hh.2)
        · rename_i hw
          rw [if_neg hw] at hh
          exact wpAny_of_mix hQ fuel _ _ _ _ hC hA.del hh⟩
/-- What an operation needs is not moved by a value that it does not look at. -/
theorem mix_move {o : Oper} (hs : ∀ cs b, o.op ≠ .select cs b) {a : Act} {dst : Option Tmp} {v : Value} {S S' : Tmp → Prop} (hd : ∀ d, dst = some d → d ∉ o.looksAt ops) (hS : ∀ t, dst ≠ some t → (S' t ↔ S t)) : mixAt P ops W F o (a.put dst v) S' ↔ mixAt P ops W F o a S := by
  have e := execOp_put (ops := ops) o hs a dst v hd
  have ne : ∀ t, t ∈ o.looksAt ops → dst ≠ some t := fun t ht e => hd t e ht
  unfold mixAt
  rw [e]
  constructor
  · intro h w hC hK
    refine h w hC fun t ht hs v hv => ?_
    rw [put_other (ne t ht)] at hv
    exact hK t ht ((hS t (ne t ht)).1 hs) v hv
  · intro h w hC hK
    refine h w hC fun t ht hs v hv => ?_
    exact hK t ht ((hS t (ne t ht)).2 hs) v (by rw [put_other (ne t ht)]; exact hv)
theorem add_iff {dst : Option Tmp} {S : Tmp → Prop} : ∀ t, dst ≠ some t → (add dst S t ↔ S t) := fun _ h => ⟨fun k => k.resolve_left h, .inr⟩
theorem del_iff {dst : Option Tmp} {S : Tmp → Prop} : ∀ t, dst ≠ some t → (del dst S t ↔ S t) := fun _ h => ⟨fun k => k.2, fun k => ⟨h, k⟩⟩
theorem add_add (x y : Option Tmp) (S : Tmp → Prop) : add x (add y S) = add y (add x S) := by
  funext t; unfold add; exact propext or_left_comm
theorem del_del (x y : Option Tmp) (S : Tmp → Prop) : del x (del y S) = del y (del x S) := by
  funext t; unfold del; exact propext and_left_comm
theorem add_del {x y : Option Tmp} (h : ∀ d, x = some d → y ≠ some d) (S : Tmp → Prop) : add x (del y S) = del y (add x S) := by
  funext t; unfold add del
  refine propext ⟨?_, ?_⟩
  · rintro (e | ⟨h1, h2⟩)
    · exact ⟨h t e, .inl e⟩
    · exact ⟨h1, .inr h2⟩
  · rintro ⟨h1, e | h2⟩
    · exact .inl e
    · exact .inr ⟨h1, h2⟩
theorem body_swap {oi oj : Oper} (hap : oi.apart ops oj = true) (hsi : ∀ cs b, oi.op ≠ .select cs b) (hsj : ∀ cs b, oj.op ≠ .select cs b) {K : Act → (Tmp → Prop) → Prop} {a : Act} {S : Tmp → Prop}
    (hex : Region.wanted oi (yielded ops a.tmps) = true → ∃ v, Valid W F oi.dst v) (h : body P ops W F oi (fun a' S' => body P ops W F oj K a' S') a S) : body P ops W F oj (fun a' S' => body P ops W F oi K a' S') a S := by
  obtain ⟨h1, h2, h3⟩ := Oper.apart_spec hap
  have h2' : ∀ d, oj.dst = some d → oi.dst ≠ some d := fun d e e2 => h2 d e2 e
  unfold body at *
  by_cases wi : Region.wanted oi (yielded ops a.tmps) = true
  · rw [if_pos wi] at h
    obtain ⟨m1, n1⟩ := h
    obtain ⟨v0, hv0⟩ := hex wi
    by_cases wj : Region.wanted oj (yielded ops a.tmps) = true
    · rw [if_pos wj]
      refine ⟨?_, fun u hu => ?_⟩
      · have := n1 v0 hv0
        dsimp only at this
        rw [wanted_put oj a oi.dst v0 h1, if_pos wj] at this
        exact (mix_move hsj h1 add_iff).1 this.1
      · dsimp only
        rw [wanted_put oi a oj.dst u h3, if_pos wi]
        refine ⟨(mix_move hsi h3 add_iff).2 m1, fun v hv => ?_⟩
        have := n1 v hv
        dsimp only at this
        rw [wanted_put oj a oi.dst v h1, if_pos wj] at this
        have := this.2 u hu
        rw [Act.put_comm a v u h2, add_add] at this
        exact this
    · rw [if_neg wj]
      dsimp only
      rw [wanted_put oi a oj.dst undef h3, if_pos wi]
      refine ⟨(mix_move hsi h3 del_iff).2 m1, fun v hv => ?_⟩
      have := n1 v hv
      dsimp only at this
      rw [wanted_put oj a oi.dst v h1, if_neg wj, Act.put_comm a v undef h2, ← add_del h2] at this
      exact this
  · rw [if_neg wi] at h
    rw [wanted_put oj a oi.dst undef h1] at h
    by_cases wj : Region.wanted oj (yielded ops a.tmps) = true
    · rw [if_pos wj] at h ⊢
      refine ⟨(mix_move hsj h1 del_iff).1 h.1, fun u hu => ?_⟩
      dsimp only
      rw [wanted_put oi a oj.dst u h3, if_neg wi]
      have := h.2 u hu
      rw [Act.put_comm a undef u h2, add_del h2'] at this
      exact this
    · rw [if_neg wj] at h ⊢
      dsimp only
      rw [wanted_put oi a oj.dst undef h3, if_neg wi]
      rw [Act.put_comm a undef undef h2, del_del] at h
      exact h
theorem wanted_body {o : Oper} {K : Act → (Tmp → Prop) → Prop} {a : Act} {S : Tmp → Prop} {A : Act → Prop} (hu : ∀ u, A (a.put o.dst u)) (hh : body P ops W F o K a S) : body P ops W F o (fun a' S' => A a' ∧ K a' S') a S := by
  unfold body at *
  split
  · rename_i hw; rw [if_pos hw] at hh; exact ⟨hh.1, fun v hv => ⟨hu v, hh.2 v hv⟩⟩
  · rename_i hw; rw [if_neg hw] at hh; exact ⟨hu _, hh⟩
/-- An operation that may come up now may be taken first. -/
theorem wpAnyM_first {Q : Act → (Tmp → Prop) → Prop} {i : Nat} {oi : Oper} (hi : ops[i]? = some oi) (hsel : ∀ (j : Nat) (o : Oper) cs b, ops[j]? = some o → o.op ≠ .select cs b) :
    ∀ (fuel : Nat) (listed : Array Bool) (a : Act) (S : Tmp → Prop),
      (∀ j oj, ops[j]? = some oj → j ≠ i → listed.getD j true = false → (∀ e ∈ oj.after, Region.binds md e = true → e.on ≠ i) → oi.apart ops oj = true) →
      i ∈ Region.ready md ops listed → (Region.wanted oi (yielded ops a.tmps) = true → ∃ v, Valid W F oi.dst v) →
      body P ops W F oi (wpAnyM P ops W F md Q fuel (listed.setIfInBounds i true)) a S → wpAnyM P ops W F md Q (fuel + 1) listed a S := by
  intro fuel
  induction fuel with
  | zero =>
    intro listed a S _ hr hex H
    refine ⟨fun h => (by rw [h] at hr; cases hr), fun j hj => ?_⟩
    by_cases hji : j = i
    · subst hji; unfold mOp; simp only [hi]; exact H
    · have hno := ready_mono hj hji
      have : Region.ready md ops (listed.setIfInBounds i true) = [] := by
        unfold body at H
        split at H
        · rename_i hw
          obtain ⟨v, hv⟩ := hex hw
          exact (H.2 v hv).1
        · exact H.1
      rw [this] at hno
      cases hno
  | succ fuel ih =>
    intro listed a S hfree hr hex H
    refine ⟨fun h => (by rw [h] at hr; cases hr), fun j hj => ?_⟩
    by_cases hji : j = i
    · subst hji; unfold mOp; simp only [hi]; exact H
    · obtain ⟨hjun, oj, hoj, hall⟩ := mem_ready.1 hj
      have hnot : ∀ e ∈ oj.after, Region.binds md e = true → e.on ≠ i := fun e he hb heq => by
        have h1 := hall e he hb
        have h0 := (mem_ready.1 hr).1
        rw [heq] at h1
        rcases Nat.lt_or_ge i listed.size with h' | h'
        · simp [h'] at h0 h1; rw [h0] at h1; cases h1
        · simp [Array.getElem?_eq_none h'] at h1
      have hap := hfree j oj hoj hji hjun hnot
      obtain ⟨_, _, h3⟩ := Oper.apart_spec hap
      have H1 : body P ops W F oi (fun a' S' => body P ops W F oj (wpAnyM P ops W F md Q fuel ((listed.setIfInBounds i true).setIfInBounds j true)) a' S') a S := body_mono (fun a' S' h => by
        have := h.2 j (ready_mono hj hji)
        unfold mOp at this
        simp only [hoj] at this
        exact this) H
      have H2 := body_swap hap (fun cs b => hsel i oi cs b hi) (fun cs b => hsel j oj cs b hoj) hex H1
      have H3 := wanted_body (A := fun a' => Region.wanted oi (yielded ops a'.tmps) = true → ∃ v, Valid W F oi.dst v) (fun u => by rw [wanted_put oi a oj.dst u h3]; exact hex) H2
      have hfree' : ∀ k ok, ops[k]? = some ok → k ≠ i → (listed.setIfInBounds j true).getD k true = false →
          (∀ e ∈ ok.after, Region.binds md e = true → e.on ≠ i) → oi.apart ops ok = true := fun k ok hk hki hun hno => by
        refine hfree k ok hk hki ?_ hno
        by_cases hjk : j = k
        · subst hjk; exact hjun
        · rw [getD_set_ne true hjk] at hun; exact hun
      unfold mOp
      simp only [hoj]
      refine body_mono (fun a' S' h => ih (listed.setIfInBounds j true) a' S' hfree' (ready_mono hr (Ne.symm hji)) h.1 ?_) H3
      rw [Array.setIfInBounds_comm _ _ hji]
      exact h.2
theorem wpAnyM_lex {Q : Act → (Tmp → Prop) → Prop} (hs : Region.noSelect ops = true) : ∀ (l : List Oper) (k : Nat) (listed : Array Bool) (a : Act) (S : Tmp → Prop), (∀ j, l[j]? = ops[k + j]?) →
    Region.lexFrom md ops l.length k listed = true → wpMix P ops W F Q l a S → wpAnyM P ops W F md Q l.length listed a S
  | [], _, _, _, _, _, hB, h => ⟨by simpa [Region.lexFrom] using hB, h⟩
  | o :: l, k, listed, a, S, hl, hB, h => by
    have h0 : ops[k]? = some o := by simpa using (hl 0).symm
    simp only [List.length_cons, Region.lexFrom, Bool.and_eq_true] at hB
    obtain ⟨⟨hr, hf⟩, hB'⟩ := hB
    refine wpAnyM_first h0 (Region.noSelect_spec hs) l.length listed a S (Region.free_spec h0 hf) (by simpa using hr) h.1 ?_
    exact body_mono (fun a' S' q => wpAnyM_lex hs l (k + 1) _ _ _ (fun j => by have := hl (j + 1); simpa [Nat.add_assoc, Nat.add_comm 1 j] using this) hB' q) h.2
/-- One walk of the written order serves every order. -/
theorem wp_region_mix {id : Nat} {Q : Exit → Act → World → Prop} {a : Act} {l : List Oper} (F : Tmp → Up) (hm : P.follows .mixedOrders = true) (hB : Region.lexB .any l.toArray = true)
    (h : wpMix P l.toArray W F (fun a' S => ∀ w', Below W.heap.size W w' → AllK F S a' w' → Q .normal a' w') l a (fun _ => False)) : (Code.region id l.toArray true).wp P Q a W := by
  simp only [Region.lexB, Bool.and_eq_true] at hB
  refine wp_region_any hm (wpAny_of_mix (W := W) (F := F) (Q := fun a' S => ∀ w', Below W.heap.size W w' → AllK F S a' w' → Q .normal a' w') (fun _ _ w' hC hA h => h w' hC hA) _ _ _ (fun _ => False) _ (Below.refl _ _).drew (fun t ht => ht.elim) ?_)
  have := wpAnyM_lex (W := W) (F := F) (md := .any) hB.1 l 0 (Array.replicate l.toArray.size false) a (fun _ => False) (by simp) (by simpa using hB.2) h
  simpa using this
theorem mix_nil {Q : Act → (Tmp → Prop) → Prop} {a : Act} {S : Tmp → Prop} (h : Q a S) : wpMix P ops W F Q [] a S := h
theorem mix_step {Q : Act → (Tmp → Prop) → Prop} {a : Act} {S : Tmp → Prop} {o : Oper} {rest : List Oper} (hw : Region.wanted o (yielded ops a.tmps) = true) (hex : ∃ v, Valid W F o.dst v)
    (hm : ∀ w, Below W.heap.size W w → Known F S (o.looksAt ops) a w → mixUpon P F o w ((execOp a.eval o).run P w)) (h : ∀ v, Valid W F o.dst v → wpMix P ops W F Q rest (a.put o.dst v) (add o.dst S)) : wpMix P ops W F Q (o :: rest) a S := by
  refine ⟨fun _ => hex, ?_⟩
  unfold body
  rw [if_pos hw]
  exact ⟨hm, h⟩
end
end Go.Proofs.YtfmeadbiokcboaaDoor.Mix
namespace Go.Proofs.YtfmeadbiokcboaaDoor.G
abbrev Tok := List UInt8 × Int
abbrev Er := Int × Int
/-- Op, Id, N, Type, Args, To, Name, At. -/
abbrev Ins := Int × Int × Int × Int × List Int × List Int × List UInt8 × Int
/-- Name, Params, Ret, Blocks, At. -/
abbrev Fun := List UInt8 × List Int × Int × List (List Ins) × Int
/-- What reading a part of the words answers: what is wrong, or the part and the words behind it. -/
abbrev Rd (α : Type) := List Tok → Except Er (α × List Tok)
def andThen {α β : Type} (x : Except Er (α × List Tok)) (f : α → Rd β) : Except Er (β × List Tok) :=
  match x with
  | .ok (v, r) => f v r
  | .error e => .error e
def peek0 : List Tok → List UInt8
  | [] => []
  | t :: _ => t.1
def peek1 : List Tok → List UInt8
  | _ :: t :: _ => t.1
  | _ => []
def atOf (E : Int) : List Tok → Int
  | [] => E
  | t :: _ => t.2
/-- A reader that looks at one word and takes it away: what it makes of the word; else the code. -/
def one {α : Type} (f : List UInt8 → Option α) (c : List UInt8 → Int) (E : Int) : Rd α := fun l =>
  match f (peek0 l) with
  | some v => .ok (v, l.tail)
  | none => .error (c (peek0 l), atOf E l)
def want (E : Int) (w : List UInt8) : Rd Unit := one (fun s => if s = w then some () else none) (fun _ => 2) E
def name (nam : List UInt8 → Bool) (E : Int) : Rd (List UInt8) := one (fun s => if nam s then some s else none) (fun _ => 4) E
/-- A sign and a number behind it. -/
def mark (idx : List UInt8 → Int → Option Int) (sign : UInt8) (most : Int) (s : List UInt8) : Option Int :=
  match s with
  | x :: y :: r => if x = sign then idx (y :: r) most else none
  | _ => none
def index (idx : List UInt8 → Int → Option Int) (sign : UInt8) (most c E : Int) : Rd Int := one (mark idx sign most) (fun _ => c) E
def value (idx : List UInt8 → Int → Option Int) (E : Int) : Rd Int := index idx 37 1048576 8 E
def label (idx : List UInt8 → Int → Option Int) (E : Int) : Rd Int := index idx 98 255 7 E
def number (num : List UInt8 → Int × Int) (E lo hi : Int) : Rd Int :=
  one (fun s => if (num s).2 ≠ 0 ∨ (num s).1 < lo ∨ hi < (num s).1 then none else some (num s).1) (fun s => if (num s).2 ≠ 0 then (num s).2 else 18) E
def anyNum (num : List UInt8 → Int × Int) (E : Int) : Rd Int := one (fun s => if (num s).2 ≠ 0 then none else some (num s).1) (fun s => (num s).2) E
def shaped (shp : List UInt8 → Int) (E : Int) : Rd (List UInt8) := one (fun s => if shp s ≠ 0 then none else some s) shp E
def taken (l : List Tok) : Bool := (peek0 l).head? == some 37 && peek1 l != [61]
def paired (l : List Tok) : Bool := (peek0 l).head? == some 98 && peek0 l != [98, 114] && peek1 l != [58]
/-- Values, as long as one that is taken stands next. -/
def valuesW (idx : List UInt8 → Int → Option Int) (E : Int) : Nat → List Int → Rd (List Int)
  | 0, acc => fun l => .ok (acc, l)
  | f + 1, acc => fun l => if taken l then andThen (value idx E l) fun v => valuesW idx E f (acc ++ [v]) else .ok (acc, l)
def values (idx : List UInt8 → Int → Option Int) (E : Int) : Rd (List Int) := fun l => valuesW idx E (l.length + 1) [] l
/-- So many values. -/
def valuesN (idx : List UInt8 → Int → Option Int) (E : Int) : Nat → List Int → Rd (List Int)
  | 0, acc => fun l => .ok (acc, l)
  | f + 1, acc => fun l => andThen (value idx E l) fun v => valuesN idx E f (acc ++ [v])
/-- Pairs of a label and a value: one at least. -/
def phiW (idx : List UInt8 → Int → Option Int) (E : Int) : Nat → List Int → List Int → Rd (List Int × List Int)
  | 0, to, args => fun l => .ok ((to, args), l)
  | f + 1, to, args => fun l =>
    if to = [] ∨ paired l = true then andThen (label idx E l) fun b r => andThen (value idx E r) fun v => phiW idx E f (to ++ [b]) (args ++ [v])
    else .ok ((to, args), l)
def phi (idx : List UInt8 → Int → Option Int) (E : Int) : Rd (List Int × List Int) := fun l => phiW idx E (l.length + 1) [] [] l
/-- What stands behind an operation's word: N, Args, To, Name. -/
abbrev Opd := Int × List Int × List Int × List UInt8
def done {α : Type} (v : α) : Rd α := fun l => .ok (v, l)
def ret1 (idx : List UInt8 → Int → Option Int) (E : Int) : Rd Opd := fun l =>
  if taken l then andThen (value idx E l) fun v => done (0, [v], [], []) else .ok ((0, [], [], []), l)
/-- The number behind a call's sign, where it stands; else 0. -/
def spot (idx : List UInt8 → Int → Option Int) (E : Int) : Rd Int := fun l =>
  if (peek0 l).head? = some 64 then index idx 64 1048576 3 E l else .ok (0, l)
/-- An instruction's value, where one stands; else -1. -/
def ident (idx : List UInt8 → Int → Option Int) (E : Int) : Rd Int := fun l =>
  if peek1 l = [61] then andThen (value idx E l) fun v r => andThen (want E [61] r) fun _ => done v else .ok (-1, l)
section
variable (num : List UInt8 → Int × Int) (idx : List UInt8 → Int → Option Int) (nam : List UInt8 → Bool) (shp : List UInt8 → Int) (tks : Int → Nat)
def operands (E op : Int) : Rd Opd := fun l =>
  if op = 1 then andThen (anyNum num E l) fun x => done (x, [], [], [])
  else if op = 29 then andThen (number num E 0 255 l) fun x => done (x, [], [], [])
  else if op = 10 then andThen (shaped shp E l) fun s => done (0, [], [], s)
  else if op = 20 then andThen (phi idx E l) fun x => done (0, x.2, x.1, [])
  else if op = 21 then andThen (spot idx E l) fun n r => andThen (name nam E r) fun s r => andThen (values idx E r) fun a => done (n, a, [], s)
  else if op = 28 then ret1 idx E l
  else if op = 11 ∨ op = 12 ∨ op = 15 then andThen (value idx E l) fun v r => andThen (number num E 0 15 r) fun x => done (x, [v], [], [])
  else if op = 13 ∨ op = 14 then andThen (value idx E l) fun v r => andThen (number num E 0 15 r) fun x r => andThen (value idx E r) fun u => done (x, [v, u], [], [])
  else if op = 23 then andThen (number num E 0 1048576 l) fun x => done (x, [], [], [])
  else if op = 24 then andThen (value idx E l) fun v r => andThen (number num E 0 1048576 r) fun x => done (x, [v], [], [])
  else if op = 26 then andThen (label idx E l) fun b => done (0, [], [b], [])
  else if op = 27 then andThen (value idx E l) fun v r => andThen (label idx E r) fun b r => andThen (label idx E r) fun c => done (0, [v], [b, c], [])
  else andThen (valuesN idx E (tks op) [] l) fun a => done (0, a, [], [])
variable (fnd : List UInt8 → Int × Int) (mks : Int → Int → Int) (prt : Nat → List UInt8 → Bool)
/-- The operation's word behind a value: the operation and the type. -/
def opword (E id : Int) : Rd (Int × Int) :=
  one (fun s => if (fnd s).1 = 0 ∨ decide (mks (fnd s).1 (fnd s).2 ≠ 0) ≠ decide (0 ≤ id) then none else some (fnd s)) (fun s => if (fnd s).1 = 0 then 2 else 8) E
def start (E : Int) : Rd (Int × Int × Int) := fun l => andThen (ident idx E l) fun i r => andThen (opword fnd mks E i r) fun o => done (i, o.1, o.2)
def instrA (E a : Int) : Rd Ins := fun l =>
  andThen (start idx fnd mks E l) fun x r => andThen (operands num idx nam shp tks E x.2.1 r) fun y => done (x.2.1, x.1, y.1, x.2.2, y.2.1, y.2.2.1, y.2.2.2, a)
def instr (E : Int) : Rd Ins := fun l => instrA num idx nam shp tks fnd mks E (atOf E l) l
/-- A block's instructions; how many there were ahead of each. -/
def insW (E : Int) : Nat → Nat → List Ins → Rd (List Ins × Nat)
  | 0, n, acc => fun l => .ok ((acc, n), l)
  | f + 1, n, acc => fun l =>
    if peek0 l = [125] ∨ peek1 l = [58] then .ok ((acc, n), l)
    else if 4096 ≤ n then .error (6, atOf E l)
    else andThen (instr num idx nam shp tks fnd mks E l) fun x => insW E f (n + 1) (acc ++ [x])
def body (E : Int) (n : Nat) : Rd (List Ins × Nat) := fun l => insW num idx nam shp tks fnd mks E (l.length + 1) n [] l
/-- A block's own label. -/
def head (E : Int) (k : Nat) : Rd Unit := one (fun s => if 256 ≤ k ∨ s = [] ∨ prt k s = false then none else some ()) (fun _ => if 256 ≤ k then 6 else 7) E
def block (E : Int) (k n : Nat) : Rd (List Ins × Nat) := fun l =>
  andThen (head prt E k l) fun _ r => andThen (want E [58] r) fun _ => body num idx nam shp tks fnd mks E n
def blkW (E : Int) : Nat → Nat → List (List Ins) → Rd (List (List Ins) × Nat)
  | 0, n, acc => fun l => .ok ((acc, n), l)
  | f + 1, n, acc => fun l =>
    if peek0 l = [125] then .ok ((acc, n), l)
    else andThen (block num idx nam shp tks fnd mks prt E acc.length n l) fun x => blkW E f x.2 (acc ++ [x.1])
def blocks (E : Int) (n : Nat) : Rd (List (List Ins) × Nat) := fun l => blkW num idx nam shp tks fnd mks prt E (l.length + 1) n [] l
def kind (s : List UInt8) : Int := if s = [110] then 0 else if s = [105] then 1 else if s = [112] then 2 else -1
def param (E : Int) (k : Nat) : Rd Int := one (fun s => if kind s < 1 ∨ 8 ≤ k then none else some (kind s)) (fun s => if kind s < 1 then 9 else 6) E
def parW (E : Int) : Nat → List Int → Rd (List Int)
  | 0, acc => fun l => .ok (acc, l)
  | f + 1, acc => fun l => if peek0 l = [41] then .ok (acc, l) else andThen (param E acc.length l) fun t => parW E f (acc ++ [t])
def params (E : Int) : Rd (List Int) := fun l => parW E (l.length + 1) [] l
def answer (E : Int) : Rd Int := one (fun s => if kind s < 0 then none else some (kind s)) (fun _ => 9) E
def function (E : Int) (n : Nat) : Rd (Fun × Nat) := fun l =>
  andThen (want E [102, 117, 110, 99] l) fun _ r => andThen (name nam E r) fun s r => andThen (want E [40] r) fun _ r => andThen (params E r) fun p r => andThen (want E [41] r) fun _ r =>
  andThen (answer E r) fun t r => andThen (want E [123] r) fun _ r => andThen (blocks num idx nam shp tks fnd mks prt E n r) fun b r => andThen (want E [125] r) fun _ => done ((s, p, t, b.1, atOf E l), b.2)
def funW (E : Int) : Nat → Nat → List Fun → Rd (List Fun × Nat)
  | 0, n, acc => fun l => .ok ((acc, n), l)
  | f + 1, n, acc => fun l =>
    if l = [] then .ok ((acc, n), l)
    else if 32 ≤ acc.length then .error (6, atOf E l)
    else andThen (function num idx nam shp tks fnd mks prt E n l) fun x => funW E f x.2 (acc ++ [x.1])
/-- The program that words are, or what is wrong first, and where. -/
def program (E : Int) : Rd (List Fun × Nat) := fun l => funW num idx nam shp tks fnd mks prt E (l.length + 1) 0 [] l
end
/-! ### What is read is read alike where other words stand behind, and where the words stand elsewhere -/
def sh (d : Int) (l : List Tok) : List Tok := l.map fun t => (t.1, t.2 + d)
theorem peek0_sh {d : Int} {l m : List Tok} (h : l ≠ []) : peek0 (sh d l ++ m) = peek0 l := by
  cases l with
  | nil => exact absurd rfl h
  | cons t r => rfl
theorem peek1_sh {d : Int} {l m : List Tok} (h : l.tail ≠ []) : peek1 (sh d l ++ m) = peek1 l := by
  match l, h with
  | a :: b :: r, _ => rfl
  | [_], h => exact absurd rfl h
  | [], h => exact absurd rfl h
theorem tail_sh {d : Int} {l m : List Tok} (h : l ≠ []) : (sh d l ++ m).tail = sh d l.tail ++ m := by
  cases l with
  | nil => exact absurd rfl h
  | cons t r => rfl
theorem ne_of_tail {l : List Tok} (h : l.tail ≠ []) : l ≠ [] := fun e => by subst e; exact h rfl
theorem ne_of_suffix {r l : List Tok} (h : r <:+ l) (hr : r ≠ []) : l ≠ [] := fun e => by
  subst e; exact hr (List.eq_nil_of_suffix_nil h)
/-- What F reads, F' reads alike in the longer list, where something is left. -/
def Sim {α β : Type} (d : Int) (m : List Tok) (g : α → β) (F : Rd α) (F' : Rd β) : Prop :=
  ∀ l v r, F l = .ok (v, r) → r <:+ l ∧ (r ≠ [] → F' (sh d l ++ m) = .ok (g v, sh d r ++ m))
/-- The same, and at least one word is taken away, and nothing is looked at ahead. -/
def Eats {α : Type} (F : Rd α) : Prop := ∀ l v r, F l = .ok (v, r) → l ≠ [] ∧ r <:+ l.tail
theorem Sim.done {α β : Type} {d : Int} {m : List Tok} {g : α → β} {v : α} {v' : β} (h : g v = v') : Sim d m g (done v) (done v') := by
  intro l u r h1
  cases h1
  exact ⟨List.suffix_refl _, fun _ => by rw [h]; rfl⟩
theorem Sim.then {α β γ δ : Type} {d : Int} {m : List Tok} {g : α → β} {k : γ → δ} {F : Rd α} {F' : Rd β} {G : α → Rd γ} {G' : β → Rd δ} (hF : Sim d m g F F') (hG : ∀ v, Sim d m k (G v) (G' (g v))) :
    Sim d m k (fun l => andThen (F l) G) (fun l => andThen (F' l) G') := by
  intro l v r h
  replace h : andThen (F l) G = .ok (v, r) := h
  cases e : F l with
  | error x => rw [e] at h; cases h
  | ok p =>
    obtain ⟨u, q⟩ := p
    rw [e] at h
    obtain ⟨s1, c1⟩ := hF l u q e
    obtain ⟨s2, c2⟩ := hG u q v r h
    refine ⟨s2.trans s1, fun hr => ?_⟩
    show andThen (F' (sh d l ++ m)) G' = _
    rw [c1 (ne_of_suffix s2 hr)]
    exact c2 hr
theorem one_ok {α : Type} {f : List UInt8 → Option α} {c : List UInt8 → Int} {E : Int} (h0 : f [] = none) {l r : List Tok} {v : α} (h : one f c E l = .ok (v, r)) : l ≠ [] ∧ r = l.tail ∧ f (peek0 l) = some v := by
  unfold one at h
  cases e : f (peek0 l) with
  | none => rw [e] at h; cases h
  | some u =>
    rw [e] at h
    cases h
    refine ⟨fun e2 => ?_, rfl, rfl⟩
    subst e2
    exact absurd (h0.symm.trans e) (by simp)
theorem Sim.one {α : Type} {d : Int} {m : List Tok} {f : List UInt8 → Option α} {c c' : List UInt8 → Int} {E E' : Int} (h0 : f [] = none) : Sim d m id (one f c E) (one f c' E') := by
  intro l v r h
  obtain ⟨hl, rfl, hv⟩ := one_ok h0 h
  refine ⟨List.tail_suffix l, fun _ => ?_⟩
  unfold G.one
  rw [peek0_sh hl, hv, tail_sh hl]; rfl
theorem Eats.one {α : Type} {f : List UInt8 → Option α} {c : List UInt8 → Int} {E : Int} (h0 : f [] = none) : Eats (one f c E) := by
  intro l v r h
  obtain ⟨hl, rfl, _⟩ := one_ok h0 h
  exact ⟨hl, List.suffix_refl _⟩
section
variable {d : Int} {m : List Tok} {E E' : Int} {num : List UInt8 → Int × Int} {idx : List UInt8 → Int → Option Int} {nam : List UInt8 → Bool} {shp : List UInt8 → Int} {tks : Int → Nat} {fnd : List UInt8 → Int × Int} {mks : Int → Int → Int} {prt : Nat → List UInt8 → Bool}
theorem want_none {w : List UInt8} (hw : w ≠ []) : (fun s => if s = w then some () else none) ([] : List UInt8) = none := by
  show (if [] = w then some () else none) = none
  rw [if_neg (fun e => hw e.symm)]
theorem want_sim {w : List UInt8} (hw : w ≠ []) : Sim d m id (want E w) (want E' w) := Sim.one (want_none hw)
theorem index_sim {sign : UInt8} {most c : Int} : Sim d m id (index idx sign most c E) (index idx sign most c E') := Sim.one (f := mark idx sign most) rfl
theorem index_ok {sign : UInt8} {most c n : Int} {l r : List Tok} (h : index idx sign most c E l = .ok (n, r)) : l ≠ [] ∧ r = l.tail ∧ mark idx sign most (peek0 l) = some n := one_ok (f := mark idx sign most) rfl h
theorem value_ok {n : Int} {l r : List Tok} (h : value idx E l = .ok (n, r)) : l ≠ [] ∧ r = l.tail ∧ mark idx 37 1048576 (peek0 l) = some n := index_ok h
theorem label_ok {n : Int} {l r : List Tok} (h : label idx E l = .ok (n, r)) : l ≠ [] ∧ r = l.tail ∧ mark idx 98 255 (peek0 l) = some n := index_ok h
theorem value_sim : Sim d m id (value idx E) (value idx E') := index_sim
theorem label_sim : Sim d m id (label idx E) (label idx E') := index_sim
theorem name_sim (hn : nam [] = false) : Sim d m id (name nam E) (name nam E') := Sim.one (by simp [hn])
theorem number_sim {lo hi : Int} (hn : (num []).2 ≠ 0) : Sim d m id (number num E lo hi) (number num E' lo hi) := Sim.one (by simp [hn])
theorem anyNum_sim (hn : (num []).2 ≠ 0) : Sim d m id (anyNum num E) (anyNum num E') := Sim.one (by simp [hn])
theorem shaped_sim (hn : shp [] ≠ 0) : Sim d m id (shaped shp E) (shaped shp E') := Sim.one (by simp [hn])
theorem param_sim {k : Nat} : Sim d m id (param E k) (param E' k) := Sim.one (by simp [kind])
theorem param_eats {k : Nat} : Eats (param E k) := Eats.one (by simp [kind])
theorem answer_sim : Sim d m id (answer E) (answer E') := Sim.one (by simp [kind])
end
end Go.Proofs.YtfmeadbiokcboaaDoor.G
namespace Go.Proofs.YtfmeadbiokcboaaDoor
open Go Go.RowKit
open G (Tok Er Ins Fun peek0 peek1 atOf)
theorem hide {p : Prop} (h : p) : Hid p := h
/-- A text's bytes as a string. -/
def bs (l : List UInt8) : ByteArray := ⟨l.toArray⟩
theorem bs_data (l : List UInt8) : (bs l).data.toList = l := by simp [bs]
theorem bs_size (l : List UInt8) : (bs l).size = l.length := by simp [bs, ByteArray.size]
theorem bs_of (s : ByteArray) : bs s.data.toList = s := by cases s; simp [bs]
theorem own_base {b b' e s n : Nat} {v : Value} {xs : List Value} {w : World} (h : w.ownsRow b e s v n xs) (hb : b' ≤ b) : w.ownsRow b' e s v n xs := by
  refine ⟨h.1, ?_⟩
  rcases h.2 with hn | ⟨g, cap, cur, hv2, hb2, rest⟩
  · exact .inl hn
  · exact .inr ⟨g, cap, cur, hv2, by omega, rest⟩
/-- What an owned list's block holds. -/
theorem own_kind {b e s n : Nat} {v : Value} {xs : List Value} {w : World} (h : w.ownsRow b e s v n xs) {g : Nat} (hg : v.ownBlock = some g) : ∃ c, w.heap[g]? = some (.cells c e (0, 0)) := by
  rcases h.2 with ⟨rfl, _⟩ | ⟨g', cap, cur, rfl, _, hh, _⟩
  · simp [Value.ownBlock] at hg
  · simp [Value.ownBlock] at hg
    subst hg
    exact ⟨cur, hh⟩
/-- A block of another type is not an owned list's. -/
theorem own_ne {b e s n g : Nat} {v : Value} {xs : List Value} {w : World} (h : w.ownsRow b e s v n xs) {c : Array Value} {t : TypeId} {fz : Nat × Nat} (hg : w.heap[g]? = some (.cells c t fz)) (ht : t ≠ e) : v.ownBlock ≠ some g := by
  intro hv
  obtain ⟨c2, h2⟩ := own_kind h hv
  rw [hg] at h2
  simp at h2
  exact ht h2.2.1
/-- Lists of different types are in different blocks. -/
theorem own_apart {b e s n b2 e2 s2 n2 : Nat} {v v2 : Value} {xs xs2 : List Value} {w : World} (h : w.ownsRow b e s v n xs) (h2 : w.ownsRow b2 e2 s2 v2 n2 xs2) (ht : e ≠ e2) : v.ownBlock = none ∨ v.ownBlock ≠ v2.ownBlock := by
  cases hv : v.ownBlock with
  | none => exact .inl rfl
  | some g =>
    refine .inr fun e => ?_
    obtain ⟨c, hc⟩ := own_kind h hv
    exact own_ne h2 hc ht e.symm
/-- The cells of words: each one's text and where it begins. -/
def cellsK : List Tok → List Value
  | [] => []
  | t :: r => .string (bs t.1) :: .int .i64 t.2 :: cellsK r
theorem cellsK_at : ∀ (L : List Tok) (j : Nat) (t : Tok), L[j]? = some t → (cellsK L)[2 * j]? = some (.string (bs t.1)) ∧ (cellsK L)[2 * j + 1]? = some (.int .i64 t.2) := by
  intro L
  induction L with
  | nil => intro j t h; simp at h
  | cons x r ih =>
    intro j t h
    cases j with
    | zero => simp at h; subst h; exact ⟨rfl, rfl⟩
    | succ j =>
      simp at h
      have := ih j t h
      rw [show 2 * (j + 1) = 2 * j + 1 + 1 by omega]
      simpa [cellsK] using this
/-- The reader at block a: its words, how many are read, where the text ends, how many instructions were met; l are those that are left. -/
def Rdr (B a : Nat) (L : List Tok) (E : Int) (n : Nat) (l : List Tok) (w : World) : Prop :=
  ∃ v, w.heap[a]? = some (.cells #[v, .int .i64 ((L.length - l.length : Nat) : Int), .int .i64 E, .int .i64 (n : Int)] 999075 (0, 0)) ∧ w.ownsRow 0 77 2 v L.length (cellsK L) ∧
    a < B ∧ (∀ g, v.ownBlock = some g → g < B) ∧ l <:+ L ∧ (L.length ≤ 131072 ∧ ∀ t ∈ L, t.1.length ≤ 65536) ∧ n ≤ 4096 ∧ B ≤ w.heap.size
theorem below_box (w : World) (o : Obj) : Below w.heap.size w (w.alloc o) := (Below.refl _ _).alloc (Nat.le_refl _) _
theorem below_step {a b c : World} (h : Below a.heap.size a b) (k : Below b.heap.size b c) : Below a.heap.size a c := h.trans (k.mono h.size)
/-- The word so many ahead. -/
theorem Rdr.word {L l : List Tok} (h : l <:+ L) (i : Nat) : L[L.length - l.length + i]? = l[i]? := by
  obtain ⟨p, rfl⟩ := h
  rw [List.getElem?_append_right (by simp)]
  congr 1
  simp
end Go.Proofs.YtfmeadbiokcboaaDoor
namespace Go.Proofs.YtfmeadbiokcboaaDoor
open Go Go.RowKit
/-- Does a text begin with a letter? -/
def begins (c : UInt8) (l : List UInt8) : Bool := l.head? == some c
theorem ret_bool {a b : Bool} (h : a = b) : Ending.returned (.bool a) = .returned (.bool b) := by rw [h]
theorem ext_list (s : ByteArray) (a b : Nat) : (s.extract a b).data.toList = (s.data.toList.drop a).take (b - a) := by
  simp [ByteArray.data_extract, Array.toList_extract]
end Go.Proofs.YtfmeadbiokcboaaDoor
namespace Go.Proofs.YtfmeadbiokcboaaDoor
open Go Go.RowKit
open G (Tok Er Ins Fun peek0 peek1 atOf)
/-- What is thrown. -/
def thrown (c p : Int) : Ending := .panicked [{ v := .iface 33 (.agg #[.int .i64 c, .int .i64 p]), recovered := false }]
end Go.Proofs.YtfmeadbiokcboaaDoor
