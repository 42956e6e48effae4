/- Texts of one chain, joined. -/
import Derived.Test.YtljkgcfnoegibaaGreatDoorWcAN
import Derived.Test.YtljkgcfnoegibaaGreatDoorWcAP
import Derived.Test.YtljkgcfnoegibaaGreatDoorWcAQ
import Derived.Deep.Quiet
import Derived.Below
set_option maxHeartbeats 4000000
set_option maxRecDepth 20000
namespace Go.Proofs.YtljkgcfnoegibaaGreatDoor
theorem sU1 {α:Type} (l:List α) (i:Nat) (a:α):l.toArray.setIfInBounds i a=(l.set i a).toArray:=List.setIfInBounds_toArray ..
theorem sU2 {α:Type} (a:α) (l:List α) (n:Nat) (b:α):(a :: l).set (n+1) b=a :: l.set n b:=List.set_cons_succ ..
theorem sU3 {α:Type} (a:α) (l:List α) (b:α):(a :: l).set 0 b=b :: l:=List.set_cons_zero ..
end Go.Proofs.YtljkgcfnoegibaaGreatDoor
namespace Go.Proofs.YtljkgcfnoegibaaGreatDoor.Mix
open Go Go.RowKit
def Up:Type:={p:Value→World→Prop // ∀v w w',Below w.heap.size w w'→p v w→p v w'}
def Up.eq (c:Value):Up:=⟨fun v _=>v=c,fun _ _ _ _ h=>h⟩
def Up.any:Up:=⟨fun _ _=>True,fun _ _ _ _ h=>h⟩
theorem grow_step {a b c:World} (h:Below a.heap.size a b) (k:Below b.heap.size b c):Below a.heap.size a c:=h.trans (k.mono h.size)
section
variable (P:Program) (ops:Array Oper) (W:World) (F:Tmp→Up)
def Fd (dst:Option Tmp) (v:Value) (w:World):Prop:=∀d,dst=some d→(F d).1 v w
def Valid (dst:Option Tmp) (v:Value):Prop:=∃w,Below W.heap.size W w∧Fd F dst v w
def add (dst:Option Tmp) (S:Tmp→Prop):Tmp→Prop:=fun t=>dst=some t∨S t
def del (dst:Option Tmp) (S:Tmp→Prop):Tmp→Prop:=fun t=>dst≠some t∧S t
def Known (S:Tmp→Prop) (ts:List Tmp) (a:Act) (w:World):Prop:=∀t∈ts,S t→∀v,a.tmps[t]? =some v→(F t).1 v w
def AllK (S:Tmp→Prop) (a:Act) (w:World):Prop:=∀t,S t→∀v,a.tmps[t]? =some v→(F t).1 v w
def mixUpon (o:Oper) (w:World):Result Next→Prop
 |.ok (.value v) w'=>Below w.heap.size w w'∧Fd F o.dst v w'
 |.ok .skip w'=>Below w.heap.size w w'∧Fd F o.dst undef w'
 |.ok (.enter f args) w'=>Calls P f args w' fun e w''=>∃v,e= .returned v∧Below w.heap.size w w''∧Fd F o.dst v w''
 |.ok (.row row args) w'=>Rows P row args w' fun v w''=>Below w.heap.size w w''∧Fd F o.dst v w''
 |_=>False
def mixAt (o:Oper) (a:Act) (S:Tmp→Prop):Prop:=∀w,Below W.heap.size W w→Known F S (o.looksAt ops) a w→mixUpon P F o w ((execOp a.eval o).run P w)
def body (o:Oper) (K:Act→(Tmp→Prop)→Prop) (a:Act) (S:Tmp→Prop):Prop:=
 if Region.wanted o (yielded ops a.tmps)then mixAt P ops W F o a S∧∀v,Valid W F o.dst v→K (a.put o.dst v) (add o.dst S)else K (a.put o.dst undef) (del o.dst S)
def mOp (i:Nat) (K:Act→(Tmp→Prop)→Prop) (a:Act) (S:Tmp→Prop):Prop:=match ops[i]? with
 |none=>K a S
 |some o=>body P ops W F o K a S
def wpMix (Q:Act→(Tmp→Prop)→Prop):List Oper→Act→(Tmp→Prop)→Prop
 |[],a,S=>Q a S
 |o :: rest,a,S=>(Region.wanted o (yielded ops a.tmps)=true→∃v,Valid W F o.dst v)∧body P ops W F o (wpMix Q rest) a S
def wpAnyM (md:Region.Mode) (Q:Act→(Tmp→Prop)→Prop):Nat→Array Bool→Act→(Tmp→Prop)→Prop
 |0,listed,a,S=>Region.ready md ops listed= []∧Q a S
 |fuel+1,listed,a,S=>
  (Region.ready md ops listed= []→Q a S)∧
  ∀i∈Region.ready md ops listed,mOp P ops W F i (wpAnyM md Q fuel (listed.setIfInBounds i true)) a S
end
section
variable {P:Program} {ops:Array Oper} {W:World} {F:Tmp→Up} {md:Region.Mode}
theorem put_other {a:Act} {dst:Option Tmp} {v:Value} {t:Tmp} (h:dst≠some t):(a.put dst v).tmps[t]? =a.tmps[t]? :=by
 cases dst with
 |none=>rfl
 |some d=>
  have:d≠t:=fun e=>h (by rw [e])
  simp [Act.put,this]
theorem put_same {a:Act} {v u:Value} {t:Tmp} (h:(a.put (some t) v).tmps[t]? =some u):u=v:=by
 simp only [Act.put,Array.getElem?_setIfInBounds,if_true] at h
 split at h
 ·injection h with h;exact h.symm
 ·cases h
theorem AllK.add {S:Tmp→Prop} {a:Act} {w w':World} {dst:Option Tmp} {v:Value} (h:AllK F S a w) (b:Below w.heap.size w w') (hf:Fd F dst v w'):AllK F (add dst S) (a.put dst v) w':=by
 intro t ht u hu
 by_cases e:dst=some t
 ·subst e
  rw [put_same hu]
  exact hf t rfl
 ·rw [put_other e] at hu
  rcases ht with ht | ht
  ·exact absurd ht e
  ·exact(F t).2 _ _ _ b (h t ht u hu)
theorem AllK.del {S:Tmp→Prop} {a:Act} {w:World} {dst:Option Tmp} {v:Value} (h:AllK F S a w):AllK F (del dst S) (a.put dst v) w:=by
 intro t ht u hu
 rw [put_other ht.1] at hu
 exact h t ht.2 u hu
theorem body_mono {o:Oper} {K K':Act→(Tmp→Prop)→Prop} {a:Act} {S:Tmp→Prop} (h:∀a S,K a S→K' a S) (hh:body P ops W F o K a S):body P ops W F o K' a S:=by
 unfold body at *
 split
 ·rename_i hw;rw [if_pos hw] at hh;exact⟨hh.1,fun v hv=>h _ _ (hh.2 v hv)⟩
 ·rename_i hw;rw [if_neg hw] at hh;exact h _ _ hh
theorem wp_of_body {o:Oper} {a:Act} {S:Tmp→Prop} {K:Act→(Tmp→Prop)→Prop} {K':Act→World→Prop} {Q':Exit→Act→World→Prop} {w:World} (hC:Below W.heap.size W w) (hA:AllK F S a w)
  (h:∀a' S' w',Below W.heap.size W w'→AllK F S' a' w'→K a' S'→K' a' w') (hm:mixAt P ops W F o a S) (hn:∀v,Valid W F o.dst v→K (a.put o.dst v) (add o.dst S)):o.wp P a w K' Q':=by
 have h3:=hm w hC (fun t _ hs v hv=>hA t hs v hv)
 have fin:∀v w',Below w.heap.size w w'→Fd F o.dst v w'→K' (a.put o.dst v) w':=fun v w' hb hf=>
  h _ _ _ (grow_step hC hb) (hA.add hb hf) (hn v ⟨w',grow_step hC hb,hf⟩)
 unfold Oper.wp
 generalize (execOp a.eval o).run P w=r at *
 cases r with
 |ok n w'=>
  cases n <;> simp only [mixUpon] at h3 <;> simp only [Oper.upon]
  case value v=>exact fin _ _ h3.1 h3.2
  case skip=>exact fin _ _ h3.1 h3.2
  case enter f args=>exact h3.mono fun e w'' ⟨v,he,hb,hf⟩=>by subst he;exact fin _ _ hb hf
  case row row args=>exact h3.mono fun v w'' ⟨hb,hf⟩=>fin _ _ hb hf
 |halt x w'=>simp only [mixUpon] at h3
theorem wpAny_of_mix {Q:Act→(Tmp→Prop)→Prop} {Q':Exit→Act→World→Prop} (hQ:∀a S w,Below W.heap.size W w→AllK F S a w→Q a S→Q' .normal a w):∀(fuel:Nat) (listed:Array Bool) (a:Act) (S:Tmp→Prop) (w:World),Below W.heap.size W w→AllK F S a w→
  wpAnyM P ops W F md Q fuel listed a S→wpAny P md ops Q' fuel listed a w
 |0,_,_,_,_,hC,hA,h=>⟨h.1,hQ _ _ _ hC hA h.2⟩
 |fuel+1,listed,a,S,w,hC,hA,h=>⟨fun h0=>hQ _ _ _ hC hA (h.1 h0),fun i hi=>by
   have hh:=h.2 i hi
   unfold mOp at hh
   unfold wpOp
   split
   ·rename_i ho;simp only [ho] at hh;exact wpAny_of_mix hQ fuel _ _ _ _ hC hA hh
   ·rename_i o ho
    simp only [ho] at hh
    unfold body at hh
    split
    ·rename_i hw
     rw [if_pos hw] at hh
     exact .inl (wp_of_body hC hA (fun a' S' w' c k q=>wpAny_of_mix hQ fuel _ _ _ _ c k q) hh.1 hh.2)
    ·rename_i hw
     rw [if_neg hw] at hh
     exact wpAny_of_mix hQ fuel _ _ _ _ hC hA.del hh⟩
theorem mix_move {o:Oper} (hs:∀cs b,o.op≠ .select cs b) {a:Act} {dst:Option Tmp} {v:Value} {S S':Tmp→Prop} (hd:∀d,dst=some d→d ∉ o.looksAt ops) (hS:∀t,dst≠some t→(S' t↔S t)):mixAt P ops W F o (a.put dst v) S'↔mixAt P ops W F o a S:=by
 have e:=execOp_put (ops:=ops) o hs a dst v hd
 have ne:∀t,t∈o.looksAt ops→dst≠some t:=fun t ht e=>hd t e ht
 unfold mixAt
 rw [e]
 constructor
 ·intro h w hC hK
  refine h w hC fun t ht hs v hv=> ?_
  rw [put_other (ne t ht)] at hv
  exact hK t ht ((hS t (ne t ht)).1 hs) v hv
 ·intro h w hC hK
  refine h w hC fun t ht hs v hv=> ?_
  exact hK t ht ((hS t (ne t ht)).2 hs) v (by rw [put_other (ne t ht)];exact hv)
theorem add_iff {dst:Option Tmp} {S:Tmp→Prop}:∀t,dst≠some t→(add dst S t↔S t):=fun _ h=>⟨fun k=>k.resolve_left h,.inr⟩
theorem del_iff {dst:Option Tmp} {S:Tmp→Prop}:∀t,dst≠some t→(del dst S t↔S t):=fun _ h=>⟨fun k=>k.2,fun k=>⟨h,k⟩⟩
theorem add_add (x y:Option Tmp) (S:Tmp→Prop):add x (add y S)=add y (add x S):=by
 funext t;unfold add;exact propext or_left_comm
theorem del_del (x y:Option Tmp) (S:Tmp→Prop):del x (del y S)=del y (del x S):=by
 funext t;unfold del;exact propext and_left_comm
theorem add_del {x y:Option Tmp} (h:∀d,x=some d→y≠some d) (S:Tmp→Prop):add x (del y S)=del y (add x S):=by
 funext t;unfold add del
 refine propext ⟨?_,?_⟩
 ·rintro (e | ⟨h1,h2⟩)
  ·exact⟨h t e,.inl e⟩
  ·exact⟨h1,.inr h2⟩
 ·rintro ⟨h1,e | h2⟩
  ·exact .inl e
  ·exact .inr ⟨h1,h2⟩
theorem body_swap {oi oj:Oper} (hap:oi.apart ops oj=true) (hsi:∀cs b,oi.op≠ .select cs b) (hsj:∀cs b,oj.op≠ .select cs b) {K:Act→(Tmp→Prop)→Prop} {a:Act} {S:Tmp→Prop}
  (hex:Region.wanted oi (yielded ops a.tmps)=true→∃v,Valid W F oi.dst v) (h:body P ops W F oi (fun a' S'=>body P ops W F oj K a' S') a S):body P ops W F oj (fun a' S'=>body P ops W F oi K a' S') a S:=by
 obtain⟨h1,h2,h3⟩:=Oper.apart_spec hap
 have h2':∀d,oj.dst=some d→oi.dst≠some d:=fun d e e2=>h2 d e2 e
 unfold body at *
 by_cases wi:Region.wanted oi (yielded ops a.tmps)=true
 ·rw [if_pos wi] at h
  obtain⟨m1,n1⟩:=h
  obtain⟨v0,hv0⟩:=hex wi
  by_cases wj:Region.wanted oj (yielded ops a.tmps)=true
  ·rw [if_pos wj]
   refine⟨?_,fun u hu=> ?_⟩
   ·have:=n1 v0 hv0
    dsimp only at this
    rw [wanted_put oj a oi.dst v0 h1,if_pos wj] at this
    exact(mix_move hsj h1 add_iff).1 this.1
   ·dsimp only
    rw [wanted_put oi a oj.dst u h3,if_pos wi]
    refine⟨(mix_move hsi h3 add_iff).2 m1,fun v hv=> ?_⟩
    have:=n1 v hv
    dsimp only at this
    rw [wanted_put oj a oi.dst v h1,if_pos wj] at this
    have:=this.2 u hu
    rw [Act.put_comm a v u h2,add_add] at this
    exact this
  ·rw [if_neg wj]
   dsimp only
   rw [wanted_put oi a oj.dst undef h3,if_pos wi]
   refine⟨(mix_move hsi h3 del_iff).2 m1,fun v hv=> ?_⟩
   have:=n1 v hv
   dsimp only at this
   rw [wanted_put oj a oi.dst v h1,if_neg wj,Act.put_comm a v undef h2,←add_del h2] at this
   exact this
 ·rw [if_neg wi] at h
  rw [wanted_put oj a oi.dst undef h1] at h
  by_cases wj:Region.wanted oj (yielded ops a.tmps)=true
  ·rw [if_pos wj] at h ⊢
   refine⟨(mix_move hsj h1 del_iff).1 h.1,fun u hu=> ?_⟩
   dsimp only
   rw [wanted_put oi a oj.dst u h3,if_neg wi]
   have:=h.2 u hu
   rw [Act.put_comm a undef u h2,add_del h2'] at this
   exact this
  ·rw [if_neg wj] at h ⊢
   dsimp only
   rw [wanted_put oi a oj.dst undef h3,if_neg wi]
   rw [Act.put_comm a undef undef h2,del_del] at h
   exact h
theorem wanted_body {o:Oper} {K:Act→(Tmp→Prop)→Prop} {a:Act} {S:Tmp→Prop} {A:Act→Prop} (hu:∀u,A (a.put o.dst u)) (hh:body P ops W F o K a S):body P ops W F o (fun a' S'=>A a'∧K a' S') a S:=by
 unfold body at *
 split
 ·rename_i hw;rw [if_pos hw] at hh;exact⟨hh.1,fun v hv=>⟨hu v,hh.2 v hv⟩⟩
 ·rename_i hw;rw [if_neg hw] at hh;exact⟨hu _,hh⟩
theorem wpAnyM_first {Q:Act→(Tmp→Prop)→Prop} {i:Nat} {oi:Oper} (hi:ops[i]? =some oi) (hsel:∀(j:Nat) (o:Oper) cs b,ops[j]? =some o→o.op≠ .select cs b):
  ∀(fuel:Nat) (listed:Array Bool) (a:Act) (S:Tmp→Prop),
   (∀j oj,ops[j]? =some oj→j≠i→listed.getD j true=false→(∀e∈oj.after,Region.binds md e=true→e.on≠i)→oi.apart ops oj=true)→
   i∈Region.ready md ops listed→(Region.wanted oi (yielded ops a.tmps)=true→∃v,Valid W F oi.dst v)→
   body P ops W F oi (wpAnyM P ops W F md Q fuel (listed.setIfInBounds i true)) a S→wpAnyM P ops W F md Q (fuel+1) listed a S:=by
 intro fuel
 induction fuel with
 |zero=>
  intro listed a S _ hr hex H
  refine⟨fun h=>(by rw [h] at hr;cases hr),fun j hj=> ?_⟩
  by_cases hji:j=i
  ·subst hji;unfold mOp;simp only [hi];exact H
  ·have hno:=ready_mono hj hji
   have:Region.ready md ops (listed.setIfInBounds i true)= []:=by
    unfold body at H
    split at H
    ·rename_i hw
     obtain⟨v,hv⟩:=hex hw
     exact(H.2 v hv).1
    ·exact H.1
   rw [this] at hno
   cases hno
 |succ fuel ih=>
  intro listed a S hfree hr hex H
  refine⟨fun h=>(by rw [h] at hr;cases hr),fun j hj=> ?_⟩
  by_cases hji:j=i
  ·subst hji;unfold mOp;simp only [hi];exact H
  ·obtain⟨hjun,oj,hoj,hall⟩:=mem_ready.1 hj
   have hnot:∀e∈oj.after,Region.binds md e=true→e.on≠i:=fun e he hb heq=>by
    have h1:=hall e he hb
    have h0:=(mem_ready.1 hr).1
    rw [heq] at h1
    rcases Nat.lt_or_ge i listed.size with h' | h'
    ·simp [h'] at h0 h1;rw [h0] at h1;cases h1
    ·simp [Array.getElem?_eq_none h'] at h1
   have hap:=hfree j oj hoj hji hjun hnot
   obtain⟨_,_,h3⟩:=Oper.apart_spec hap
   have H1:body P ops W F oi (fun a' S'=>body P ops W F oj (wpAnyM P ops W F md Q fuel ((listed.setIfInBounds i true).setIfInBounds j true)) a' S') a S:=body_mono (fun a' S' h=>by
    have:=h.2 j (ready_mono hj hji)
    unfold mOp at this
    simp only [hoj] at this
    exact this) H
   have H2:=body_swap hap (fun cs b=>hsel i oi cs b hi) (fun cs b=>hsel j oj cs b hoj) hex H1
   have H3:=wanted_body (A:=fun a'=>Region.wanted oi (yielded ops a'.tmps)=true→∃v,Valid W F oi.dst v) (fun u=>by rw [wanted_put oi a oj.dst u h3];exact hex) H2
   have hfree':∀k ok,ops[k]? =some ok→k≠i→(listed.setIfInBounds j true).getD k true=false→
     (∀e∈ok.after,Region.binds md e=true→e.on≠i)→oi.apart ops ok=true:=fun k ok hk hki hun hno=>by
    refine hfree k ok hk hki ?_ hno
    by_cases hjk:j=k
    ·subst hjk;exact hjun
    ·rw [getD_set_ne true hjk] at hun;exact hun
   unfold mOp
   simp only [hoj]
   refine body_mono (fun a' S' h=>ih (listed.setIfInBounds j true) a' S' hfree' (ready_mono hr (Ne.symm hji)) h.1 ?_) H3
   rw [Array.setIfInBounds_comm _ _ hji]
   exact h.2
theorem wpAnyM_lex {Q:Act→(Tmp→Prop)→Prop} (hs:Region.noSelect ops=true):∀(l:List Oper) (k:Nat) (listed:Array Bool) (a:Act) (S:Tmp→Prop),(∀j,l[j]? =ops[k+j]?)→
  Region.lexFrom md ops l.length k listed=true→wpMix P ops W F Q l a S→wpAnyM P ops W F md Q l.length listed a S
 |[],_,_,_,_,_,hB,h=>⟨by simpa [Region.lexFrom] using hB,h⟩
 |o :: l,k,listed,a,S,hl,hB,h=>by
  have h0:ops[k]? =some o:=by simpa using (hl 0).symm
  simp only [List.length_cons,Region.lexFrom,Bool.and_eq_true] at hB
  obtain⟨⟨hr,hf⟩,hB'⟩:=hB
  refine wpAnyM_first h0 (Region.noSelect_spec hs) l.length listed a S (Region.free_spec h0 hf) (by simpa using hr) h.1 ?_
  exact body_mono (fun a' S' q=>wpAnyM_lex hs l (k+1) _ _ _ (fun j=>by have:=hl (j+1);simpa [Nat.add_assoc,Nat.add_comm 1 j] using this) hB' q) h.2
theorem wp_region_mix {id:Nat} {Q:Exit→Act→World→Prop} {a:Act} {l:List Oper} (F:Tmp→Up) (hm:P.follows .mixedOrders=true) (hB:Region.lexB .any l.toArray=true)
  (h:wpMix P l.toArray W F (fun a' S=>∀w',Below W.heap.size W w'→AllK F S a' w'→Q .normal a' w') l a (fun _=>False)):(Code.region id l.toArray true).wp P Q a W:=by
 simp only [Region.lexB,Bool.and_eq_true] at hB
 refine wp_region_any hm (wpAny_of_mix (W:=W) (F:=F) (Q:=fun a' S=>∀w',Below W.heap.size W w'→AllK F S a' w'→Q .normal a' w') (fun _ _ w' hC hA h=>h w' hC hA) _ _ _ (fun _=>False) _ (Below.refl _ _).drew (fun t ht=>ht.elim) ?_)
 have:=wpAnyM_lex (W:=W) (F:=F) (md:= .any) hB.1 l 0 (Array.replicate l.toArray.size false) a (fun _=>False) (by simp) (by simpa using hB.2) h
 simpa using this
theorem mix_nil {Q:Act→(Tmp→Prop)→Prop} {a:Act} {S:Tmp→Prop} (h:Q a S):wpMix P ops W F Q [] a S:=h
theorem mix_skip {Q:Act→(Tmp→Prop)→Prop} {a:Act} {S:Tmp→Prop} {o:Oper} {rest:List Oper} (hw:Region.wanted o (yielded ops a.tmps)=false) (h:wpMix P ops W F Q rest (a.put o.dst undef) (del o.dst S)):wpMix P ops W F Q (o :: rest) a S:=by
 refine⟨fun k=>absurd (hw.symm.trans k) (by decide),?_⟩
 unfold body
 rw [if_neg (by rw [hw];decide)]
 exact h
theorem mix_step {Q:Act→(Tmp→Prop)→Prop} {a:Act} {S:Tmp→Prop} {o:Oper} {rest:List Oper} (hw:Region.wanted o (yielded ops a.tmps)=true) (hex:∃v,Valid W F o.dst v)
  (hm:∀w,Below W.heap.size W w→Known F S (o.looksAt ops) a w→mixUpon P F o w ((execOp a.eval o).run P w)) (h:∀v,Valid W F o.dst v→wpMix P ops W F Q rest (a.put o.dst v) (add o.dst S)):wpMix P ops W F Q (o :: rest) a S:=by
 refine⟨fun _=>hex,?_⟩
 unfold body
 rw [if_pos hw]
 exact⟨hm,h⟩
end
end Go.Proofs.YtljkgcfnoegibaaGreatDoor.Mix
namespace Go.Proofs.YtljkgcfnoegibaaGreatDoor
open Go Go.RowKit
open G (Tok Er Ins Fun)
def outB (n:Nat) (m:Int):Bool:=decide (m < 0∨(n:Int)≤m)
theorem out_there (n:Nat) (m:Int):(!thereB m n)=outB n m:=by
 rw [Bool.eq_iff_iff];simp [thereB,outB]
theorem look1_any (m:Int) (n g:Nat) (w:World) (h:w.cell? ⟨g,0,none⟩=some (.int .i64 n)):Calls Tryz.prog 143 #[.int .i64 m,.pointer (some ⟨g,0,none⟩)] w fun e w'=>e= .returned (.bool (outB n m))∧w'=w:=by
 have HE:=hide (out_there n m)
 go_enter Tryz.func143,Tryz.ntmps143
 go_wp2_with fail
 refine(there_any m n _).mono ?_;rintro e w1 ⟨rfl,rfl⟩
 generalize thereB m n=t at *
 go_wp2_with fail
 go_ret
 exact⟨L5.ret_bool HE.out,rfl⟩
def firstB (n:Nat):List Int→Int→Int
 |[],_=> -1
 |t :: r,k=>if outB n t then k else firstB n r (k+1)
theorem firstB_drop (n:Nat) (xs:List Int) (k:Nat) (t:Int) (h:xs[k]? =some t):firstB n (xs.drop k) k=if outB n t then(k:Int)else firstB n (xs.drop (k+1)) ((k+1:Nat):Int):=by
 rw [dropE_at h];rfl
theorem firstB_any (n:Nat) (l:List Int):∀k:Int,0≤k→(badT n l=true→0≤firstB n l k)∧(badT n l=false→firstB n l k= -1):=by
 induction l with
 |nil=>intro k _;simp [firstB,badT]
 |cons t r ih=>
  intro k hk
  have e:badT n (t :: r)=(outB n t || badT n r):=rfl
  rw [firstB,e]
  cases hb:outB n t with
  |true=>simp;exact hk
  |false=>simpa using ih (k+1) (by omega)
theorem indexF_any (n:Nat) (xs:List Int) (ao:Option Addr) (c g:Nat) (w:World) (hs:Sl w ao xs) (hg:g < w.heap.size) (h:w.cell? ⟨g,0,none⟩=some (.int .i64 n)) (hm:xs.length≤maxLen):
  Calls Tryz.prog 112 #[.slice ao xs.length c,.func (Fn.func 143) #[] #[.pointer (some ⟨g,0,none⟩)]] w fun e w'=>e= .returned (.int .i64 (firstB n xs 0))∧Below w.heap.size w w':=by
 have H:=hide h
 have X:=hide hs
 unfold maxLen at hm
 clear h hs
 go_enter Tryz.func112,Tryz.ntmps112
 go_wp2_with fail
 go_loopw [8] (fun i wr=>∃k:Nat,i= .int .i64 k∧k≤xs.length∧Below w.heap.size w wr∧Hid (firstB n xs 0=firstB n (xs.drop k) k)) (fun i _=>xs.length - (intOf i).toNat)
 case atStart=>exact⟨0,rfl,Nat.zero_le _,Below.refl _ _,rfl⟩
 case round=>
  obtain⟨k,rfl,hk,HB,HF⟩:=hrel
  have HB:=hide HB
  by_cases hlt:k < xs.length
  ·obtain⟨t,ht⟩:∃t,xs[k]? =some t:=⟨xs[k],List.getElem?_eq_getElem hlt⟩
   have HS:=hide (HF.out.trans (firstB_drop n xs k t ht))
   rcases X.out with he | ⟨b,o,rfl,hb,hc⟩
   ·subst he;simp at hlt
   have hcell:wr.cell? ⟨b,o+k,none⟩=some (.int .i64 t):=(HB.out.cell (p:=⟨b,o+k,none⟩) hb).trans (hc k t ht)
   have hlt':(k:Int) < xs.length:=by omega
   have hcg:=hide ((HB.out.cell (p:=⟨g,0,none⟩) hg).trans H.out)
   clear hc ht
   go_wp2_with fail
   refine(look1_any t n g _ hcg.out).mono ?_;rintro e w1 ⟨rfl,rfl⟩
   cases hbt:outB n t with
   |true=>
    have HE:=hide (HS.out.trans (if_pos hbt))
    go_wp2_with fail
    go_ret
    exact⟨by rw [HE.out];rfl,HB.out⟩
   |false=>
    have HE:=hide (HS.out.trans (if_neg (by simp [hbt])))
    go_wp2_with fail
    go_roundw
    case rel=>exact⟨k+1,by go_num,by omega,HB.out,HE.out⟩
    case measure=>simp [intOf];omega
  ·have hk2:k=xs.length:=by omega
   subst hk2
   have HE:=hide (HF.out.trans (by rw [List.drop_length];rfl:_=(-1:Int)))
   go_wp2_with fail
   go_ret
   exact⟨by rw [HE.out];rfl,HB.out⟩
theorem contains_any (n:Nat) (xs:List Int) (ao:Option Addr) (c g:Nat) (w:World) (hs:Sl w ao xs) (hg:g < w.heap.size) (h:w.cell? ⟨g,0,none⟩=some (.int .i64 n)) (hm:xs.length≤maxLen):
  Calls Tryz.prog 89 #[.slice ao xs.length c,.func (Fn.func 143) #[] #[.pointer (some ⟨g,0,none⟩)]] w fun e w'=>e= .returned (.bool (badT n xs))∧Below w.heap.size w w':=by
 obtain⟨f1,f2⟩:=firstB_any n xs 0 (Int.le_refl 0)
 have H:=hide h
 have X:=hide hs
 have F1:=hide f1
 have F2:=hide f2
 clear h hs f1 f2
 go_enter Tryz.func89,Tryz.ntmps89
 go_wp2_with fail
 refine(indexF_any n xs ao c g _ X.out hg H.out hm).mono ?_;rintro e w1 ⟨rfl,b1⟩
 cases hb:badT n xs with
 |true=>
  have h1:=F1.out hb
  replace hb:=hide hb
  generalize firstB n xs 0=r at *
  clear F1 F2
  go_wp2_with fail
  go_ret
  exact⟨L5.ret_bool hb.out.symm,b1⟩
 |false=>
  have h1:=F2.out hb
  rw [h1]
  replace hb:=hide hb
  clear F1 F2 h1
  go_wp2_with fail
  go_ret
  exact⟨L5.ret_bool hb.out.symm,b1⟩
theorem look_any (b:List Ins) (N:Nat) (aok:Option Addr) (capk:Nat) (w:World) (hb:BlkR w b (.slice aok b.length capk)) (ht:Tab w):
  Calls Tryz.prog 120 #[.slice aok b.length capk,.int .i64 N] w fun e w'=>e= .returned (.int .i64 (blkE N b))∧Below w.heap.size w w':=by
 have hmf:∀(fn:Fn) (first cap:Array Value) (w:World),(Instr.makeFunc fn first cap).run Tryz.prog w= .ok (.func fn first cap) w:=fun _ _ _ _=>rfl
 have b0:=below_box w (.cells #[.int .i64 N] 3)
 have H0:=hide (heap_alloc_new w (.cells #[.int .i64 N] 3))
 have hz0:w.heap.size < (w.alloc (.cells #[.int .i64 N] 3)).heap.size:=by simp
 have HB:=hide (hb.below b0)
 have HT:=hide (ht.below b0)
 have B0:=hide b0
 clear hb ht b0
 go_enter Tryz.func120,Tryz.ntmps120
 go_upto_region 1 with fail
 show Code.wp _ _ _ _ (w.alloc (.cells #[.int .i64 N] 3))
 generalize w.alloc (.cells #[.int .i64 N] 3)=W at *
 obtain⟨_,_,e',m1,m2,kk⟩:=HB.out
 injection e' with e1 e2 e4
 subst e1 e4
 have HKK:=hide kk
 unfold maxLen at m2
 clear kk e2
 go_wp2_with fail
 go_loopw [10] (fun i wq=>∃I:Nat,I≤b.length∧i= .int .i64 I∧Hid (blkGo N b.length 0 b=blkGo N b.length I (b.drop I))∧Hid (Below W.heap.size W wq)) (fun i _=>b.length - (intOf i).toNat)
 case atStart=>exact⟨0,Nat.zero_le _,rfl,hide rfl,hide (Below.refl _ _)⟩
 case round=>
  obtain⟨I,hI,rfl,HI,HW⟩:=hrel
  by_cases hit:I < b.length
  ·have hiI:(I:Int) < b.length:=by omega
   obtain⟨x,hx⟩:∃x,b[I]? =some x:=⟨b[I],List.getElem?_eq_getElem hit⟩
   rcases HKK.out with e0 | ⟨gi,oi,rfl,kk⟩
   ·subst e0;simp at hit
   have HI2:=hide (HI.out.trans (by rw [dropE_at hx]))
   obtain⟨ai,ti,ca,ct,hv,r0,r1,r2,r3,r4,r5,r6,r7⟩:=((kk I _ hx).below HW.out).val
   obtain⟨op,id,nn,ty,ar,tt,na,pp⟩:=x
   dsimp only at hv r0 r1 r2 r3 r4 r5 r6 r7
   have HSt:Hid (Sl wr ti tt∧tt.length≤maxLen):=hide (by
    obtain⟨a1,t1,c1,c2,e,s1,s2,_,_,s5,s6⟩:=hv
    injection e with e
    have e2:=congrArg (fun a=>a[5]?) e
    simp at e2
    rw [e2.1];exact⟨s2,Nat.le_trans s5 s6⟩)
   have B7:=hide (below_box wr (.cells #[.int .i64 op,.int .i64 id,.int .i64 nn,.int .i64 ty,.slice ai ar.length ca,.slice ti tt.length ct,.string (bs na),.int .i64 pp] 47))
   have H7:=hide (heap_alloc_new wr (.cells #[.int .i64 op,.int .i64 id,.int .i64 nn,.int .i64 ty,.slice ai ar.length ca,.slice ti tt.length ct,.string (bs na),.int .i64 pp] 47))
   have hbn:¬b.length=0:=by omega
   have HBE:Hid (blkE N b=blkGo N b.length 0 b):=hide (if_neg hbn)
   have HW8:=hide (below_step HW.out B7.out)
   have HEn:=hide (ends_any op _ (HT.out.below HW8.out))
   clear kk hx hv HI
   obtain⟨s0,s1,s2,s3,s4,s5,s6,s7⟩:=box8 H7.out
   have SS:=hide (And.intro s0 s5)
   have hwl:wr.heap.size < (wr.alloc (.cells #[.int .i64 op,.int .i64 id,.int .i64 nn,.int .i64 ty,.slice ai ar.length ca,.slice ti tt.length ct,.string (bs na),.int .i64 pp] 47)).heap.size:=by simp
   have HSt8:Hid (Sl (wr.alloc (.cells #[.int .i64 op,.int .i64 id,.int .i64 nn,.int .i64 ty,.slice ai ar.length ca,.slice ti tt.length ct,.string (bs na),.int .i64 pp] 47)) ti tt):=hide (HSt.out.1.below B7.out)
   have htl:tt.length≤maxLen:=HSt.out.2
   have hsub:IntKind.i64.wrap ((b.length:Int) - 1)=(b.length:Int) - 1:=IntWalk.i64_in _ ⟨by omega,by omega⟩
   go_wp2_with fail
   refine HEn.out.mono ?_;rintro e w9 ⟨rfl,b9⟩
   have HW9:=hide (below_step HW8.out b9)
   have t0:=(b9.cell (p:=⟨wr.heap.size,0,none⟩) hwl).trans SS.out.1
   have t5:=(b9.cell (p:=⟨wr.heap.size,5,none⟩) hwl).trans SS.out.2
   have HSt9:=hide (HSt8.out.below b9)
   have HN9:=hide (cell9 ((HW9.out.block _ hz0).trans H0.out))
   have hz9:w.heap.size < w9.heap.size:=Nat.lt_of_lt_of_le hz0 HW9.out.size
   clear s0 s1 s2 s3 s4 s5 s6 s7 r0 r1 r2 r3 r4 r5 r6 r7 B7 H7 HW HSt HSt8 SS HW8 HEn b9
   generalize wr.heap.size=q at *
   have HC:=hide (contains_any N tt ti ct w.heap.size w9 HSt9.out hz9 HN9.out htl)
   by_cases hl:I+1=b.length
   ·have hlI:((I:Int) == (b.length:Int) - 1)=true:=by simpa using (by omega:(I:Int)=b.length - 1)
    cases he:endsB op with
    |true=>
     have HEq:Hid (endsB op=decide (I+1=b.length)):=hide (by simp [he,hl])
     have HBad:Hid (badI N (op,id,nn,ty,ar,tt,na,pp)=true→(7:Int)=blkE N b):=hide (fun h=>((HBE.out.trans (HI2.out.trans (blkGo_bad HEq.out h)))).symm)
     have HOk:Hid (badI N (op,id,nn,ty,ar,tt,na,pp)=false→blkGo N b.length 0 b=blkGo N b.length (I+1) (b.drop (I+1))):=hide (fun h=>HI2.out.trans (blkGo_next HEq.out h))
     replace he:=hide he
     by_cases hop:op=20
     ·have hop':(op != 20)=false:=by simpa using hop
      have HE:=hide (HOk.out (by simp [badI,hop]))
      clear HBad HOk HI2 HBE HC HEq
      go_wp2_with fail
      go_roundw
      case rel=>exact⟨I+1,by omega,by go_num,HE,HW9⟩
      case measure=>simp [intOf];omega
     ·have hop':(op != 20)=true:=by simpa using hop
      go_wp2_with fail
      refine HC.out.mono ?_;rintro e wA ⟨rfl,bA⟩
      have HWA:=hide (below_step HW9.out bA)
      cases hbt:badT N tt with
      |true=>
       have HE:=hide (HBad.out (by simp [badI,hop,hbt]))
       clear HBad HOk HI2 HBE HC HEq
       go_wp2_with fail
       go_ret
       exact⟨L5.ret_int HE.out,below_step B0.out HWA.out⟩
      |false=>
       have HE:=hide (HOk.out (by simp [badI,hbt]))
       clear HBad HOk HI2 HBE HC HEq
       go_wp2_with fail
       go_roundw
       case rel=>exact⟨I+1,by omega,by go_num,HE,HWA⟩
       case measure=>simp [intOf];omega
    |false=>
     have HE:Hid ((15:Int)=blkE N b):=hide ((HBE.out.trans (HI2.out.trans (blkGo_end (by simp [he,hl])))).symm)
     replace he:=hide he
     clear HI2 HBE HC
     go_wp2_with fail
     go_ret
     exact⟨L5.ret_int HE.out,below_step B0.out HW9.out⟩
   ·have hlI:((I:Int) == (b.length:Int) - 1)=false:=beq_eq_false_iff_ne.2 (by omega)
    cases he:endsB op with
    |true=>
     have HE:Hid ((15:Int)=blkE N b):=hide ((HBE.out.trans (HI2.out.trans (blkGo_end (by simp [he,hl])))).symm)
     replace he:=hide he
     clear HI2 HBE HC
     go_wp2_with fail
     go_ret
     exact⟨L5.ret_int HE.out,below_step B0.out HW9.out⟩
    |false=>
     have HEq:Hid (endsB op=decide (I+1=b.length)):=hide (by simp [he,hl])
     have HBad:Hid (badI N (op,id,nn,ty,ar,tt,na,pp)=true→(7:Int)=blkE N b):=hide (fun h=>((HBE.out.trans (HI2.out.trans (blkGo_bad HEq.out h)))).symm)
     have HOk:Hid (badI N (op,id,nn,ty,ar,tt,na,pp)=false→blkGo N b.length 0 b=blkGo N b.length (I+1) (b.drop (I+1))):=hide (fun h=>HI2.out.trans (blkGo_next HEq.out h))
     replace he:=hide he
     by_cases hop:op=20
     ·have hop':(op != 20)=false:=by simpa using hop
      have HE:=hide (HOk.out (by simp [badI,hop]))
      clear HBad HOk HI2 HBE HC HEq
      go_wp2_with fail
      go_roundw
      case rel=>exact⟨I+1,by omega,by go_num,HE,HW9⟩
      case measure=>simp [intOf];omega
     ·have hop':(op != 20)=true:=by simpa using hop
      go_wp2_with fail
      refine HC.out.mono ?_;rintro e wA ⟨rfl,bA⟩
      have HWA:=hide (below_step HW9.out bA)
      cases hbt:badT N tt with
      |true=>
       have HE:=hide (HBad.out (by simp [badI,hop,hbt]))
       clear HBad HOk HI2 HBE HC HEq
       go_wp2_with fail
       go_ret
       exact⟨L5.ret_int HE.out,below_step B0.out HWA.out⟩
      |false=>
       have HE:=hide (HOk.out (by simp [badI,hbt]))
       clear HBad HOk HI2 HBE HC HEq
       go_wp2_with fail
       go_roundw
       case rel=>exact⟨I+1,by omega,by go_num,HE,HWA⟩
       case measure=>simp [intOf];omega
  ·obtain rfl:I=b.length:=by omega
   have HE:=HI.out
   rw [List.drop_length] at HE
   by_cases hbn:b.length=0
   ·have hbn':((b.length:Int) == 0)=true:=by simpa using hbn
    have HEE:Hid ((15:Int)=blkE N b):=hide (if_pos hbn).symm
    clear HE HI
    go_wp2_with fail
    go_ret
    exact⟨L5.ret_int HEE.out,below_step B0.out HW.out⟩
   ·have hbn':((b.length:Int) == 0)=false:=by simpa using hbn
    have HEE:Hid ((0:Int)=blkE N b):=hide ((if_neg hbn).trans HE).symm
    clear HE HI
    go_wp2_with fail
    go_ret
    exact⟨L5.ret_int HEE.out,below_step B0.out HW.out⟩
theorem shaped_try (nm:List UInt8) (ps:List Int) (rt pl:Int) (bl:List (List Ins)) (ao bo:Option Addr) (c cb:Nat) (w:World)
  (hv:FunV w (nm,ps,rt,bl,pl) (.agg #[.string (bs nm),.slice ao ps.length c,.int .i64 rt,.slice bo bl.length cb,.int .i64 pl])) (ht:Tab w):
  Calls Tryz.prog 93 #[.agg #[.string (bs nm),.slice ao ps.length c,.int .i64 rt,.slice bo bl.length cb,.int .i64 pl]] w fun e w'=>e= .returned (.agg #[.int .i64 (shapedF (nm,ps,rt,bl,pl)).1,.int .i64 (shapedF (nm,ps,rt,bl,pl)).2])∧Below w.heap.size w w':=by
 obtain⟨b0,h0,h1,hz0⟩:=two_boxes w #[.string (bs nm),.slice ao ps.length c,.int .i64 rt,.slice bo bl.length cb,.int .i64 pl]
 have H0:=hide h0
 have H1:=hide h1
 have HV:=hide (hv.below b0)
 have HT:=hide (ht.below b0)
 have B0:=hide b0
 have hbc:bl.length≤cb∧cb≤maxLen:=by
  obtain⟨vp,vb,e,_,⟨ao',c',e',h1,h2,_⟩⟩:=hv
  injection e with e
  have e3:=congrArg (fun a=>a[3]?) e
  simp at e3
  subst e3
  injection e' with e1 e2 e3
  subst e3
  exact⟨h1,h2⟩
 have hz2:w.heap.size < ((w.alloc (.cells #[.string (bs nm),.slice ao ps.length c,.int .i64 rt,.slice bo bl.length cb,.int .i64 pl] 36)).alloc (.cells #[.int .i64 0,.int .i64 0] 29)).heap.size:=by omega
 unfold maxLen at hbc
 clear b0 h0 h1 hv ht
 go_enter Tryz.func93,Tryz.ntmps93
 go_upto_region 1 with fail
 show Code.wp _ _ _ _ ((w.alloc (.cells #[.string (bs nm),.slice ao ps.length c,.int .i64 rt,.slice bo bl.length cb,.int .i64 pl] 36)).alloc (.cells #[.int .i64 0,.int .i64 0] 29))
 generalize (w.alloc (.cells #[.string (bs nm),.slice ao ps.length c,.int .i64 rt,.slice bo bl.length cb,.int .i64 pl] 36)).alloc (.cells #[.int .i64 0,.int .i64 0] 29)=W at *
 obtain⟨x0,x1,x2,x3,x4⟩:=box5 H0.out
 by_cases hn0:bl.length=0
 ·have HE:Hid (shapedF (nm,ps,rt,bl,pl)=(15,0)):=hide (if_pos hn0)
  obtain⟨d0,d1,z0,z1⟩:=err_box H1.out
  go_wp2_with fail
  exact bodyPost_ret (v:= .agg #[.int .i64 15,.int .i64 0]) (by simp [results,Tryz.results93,go_sem,d0,d1]) rfl ⟨by rw [HE.out],err_below B0.out (Below.refl _ _)⟩
 have hn1:((bl.length:Int) == 0)=false:=by simpa using hn0
 have HB:Hid (BlksR W bl (.slice bo bl.length cb)):=hide (by
  obtain⟨vp,vb,e,_,hB⟩:=HV.out
  injection e with e
  have e3:=congrArg (fun a=>a[3]?) e
  simp at e3
  rw [e3];exact hB)
 have HS:Hid (shapedF (nm,ps,rt,bl,pl)=shapedGo bl.length 0 bl):=hide (if_neg hn0)
 go_wp2_with fail
 clear x0 x1 x2 x3 x4
 go_loopw [14] (fun i wr=>∃K:Nat,K≤bl.length∧i= .int .i64 K∧Hid (shapedF (nm,ps,rt,bl,pl)=shapedGo bl.length K (bl.drop K))∧Hid (Below W.heap.size W wr)) (fun i _=>bl.length - (intOf i).toNat)
 case atStart=>exact⟨0,Nat.zero_le _,rfl,HS,hide (Below.refl _ _)⟩
 case round=>
  obtain⟨K,hK,rfl,HR,HW⟩:=hrel
  obtain⟨x0,x1,x2,x3,x4⟩:=box5 ((HW.out.block _ hz2).trans H0.out)
  by_cases hkt:K < bl.length
  ·obtain⟨b,hbK⟩:∃b,bl[K]? =some b:=⟨bl[K],List.getElem?_eq_getElem hkt⟩
   have hkI:(K:Int) < bl.length:=by omega
   obtain⟨_,_,e',l1,l2,l3⟩:=HB.out
   injection e' with e1 e2 e4
   subst e1 e4
   rcases l3 with l3 | ⟨gc,oc,rfl,gk,h2⟩
   ·subst l3;simp at hkt
   obtain⟨vk,kd,kk⟩:=h2 K b hbK
   have kk2:=kk.below HW.out
   obtain⟨aok,capk,rfl,m1,m2,_⟩:=kk
   have c1:=(HW.out.cell (p:=⟨gc,oc+K,none⟩) gk).trans kd
   have HR2:=hide (HR.out.trans (by rw [dropE_at hbK]))
   have HL:=hide (look_any b bl.length aok capk wr kk2 (HT.out.below HW.out))
   unfold maxLen at m2
   clear kd kk2 h2 hbK e2 HR
   go_wp2_with fail
   refine HL.out.mono ?_;rintro e w9 ⟨rfl,b9⟩
   have HW9:=hide (below_step HW.out b9)
   clear x0 x1 x2 x3 x4 c1 b9 HL
   by_cases hz:blkE bl.length b=0
   ·have HEE:Hid (shapedF (nm,ps,rt,bl,pl)=shapedGo bl.length (K+1) (bl.drop (K+1))):=hide (HR2.out.trans (shapedGo_next hz))
    rw [hz]
    clear hz HR2
    go_wp2_with fail
    go_roundw
    case rel=>exact⟨K+1,by omega,by go_num,HEE,HW9⟩
    case measure=>simp [intOf];omega
   ·have hz':(blkE bl.length b != 0)=true:=by simpa using hz
    have HEE:Hid (shapedF (nm,ps,rt,bl,pl)=(blkE bl.length b,(K:Int))):=hide (HR2.out.trans (shapedGo_hit rfl hz))
    clear hz HR2
    generalize blkE bl.length b=z at *
    obtain⟨d0,d1,z0,z1⟩:=err_box ((HW9.out.block _ hz0).trans H1.out)
    go_wp2_with fail
    exact bodyPost_ret (v:= .agg #[.int .i64 z,.int .i64 (K:Int)]) (by simp [results,Tryz.results93,go_sem,d0,d1]) rfl ⟨by rw [HEE.out],err_below B0.out HW9.out⟩
  ·obtain rfl:K=bl.length:=by omega
   have HE:=HR.out
   rw [List.drop_length] at HE
   replace HE:Hid (shapedF (nm,ps,rt,bl,pl)=(0,0)):=hide HE
   obtain⟨d0,d1,z0,z1⟩:=err_box ((HW.out.block _ hz0).trans H1.out)
   go_wp2_with fail
   exact bodyPost_ret (v:= .agg #[.int .i64 0,.int .i64 0]) (by simp [results,Tryz.results93,go_sem,d0,d1]) rfl ⟨by rw [HE.out],err_below B0.out HW.out⟩
theorem shaped_any (f:Fun) (v:Value) (w:World) (hv:FunV w f v) (ht:Tab w):
  Calls Tryz.prog 93 #[v] w fun e w'=>e= .returned (.agg #[.int .i64 (shapedF f).1,.int .i64 (shapedF f).2])∧Below w.heap.size w w':=by
 obtain⟨nm,ps,rt,bl,pl⟩:=f
 have hv2:=hv
 obtain⟨vp,vb,rfl,⟨ao,c,rfl,h1,_⟩,h2⟩:=hv
 obtain⟨bo,cb,rfl,_⟩:=h2
 exact shaped_try nm ps rt pl bl ao bo c cb w hv2 ht
open Mix (Up)
def Up.rows (ll:List (List Int)):Up:=⟨fun v w=>RowsV w ll v,fun _ _ _ b h=>h.below b⟩
def Up.ints (l:List Int):Up:=⟨fun v w=>IntsV w l v,fun _ _ _ b h=>h.below b⟩
theorem calls_exist {P:Program} {f:FuncId} {args:Array Value} {w:World} {R:Ending→World→Prop} (h:Calls P f args w R):∃e w',R e w':=by
 obtain⟨e,w',_,h1,_⟩:=h []
 exact⟨e,w',h1⟩
theorem valid_of {W:World} {F:Tmp→Up} {d:Tmp} {f:FuncId} {args:Array Value} (h:Calls Tryz.prog f args W fun e w'=>∃v,e= .returned v∧Below W.heap.size W w'∧(F d).1 v w'):∃v,Mix.Valid W F (some d) v:=by
 obtain⟨e,w',v,_,b,hf⟩:=calls_exist h
 exact⟨v,w',b,fun d' hd=>by cases hd;exact hf⟩
theorem valid_eq {W:World} {F:Tmp→Up} {d:Tmp} (c:Value) (h:(F d).1 c W):∃v,Mix.Valid W F (some d) v:=⟨c,W,Below.refl _ _,fun d' hd=>by cases hd;exact h⟩
end Go.Proofs.YtljkgcfnoegibaaGreatDoor
