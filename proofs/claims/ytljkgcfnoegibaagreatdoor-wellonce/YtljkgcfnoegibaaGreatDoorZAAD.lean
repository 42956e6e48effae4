/- Texts of one chain, joined. -/
import Derived.Deep.Quiet
import Derived.Below
namespace Go.Proofs.YtljkgcfnoegibaaGreatDoor
theorem sU1 {α:Type} (l:List α) (i:Nat) (a:α):l.toArray.setIfInBounds i a=(l.set i a).toArray:=List.setIfInBounds_toArray ..
theorem sU2 {α:Type} (a:α) (l:List α) (n:Nat) (b:α):(a :: l).set (n+1) b=a :: l.set n b:=List.set_cons_succ ..
theorem sU3 {α:Type} (a:α) (l:List α) (b:α):(a :: l).set 0 b=b :: l:=List.set_cons_zero ..
end Go.Proofs.YtljkgcfnoegibaaGreatDoor
namespace Go.Proofs.YtljkgcfnoegibaaGreatDoor.Mix
open Go Go.RowKit
def Up:Type:={p:Value→World→Prop // ∀v w w',Below w.heap.size w w'→p v w→p v w'}
def Up.eq (c:Value):Up:=⟨fun v _=>v=c,fun _ _ _ _ h=>h⟩
def Up.any:Up:=⟨fun _ _=>True,fun _ _ _ _ h=>h⟩
theorem grow_step {a b c:World} (h:Below a.heap.size a b) (k:Below b.heap.size b c):Below a.heap.size a c:=h.trans (k.mono h.size)
section
variable (P:Program) (ops:Array Oper) (W:World) (F:Tmp→Up)
def Fd (dst:Option Tmp) (v:Value) (w:World):Prop:=∀d,dst=some d→(F d).1 v w
def Valid (dst:Option Tmp) (v:Value):Prop:=∃w,Below W.heap.size W w∧Fd F dst v w
def add (dst:Option Tmp) (S:Tmp→Prop):Tmp→Prop:=fun t=>dst=some t∨S t
def del (dst:Option Tmp) (S:Tmp→Prop):Tmp→Prop:=fun t=>dst≠some t∧S t
def xk (S:Tmp→Prop) (ts:List Tmp) (a:Act) (w:World):Prop:=∀t∈ts,S t→∀v,a.tmps[t]? =some v→(F t).1 v w
def eV (S:Tmp→Prop) (a:Act) (w:World):Prop:=∀t,S t→∀v,a.tmps[t]? =some v→(F t).1 v w
def mixUpon (o:Oper) (w:World):Result Next→Prop
 |.ok (.value v) w'=>Below w.heap.size w w'∧Fd F o.dst v w'
 |.ok .skip w'=>Below w.heap.size w w'∧Fd F o.dst undef w'
 |.ok (.enter f args) w'=>Calls P f args w' fun e w''=>∃v,e= .returned v∧Below w.heap.size w w''∧Fd F o.dst v w''
 |.ok (.row row args) w'=>Rows P row args w' fun v w''=>Below w.heap.size w w''∧Fd F o.dst v w''
 |_=>False
def kJ (o:Oper) (a:Act) (S:Tmp→Prop):Prop:=∀w,Below W.heap.size W w→xk F S (o.looksAt ops) a w→mixUpon P F o w ((execOp a.eval o).run P w)
def body (o:Oper) (K:Act→(Tmp→Prop)→Prop) (a:Act) (S:Tmp→Prop):Prop:=
 if Region.wanted o (yielded ops a.tmps)then kJ P ops W F o a S∧∀v,Valid W F o.dst v→K (a.put o.dst v) (add o.dst S)else K (a.put o.dst undef) (del o.dst S)
def mOp (i:Nat) (K:Act→(Tmp→Prop)→Prop) (a:Act) (S:Tmp→Prop):Prop:=match ops[i]? with
 |none=>K a S
 |some o=>body P ops W F o K a S
def fh (Q:Act→(Tmp→Prop)→Prop):List Oper→Act→(Tmp→Prop)→Prop
 |[],a,S=>Q a S
 |o :: rest,a,S=>(Region.wanted o (yielded ops a.tmps)=true→∃v,Valid W F o.dst v)∧body P ops W F o (fh Q rest) a S
def fV (md:Region.Mode) (Q:Act→(Tmp→Prop)→Prop):Nat→Array Bool→Act→(Tmp→Prop)→Prop
 |0,listed,a,S=>Region.ready md ops listed= []∧Q a S
 |fuel+1,listed,a,S=>
  (Region.ready md ops listed= []→Q a S)∧
  ∀i∈Region.ready md ops listed,mOp P ops W F i (fV md Q fuel (listed.setIfInBounds i true)) a S
end
section
variable {P:Program} {ops:Array Oper} {W:World} {F:Tmp→Up} {md:Region.Mode}
theorem eN {a:Act} {dst:Option Tmp} {v:Value} {t:Tmp} (h:dst≠some t):(a.put dst v).tmps[t]? =a.tmps[t]? :=by
 cases dst with
 |none=>rfl
 |some d=>
  have:d≠t:=fun e=>h (by rw [e]);simp [Act.put,this]
theorem qu {a:Act} {v u:Value} {t:Tmp} (h:(a.put (some t) v).tmps[t]? =some u):u=v:=by
 simp only [Act.put,Array.getElem?_setIfInBounds,if_true] at h;split at h
 ·injection h with h;exact h.symm
 ·cases h
theorem eV.add {S:Tmp→Prop} {a:Act} {w w':World} {dst:Option Tmp} {v:Value} (h:eV F S a w) (b:Below w.heap.size w w') (hf:Fd F dst v w'):eV F (add dst S) (a.put dst v) w':=by
 intro t ht u hu;by_cases e:dst=some t
 ·subst e;rw [qu hu];exact hf t rfl
 ·rw [eN e] at hu;rcases ht with ht | ht
  ·exact absurd ht e
  ·exact(F t).2 _ _ _ b (h t ht u hu)
theorem eV.del {S:Tmp→Prop} {a:Act} {w:World} {dst:Option Tmp} {v:Value} (h:eV F S a w):eV F (del dst S) (a.put dst v) w:=by
 intro t ht u hu;rw [eN ht.1] at hu;exact h t ht.2 u hu
theorem dk {o:Oper} {K K':Act→(Tmp→Prop)→Prop} {a:Act} {S:Tmp→Prop} (h:∀a S,K a S→K' a S) (hh:body P ops W F o K a S):body P ops W F o K' a S:=by
 unfold body at *;split
 ·rename_i hw;rw [if_pos hw] at hh;exact⟨hh.1,fun v hv=>h _ _ (hh.2 v hv)⟩
 ·rename_i hw;rw [if_neg hw] at hh;exact h _ _ hh
theorem iG {o:Oper} {a:Act} {S:Tmp→Prop} {K:Act→(Tmp→Prop)→Prop} {K':Act→World→Prop} {Q':Exit→Act→World→Prop} {w:World} (hC:Below W.heap.size W w) (hA:eV F S a w)
  (h:∀a' S' w',Below W.heap.size W w'→eV F S' a' w'→K a' S'→K' a' w') (hm:kJ P ops W F o a S) (hn:∀v,Valid W F o.dst v→K (a.put o.dst v) (add o.dst S)):o.wp P a w K' Q':=by
 have h3:=hm w hC (fun t _ hs v hv=>hA t hs v hv);have fin:∀v w',Below w.heap.size w w'→Fd F o.dst v w'→K' (a.put o.dst v) w':=fun v w' hb hf=>
  h _ _ _ (grow_step hC hb) (hA.add hb hf) (hn v ⟨w',grow_step hC hb,hf⟩)
 unfold Oper.wp;generalize (execOp a.eval o).run P w=r at *
 cases r with
 |ok n w'=>
  cases n <;> simp only [mixUpon] at h3 <;> simp only [Oper.upon]
  case value v=>exact fin _ _ h3.1 h3.2
  case skip=>exact fin _ _ h3.1 h3.2
  case enter f args=>exact h3.mono fun e w'' ⟨v,he,hb,hf⟩=>by subst he;exact fin _ _ hb hf
  case row row args=>exact h3.mono fun v w'' ⟨hb,hf⟩=>fin _ _ hb hf
 |halt x w'=>simp only [mixUpon] at h3
theorem dh {Q:Act→(Tmp→Prop)→Prop} {Q':Exit→Act→World→Prop} (hQ:∀a S w,Below W.heap.size W w→eV F S a w→Q a S→Q' .normal a w):∀(fuel:Nat) (listed:Array Bool) (a:Act) (S:Tmp→Prop) (w:World),Below W.heap.size W w→eV F S a w→
  fV P ops W F md Q fuel listed a S→wpAny P md ops Q' fuel listed a w
 |0,_,_,_,_,hC,hA,h=>⟨h.1,hQ _ _ _ hC hA h.2⟩
 |fuel+1,listed,a,S,w,hC,hA,h=>⟨fun h0=>hQ _ _ _ hC hA (h.1 h0),fun i hi=>by
   have hh:=h.2 i hi;unfold mOp at hh;unfold wpOp;split
   ·rename_i ho;simp only [ho] at hh;exact dh hQ fuel _ _ _ _ hC hA hh
   ·rename_i o ho;simp only [ho] at hh;unfold body at hh;split
    ·rename_i hw;rw [if_pos hw] at hh;exact .inl (iG hC hA (fun a' S' w' c k q=>dh hQ fuel _ _ _ _ c k q) hh.1 hh.2)
    ·rename_i hw;rw [if_neg hw] at hh;exact dh hQ fuel _ _ _ _ hC hA.del hh⟩
theorem fM {o:Oper} (hs:∀cs b,o.op≠ .select cs b) {a:Act} {dst:Option Tmp} {v:Value} {S S':Tmp→Prop} (hd:∀d,dst=some d→d ∉ o.looksAt ops) (hS:∀t,dst≠some t→(S' t↔S t)):kJ P ops W F o (a.put dst v) S'↔kJ P ops W F o a S:=by
 have e:=execOp_put (ops:=ops) o hs a dst v hd;have ne:∀t,t∈o.looksAt ops→dst≠some t:=fun t ht e=>hd t e ht;unfold kJ;rw [e];constructor
 ·intro h w hC hK;refine h w hC fun t ht hs v hv=> ?_;rw [eN (ne t ht)] at hv;exact hK t ht ((hS t (ne t ht)).1 hs) v hv
 ·intro h w hC hK;refine h w hC fun t ht hs v hv=> ?_;exact hK t ht ((hS t (ne t ht)).2 hs) v (by rw [eN (ne t ht)];exact hv)
theorem mW {dst:Option Tmp} {S:Tmp→Prop}:∀t,dst≠some t→(add dst S t↔S t):=fun _ h=>⟨fun k=>k.resolve_left h,.inr⟩
theorem mV {dst:Option Tmp} {S:Tmp→Prop}:∀t,dst≠some t→(del dst S t↔S t):=fun _ h=>⟨fun k=>k.2,fun k=>⟨h,k⟩⟩
theorem add_add (x y:Option Tmp) (S:Tmp→Prop):add x (add y S)=add y (add x S):=by
 funext t;unfold add;exact propext or_left_comm
theorem sZ (x y:Option Tmp) (S:Tmp→Prop):del x (del y S)=del y (del x S):=by
 funext t;unfold del;exact propext and_left_comm
theorem nt {x y:Option Tmp} (h:∀d,x=some d→y≠some d) (S:Tmp→Prop):add x (del y S)=del y (add x S):=by
 funext t;unfold add del;refine propext ⟨?_,?_⟩
 ·rintro (e | ⟨h1,h2⟩)
  ·exact⟨h t e,.inl e⟩
  ·exact⟨h1,.inr h2⟩
 ·rintro ⟨h1,e | h2⟩
  ·exact .inl e
  ·exact .inr ⟨h1,h2⟩
theorem jm {oi oj:Oper} (hap:oi.apart ops oj=true) (hsi:∀cs b,oi.op≠ .select cs b) (hsj:∀cs b,oj.op≠ .select cs b) {K:Act→(Tmp→Prop)→Prop} {a:Act} {S:Tmp→Prop}
  (hex:Region.wanted oi (yielded ops a.tmps)=true→∃v,Valid W F oi.dst v) (h:body P ops W F oi (fun a' S'=>body P ops W F oj K a' S') a S):body P ops W F oj (fun a' S'=>body P ops W F oi K a' S') a S:=by
 obtain⟨h1,h2,h3⟩:=Oper.apart_spec hap;have h2':∀d,oj.dst=some d→oi.dst≠some d:=fun d e e2=>h2 d e2 e;unfold body at *;by_cases wi:Region.wanted oi (yielded ops a.tmps)=true
 ·rw [if_pos wi] at h;obtain⟨m1,n1⟩:=h;obtain⟨v0,hv0⟩:=hex wi;by_cases wj:Region.wanted oj (yielded ops a.tmps)=true
  ·rw [if_pos wj];refine⟨?_,fun u hu=> ?_⟩
   ·have:=n1 v0 hv0;dsimp only at this
    rw [wanted_put oj a oi.dst v0 h1,if_pos wj] at this;exact(fM hsj h1 mW).1 this.1
   ·dsimp only
    rw [wanted_put oi a oj.dst u h3,if_pos wi];refine⟨(fM hsi h3 mW).2 m1,fun v hv=> ?_⟩;have:=n1 v hv;dsimp only at this
    rw [wanted_put oj a oi.dst v h1,if_pos wj] at this;have:=this.2 u hu;rw [Act.put_comm a v u h2,add_add] at this;exact this
  ·rw [if_neg wj];dsimp only
   rw [wanted_put oi a oj.dst undef h3,if_pos wi];refine⟨(fM hsi h3 mV).2 m1,fun v hv=> ?_⟩;have:=n1 v hv;dsimp only at this
   rw [wanted_put oj a oi.dst v h1,if_neg wj,Act.put_comm a v undef h2,←nt h2] at this;exact this
 ·rw [if_neg wi] at h;rw [wanted_put oj a oi.dst undef h1] at h;by_cases wj:Region.wanted oj (yielded ops a.tmps)=true
  ·rw [if_pos wj] at h ⊢;refine⟨(fM hsj h1 mV).1 h.1,fun u hu=> ?_⟩;dsimp only
   rw [wanted_put oi a oj.dst u h3,if_neg wi];have:=h.2 u hu;rw [Act.put_comm a undef u h2,nt h2'] at this;exact this
  ·rw [if_neg wj] at h ⊢;dsimp only
   rw [wanted_put oi a oj.dst undef h3,if_neg wi];rw [Act.put_comm a undef undef h2,sZ] at h;exact h
theorem gG {o:Oper} {K:Act→(Tmp→Prop)→Prop} {a:Act} {S:Tmp→Prop} {A:Act→Prop} (hu:∀u,A (a.put o.dst u)) (hh:body P ops W F o K a S):body P ops W F o (fun a' S'=>A a'∧K a' S') a S:=by
 unfold body at *;split
 ·rename_i hw;rw [if_pos hw] at hh;exact⟨hh.1,fun v hv=>⟨hu v,hh.2 v hv⟩⟩
 ·rename_i hw;rw [if_neg hw] at hh;exact⟨hu _,hh⟩
theorem jW {Q:Act→(Tmp→Prop)→Prop} {i:Nat} {oi:Oper} (hi:ops[i]? =some oi) (hsel:∀(j:Nat) (o:Oper) cs b,ops[j]? =some o→o.op≠ .select cs b):
  ∀(fuel:Nat) (listed:Array Bool) (a:Act) (S:Tmp→Prop),
   (∀j oj,ops[j]? =some oj→j≠i→listed.getD j true=false→(∀e∈oj.after,Region.binds md e=true→e.on≠i)→oi.apart ops oj=true)→
   i∈Region.ready md ops listed→(Region.wanted oi (yielded ops a.tmps)=true→∃v,Valid W F oi.dst v)→
   body P ops W F oi (fV P ops W F md Q fuel (listed.setIfInBounds i true)) a S→fV P ops W F md Q (fuel+1) listed a S:=by
 intro fuel;induction fuel with
 |zero=>
  intro listed a S _ hr hex H;refine⟨fun h=>(by rw [h] at hr;cases hr),fun j hj=> ?_⟩;by_cases hji:j=i
  ·subst hji;unfold mOp;simp only [hi];exact H
  ·have hno:=ready_mono hj hji;have:Region.ready md ops (listed.setIfInBounds i true)= []:=by
    unfold body at H;split at H
    ·rename_i hw;obtain⟨v,hv⟩:=hex hw;exact(H.2 v hv).1
    ·exact H.1
   rw [this] at hno
   cases hno
 |succ fuel ih=>
  intro listed a S hfree hr hex H;refine⟨fun h=>(by rw [h] at hr;cases hr),fun j hj=> ?_⟩;by_cases hji:j=i
  ·subst hji;unfold mOp;simp only [hi];exact H
  ·obtain⟨hjun,oj,hoj,hall⟩:=mem_ready.1 hj;have hnot:∀e∈oj.after,Region.binds md e=true→e.on≠i:=fun e he hb heq=>by
    have h1:=hall e he hb;have h0:=(mem_ready.1 hr).1;rw [heq] at h1;rcases Nat.lt_or_ge i listed.size with h' | h'
    ·simp [h'] at h0 h1;rw [h0] at h1;cases h1
    ·simp [Array.getElem?_eq_none h'] at h1
   have hap:=hfree j oj hoj hji hjun hnot;obtain⟨_,_,h3⟩:=Oper.apart_spec hap;have H1:body P ops W F oi (fun a' S'=>body P ops W F oj (fV P ops W F md Q fuel ((listed.setIfInBounds i true).setIfInBounds j true)) a' S') a S:=dk (fun a' S' h=>by
    have:=h.2 j (ready_mono hj hji);unfold mOp at this;simp only [hoj] at this;exact this) H
   have H2:=jm hap (fun cs b=>hsel i oi cs b hi) (fun cs b=>hsel j oj cs b hoj) hex H1;have H3:=gG (A:=fun a'=>Region.wanted oi (yielded ops a'.tmps)=true→∃v,Valid W F oi.dst v) (fun u=>by rw [wanted_put oi a oj.dst u h3];exact hex) H2;have hfree':∀k ok,ops[k]? =some ok→k≠i→(listed.setIfInBounds j true).getD k true=false→
     (∀e∈ok.after,Region.binds md e=true→e.on≠i)→oi.apart ops ok=true:=fun k ok hk hki hun hno=>by
    refine hfree k ok hk hki ?_ hno;by_cases hjk:j=k
    ·subst hjk;exact hjun
    ·rw [getD_set_ne true hjk] at hun;exact hun
   unfold mOp;simp only [hoj];refine dk (fun a' S' h=>ih (listed.setIfInBounds j true) a' S' hfree' (ready_mono hr (Ne.symm hji)) h.1 ?_) H3;rw [Array.setIfInBounds_comm _ _ hji];exact h.2
theorem iH {Q:Act→(Tmp→Prop)→Prop} (hs:Region.noSelect ops=true):∀(l:List Oper) (k:Nat) (listed:Array Bool) (a:Act) (S:Tmp→Prop),(∀j,l[j]? =ops[k+j]?)→
  Region.lexFrom md ops l.length k listed=true→fh P ops W F Q l a S→fV P ops W F md Q l.length listed a S
 |[],_,_,_,_,_,hB,h=>⟨by simpa [Region.lexFrom] using hB,h⟩
 |o :: l,k,listed,a,S,hl,hB,h=>by
  have h0:ops[k]? =some o:=by simpa using (hl 0).symm
  simp only [List.length_cons,Region.lexFrom,Bool.and_eq_true] at hB;obtain⟨⟨hr,hf⟩,hB'⟩:=hB;refine jW h0 (Region.noSelect_spec hs) l.length listed a S (Region.free_spec h0 hf) (by simpa using hr) h.1 ?_;exact dk (fun a' S' q=>iH hs l (k+1) _ _ _ (fun j=>by have:=hl (j+1);simpa [Nat.add_assoc,Nat.add_comm 1 j] using this) hB' q) h.2
theorem cj {id:Nat} {Q:Exit→Act→World→Prop} {a:Act} {l:List Oper} (F:Tmp→Up) (hm:P.follows .mixedOrders=true) (hB:Region.lexB .any l.toArray=true)
  (h:fh P l.toArray W F (fun a' S=>∀w',Below W.heap.size W w'→eV F S a' w'→Q .normal a' w') l a (fun _=>False)):(Code.region id l.toArray true).wp P Q a W:=by
 simp only [Region.lexB,Bool.and_eq_true] at hB;refine wp_region_any hm (dh (W:=W) (F:=F) (Q:=fun a' S=>∀w',Below W.heap.size W w'→eV F S a' w'→Q .normal a' w') (fun _ _ w' hC hA h=>h w' hC hA) _ _ _ (fun _=>False) _ (Below.refl _ _).drew (fun t ht=>ht.elim) ?_);have:=iH (W:=W) (F:=F) (md:= .any) hB.1 l 0 (Array.replicate l.toArray.size false) a (fun _=>False) (by simp) (by simpa using hB.2) h;simpa using this
theorem ed {Q:Act→(Tmp→Prop)→Prop} {a:Act} {S:Tmp→Prop} (h:Q a S):fh P ops W F Q [] a S:=h
theorem dE {Q:Act→(Tmp→Prop)→Prop} {a:Act} {S:Tmp→Prop} {o:Oper} {rest:List Oper} (hw:Region.wanted o (yielded ops a.tmps)=false) (h:fh P ops W F Q rest (a.put o.dst undef) (del o.dst S)):fh P ops W F Q (o :: rest) a S:=by
 refine⟨fun k=>absurd (hw.symm.trans k) (by decide),?_⟩;unfold body;rw [if_neg (by rw [hw];decide)];exact h
theorem aj {Q:Act→(Tmp→Prop)→Prop} {a:Act} {S:Tmp→Prop} {o:Oper} {rest:List Oper} (hw:Region.wanted o (yielded ops a.tmps)=true) (hex:∃v,Valid W F o.dst v)
  (hm:∀w,Below W.heap.size W w→xk F S (o.looksAt ops) a w→mixUpon P F o w ((execOp a.eval o).run P w)) (h:∀v,Valid W F o.dst v→fh P ops W F Q rest (a.put o.dst v) (add o.dst S)):fh P ops W F Q (o :: rest) a S:=by
 refine⟨fun _=>hex,?_⟩;unfold body;rw [if_pos hw];exact⟨hm,h⟩
end
section
variable (P:Program) (ops:Array Oper) (W:World) (F:Tmp→Up)
def nX (md:Region.Mode) (n:Nat) (Q:Act→(Tmp→Prop)→Prop):Nat→Array Bool→Act→(Tmp→Prop)→Prop
 |0,listed,a,S=>((∀j∈Region.ready md ops listed,j=n)∧Region.ready md ops listed≠ []∧Region.ready md ops (listed.setIfInBounds n true)= [])∧Q a S
 |fuel+1,listed,a,S=>Region.ready md ops listed≠ []∧∀i∈Region.ready md ops listed,mOp P ops W F i (nX md n Q fuel (listed.setIfInBounds i true)) a S
end
section
variable {P:Program} {ops:Array Oper} {W:World} {F:Tmp→Up} {md:Region.Mode} {n:Nat}
theorem jE {Q:Act→(Tmp→Prop)→Prop} {Q':Exit→Act→World→Prop} {o:Oper} (ho:ops[n]? =some o)
  (hQ:∀a S w,Below W.heap.size W w→eV F S a w→Q a S→Region.wanted o (yielded ops a.tmps)=true∧∀K:Act→World→Prop,(∀a' w',Q' .normal a' w'→K a' w')→o.wp P a w K Q'):
  ∀(fuel:Nat) (listed:Array Bool) (a:Act) (S:Tmp→Prop) (w:World),Below W.heap.size W w→eV F S a w→nX P ops W F md n Q fuel listed a S→wpAny P md ops Q' (fuel+1) listed a w
 |0,listed,a,S,w,hC,hA,h=>⟨fun h0=>absurd h0 h.1.2.1,fun i hi=>by
   obtain rfl:=h.1.1 i hi;obtain⟨hw,hk⟩:=hQ a S w hC hA h.2;unfold wpOp;simp only [ho];rw [if_pos hw];exact .inl (hk _ (fun a' w' q=>⟨h.1.2.2,q⟩))⟩
 |fuel+1,listed,a,S,w,hC,hA,h=>⟨fun h0=>absurd h0 h.1,fun i hi=>by
   have hh:=h.2 i hi;unfold mOp at hh;unfold wpOp;split
   ·rename_i ho';simp only [ho'] at hh;exact jE ho hQ fuel _ _ _ _ hC hA hh
   ·rename_i o' ho';simp only [ho'] at hh;unfold body at hh;split
    ·rename_i hw;rw [if_pos hw] at hh;exact .inl (iG hC hA (fun a' S' w' c k q=>jE ho hQ fuel _ _ _ _ c k q) hh.1 hh.2)
    ·rename_i hw;rw [if_neg hw] at hh;exact jE ho hQ fuel _ _ _ _ hC hA.del hh⟩
theorem tK {Q:Act→(Tmp→Prop)→Prop} {i:Nat} {oi on:Oper} (hi:ops[i]? =some oi) (hn:ops[n]? =some on) (hlast:∃e∈on.after,Region.binds md e=true∧e.on=i) (hsel:∀(j:Nat) (o:Oper) cs b,ops[j]? =some o→o.op≠ .select cs b):
  ∀(fuel:Nat) (listed:Array Bool) (a:Act) (S:Tmp→Prop),
   (∀j oj,ops[j]? =some oj→j≠i→listed.getD j true=false→(∀e∈oj.after,Region.binds md e=true→e.on≠i)→oi.apart ops oj=true)→
   i∈Region.ready md ops listed→(Region.wanted oi (yielded ops a.tmps)=true→∃v,Valid W F oi.dst v)→
   body P ops W F oi (nX P ops W F md n Q fuel (listed.setIfInBounds i true)) a S→nX P ops W F md n Q (fuel+1) listed a S:=by
 intro fuel;induction fuel with
 |zero=>
  intro listed a S _ hr hex H;refine⟨fun h=>(by rw [h] at hr;cases hr),fun j hj=> ?_⟩;by_cases hji:j=i
  ·subst hji;unfold mOp;simp only [hi];exact H
  ·have hno:=ready_mono hj hji;have hall:∀j∈Region.ready md ops (listed.setIfInBounds i true),j=n:=by
    unfold body at H;split at H
    ·rename_i hw;obtain⟨v,hv⟩:=hex hw;exact(H.2 v hv).1.1
    ·exact H.1.1
   obtain rfl:=hall j hno;exfalso;obtain⟨hjun,oj,hoj,hal⟩:=mem_ready.1 hj;rw [hn] at hoj;injection hoj with hoj;subst hoj;obtain⟨e,he,hb,heq⟩:=hlast;have h1:=hal e he hb;have h0:=(mem_ready.1 hr).1;rw [heq] at h1;rcases Nat.lt_or_ge i listed.size with h' | h'
   ·simp [h'] at h0 h1;rw [h0] at h1;cases h1
   ·simp [Array.getElem?_eq_none h'] at h1
 |succ fuel ih=>
  intro listed a S hfree hr hex H;refine⟨fun h=>(by rw [h] at hr;cases hr),fun j hj=> ?_⟩;by_cases hji:j=i
  ·subst hji;unfold mOp;simp only [hi];exact H
  ·obtain⟨hjun,oj,hoj,hall⟩:=mem_ready.1 hj;have hnot:∀e∈oj.after,Region.binds md e=true→e.on≠i:=fun e he hb heq=>by
    have h1:=hall e he hb;have h0:=(mem_ready.1 hr).1;rw [heq] at h1;rcases Nat.lt_or_ge i listed.size with h' | h'
    ·simp [h'] at h0 h1;rw [h0] at h1;cases h1
    ·simp [Array.getElem?_eq_none h'] at h1
   have hap:=hfree j oj hoj hji hjun hnot;obtain⟨_,_,h3⟩:=Oper.apart_spec hap;have H1:body P ops W F oi (fun a' S'=>body P ops W F oj (nX P ops W F md n Q fuel ((listed.setIfInBounds i true).setIfInBounds j true)) a' S') a S:=dk (fun a' S' h=>by
    have:=h.2 j (ready_mono hj hji);unfold mOp at this;simp only [hoj] at this;exact this) H
   have H2:=jm hap (fun cs b=>hsel i oi cs b hi) (fun cs b=>hsel j oj cs b hoj) hex H1;have H3:=gG (A:=fun a'=>Region.wanted oi (yielded ops a'.tmps)=true→∃v,Valid W F oi.dst v) (fun u=>by rw [wanted_put oi a oj.dst u h3];exact hex) H2;have hfree':∀k ok,ops[k]? =some ok→k≠i→(listed.setIfInBounds j true).getD k true=false→
     (∀e∈ok.after,Region.binds md e=true→e.on≠i)→oi.apart ops ok=true:=fun k ok hk hki hun hno=>by
    refine hfree k ok hk hki ?_ hno;by_cases hjk:j=k
    ·subst hjk;exact hjun
    ·rw [getD_set_ne true hjk] at hun;exact hun
   unfold mOp;simp only [hoj];refine dk (fun a' S' h=>ih (listed.setIfInBounds j true) a' S' hfree' (ready_mono hr (Ne.symm hji)) h.1 ?_) H3;rw [Array.setIfInBounds_comm _ _ hji];exact h.2
theorem qM {Q:Act→(Tmp→Prop)→Prop} {on:Oper} (hn:ops[n]? =some on) (hs:Region.noSelect ops=true) (hlast:∀i,i < n→∃e∈on.after,Region.binds md e=true∧e.on=i):∀(l:List Oper) (k:Nat) (listed:Array Bool) (a:Act) (S:Tmp→Prop),k+l.length=n→(∀j,j < l.length→l[j]? =ops[k+j]?)→
  Region.lexFrom md ops (l.length+1) k listed=true→fh P ops W F Q l a S→nX P ops W F md n Q l.length listed a S
 |[],k,listed,_,_,hk,_,hB,h=>by
  have hkn:k=n:=by simpa using hk
  subst hkn;simp only [List.length_nil,Region.lexFrom,Bool.and_eq_true] at hB;obtain⟨⟨hr,_⟩,he⟩:=hB;have hr':k∈Region.ready md ops listed:=by simpa using hr
  have he':Region.ready md ops (listed.setIfInBounds k true)= []:=by simpa using he
  refine⟨⟨fun j hj=> ?_,fun h0=>(by rw [h0] at hr';cases hr'),he'⟩,h⟩;refine Classical.byContradiction fun hne=> ?_;have:=ready_mono hj hne;rw [he'] at this
  cases this
 |o :: l,k,listed,a,S,hk,hl,hB,h=>by
  have h0:ops[k]? =some o:=by simpa using (hl 0 (by simp)).symm
  simp only [List.length_cons] at hB hk;rw [Region.lexFrom] at hB;simp only [Bool.and_eq_true] at hB;obtain⟨⟨hr,hf⟩,hB'⟩:=hB;refine tK h0 hn (hlast k (by omega)) (Region.noSelect_spec hs) l.length listed a S (Region.free_spec h0 hf) (by simpa using hr) h.1 ?_;exact dk (fun a' S' q=>qM hn hs hlast l (k+1) _ _ _ (by omega) (fun j hj=>by have:=hl (j+1) (by simp;omega);simpa [Nat.add_assoc,Nat.add_comm 1 j] using this) hB' q) h.2
theorem iA {id:Nat} {Q:Exit→Act→World→Prop} {a:Act} {l:List Oper} (F:Tmp→Up) (n:Nat) (o:Oper) (hn:l.length=n+1) (ho:l[n]? =some o) (hm:P.follows .mixedOrders=true) (hB:Region.lexB .any l.toArray=true)
  (hL:(List.range n).all (fun i=>o.after.any fun e=>Region.binds .any e && e.on == i)=true)
  (h:fh P l.toArray W F (fun a' S=>∀w',Below W.heap.size W w'→eV F S a' w'→Region.wanted o (yielded l.toArray a'.tmps)=true∧∀K:Act→World→Prop,(∀a'' w'',Q .normal a'' w''→K a'' w'')→o.wp P a' w' K Q) (l.take n) a (fun _=>False)):(Code.region id l.toArray true).wp P Q a W:=by
 simp only [Region.lexB,Bool.and_eq_true] at hB;have hsz:l.toArray.size=n+1:=by simpa using hn
 refine wp_region_any hm ?_;rw [hsz];have hoA:l.toArray[n]? =some o:=by simpa using ho
 refine jE (W:=W) (F:=F) (n:=n) (Q:=fun a' S=>∀w',Below W.heap.size W w'→eV F S a' w'→Region.wanted o (yielded l.toArray a'.tmps)=true∧∀K:Act→World→Prop,(∀a'' w'',Q .normal a'' w''→K a'' w'')→o.wp P a' w' K Q) hoA (fun _ _ w' hC hA h=>h w' hC hA) n _ _ (fun _=>False) _ (Below.refl _ _).drew (fun t ht=>ht.elim) ?_;have hlen:(l.take n).length=n:=by rw [List.length_take];omega
 have hlast:∀i,i < n→∃e∈o.after,Region.binds .any e=true∧e.on=i:=fun i hi=>by
  have:=List.all_eq_true.1 hL i (by simpa using hi);obtain⟨e,he,h2⟩:=Array.any_eq_true'.1 this;simp only [Bool.and_eq_true,beq_iff_eq] at h2;exact⟨e,he,h2.1,h2.2⟩
 have hB2:=hB.2;rw [hsz] at hB2;have:=qM (P:=P) (W:=W) (F:=F) (md:= .any) (n:=n) hoA hB.1 hlast (l.take n) 0 (Array.replicate (n+1) false) a (fun _=>False) (by omega) (fun j hj=>by
  rw [Nat.zero_add,List.getElem?_take,if_pos (by omega)];simp) (by rw [hlen];exact hB2) h
 rw [hlen] at this;exact this
end
section
variable (P:Program) (ops:Array Oper) (W:World) (F:Tmp→Up)
def nU (md:Region.Mode) (n:Nat) (L0:Array Bool) (Q:Act→(Tmp→Prop)→Prop):Nat→Array Bool→Act→(Tmp→Prop)→Prop
 |0,listed,a,S=>((∀j∈Region.ready md ops listed,j=n)∧Region.ready md ops listed≠ []∧listed=L0)∧Q a S
 |fuel+1,listed,a,S=>Region.ready md ops listed≠ []∧∀i∈Region.ready md ops listed,mOp P ops W F i (nU md n L0 Q fuel (listed.setIfInBounds i true)) a S
end
section
variable {P:Program} {ops:Array Oper} {W:World} {F:Tmp→Up} {md:Region.Mode} {n:Nat} {L0:Array Bool}
theorem jD {Q:Act→(Tmp→Prop)→Prop} {Q':Exit→Act→World→Prop} {o:Oper} {m:Nat} (ho:ops[n]? =some o)
  (hQ:∀a S w,Below W.heap.size W w→eV F S a w→Q a S→Region.wanted o (yielded ops a.tmps)=true∧∀K:Act→World→Prop,(∀a' w',wpAny P md ops Q' m (L0.setIfInBounds n true) a' w'→K a' w')→o.wp P a w K Q'):
  ∀(fuel:Nat) (listed:Array Bool) (a:Act) (S:Tmp→Prop) (w:World),Below W.heap.size W w→eV F S a w→nU P ops W F md n L0 Q fuel listed a S→wpAny P md ops Q' (m+1+fuel) listed a w
 |0,listed,a,S,w,hC,hA,h=>⟨fun h0=>absurd h0 h.1.2.1,fun i hi=>by
   obtain rfl:=h.1.1 i hi;obtain⟨hw,hk⟩:=hQ a S w hC hA h.2;unfold wpOp;simp only [ho];rw [if_pos hw];exact .inl (hk _ (fun a' w' q=>by rw [h.1.2.2];exact q))⟩
 |fuel+1,listed,a,S,w,hC,hA,h=>⟨fun h0=>absurd h0 h.1,fun i hi=>by
   have hh:=h.2 i hi;unfold mOp at hh;unfold wpOp;split
   ·rename_i ho';simp only [ho'] at hh;exact jD ho hQ fuel _ _ _ _ hC hA hh
   ·rename_i o' ho';simp only [ho'] at hh;unfold body at hh;split
    ·rename_i hw;rw [if_pos hw] at hh;exact .inl (iG hC hA (fun a' S' w' c k q=>jD ho hQ fuel _ _ _ _ c k q) hh.1 hh.2)
    ·rename_i hw;rw [if_neg hw] at hh;exact jD ho hQ fuel _ _ _ _ hC hA.del hh⟩
def Cl (md:Region.Mode) (ops:Array Oper) (listed:Array Bool):Prop:=∀(j:Nat) (oj:Oper),ops[j]? =some oj→listed.getD j false=true→∀e∈oj.after,Region.binds md e=true→listed.getD e.on false=true
theorem Cl.set {listed:Array Bool} {i:Nat} (h:Cl md ops listed) (hr:i∈Region.ready md ops listed):Cl md ops (listed.setIfInBounds i true):=by
 intro j oj hoj hj e he hb;obtain⟨_,o,ho,hall⟩:=mem_ready.1 hr;by_cases hij:i=j
 ·subst hij;rw [ho] at hoj;injection hoj with hoj;subst hoj;exact getD_set_true (hall e he hb)
 ·rw [getD_set_ne false hij] at hj;exact getD_set_true (h j oj hoj hj e he hb)
def El (md:Region.Mode) (ops:Array Oper) (on:Oper) (i:Nat):Prop:=∃e∈on.after,Region.binds md e=true∧(e.on=i∨∃ok,ops[e.on]? =some ok∧∃e'∈ok.after,Region.binds md e'=true∧e'.on=i)
theorem tw {Q:Act→(Tmp→Prop)→Prop} {i:Nat} {oi on:Oper} (hi:ops[i]? =some oi) (hn:ops[n]? =some on) (hlast:El md ops on i) (hsel:∀(j:Nat) (o:Oper) cs b,ops[j]? =some o→o.op≠ .select cs b):
  ∀(fuel:Nat) (listed:Array Bool) (a:Act) (S:Tmp→Prop),Cl md ops listed→
   (∀j oj,ops[j]? =some oj→j≠i→listed.getD j true=false→(∀e∈oj.after,Region.binds md e=true→e.on≠i)→oi.apart ops oj=true)→
   i∈Region.ready md ops listed→(Region.wanted oi (yielded ops a.tmps)=true→∃v,Valid W F oi.dst v)→
   body P ops W F oi (nU P ops W F md n L0 Q fuel (listed.setIfInBounds i true)) a S→nU P ops W F md n L0 Q (fuel+1) listed a S:=by
 intro fuel;induction fuel with
 |zero=>
  intro listed a S hcl _ hr hex H;refine⟨fun h=>(by rw [h] at hr;cases hr),fun j hj=> ?_⟩;by_cases hji:j=i
  ·subst hji;unfold mOp;simp only [hi];exact H
  ·have hno:=ready_mono hj hji;have hall:∀j∈Region.ready md ops (listed.setIfInBounds i true),j=n:=by
    unfold body at H;split at H
    ·rename_i hw;obtain⟨v,hv⟩:=hex hw;exact(H.2 v hv).1.1
    ·exact H.1.1
   obtain rfl:=hall j hno;exfalso;obtain⟨hjun,oj,hoj,hal⟩:=mem_ready.1 hj;rw [hn] at hoj;injection hoj with hoj;subst hoj;obtain⟨e,he,hb,heq⟩:=hlast;have h1:=hal e he hb;have h0:=(mem_ready.1 hr).1;replace h1:listed.getD i false=true:=by
    rcases heq with heq | ⟨ok,hok,e',he',hb',heq'⟩
    ·rw [heq] at h1;exact h1
    ·have:=hcl _ ok hok h1 e' he' hb';rw [heq'] at this;exact this
   rcases Nat.lt_or_ge i listed.size with h' | h'
   ·simp [h'] at h0 h1;rw [h0] at h1;cases h1
   ·simp [Array.getElem?_eq_none h'] at h1
 |succ fuel ih=>
  intro listed a S hcl hfree hr hex H;refine⟨fun h=>(by rw [h] at hr;cases hr),fun j hj=> ?_⟩;by_cases hji:j=i
  ·subst hji;unfold mOp;simp only [hi];exact H
  ·obtain⟨hjun,oj,hoj,hall⟩:=mem_ready.1 hj;have hnot:∀e∈oj.after,Region.binds md e=true→e.on≠i:=fun e he hb heq=>by
    have h1:=hall e he hb;have h0:=(mem_ready.1 hr).1;rw [heq] at h1;rcases Nat.lt_or_ge i listed.size with h' | h'
    ·simp [h'] at h0 h1;rw [h0] at h1;cases h1
    ·simp [Array.getElem?_eq_none h'] at h1
   have hap:=hfree j oj hoj hji hjun hnot;obtain⟨_,_,h3⟩:=Oper.apart_spec hap;have H1:body P ops W F oi (fun a' S'=>body P ops W F oj (nU P ops W F md n L0 Q fuel ((listed.setIfInBounds i true).setIfInBounds j true)) a' S') a S:=dk (fun a' S' h=>by
    have:=h.2 j (ready_mono hj hji);unfold mOp at this;simp only [hoj] at this;exact this) H
   have H2:=jm hap (fun cs b=>hsel i oi cs b hi) (fun cs b=>hsel j oj cs b hoj) hex H1;have H3:=gG (A:=fun a'=>Region.wanted oi (yielded ops a'.tmps)=true→∃v,Valid W F oi.dst v) (fun u=>by rw [wanted_put oi a oj.dst u h3];exact hex) H2;have hfree':∀k ok,ops[k]? =some ok→k≠i→(listed.setIfInBounds j true).getD k true=false→
     (∀e∈ok.after,Region.binds md e=true→e.on≠i)→oi.apart ops ok=true:=fun k ok hk hki hun hno=>by
    refine hfree k ok hk hki ?_ hno;by_cases hjk:j=k
    ·subst hjk;exact hjun
    ·rw [getD_set_ne true hjk] at hun;exact hun
   unfold mOp;simp only [hoj];refine dk (fun a' S' h=>ih (listed.setIfInBounds j true) a' S' (hcl.set hj) hfree' (ready_mono hr (Ne.symm hji)) h.1 ?_) H3;rw [Array.setIfInBounds_comm _ _ hji];exact h.2
def pre (sz k:Nat):Array Bool:=(List.range k).foldl (fun l i=>l.setIfInBounds i true) (Array.replicate sz false)
theorem pV (sz k:Nat):pre sz (k+1)=(pre sz k).setIfInBounds k true:=by
 unfold pre;rw [List.range_succ,List.foldl_append];rfl
theorem JP (sz:Nat):∀(k j:Nat),j < k→(pre sz k).getD j true=true:=by
 intro k;induction k with
 |zero=>intro j h;omega
 |succ k ih=>
  intro j h;rw [pV];by_cases e:k=j
  ·subst e;by_cases hb:k < (pre sz k).size
   ·simp [hb]
   ·simp [hb]
  ·rw [getD_set_ne true e];exact ih j (by omega)
theorem IX (sz:Nat) (k:Nat) (hk:k < sz):(pre sz k).getD k false=false:=by
 have h:∀(m:Nat),m≤k→(pre sz m).getD k false=false:=by
  intro m;induction m with
  |zero=>intro _;simp [pre,hk]
  |succ m ih=>
   intro hm;rw [pV,getD_set_ne false (by omega)];exact ih (by omega)
 exact h k (Nat.le_refl _)
theorem p7 {Q:Act→(Tmp→Prop)→Prop} {on:Oper} {m:Nat} (hsz:ops.size=n+1+m) (hn:ops[n]? =some on) (hs:Region.noSelect ops=true) (hlast:∀i,i < n→El md ops on i)
  (htail:∀(j:Nat) (oj:Oper),n < j→ops[j]? =some oj→∃e∈oj.after,Region.binds md e=true∧e.on=n):∀(l:List Oper) (k:Nat) (a:Act) (S:Tmp→Prop),Cl md ops (pre ops.size k)→k+l.length=n→(∀j,j < l.length→l[j]? =ops[k+j]?)→
  Region.lexFrom md ops (l.length+1+m) k (pre ops.size k)=true→fh P ops W F Q l a S→nU P ops W F md n (pre ops.size n) Q l.length (pre ops.size k) a S
 |[],k,_,_,_,hk,_,hB,h=>by
  have hkn:k=n:=by simpa using hk
  subst hkn;have e:([]:List Oper).length+1+m=m+1:=by simp;omega
  rw [e,Region.lexFrom] at hB;simp only [Bool.and_eq_true] at hB;obtain⟨⟨hr,_⟩,_⟩:=hB;have hr':k∈Region.ready md ops (pre ops.size k):=by simpa using hr
  refine⟨⟨fun j hj=> ?_,fun h0=>(by rw [h0] at hr';cases hr'),rfl⟩,h⟩;refine Classical.byContradiction fun hne=> ?_;obtain⟨hjun,oj,hoj,hall⟩:=mem_ready.1 hj;rcases Nat.lt_or_ge j k with hlt | hge
  ·rw [JP _ _ _ hlt] at hjun;cases hjun
  ·obtain⟨e,he,hb,heq⟩:=htail j oj (by omega) hoj;have h1:=hall e he hb;rw [heq,IX _ _ (by omega)] at h1
   cases h1
 |o :: l,k,a,S,hcl,hk,hl,hB,h=>by
  have h0:ops[k]? =some o:=by simpa using (hl 0 (by simp)).symm
  have e:(o :: l).length+1+m=(l.length+1+m)+1:=by simp;omega
  rw [e,Region.lexFrom] at hB;simp only [List.length_cons] at hk;simp only [Bool.and_eq_true] at hB;obtain⟨⟨hr,hf⟩,hB'⟩:=hB;refine tw h0 hn (hlast k (by omega)) (Region.noSelect_spec hs) l.length (pre ops.size k) a S hcl (Region.free_spec h0 hf) (by simpa using hr) h.1 ?_;have hcl':=hcl.set (by simpa using hr:k∈Region.ready md ops (pre ops.size k));rw [←pV] at hB' hcl' ⊢;exact dk (fun a' S' q=>p7 hsz hn hs hlast htail l (k+1) _ _ hcl' (by omega) (fun j hj=>by have:=hl (j+1) (by simp;omega);simpa [Nat.add_assoc,Nat.add_comm 1 j] using this) hB' q) h.2
theorem n8 {Q:Exit→Act→World→Prop} {m i:Nat} {L:Array Bool} {a:Act} {w:World} {o:Oper} (hr:Region.ready md ops L= [i]) (ho:ops[i]? =some o) (hw:Region.wanted o (yielded ops a.tmps)=true)
  (h:∀K:Act→World→Prop,(∀a' w',wpAny P md ops Q m (L.setIfInBounds i true) a' w'→K a' w')→o.wp P a w K Q):wpAny P md ops Q (m+1) L a w:=
 ⟨fun h0=>(by rw [hr] at h0;cases h0),fun j hj=>by
  rw [hr] at hj;obtain rfl:j=i:=by simpa using hj
  unfold wpOp;simp only [ho];rw [if_pos hw];exact .inl (h _ (fun a' w' q=>q))⟩
theorem sC {Q:Exit→Act→World→Prop} {L:Array Bool} {a:Act} {w:World} (hr:Region.ready md ops L= []) (h:Q .normal a w):wpAny P md ops Q 0 L a w:=⟨hr,h⟩
theorem wp_region_tail {id:Nat} {Q:Exit→Act→World→Prop} {a:Act} {l:List Oper} (F:Tmp→Up) (n m:Nat) (o:Oper) (hn:l.length=n+1+m) (ho:l[n]? =some o) (hm:P.follows .mixedOrders=true) (hB:Region.lexB .any l.toArray=true)
  (hL:(List.range n).all (fun i=>o.after.any fun e=>Region.binds .any e && (e.on == i || (match l[e.on]? with | some ok=>ok.after.any fun e'=>Region.binds .any e' && e'.on == i | none=>false)))=true) (hT:(l.drop (n+1)).all (fun oj=>oj.after.any fun e=>Region.binds .any e && e.on == n)=true)
  (h:fh P l.toArray W F (fun a' S=>∀w',Below W.heap.size W w'→eV F S a' w'→Region.wanted o (yielded l.toArray a'.tmps)=true∧∀K:Act→World→Prop,(∀a'' w'',wpAny P .any l.toArray Q m ((pre l.toArray.size n).setIfInBounds n true) a'' w''→K a'' w'')→o.wp P a' w' K Q) (l.take n) a (fun _=>False)):(Code.region id l.toArray true).wp P Q a W:=by
 simp only [Region.lexB,Bool.and_eq_true] at hB;have hsz:l.toArray.size=n+1+m:=by simpa using hn
 refine wp_region_any hm ?_;have hoA:l.toArray[n]? =some o:=by simpa using ho
 have e0:l.toArray.size=m+1+n:=by omega
 rw [e0];have hlen:(l.take n).length=n:=by rw [List.length_take];omega
 have hlast:∀i,i < n→El .any l.toArray o i:=fun i hi=>by
  have:=List.all_eq_true.1 hL i (by simpa using hi);obtain⟨e,he,h2⟩:=Array.any_eq_true'.1 this;simp only [Bool.and_eq_true,Bool.or_eq_true,beq_iff_eq] at h2;refine⟨e,he,h2.1,?_⟩;rcases h2.2 with h3 | h3
  ·exact .inl h3
  ·right;split at h3
   ·rename_i ok hok;obtain⟨e',he',h4⟩:=Array.any_eq_true'.1 h3;simp only [Bool.and_eq_true,beq_iff_eq] at h4;exact⟨ok,by simpa using hok,e',he',h4.1,h4.2⟩
   ·cases h3
 have htail:∀(j:Nat) (oj:Oper),n < j→l.toArray[j]? =some oj→∃e∈oj.after,Region.binds .any e=true∧e.on=n:=fun j oj hj hoj=>by
  have hm':oj∈l.drop (n+1):=by
   rw [List.mem_iff_getElem?];refine⟨j - (n+1),?_⟩;rw [List.getElem?_drop,show n+1+(j - (n+1))=j by omega];simpa using hoj
  have:=List.all_eq_true.1 hT oj hm';obtain⟨e,he,h2⟩:=Array.any_eq_true'.1 this;simp only [Bool.and_eq_true,beq_iff_eq] at h2;exact⟨e,he,h2.1,h2.2⟩
 refine jD (W:=W) (F:=F) (n:=n) (L0:=pre l.toArray.size n) (Q:=fun a' S=>∀w',Below W.heap.size W w'→eV F S a' w'→Region.wanted o (yielded l.toArray a'.tmps)=true∧∀K:Act→World→Prop,(∀a'' w'',wpAny P .any l.toArray Q m ((pre l.toArray.size n).setIfInBounds n true) a'' w''→K a'' w'')→o.wp P a' w' K Q) hoA (fun _ _ w' hC hA h=>h w' hC hA) n _ _ (fun _=>False) _ (Below.refl _ _).drew (fun t ht=>ht.elim) ?_;have hB2:=hB.2;have:=p7 (P:=P) (W:=W) (F:=F) (md:= .any) (n:=n) (m:=m) hsz hoA hB.1 hlast htail (l.take n) 0 a (fun _=>False) (fun j oj _ hj=>by
  exfalso;simp only [pre,List.range_zero,List.foldl_nil,Array.getD_eq_getD_getElem?,Array.getElem?_replicate] at hj;split at hj <;> simp at hj) (by omega) (fun j hj=>by
  rw [Nat.zero_add,List.getElem?_take,if_pos (by omega)];simp) (by rw [hlen,show n+1+m=l.toArray.size by omega];exact hB2) h
 rw [hlen] at this;have e1:pre l.toArray.size 0=Array.replicate (m+1+n) false:=by rw [←e0];rfl
 rw [e1] at this;exact this
end
end Go.Proofs.YtljkgcfnoegibaaGreatDoor.Mix
