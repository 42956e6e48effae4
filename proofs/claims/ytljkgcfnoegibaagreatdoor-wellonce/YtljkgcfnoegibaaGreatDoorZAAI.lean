/- Texts of one chain, joined. -/
import Derived.Test.YtljkgcfnoegibaaGreatDoorZAAF
import Derived.Deep.Quiet
import Derived.Test.YtljkgcfnoegibaaGreatDoorRows
import Derived.ProofKit
import Derived.LaidMore
import Derived.OpenShut
import Derived.Stop.Joined
import Derived.ShutString
import Derived.ChangeOld
import Derived.Lib.LaidTab
import Derived.WideKeyPair
set_option maxRecDepth 20000
namespace Go.Proofs.YtljkgcfnoegibaaGreatDoor
open Go Go.RowKit
open L5 (word tk0 tk1 mk ds num beside jL kZ)
def dW (k:Nat):Value:= .agg #[.string (word k),.int .i64 (tk0 k),.int .i64 (tk1 k),.int .i64 (mk k),.int .i64 (ds k)]
def Tab (w:World):Prop:=0 < w.heap.size∧∀k,k < 30→
 w.cell? ⟨0,k * 5,none⟩=some (.string (word k))∧w.cell? ⟨0,k * 5+1,none⟩=some (.int .i64 (tk0 k))∧w.cell? ⟨0,k * 5+2,none⟩=some (.int .i64 (tk1 k))∧w.cell? ⟨0,k * 5+3,none⟩=some (.int .i64 (mk k))∧w.cell? ⟨0,k * 5+4,none⟩=some (.int .i64 (ds k))
theorem Tab.below {w w':World} (h:Tab w) (b:Below w.heap.size w w'):Tab w':=
 ⟨Nat.lt_of_lt_of_le h.1 b.size,fun k hk=>by
  obtain⟨h0,h1,h2,h3,h4⟩:=h.2 k hk;exact⟨(b.cell h.1).trans h0,(b.cell h.1).trans h1,(b.cell h.1).trans h2,(b.cell h.1).trans h3,(b.cell h.1).trans h4⟩⟩
theorem Fu (k:Nat) (w:World) (h0:1≤k) (h1:k≤29) (ht:Tab w):
  Calls Tryz.prog 54 #[.int .i64 k] w fun e w'=>e= .returned (dW k)∧Below w.heap.size w w':=by
 have T:=ht.below (ah w (.cells #[.string ⟨#[]⟩,.int .i64 0,.int .i64 0,.int .i64 0,.int .i64 0] 91));obtain⟨c0,c1,c2,c3,c4⟩:=T.2 k (by omega);clear T ht;go_enter Tryz.func54,Tryz.ntmps54
 go_wp2_with fail
 exact bodyPost_ret (v:=dW k) (by simp [results,Tryz.results54,go_sem,dW]) rfl ⟨rfl,ah _ _⟩
theorem xV (op:Int) (w:World) (h:¬(1≤op∧op≤29)) (ht:Tab w):
  Calls Tryz.prog 54 #[.int .i64 op] w fun e w'=>e= .returned (dW 0)∧Below w.heap.size w w':=by
 have T:=ht.below (ah w (.cells #[.string ⟨#[]⟩,.int .i64 0,.int .i64 0,.int .i64 0,.int .i64 0] 91));obtain⟨c0,c1,c2,c3,c4⟩:=T.2 0 (by omega);simp only [Nat.zero_mul,Nat.zero_add] at c0 c1 c2 c3 c4;clear T ht;by_cases h1:op < 1
 all_goals
  go_enter Tryz.func54,Tryz.ntmps54
  go_wp2_with fail
  exact bodyPost_ret (v:=dW 0) (by simp [results,Tryz.results54,go_sem,dW]) rfl ⟨rfl,ah _ _⟩
theorem qD (op:Int) (w:World) (ht:Tab w):
  Calls Tryz.prog 54 #[.int .i64 op] w fun e w'=>e= .returned (dW (num op))∧Below w.heap.size w w':=by
 by_cases h:1≤op∧op≤29
 ·have e:op=(op.toNat:Int):=by omega
  have:=Fu op.toNat w (by omega) (by omega) ht;rw [←e] at this;rwa [show num op=op.toNat from if_pos h]
 ·rw [jL h];exact xV op w h ht
theorem mu (a b c d e:Value) (w:World):Sem.run Tryz.prog (Instr.field 91 (.agg #[a,b,c,d,e]) 3) w= .ok e w:=rfl
theorem nh (op things:Int) (w:World) (ht:Tab w):
  Calls Tryz.prog 53 #[.int .i64 op,.int .i64 things] w fun e w'=>e= .returned (.bool (beside (num op) things))∧Below w.heap.size w w':=by
 have hf:=mu;go_enter Tryz.func53,Tryz.ntmps53
 go_wp2_with fail
 refine(qD op _ ht).mono ?_;rintro e w1 ⟨rfl,b1⟩;unfold dW;go_wp2_with fail
 go_ret;exact⟨rfl,b1⟩
def fj (op:Int):Bool:=decide (26≤op∧op≤29)
theorem Ji (op:Int):([26,27,28,29]:List Int).contains op=beside (num op) 8:=kZ (by decide +kernel) (by decide) op
theorem J8 (op:Int):beside (num op) 8=fj op:=by
 rw [←Ji,Bool.eq_iff_iff];simp [fj];omega
theorem DN (op:Int) (w:World) (ht:Tab w):Calls Tryz.prog 142 #[.int .i64 op] w fun e w'=>e= .returned (.bool (fj op))∧Below w.heap.size w w':=by
 rw [←J8];go_enter Tryz.func142,Tryz.ntmps142
 go_wp2_with fail
 refine(nh op 8 _ ht).mono ?_;rintro e w1 ⟨rfl,b1⟩;go_wp2_with fail
 go_ret;exact⟨rfl,b1⟩
def iT (b:Int) (n:Nat):Bool:=decide (0≤b∧b < (n:Int))
theorem sL (b:Int) (n:Nat) (w:World):Calls Tryz.prog 123 #[.int .i64 b,.int .i64 n] w fun e w'=>e= .returned (.bool (iT b n))∧w'=w:=by
 by_cases h:0≤b
 ·have HE:Hid (decide (b < (n:Int))=iT b n):=ae (by simp [iT,h]);have h2:decide (0≤b)=true:=by simpa using h
  go_enter Tryz.func123,Tryz.ntmps123
  go_wp2
  go_ret;exact⟨L5.aw HE.out,rfl⟩
 ·have HE:Hid (false=iT b n):=ae (by simp [iT,h]);have h2:decide (0≤b)=false:=by simpa using h
  go_enter Tryz.func123,Tryz.ntmps123
  go_wp2
  go_ret;exact⟨L5.aw HE.out,rfl⟩
end Go.Proofs.YtljkgcfnoegibaaGreatDoor
namespace Go.Proofs.YtljkgcfnoegibaaGreatDoor.MixR
open Go Go.RowKit
def Rel:Type:={r:World→World→Prop // (∀w,r w w)∧(∀a b c,r a b→r b c→r a c)∧∀w,r w w.drew}
def Up (R:Rel):Type:={p:Value→World→Prop // ∀v w w',R.1 w w'→p v w→p v w'}
def Up.eq (R:Rel) (c:Value):Up R:=⟨fun v _=>v=c,fun _ _ _ _ h=>h⟩
def Up.any (R:Rel):Up R:=⟨fun _ _=>True,fun _ _ _ _ h=>h⟩
theorem grow_step {R:Rel} {a b c:World} (h:R.1 a b) (k:R.1 b c):R.1 a c:=R.2.2.1 _ _ _ h k
section
variable (P:Program) (ops:Array Oper) (W:World) {R:Rel} (F:Tmp→Up R)
def Fd (dst:Option Tmp) (v:Value) (w:World):Prop:=∀d,dst=some d→(F d).1 v w
def Valid (dst:Option Tmp) (v:Value):Prop:=∃w,R.1 W w∧Fd F dst v w
def add (dst:Option Tmp) (S:Tmp→Prop):Tmp→Prop:=fun t=>dst=some t∨S t
def del (dst:Option Tmp) (S:Tmp→Prop):Tmp→Prop:=fun t=>dst≠some t∧S t
def xk (S:Tmp→Prop) (ts:List Tmp) (a:Act) (w:World):Prop:=∀t∈ts,S t→∀v,a.tmps[t]? =some v→(F t).1 v w
def eV (S:Tmp→Prop) (a:Act) (w:World):Prop:=∀t,S t→∀v,a.tmps[t]? =some v→(F t).1 v w
def mixUpon (o:Oper) (w:World):Result Next→Prop
 |.ok (.value v) w'=>R.1 w w'∧Fd F o.dst v w'
 |.ok .skip w'=>R.1 w w'∧Fd F o.dst undef w'
 |.ok (.enter f args) w'=>Calls P f args w' fun e w''=>∃v,e= .returned v∧R.1 w w''∧Fd F o.dst v w''
 |.ok (.row row args) w'=>Rows P row args w' fun v w''=>R.1 w w''∧Fd F o.dst v w''
 |_=>False
def kJ (o:Oper) (a:Act) (S:Tmp→Prop):Prop:=∀w,R.1 W w→xk F S (o.looksAt ops) a w→mixUpon P F o w ((execOp a.eval o).run P w)
def body (o:Oper) (K:Act→(Tmp→Prop)→Prop) (a:Act) (S:Tmp→Prop):Prop:=
 if Region.wanted o (yielded ops a.tmps)then kJ P ops W F o a S∧∀v,Valid W F o.dst v→K (a.put o.dst v) (add o.dst S)else K (a.put o.dst undef) (del o.dst S)
def mOp (i:Nat) (K:Act→(Tmp→Prop)→Prop) (a:Act) (S:Tmp→Prop):Prop:=match ops[i]? with
 |none=>K a S
 |some o=>body P ops W F o K a S
def fh (Q:Act→(Tmp→Prop)→Prop):List Oper→Act→(Tmp→Prop)→Prop
 |[],a,S=>Q a S
 |o :: rest,a,S=>(Region.wanted o (yielded ops a.tmps)=true→∃v,Valid W F o.dst v)∧body P ops W F o (fh Q rest) a S
def fV (md:Region.Mode) (Q:Act→(Tmp→Prop)→Prop):Nat→Array Bool→Act→(Tmp→Prop)→Prop
 |0,listed,a,S=>Region.ready md ops listed= []∧Q a S
 |fuel+1,listed,a,S=>
  (Region.ready md ops listed= []→Q a S)∧
  ∀i∈Region.ready md ops listed,mOp P ops W F i (fV md Q fuel (listed.setIfInBounds i true)) a S
end
section
variable {P:Program} {ops:Array Oper} {W:World} {R:Rel} {F:Tmp→Up R} {md:Region.Mode}
theorem eN {a:Act} {dst:Option Tmp} {v:Value} {t:Tmp} (h:dst≠some t):(a.put dst v).tmps[t]? =a.tmps[t]? :=by
 cases dst with
 |none=>rfl
 |some d=>
  have:d≠t:=fun e=>h (by rw [e]);simp [Act.put,this]
theorem qu {a:Act} {v u:Value} {t:Tmp} (h:(a.put (some t) v).tmps[t]? =some u):u=v:=by
 simp only [Act.put,Array.getElem?_setIfInBounds,if_true] at h;split at h
 ·injection h with h;exact h.symm
 ·cases h
theorem eV.add {S:Tmp→Prop} {a:Act} {w w':World} {dst:Option Tmp} {v:Value} (h:eV F S a w) (b:R.1 w w') (hf:Fd F dst v w'):eV F (add dst S) (a.put dst v) w':=by
 intro t ht u hu;by_cases e:dst=some t
 ·subst e;rw [qu hu];exact hf t rfl
 ·rw [eN e] at hu;rcases ht with ht | ht
  ·exact absurd ht e
  ·exact(F t).2 _ _ _ b (h t ht u hu)
theorem eV.del {S:Tmp→Prop} {a:Act} {w:World} {dst:Option Tmp} {v:Value} (h:eV F S a w):eV F (del dst S) (a.put dst v) w:=by
 intro t ht u hu;rw [eN ht.1] at hu;exact h t ht.2 u hu
theorem dk {o:Oper} {K K':Act→(Tmp→Prop)→Prop} {a:Act} {S:Tmp→Prop} (h:∀a S,K a S→K' a S) (hh:body P ops W F o K a S):body P ops W F o K' a S:=by
 unfold body at *;split
 ·rename_i hw;rw [if_pos hw] at hh;exact⟨hh.1,fun v hv=>h _ _ (hh.2 v hv)⟩
 ·rename_i hw;rw [if_neg hw] at hh;exact h _ _ hh
theorem iG {o:Oper} {a:Act} {S:Tmp→Prop} {K:Act→(Tmp→Prop)→Prop} {K':Act→World→Prop} {Q':Exit→Act→World→Prop} {w:World} (hC:R.1 W w) (hA:eV F S a w)
  (h:∀a' S' w',R.1 W w'→eV F S' a' w'→K a' S'→K' a' w') (hm:kJ P ops W F o a S) (hn:∀v,Valid W F o.dst v→K (a.put o.dst v) (add o.dst S)):o.wp P a w K' Q':=by
 have h3:=hm w hC (fun t _ hs v hv=>hA t hs v hv);have fin:∀v w',R.1 w w'→Fd F o.dst v w'→K' (a.put o.dst v) w':=fun v w' hb hf=>
  h _ _ _ (grow_step hC hb) (hA.add hb hf) (hn v ⟨w',grow_step hC hb,hf⟩)
 unfold Oper.wp;generalize (execOp a.eval o).run P w=r at *
 cases r with
 |ok n w'=>
  cases n <;> simp only [mixUpon] at h3 <;> simp only [Oper.upon]
  case value v=>exact fin _ _ h3.1 h3.2
  case skip=>exact fin _ _ h3.1 h3.2
  case enter f args=>exact h3.mono fun e w'' ⟨v,he,hb,hf⟩=>by subst he;exact fin _ _ hb hf
  case row row args=>exact h3.mono fun v w'' ⟨hb,hf⟩=>fin _ _ hb hf
 |halt x w'=>simp only [mixUpon] at h3
theorem dh {Q:Act→(Tmp→Prop)→Prop} {Q':Exit→Act→World→Prop} (hQ:∀a S w,R.1 W w→eV F S a w→Q a S→Q' .normal a w):∀(fuel:Nat) (listed:Array Bool) (a:Act) (S:Tmp→Prop) (w:World),R.1 W w→eV F S a w→
  fV P ops W F md Q fuel listed a S→wpAny P md ops Q' fuel listed a w
 |0,_,_,_,_,hC,hA,h=>⟨h.1,hQ _ _ _ hC hA h.2⟩
 |fuel+1,listed,a,S,w,hC,hA,h=>⟨fun h0=>hQ _ _ _ hC hA (h.1 h0),fun i hi=>by
   have hh:=h.2 i hi;unfold mOp at hh;unfold wpOp;split
   ·rename_i ho;simp only [ho] at hh;exact dh hQ fuel _ _ _ _ hC hA hh
   ·rename_i o ho;simp only [ho] at hh;unfold body at hh;split
    ·rename_i hw;rw [if_pos hw] at hh;exact .inl (iG hC hA (fun a' S' w' c k q=>dh hQ fuel _ _ _ _ c k q) hh.1 hh.2)
    ·rename_i hw;rw [if_neg hw] at hh;exact dh hQ fuel _ _ _ _ hC hA.del hh⟩
theorem fM {o:Oper} (hs:∀cs b,o.op≠ .select cs b) {a:Act} {dst:Option Tmp} {v:Value} {S S':Tmp→Prop} (hd:∀d,dst=some d→d ∉ o.looksAt ops) (hS:∀t,dst≠some t→(S' t↔S t)):kJ P ops W F o (a.put dst v) S'↔kJ P ops W F o a S:=by
 have e:=execOp_put (ops:=ops) o hs a dst v hd;have ne:∀t,t∈o.looksAt ops→dst≠some t:=fun t ht e=>hd t e ht;unfold kJ;rw [e];constructor
 ·intro h w hC hK;refine h w hC fun t ht hs v hv=> ?_;rw [eN (ne t ht)] at hv;exact hK t ht ((hS t (ne t ht)).1 hs) v hv
 ·intro h w hC hK;refine h w hC fun t ht hs v hv=> ?_;exact hK t ht ((hS t (ne t ht)).2 hs) v (by rw [eN (ne t ht)];exact hv)
theorem mW {dst:Option Tmp} {S:Tmp→Prop}:∀t,dst≠some t→(add dst S t↔S t):=fun _ h=>⟨fun k=>k.resolve_left h,.inr⟩
theorem mV {dst:Option Tmp} {S:Tmp→Prop}:∀t,dst≠some t→(del dst S t↔S t):=fun _ h=>⟨fun k=>k.2,fun k=>⟨h,k⟩⟩
theorem add_add (x y:Option Tmp) (S:Tmp→Prop):add x (add y S)=add y (add x S):=by
 funext t;unfold add;exact propext or_left_comm
theorem sZ (x y:Option Tmp) (S:Tmp→Prop):del x (del y S)=del y (del x S):=by
 funext t;unfold del;exact propext and_left_comm
theorem nt {x y:Option Tmp} (h:∀d,x=some d→y≠some d) (S:Tmp→Prop):add x (del y S)=del y (add x S):=by
 funext t;unfold add del;refine propext ⟨?_,?_⟩
 ·rintro (e | ⟨h1,h2⟩)
  ·exact⟨h t e,.inl e⟩
  ·exact⟨h1,.inr h2⟩
 ·rintro ⟨h1,e | h2⟩
  ·exact .inl e
  ·exact .inr ⟨h1,h2⟩
theorem jm {oi oj:Oper} (hap:oi.apart ops oj=true) (hsi:∀cs b,oi.op≠ .select cs b) (hsj:∀cs b,oj.op≠ .select cs b) {K:Act→(Tmp→Prop)→Prop} {a:Act} {S:Tmp→Prop}
  (hex:Region.wanted oi (yielded ops a.tmps)=true→∃v,Valid W F oi.dst v) (h:body P ops W F oi (fun a' S'=>body P ops W F oj K a' S') a S):body P ops W F oj (fun a' S'=>body P ops W F oi K a' S') a S:=by
 obtain⟨h1,h2,h3⟩:=Oper.apart_spec hap;have h2':∀d,oj.dst=some d→oi.dst≠some d:=fun d e e2=>h2 d e2 e;unfold body at *;by_cases wi:Region.wanted oi (yielded ops a.tmps)=true
 ·rw [if_pos wi] at h;obtain⟨m1,n1⟩:=h;obtain⟨v0,hv0⟩:=hex wi;by_cases wj:Region.wanted oj (yielded ops a.tmps)=true
  ·rw [if_pos wj];refine⟨?_,fun u hu=> ?_⟩
   ·have:=n1 v0 hv0;dsimp only at this
    rw [wanted_put oj a oi.dst v0 h1,if_pos wj] at this;exact(fM hsj h1 mW).1 this.1
   ·dsimp only
    rw [wanted_put oi a oj.dst u h3,if_pos wi];refine⟨(fM hsi h3 mW).2 m1,fun v hv=> ?_⟩;have:=n1 v hv;dsimp only at this
    rw [wanted_put oj a oi.dst v h1,if_pos wj] at this;have:=this.2 u hu;rw [Act.put_comm a v u h2,add_add] at this;exact this
  ·rw [if_neg wj];dsimp only
   rw [wanted_put oi a oj.dst undef h3,if_pos wi];refine⟨(fM hsi h3 mV).2 m1,fun v hv=> ?_⟩;have:=n1 v hv;dsimp only at this
   rw [wanted_put oj a oi.dst v h1,if_neg wj,Act.put_comm a v undef h2,←nt h2] at this;exact this
 ·rw [if_neg wi] at h;rw [wanted_put oj a oi.dst undef h1] at h;by_cases wj:Region.wanted oj (yielded ops a.tmps)=true
  ·rw [if_pos wj] at h ⊢;refine⟨(fM hsj h1 mV).1 h.1,fun u hu=> ?_⟩;dsimp only
   rw [wanted_put oi a oj.dst u h3,if_neg wi];have:=h.2 u hu;rw [Act.put_comm a undef u h2,nt h2'] at this;exact this
  ·rw [if_neg wj] at h ⊢;dsimp only
   rw [wanted_put oi a oj.dst undef h3,if_neg wi];rw [Act.put_comm a undef undef h2,sZ] at h;exact h
theorem gG {o:Oper} {K:Act→(Tmp→Prop)→Prop} {a:Act} {S:Tmp→Prop} {A:Act→Prop} (hu:∀u,A (a.put o.dst u)) (hh:body P ops W F o K a S):body P ops W F o (fun a' S'=>A a'∧K a' S') a S:=by
 unfold body at *;split
 ·rename_i hw;rw [if_pos hw] at hh;exact⟨hh.1,fun v hv=>⟨hu v,hh.2 v hv⟩⟩
 ·rename_i hw;rw [if_neg hw] at hh;exact⟨hu _,hh⟩
theorem jW {Q:Act→(Tmp→Prop)→Prop} {i:Nat} {oi:Oper} (hi:ops[i]? =some oi) (hsel:∀(j:Nat) (o:Oper) cs b,ops[j]? =some o→o.op≠ .select cs b):
  ∀(fuel:Nat) (listed:Array Bool) (a:Act) (S:Tmp→Prop),
   (∀j oj,ops[j]? =some oj→j≠i→listed.getD j true=false→(∀e∈oj.after,Region.binds md e=true→e.on≠i)→oi.apart ops oj=true)→
   i∈Region.ready md ops listed→(Region.wanted oi (yielded ops a.tmps)=true→∃v,Valid W F oi.dst v)→
   body P ops W F oi (fV P ops W F md Q fuel (listed.setIfInBounds i true)) a S→fV P ops W F md Q (fuel+1) listed a S:=by
 intro fuel;induction fuel with
 |zero=>
  intro listed a S _ hr hex H;refine⟨fun h=>(by rw [h] at hr;cases hr),fun j hj=> ?_⟩;by_cases hji:j=i
  ·subst hji;unfold mOp;simp only [hi];exact H
  ·have hno:=ready_mono hj hji;have:Region.ready md ops (listed.setIfInBounds i true)= []:=by
    unfold body at H;split at H
    ·rename_i hw;obtain⟨v,hv⟩:=hex hw;exact(H.2 v hv).1
    ·exact H.1
   rw [this] at hno
   cases hno
 |succ fuel ih=>
  intro listed a S hfree hr hex H;refine⟨fun h=>(by rw [h] at hr;cases hr),fun j hj=> ?_⟩;by_cases hji:j=i
  ·subst hji;unfold mOp;simp only [hi];exact H
  ·obtain⟨hjun,oj,hoj,hall⟩:=mem_ready.1 hj;have hnot:∀e∈oj.after,Region.binds md e=true→e.on≠i:=fun e he hb heq=>by
    have h1:=hall e he hb;have h0:=(mem_ready.1 hr).1;rw [heq] at h1;rcases Nat.lt_or_ge i listed.size with h' | h'
    ·simp [h'] at h0 h1;rw [h0] at h1;cases h1
    ·simp [Array.getElem?_eq_none h'] at h1
   have hap:=hfree j oj hoj hji hjun hnot;obtain⟨_,_,h3⟩:=Oper.apart_spec hap;have H1:body P ops W F oi (fun a' S'=>body P ops W F oj (fV P ops W F md Q fuel ((listed.setIfInBounds i true).setIfInBounds j true)) a' S') a S:=dk (fun a' S' h=>by
    have:=h.2 j (ready_mono hj hji);unfold mOp at this;simp only [hoj] at this;exact this) H
   have H2:=jm hap (fun cs b=>hsel i oi cs b hi) (fun cs b=>hsel j oj cs b hoj) hex H1;have H3:=gG (A:=fun a'=>Region.wanted oi (yielded ops a'.tmps)=true→∃v,Valid W F oi.dst v) (fun u=>by rw [wanted_put oi a oj.dst u h3];exact hex) H2;have hfree':∀k ok,ops[k]? =some ok→k≠i→(listed.setIfInBounds j true).getD k true=false→
     (∀e∈ok.after,Region.binds md e=true→e.on≠i)→oi.apart ops ok=true:=fun k ok hk hki hun hno=>by
    refine hfree k ok hk hki ?_ hno;by_cases hjk:j=k
    ·subst hjk;exact hjun
    ·rw [getD_set_ne true hjk] at hun;exact hun
   unfold mOp;simp only [hoj];refine dk (fun a' S' h=>ih (listed.setIfInBounds j true) a' S' hfree' (ready_mono hr (Ne.symm hji)) h.1 ?_) H3;rw [Array.setIfInBounds_comm _ _ hji];exact h.2
theorem iH {Q:Act→(Tmp→Prop)→Prop} (hs:Region.noSelect ops=true):∀(l:List Oper) (k:Nat) (listed:Array Bool) (a:Act) (S:Tmp→Prop),(∀j,l[j]? =ops[k+j]?)→
  Region.lexFrom md ops l.length k listed=true→fh P ops W F Q l a S→fV P ops W F md Q l.length listed a S
 |[],_,_,_,_,_,hB,h=>⟨by simpa [Region.lexFrom] using hB,h⟩
 |o :: l,k,listed,a,S,hl,hB,h=>by
  have h0:ops[k]? =some o:=by simpa using (hl 0).symm
  simp only [List.length_cons,Region.lexFrom,Bool.and_eq_true] at hB;obtain⟨⟨hr,hf⟩,hB'⟩:=hB;refine jW h0 (Region.noSelect_spec hs) l.length listed a S (Region.free_spec h0 hf) (by simpa using hr) h.1 ?_;exact dk (fun a' S' q=>iH hs l (k+1) _ _ _ (fun j=>by have:=hl (j+1);simpa [Nat.add_assoc,Nat.add_comm 1 j] using this) hB' q) h.2
theorem cj {id:Nat} {Q:Exit→Act→World→Prop} {a:Act} {l:List Oper} (F:Tmp→Up R) (hm:P.follows .mixedOrders=true) (hB:Region.lexB .any l.toArray=true)
  (h:fh P l.toArray W F (fun a' S=>∀w',R.1 W w'→eV F S a' w'→Q .normal a' w') l a (fun _=>False)):(Code.region id l.toArray true).wp P Q a W:=by
 simp only [Region.lexB,Bool.and_eq_true] at hB;refine wp_region_any hm (dh (W:=W) (F:=F) (Q:=fun a' S=>∀w',R.1 W w'→eV F S a' w'→Q .normal a' w') (fun _ _ w' hC hA h=>h w' hC hA) _ _ _ (fun _=>False) _ (R.2.2.2 _) (fun t ht=>ht.elim) ?_);have:=iH (W:=W) (F:=F) (md:= .any) hB.1 l 0 (Array.replicate l.toArray.size false) a (fun _=>False) (by simp) (by simpa using hB.2) h;simpa using this
theorem ed {Q:Act→(Tmp→Prop)→Prop} {a:Act} {S:Tmp→Prop} (h:Q a S):fh P ops W F Q [] a S:=h
theorem dE {Q:Act→(Tmp→Prop)→Prop} {a:Act} {S:Tmp→Prop} {o:Oper} {rest:List Oper} (hw:Region.wanted o (yielded ops a.tmps)=false) (h:fh P ops W F Q rest (a.put o.dst undef) (del o.dst S)):fh P ops W F Q (o :: rest) a S:=by
 refine⟨fun k=>absurd (hw.symm.trans k) (by decide),?_⟩;unfold body;rw [if_neg (by rw [hw];decide)];exact h
theorem aj {Q:Act→(Tmp→Prop)→Prop} {a:Act} {S:Tmp→Prop} {o:Oper} {rest:List Oper} (hw:Region.wanted o (yielded ops a.tmps)=true) (hex:∃v,Valid W F o.dst v)
  (hm:∀w,R.1 W w→xk F S (o.looksAt ops) a w→mixUpon P F o w ((execOp a.eval o).run P w)) (h:∀v,Valid W F o.dst v→fh P ops W F Q rest (a.put o.dst v) (add o.dst S)):fh P ops W F Q (o :: rest) a S:=by
 refine⟨fun _=>hex,?_⟩;unfold body;rw [if_pos hw];exact⟨hm,h⟩
end
end Go.Proofs.YtljkgcfnoegibaaGreatDoor.MixR
namespace Go.Proofs.YtljkgcfnoegibaaGreatDoor
open Go.ChangeShapes Go.WideShapes Go.ChangeAt Go.RowKit
open L5 (letters tk0 tk1 mk ds word)
theorem own:ownKnob Tryz.prog.godebug=none:=by kernel_rfl
def kR : List (String × DataW Unit) := [("turntable/ops.rows", Rows.laid_turntable_ops_rows), ("turntable/shape.slotBits", Rows.laid_turntable_shape_slotBits)]
theorem Di : Tryz.prog.globalNamed "turntable/ops.rows" = some 0 := by kernel_rfl
theorem ET:(Tryz.prog.globals[0]?).map (·.type)=some 128:=by kernel_rfl
theorem lc3:Tryz.prog.cellsOf 3=1:=by kernel_rfl
theorem lc9:Tryz.prog.cellsOf 9=1:=by kernel_rfl
theorem Mr:Tryz.prog.cellsOf 89=2:=by kernel_rfl
theorem Lm:Tryz.prog.cellsOf 91=5:=by kernel_rfl
theorem Lh:Tryz.prog.cellsOf 174=16:=by kernel_rfl
def Gk {H:Type} (k:Nat):DataW H:= .agg [.lit (.string (letters k)),.agg [.lit (.int .i64 (tk0 k)),.lit (.int .i64 (tk1 k))],.lit (.int .i64 (mk k)),.lit (.int .i64 (ds k))]
theorem Cn {H:Type}:(Rows.laid_turntable_ops_rows:DataW H)= .agg ((List.range 30).map Gk):=by rfl
def tD:List Int:= [1,2,4,8,16,32,64,128,256,512,1024,2048,4096,8192,16384,32768]
theorem rS : Tryz.prog.globalNamed "turntable/shape.slotBits" = some 1 := by kernel_rfl
theorem EN:(Tryz.prog.globals[1]?).map (·.type)=some 174:=by kernel_rfl
theorem E8:(Rows.laid_turntable_shape_slotBits:DataW Unit)=Lib.tabData .i64 tD:=by kernel_rfl
theorem Ik:∀k,k < 16→tD.getD k 0=L3.pw k:=by decide
section
variable {H:Type} {enc:TypeId × Value→H} {W:World} {base:Nat} {sp:Nat→Bool} {held:Bool}
theorem Ma {cs:List Value} (h:cs.length=5):∃a b c d e,cs= [a,b,c,d,e]:=by
 match cs,h with
 |[a,b,c,d,e],_=>exact⟨a,b,c,d,e,rfl⟩
theorem JH {s:ByteArray} {bs:List UInt8} (h:s.data.toList=bs):s=⟨bs.toArray⟩:=by
 subst h;rfl
theorem C5 {fuel k:Nat} {cs:List Value} {p:List MemPlace} (h:DataW.trod enc Tryz.prog W base sp held fuel 91 cs=some (Gk k,p)):
  cs= [.string (word k),.int .i64 (tk0 k),.int .i64 (tk1 k),.int .i64 (mk k),.int .i64 (ds k)]:=by
 obtain⟨xs,n,_,hx,hl,hlen,hf⟩:=DataW.trod_struct Tryz.underlying91 h;obtain⟨v0,v1,v2,v3,v4,rfl⟩:=Ma (hl.trans Lm);match xs,hlen with
 |[y0,y1,y2,y3],_=>
  have h0:DataW.trod enc Tryz.prog W base sp held n 9 ([v0,v1,v2,v3,v4].take (Tryz.prog.cellsOf 9))=some y0:=hf 0 _ rfl;have h1:DataW.trod enc Tryz.prog W base sp held n 89 ([v1,v2,v3,v4].take (Tryz.prog.cellsOf 89))=some y1:=hf 1 _ rfl;have h2:DataW.trod enc Tryz.prog W base sp held n 3 ([v3,v4].take (Tryz.prog.cellsOf 3))=some y2:=hf 2 _ rfl;have h3:DataW.trod enc Tryz.prog W base sp held n 3 ([v4].take (Tryz.prog.cellsOf 3))=some y3:=hf 3 _ rfl;rw [lc9] at h0;rw [Mr] at h1;rw [lc3] at h2 h3;obtain⟨s,e0,rfl,_⟩:=DataW.trod_string Tryz.underlying9 h0;obtain⟨x2,e2,rfl,_⟩:=DataW.trod_int Tryz.underlying3 h2;obtain⟨x3,e3,rfl,_⟩:=DataW.trod_int Tryz.underlying3 h3;obtain⟨zs,m,_,hz,_,hzl,each⟩:=DataW.trod_array Tryz.underlying89 h1;match zs,hzl with
  |[z0,z1],_=>
   have g0:=each 0 (by decide);have g1:=each 1 (by decide);simp only [lc3] at g0 g1;simp at g0 g1;obtain⟨u0,f0,rfl,_⟩:=DataW.trod_int Tryz.underlying3 g0;obtain⟨u1,f1,rfl,_⟩:=DataW.trod_int Tryz.underlying3 g1;subst hz;simp [Gk] at hx e0 e2 e3 f0 f1;obtain⟨⟨q0,⟨q1,q2⟩,q3,q4⟩,_⟩:=hx;subst e0 e2 e3 f0 f1 q1 q2 q3 q4;rw [JH q0.symm];rfl
end
theorem jR {W:World} (h:laidMetH Tryz.prog kR W):Tb W:=by
 rw [MakeChecks.laidMetH_plain _ _ _ (by kernel_rfl)] at h;obtain⟨ps,⟨g,t,cs,fuel,p,q,hg,ht,hvar,hd,⟨g1,t1,cs1,f1,p1,q1,hg1,ht1,hv1,hd1,_,_⟩,_⟩,_,_⟩:=h;obtain rfl:=Option.some.inj (Di.symm.trans hg);obtain rfl:=Option.some.inj (ET.symm.trans ht);rw [Cn] at hd;obtain⟨xs,n,_,hx,hl,hlen,each⟩:=DataW.trod_array Tryz.underlying128 hd;have hxs:xs.map (·.1)=(List.range 30).map Gk:=by
  have:=congrArg Prod.fst hx;simpa using this.symm
 have key:∀k,k < 30→(cs.toList.drop (k * 5)).take 5= [.string (word k),.int .i64 (tk0 k),.int .i64 (tk1 k),.int .i64 (mk k),.int .i64 (ds k)]:=by
  intro k hk;have h1:=each k hk;rw [Lm] at h1;obtain⟨y,hy⟩:∃y,xs[k]? =some y:=⟨_,List.getElem?_eq_getElem (by omega)⟩;have h2:=congrArg (·[k]?) hxs;simp [hy,hk] at h2;rw [hy] at h1;obtain⟨d,pl⟩:=y;simp at h2;subst h2;exact C5 h1
 have cell:∀k j v,k < 30→j < 5→((cs.toList.drop (k * 5)).take 5)[j]? =some v→W.cell? ⟨0,k * 5+j,none⟩=some v:=by
  intro k j v hk hj hv;have:=World.var?_cell hg hvar (k * 5+j);rw [this];simpa [List.getElem?_take,List.getElem?_drop,hj] using hv
 refine⟨?_,?_,?_⟩
 ·trivial
 ·obtain rfl:=Option.some.inj (rS.symm.trans hg1);obtain rfl:=Option.some.inj (EN.symm.trans ht1);rw [E8] at hd1;have hcs:=Lib.cells_of_tab Tryz.underlying174 Tryz.underlying3 lc3 Lh hd1;have ht : Lib.TabIs Tryz.prog W "turntable/shape.slotBits" .i64 tD := by
   unfold Lib.TabIs;rw [hv1,←hcs]
  have hc:∀k,k < 16→W.cell? ⟨1,k,none⟩=some (.int .i64 (L3.pw k)):=fun k hk=>by
   rw [←Ik k hk];exact ht.cell rS k hk
  exact⟨World.block_lt_of_cell? W _ (hc 0 (by omega)),hc⟩
 refine⟨World.block_lt_of_cell? W _ (cell 0 0 (.string (word 0)) (by omega) (by omega) (by rw [key 0 (by omega)];rfl)),fun k hk=> ?_⟩;exact⟨cell k 0 _ hk (by omega) (by rw [key k hk];rfl),cell k 1 _ hk (by omega) (by rw [key k hk];rfl),cell k 2 _ hk (by omega) (by rw [key k hk];rfl),cell k 3 _ hk (by omega) (by rw [key k hk];rfl),cell k 4 _ hk (by omega) (by rw [key k hk];rfl)⟩
theorem qZ (os:Os) (args:Array Value):laidMetH Tryz.prog kR ((World.doorLaid Tryz.prog 400 os).forCall (fun _ _=>0) ⟨#[],args,[]⟩).memory:=
 laidMetH_of_parts3 (fuel:=8) (laidMet_of_run' 8 (by kernel_rfl) (by kernel_rfl)) (by kernel_rfl) (by kernel_rfl)
end Go.Proofs.YtljkgcfnoegibaaGreatDoor
