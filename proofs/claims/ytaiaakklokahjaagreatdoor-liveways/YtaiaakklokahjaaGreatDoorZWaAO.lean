/- Texts of one chain, joined. -/
import Derived.Test.YtaiaakklokahjaaGreatDoorZWaAK
set_option maxHeartbeats 8000000
set_option maxRecDepth 20000
namespace Go.Proofs.YtaiaakklokahjaaGreatDoor
open Go Go.RowKit
def Ja (ll:List (List Int)) (frm:List Int) (but:Int):Nat→Int→Prop
 |0,m=>m∈frm∧m≠but
 |n+1,m=>∃b,Ja ll frm but n b∧m∈ll.getD b.toNat []∧m≠but
def Rch (ll:List (List Int)) (frm:List Int) (but m:Int):Prop:=∃n,Ja ll frm but n m
theorem Rch.start {ll:List (List Int)} {frm:List Int} {but m:Int} (h:m∈frm) (hb:m≠but):Rch ll frm but m:=⟨0,h,hb⟩
theorem Rch.step {ll:List (List Int)} {frm:List Int} {but m c:Int} (h:Rch ll frm but m) (hc:c∈ll.getD m.toNat []) (hb:c≠but):Rch ll frm but c:=by
 obtain⟨n,h⟩:=h;exact⟨n+1,m,h,hc,hb⟩
theorem Rch.uD {ll:List (List Int)} {frm:List Int} {but:Int} {Q:Int→Prop} (h0:∀m,m∈frm→m≠but→Q m) (hs:∀b c,Rch ll frm but b→Q b→c∈ll.getD b.toNat []→c≠but→Q c):∀m,Rch ll frm but m→Q m:=by
 have key:∀n m,Ja ll frm but n m→Q m:=by
  intro n;induction n with
  |zero=>intro m h;exact h0 m h.1 h.2
  |succ n ih=>
   rintro m ⟨b,h1,h2,h3⟩;exact hs b m ⟨n,h1⟩ (ih b h1) h2 h3
 rintro m ⟨n,h⟩;exact key n m h
theorem Rch.ne {ll:List (List Int)} {frm:List Int} {but m:Int} (h:Rch ll frm but m):m≠but:=by
 refine Rch.uD (Q:=fun m=>m≠but) (fun m _ h=>h) (fun b c _ _ _ h=>h) m h
theorem EW {met:List Int} {n m:Int}:m∈iB met n↔m∈met∨m=n:=by
 unfold iB
 cases h:ay met n with
 |true=>
  simp only [if_true];constructor
  ·exact .inl
  ·rintro (h1 | rfl)
   ·exact h1
   ·exact aZ.1 h
 |false=>simp
theorem Dy {but n m:Int} {met:List Int}:m∈js but met n↔m∈met∨(m=n∧m≠but):=by
 unfold js;by_cases h:n=but
 ·rw [if_pos h];constructor
  ·exact .inl
  ·rintro (h1 | ⟨rfl,h2⟩)
   ·exact h1
   ·exact absurd h h2
 ·rw [if_neg h,EW];constructor
  ·rintro (h1 | rfl)
   ·exact .inl h1
   ·exact .inr ⟨rfl,h⟩
  ·rintro (h1 | ⟨rfl,_⟩)
   ·exact .inl h1
   ·exact .inr rfl
theorem ir {but m:Int}:∀(l met:List Int),m∈aO but met l↔m∈met∨(m∈l∧m≠but):=by
 intro l;induction l with
 |nil=>intro met;simp [aO]
 |cons n l ih=>
  intro met;have e:aO but met (n :: l)=aO but (js but met n) l:=rfl;rw [e,ih,Dy];constructor
  ·rintro ((h | ⟨rfl,h2⟩) | ⟨h1,h2⟩)
   ·exact .inl h
   ·exact .inr ⟨by simp,h2⟩
   ·exact .inr ⟨by simp [h1],h2⟩
  ·rintro (h | ⟨h1,h2⟩)
   ·exact .inl (.inl h)
   ·rcases List.mem_cons.1 h1 with rfl | h1
    ·exact .inl (.inr ⟨rfl,h2⟩)
    ·exact .inr ⟨h1,h2⟩
theorem fK (but:Int):∀(l met:List Int) (i:Nat) (m:Int),met[i]? =some m→(aO but met l)[i]? =some m:=by
 intro l;induction l with
 |nil=>intro met i m h;exact h
 |cons n l ih=>
  intro met i m h;have e:aO but met (n :: l)=aO but (js but met n) l:=rfl;rw [e];refine ih _ i m ?_;unfold js iB;split
  ·exact h
  ·split
   ·exact h
   ·rw [List.getElem?_append_left (List.getElem?_eq_some_iff.1 h).1];exact h
def Cw (ll:List (List Int)) (but:Int) (I:Nat) (met:List Int):Prop:=∀(j:Nat) (m c:Int),j < I→met[j]? =some m→c∈ll.getD m.toNat []→c≠but→c∈met
theorem oF {ll:List (List Int)} {but:Int} (hen:∀l∈ll,Num ll.length l):∀(N I:Nat) (met:List Int),eB ll.length met→I≤met.length→ll.length+1≤N+I→Cw ll but I met→
  (∀m∈met,m∈fy ll but N I met)∧(∀m c,m∈fy ll but N I met→c∈ll.getD m.toNat []→c≠but→c∈fy ll but N I met)∧eB ll.length (fy ll but N I met)∧
  (∀Q:Int→Prop,(∀m∈met,Q m)→(∀m c,Q m→c∈ll.getD m.toNat []→c≠but→Q c)→∀m∈fy ll but N I met,Q m):=by
 intro N;induction N with
 |zero=>
  intro I met hn hI hf _;have:=cH _ _ hn.1 hn.2;omega
 |succ N ih=>
  intro I met hn hI hf hc
  cases hm:met[I]? with
  |none=>
   have hl:=List.getElem?_eq_none_iff.1 hm;rw [mR hl];refine⟨fun _ h=>h,fun m c hm hcc hb=> ?_,hn,fun Q h _=>h⟩;obtain⟨j,hj,rfl⟩:=List.mem_iff_getElem.1 hm;exact hc j _ c (by omega) (List.getElem?_eq_getElem hj) hcc hb
  |some m=>
   rw [kM hm];have hml:=hn.2 m (List.mem_of_getElem? hm);have hnum:Num ll.length (ll.getD m.toNat []):=by
    intro x hx;rw [List.getD_eq_getElem?_getD] at hx
    cases hg:ll[m.toNat]? with
    |none=>rw [hg] at hx;simp at hx
    |some l=>rw [hg] at hx;exact hen l (List.mem_of_getElem? hg) x (by simpa using hx)
   have hge:met.length≤(aO but met (ll.getD m.toNat [])).length:=mE _ _ _;have hlt:=(List.getElem?_eq_some_iff.1 hm).1;obtain⟨i1,i2,i3,i4⟩:=ih (I+1) (aO but met (ll.getD m.toNat [])) (eB.aO but _ _ hn hnum) (by omega) (by omega) (by
    intro j x c hj hx hcc hb;rw [ir];by_cases e:j=I
    ·subst e;rw [fK but _ _ _ _ hm] at hx;injection hx with hx;subst hx;exact .inr ⟨hcc,hb⟩
    ·have hjl:j < met.length:=(by omega);have hx2:met[j]? =some met[j]:=List.getElem?_eq_getElem hjl;rw [fK but _ _ _ _ hx2] at hx;injection hx with hx;exact .inl (hc j x c (by omega) (by rw [hx2,hx]) hcc hb))
   refine⟨fun x hx=>i1 x (ir _ _ |>.2 (.inl hx)),i2,i3,fun Q h0 hs x hx=>i4 Q ?_ hs x hx⟩;intro y hy;rcases(ir _ _).1 hy with hy | ⟨hy,hb⟩
   ·exact h0 y hy
   ·exact hs m y (h0 m (List.mem_of_getElem? hm)) hy hb
theorem n9 {ll:List (List Int)} {frm:List Int} {but:Int} (hen:∀l∈ll,Num ll.length l) (hfn:Num ll.length frm) (m:Int):m∈gH ll frm but↔Rch ll frm but m:=by
 obtain⟨h1,h2,_,h4⟩:=oF (but:=but) hen (ll.length+1) 0 (aO but [] frm) (eB.aO but _ _ (eB.nil _) hfn) (Nat.zero_le _) (by omega) (fun j _ _ hj=>by omega);constructor
 ·intro hm;refine h4 (Rch ll frm but) (fun x hx=> ?_) (fun x c hx hc hb=>hx.step hc hb) m hm;rcases(ir _ _).1 hx with hx | ⟨hx,hb⟩
  ·cases hx
  ·exact Rch.start hx hb
 ·intro hm;refine Rch.uD (Q:=fun m=>m∈gH ll frm but) (fun x hx hb=>h1 x ((ir _ _).2 (.inr ⟨hx,hb⟩))) (fun x c _ hx hc hb=>h2 x c hx hc hb) m hm
theorem BM {ll:List (List Int)} {frm:List Int} {but:Int} (hen:∀l∈ll,Num ll.length l) (hfn:Num ll.length frm):eB ll.length (gH ll frm but):=
 (oF (but:=but) hen (ll.length+1) 0 (aO but [] frm) (eB.aO but _ _ (eB.nil _) hfn) (Nat.zero_le _) (by omega) (fun j _ _ hj=>by omega)).2.2.1
def All (ll:List (List Int)) (m:Int):Prop:=Rch ll [0] (-1) m
def Ahd (ll:List (List Int)) (a b:Int):Prop:=All ll a∧All ll b∧(a=b∨¬Rch ll [0] a b)
theorem Rch.all {ll:List (List Int)} {a m:Int} (hen:∀l∈ll,Num ll.length l) (h:Rch ll [0] a m):All ll m:=by
 refine Rch.uD (Q:=fun m=>All ll m) (fun m hm _=>Rch.start hm (by simp at hm;omega)) (fun b c _ hb hc _=>hb.step hc ?_) m h;intro e;rw [List.getD_eq_getElem?_getD] at hc
 cases hg:ll[b.toNat]? with
 |none=>rw [hg] at hc;simp at hc
 |some l=>rw [hg] at hc;have:=hen l (List.mem_of_getElem? hg) c (by simpa using hc);omega
theorem Ahd.refl {ll:List (List Int)} {a:Int} (h:All ll a):Ahd ll a a:=⟨h,h,.inl rfl⟩
theorem Ahd.trans {ll:List (List Int)} {a b c:Int} (h:Ahd ll a b) (k:Ahd ll b c):Ahd ll a c:=by
 refine⟨h.1,k.2.1,?_⟩;rcases h.2.2 with rfl | h2
 ·exact k.2.2
 rcases k.2.2 with rfl | k2
 ·exact .inr h2
 right;intro hr;refine k2 (Rch.uD (Q:=fun m=>Rch ll [0] b m) (fun m hm hb=>Rch.start hm ?_) (fun x y hx hy hc hb=>hy.step hc ?_) c hr)
 ·rintro rfl;exact h2 (Rch.start hm hb)
 ·rintro rfl;exact h2 (hx.step hc hb)
theorem Ahd.FV {ll:List (List Int)} {a b:Int} (h:Ahd ll a b) (k:Ahd ll b a):a=b:=by
 by_cases hab:a=b
 ·exact hab
 exfalso;have h2:=h.2.2.resolve_left hab;have k2:=k.2.2.resolve_left (fun e=>hab e.symm);have key:∀m,All ll m→Rch ll [0] a m∧Rch ll [0] b m:=by
  refine Rch.uD (fun m hm _=> ?_) (fun x y _ hx hc _=> ?_)
  ·have ha:m≠a:=(by rintro rfl;exact k2 (Rch.start hm hab));have hb:m≠b:=(by rintro rfl;exact h2 (Rch.start hm ha));exact⟨Rch.start hm ha,Rch.start hm hb⟩
  ·have ha:y≠a:=(by rintro rfl;exact k2 (hx.2.step hc hab));have hb:y≠b:=(by rintro rfl;exact h2 (hx.1.step hc ha));exact⟨hx.1.step hc ha,hx.2.step hc hb⟩
 exact h2 (key b h.2.1).1
theorem Ahd.chain {ll:List (List Int)} {x y z:Int} (h:Ahd ll x z) (k:Ahd ll y z):Ahd ll x y∨Ahd ll y x:=by
 by_cases h1:Ahd ll x y
 ·exact .inl h1
 by_cases h2:Ahd ll y x
 ·exact .inr h2
 exfalso;have hxy:x≠y:=by rintro rfl;exact h1 (Ahd.refl h.1)
 have r1:Rch ll [0] x y:=Classical.byContradiction fun e=>h1 ⟨h.1,k.1,.inr e⟩;have r2:Rch ll [0] y x:=Classical.byContradiction fun e=>h2 ⟨k.1,h.1,.inr e⟩;have key:∀m,All ll m→Rch ll [0] x m∨Rch ll [0] y m:=by
  refine Rch.uD (fun m hm _=> ?_) (fun b c _ hb hc _=> ?_)
  ·by_cases e:m=x
   ·subst e;exact .inr r2
   ·exact .inl (Rch.start hm e)
  ·rcases hb with hb | hb
   ·by_cases e:c=x
    ·subst e;exact .inr r2
    ·exact .inl (hb.step hc e)
   ·by_cases e:c=y
    ·subst e;exact .inl r1
    ·exact .inr (hb.step hc e)
 rcases key z h.2.1 with e | e
 ·rcases h.2.2 with rfl | h3
  ·exact h2 k
  ·exact h3 e
 ·rcases k.2.2 with rfl | k3
  ·exact h1 h
  ·exact k3 e
theorem Rch.qG {ll:List (List Int)} {m:Int}:¬Rch ll [0] 0 m:=by
 intro h;exact Rch.uD (Q:=fun _=>False) (fun m hm hb=>hb (by simpa using hm)) (fun _ _ _ h _ _=>h) m h
theorem All.first (ll:List (List Int)):All ll 0:=Rch.start (by simp) (by omega)
theorem Ahd.first {ll:List (List Int)} {m:Int} (h:All ll m):Ahd ll 0 m:=⟨All.first ll,h,.inr Rch.qG⟩
def kD (ll:List (List Int)) (way:List Int) (k:Int):Prop:=k∈way∧All ll k∧∀a,a ∉ way→Rch ll [0] a k
theorem kD.start (ll:List (List Int)):kD ll [0] 0:=⟨by simp,All.first ll,fun a ha=>Rch.start (by simp) (fun e=>ha (by simp [e]))⟩
theorem kD.step {ll:List (List Int)} {way:List Int} {k c:Int} (h:kD ll way k) (hc:c∈ll.getD k.toNat []) (h0:0≤c):kD ll (way ++ [c]) c:=by
 refine⟨by simp,h.2.1.step hc (by omega),fun a ha=> ?_⟩;refine(h.2.2 a (fun e=>ha (by simp [e]))).step hc (fun e=>ha (by simp [e]))
theorem kD.ahead {ll:List (List Int)} {way:List Int} {k a:Int} (h:kD ll way k) (ha:Ahd ll a k):a∈way:=by
 refine Classical.byContradiction fun e=> ?_;rcases ha.2.2 with rfl | h2
 ·exact e h.1
 ·exact h2 (h.2.2 a e)
def lh (p:Nat→Bool) (n:Nat):Nat:=((List.range n).filter p).length
theorem kh (p:Nat→Bool) (n:Nat):lh p (n+1)=lh p n+(if p n then 1 else 0):=by
 unfold lh;rw [List.range_succ,List.filter_append,List.length_append]
 cases h:p n <;> simp [h]
theorem su {p q:Nat→Bool}:∀n,(∀x,x < n→p x=true→q x=true)→lh p n≤lh q n:=by
 intro n;induction n with
 |zero=>intro _;exact Nat.le_refl _
 |succ n ih=>
  intro h;rw [kh,kh];have h1:=ih (fun x hx=>h x (by omega));have h2:=h n (by omega)
  cases hp:p n with
  |false=>simp;omega
  |true=>rw [h2 hp];simp;omega
theorem zC {p q:Nat→Bool} (n:Nat) (h:∀x,x < n→p x=q x):lh p n=lh q n:=
 Nat.le_antisymm (su n fun x hx hp=>by rw [←h x hx];exact hp) (su n fun x hx hp=>by rw [h x hx];exact hp)
theorem sP {p q:Nat→Bool} {y:Nat} (hy:p y=false):∀n,y < n→(∀x,x < n→q x=(p x || decide (x=y)))→lh q n=lh p n+1:=by
 intro n;induction n with
 |zero=>intro h;omega
 |succ n ih=>
  intro hn h;rw [kh,kh,h n (by omega)];by_cases e:n=y
  ·subst e;have:lh q n=lh p n:=zC n fun x hx=>by rw [h x (by omega)];simp;omega
   rw [this,hy];simp
  ·have:=ih (by omega) (fun x hx=>h x (by omega));rw [this];simp [e];omega
theorem Ho {p q:Nat→Bool} {y n:Nat} (hy:p y=false) (hq:q y=true) (hn:y < n) (h:∀x,x < n→p x=true→q x=true):lh p n < lh q n:=by
 have h1:=sP (p:=p) (q:=fun x=>p x || decide (x=y)) hy n hn (fun x _=>rfl);have h2:=su (p:=fun x=>p x || decide (x=y)) (q:=q) n (fun x hx hp=>by
  simp only [Bool.or_eq_true,decide_eq_true_eq] at hp;rcases hp with hp | rfl
  ·exact h x hx hp
  ·exact hq)
 omega
theorem Jj (g:Int→Nat):∀(l:List Int),l≠ []→∃a∈l,∀c∈l,g c≤g a:=by
 intro l;induction l with
 |nil=>intro h;exact absurd rfl h
 |cons x l ih=>
  intro _;by_cases h:l= []
  ·subst h;exact⟨x,by simp,fun c hc=>by simp at hc;subst hc;exact Nat.le_refl _⟩
  ·obtain⟨a,ha,hm⟩:=ih h;by_cases e:g a≤g x
   ·refine⟨x,by simp,fun c hc=> ?_⟩;rcases List.mem_cons.1 hc with rfl | hc
    ·exact Nat.le_refl _
    ·exact Nat.le_trans (hm c hc) e
   ·refine⟨a,by simp [ha],fun c hc=> ?_⟩;rcases List.mem_cons.1 hc with rfl | hc
    ·omega
    ·exact hm c hc
def cx (ll:List (List Int)) (a b:Int):Bool:=ay (gH ll [0] (-1)) a && ay (gH ll [0] (-1)) b && (decide (a=b) || !ay (gH ll [0] a) b)
def iP (ll:List (List Int)) (b:Int):Nat:=lh (fun a=>decide ((a:Int)≠b) && cx ll a b) ll.length
def Gr (ll:List (List Int)):Prop:=(∀l∈ll,Num ll.length l)∧0 < ll.length
theorem Gr.frm {ll:List (List Int)} (h:Gr ll):Num ll.length [0]:=fun m hm=>by
 have:=h.2;simp at hm;subst hm;omega
theorem yo {ll:List (List Int)} (h:Gr ll) (m:Int):ay (gH ll [0] (-1)) m=true↔All ll m:=by rw [aZ];exact n9 h.1 h.frm m
theorem All.num {ll:List (List Int)} (h:Gr ll) {m:Int} (hm:All ll m):0≤m∧m < ll.length:=(BM h.1 h.frm).2 m ((n9 h.1 h.frm m).2 hm)
theorem dU {ll:List (List Int)} (h:Gr ll) (a b:Int):cx ll a b=true↔Ahd ll a b:=by
 unfold cx Ahd;rw [Bool.and_eq_true,Bool.and_eq_true,yo h,yo h,Bool.or_eq_true,decide_eq_true_eq,Bool.not_eq_true',←Bool.not_eq_true,aZ,n9 h.1 h.frm,and_assoc]
theorem DK {ll:List (List Int)} (h:Gr ll) (a b:Int):cx ll a b=false↔¬Ahd ll a b:=by rw [←dU h];simp
theorem oA {ll:List (List Int)} (h:Gr ll) {a b:Int} (hab:Ahd ll a b) (hne:a≠b):iP ll a < iP ll b:=by
 obtain⟨h0,h1⟩:=hab.1.num h;obtain⟨A,rfl⟩:∃A:Nat,a=(A:Int):=⟨a.toNat,by omega⟩;refine Ho (y:=A) (by simp) (by simp [hne,(dU h _ _).2 hab]) (by omega) (fun x hx hp=> ?_);simp only [Bool.and_eq_true,decide_eq_true_eq,dU h] at hp ⊢;refine⟨?_,hp.2.trans hab⟩;rintro rfl;exact hne (hab.FV hp.2)
theorem Iy {ll:List (List Int)} (h:Gr ll) {b:Int} (hb:All ll b) (h0:b≠0):∃a,Ahd ll a b∧a≠b∧iP ll a+1=iP ll b∧∀c,Ahd ll c b→c≠b→Ahd ll c a:=by
 obtain⟨a,ha,hm⟩:=Jj (iP ll) (((List.range ll.length).filter fun(a:Nat)=>decide ((a:Int)≠b) && cx ll a b).map Int.ofNat) (by
  intro e;have:(0:Int)∈((List.range ll.length).filter fun(a:Nat)=>decide ((a:Int)≠b) && cx ll a b).map Int.ofNat:=
   List.mem_map.2 ⟨0,List.mem_filter.2 ⟨by simpa using h.2,by simp only [Bool.and_eq_true,decide_eq_true_eq,dU h];exact⟨fun e=>h0 (by rw [←e];rfl),Ahd.first hb⟩⟩,rfl⟩
  rw [e] at this
  cases this)
 obtain⟨A,hA,rfl⟩:=List.mem_map.1 ha;obtain⟨hAr,hAp⟩:=List.mem_filter.1 hA;simp only [Bool.and_eq_true,decide_eq_true_eq,dU h] at hAp;have last:∀c,Ahd ll c b→c≠b→Ahd ll c A:=by
  intro c hc hne;obtain⟨c0,c1⟩:=hc.1.num h;obtain⟨C,rfl⟩:∃C:Nat,c=(C:Int):=⟨c.toNat,by omega⟩;rcases hc.chain hAp.2 with k | k
  ·exact k
  ·by_cases e:(A:Int)=C
   ·rw [e];exact Ahd.refl hc.1
   ·have h1:=oA h k e;have h2:=hm (C:Int) (List.mem_map.2 ⟨C,List.mem_filter.2 ⟨by simp;omega,by simp only [Bool.and_eq_true,decide_eq_true_eq,dU h];exact⟨hne,hc⟩⟩,rfl⟩);have h3:iP ll (C:Int)≤iP ll (A:Int):=h2;omega
 refine⟨A,hAp.2,hAp.1,?_,last⟩;refine(sP (p:=fun(x:Nat)=>decide ((x:Int)≠(A:Int)) && cx ll x A) (y:=A) (by simp) _ (by simpa using hAr) (fun x hx=> ?_)).symm;rw [Bool.eq_iff_iff];simp only [Bool.or_eq_true,Bool.and_eq_true,decide_eq_true_eq,dU h];constructor
 ·rintro ⟨h1,h2⟩;by_cases e:x=A
  ·exact .inr e
  ·exact .inl ⟨by omega,last _ h2 h1⟩
 ·rintro (⟨h1,h2⟩ | rfl)
  ·refine⟨?_,h2.trans hAp.2⟩;rintro rfl;exact hAp.1 (hAp.2.FV h2)
  ·exact hAp
def sn (ll:List (List Int)) (b a:Int):Prop:=a≠b∧Ahd ll a b∧iP ll a+1=iP ll b
theorem sn.one {ll:List (List Int)} (h:Gr ll) {b a c:Int} (ha:sn ll b a) (hc:sn ll b c):a=c:=by
 rcases ha.2.1.chain hc.2.1 with k | k
 ·refine Classical.byContradiction fun e=> ?_;have:=oA h k e;have:=ha.2.2;have:=hc.2.2;omega
 ·refine Classical.byContradiction fun e=> ?_;have:=oA h k (fun e2=>e e2.symm);have:=ha.2.2;have:=hc.2.2;omega
theorem sn.ex {ll:List (List Int)} (h:Gr ll) {b:Int} (hb:All ll b) (h0:b≠0):∃a,sn ll b a:=by
 obtain⟨a,h1,h2,h3,_⟩:=Iy h hb h0;exact⟨a,h2,h1,h3⟩
theorem sn.last {ll:List (List Int)} (h:Gr ll) {b a c:Int} (ha:sn ll b a) (hc:Ahd ll c b) (hne:c≠b):Ahd ll c a:=by
 have hb:=ha.2.1.2.1;have h0:b≠0:=by
  rintro rfl;exact ha.1 (ha.2.1.FV (Ahd.first ha.2.1.1))
 obtain⟨d,h1,h2,h3,h4⟩:=Iy h hb h0;rw [ha.one h ⟨h2,h1,h3⟩];exact h4 c hc hne
theorem sn.qG {ll:List (List Int)} {a:Int}:¬sn ll 0 a:=fun h=>h.1 (h.2.1.FV (Ahd.first h.2.1.1))
open G (Tok Er Ins Fun)
def cY (k:Int):Int:=if k=1 then 9223372036854775807 else if k=11∨k=12∨k=15∨k=13∨k=14 then 15 else if k=21∨k=23∨k=24 then 1048576 else if k=29 then 255 else -1
theorem Kw (w:World):Calls Tryz.prog 130 #[.int .i64 1] w fun e w'=>e= .returned (.int .i64 (cY 1))∧w'=w:=by
 go_enter Tryz.func130,Tryz.ntmps130
 go_wp2_with fail
 go_ret;exact⟨rfl,rfl⟩
theorem J8 (w:World):Calls Tryz.prog 130 #[.int .i64 11] w fun e w'=>e= .returned (.int .i64 (cY 11))∧w'=w:=by
 go_enter Tryz.func130,Tryz.ntmps130
 go_wp2_with fail
 go_ret;exact⟨rfl,rfl⟩
theorem IV (w:World):Calls Tryz.prog 130 #[.int .i64 12] w fun e w'=>e= .returned (.int .i64 (cY 12))∧w'=w:=by
 go_enter Tryz.func130,Tryz.ntmps130
 go_wp2_with fail
 go_ret;exact⟨rfl,rfl⟩
theorem IM (w:World):Calls Tryz.prog 130 #[.int .i64 15] w fun e w'=>e= .returned (.int .i64 (cY 15))∧w'=w:=by
 go_enter Tryz.func130,Tryz.ntmps130
 go_wp2_with fail
 go_ret;exact⟨rfl,rfl⟩
theorem Jd (w:World):Calls Tryz.prog 130 #[.int .i64 13] w fun e w'=>e= .returned (.int .i64 (cY 13))∧w'=w:=by
 go_enter Tryz.func130,Tryz.ntmps130
 go_wp2_with fail
 go_ret;exact⟨rfl,rfl⟩
theorem JV (w:World):Calls Tryz.prog 130 #[.int .i64 14] w fun e w'=>e= .returned (.int .i64 (cY 14))∧w'=w:=by
 go_enter Tryz.func130,Tryz.ntmps130
 go_wp2_with fail
 go_ret;exact⟨rfl,rfl⟩
theorem Jo (w:World):Calls Tryz.prog 130 #[.int .i64 23] w fun e w'=>e= .returned (.int .i64 (cY 23))∧w'=w:=by
 go_enter Tryz.func130,Tryz.ntmps130
 go_wp2_with fail
 go_ret;exact⟨rfl,rfl⟩
theorem JZ (w:World):Calls Tryz.prog 130 #[.int .i64 21] w fun e w'=>e= .returned (.int .i64 (cY 21))∧w'=w:=by
 go_enter Tryz.func130,Tryz.ntmps130
 go_wp2_with fail
 go_ret;exact⟨rfl,rfl⟩
theorem Jz (w:World):Calls Tryz.prog 130 #[.int .i64 24] w fun e w'=>e= .returned (.int .i64 (cY 24))∧w'=w:=by
 go_enter Tryz.func130,Tryz.ntmps130
 go_wp2_with fail
 go_ret;exact⟨rfl,rfl⟩
theorem JH (w:World):Calls Tryz.prog 130 #[.int .i64 29] w fun e w'=>e= .returned (.int .i64 (cY 29))∧w'=w:=by
 go_enter Tryz.func130,Tryz.ntmps130
 go_wp2_with fail
 go_ret;exact⟨rfl,rfl⟩
theorem zP (k:Int) (hk:k≠1∧k≠11∧k≠12∧k≠15∧k≠13∧k≠14∧k≠23∧k≠21∧k≠24∧k≠29) (w:World):Calls Tryz.prog 130 #[.int .i64 k] w fun e w'=>e= .returned (.int .i64 (cY k))∧w'=w:=by
 have HB:Hid ((-1:Int)=cY k):=aa (by unfold cY;rw [if_neg (by omega),if_neg (by omega),if_neg (by omega),if_neg (by omega)]);obtain⟨n1,n11,n12,n15,n13,n14,n23,n21,n24,n29⟩:=hk;replace n1:(k == 1)=false:=by simpa using n1
 replace n11:(k == 11)=false:=by simpa using n11
 replace n12:(k == 12)=false:=by simpa using n12
 replace n15:(k == 15)=false:=by simpa using n15
 replace n13:(k == 13)=false:=by simpa using n13
 replace n14:(k == 14)=false:=by simpa using n14
 replace n23:(k == 23)=false:=by simpa using n23
 replace n21:(k == 21)=false:=by simpa using n21
 replace n24:(k == 24)=false:=by simpa using n24
 replace n29:(k == 29)=false:=by simpa using n29
 go_enter Tryz.func130,Tryz.ntmps130
 go_wp2_with fail
 go_ret;exact⟨L5.aX HB.out,rfl⟩
theorem BZ (k:Int) (w:World):Calls Tryz.prog 130 #[.int .i64 k] w fun e w'=>e= .returned (.int .i64 (cY k))∧w'=w:=by
 by_cases h1:k=1
 ·subst h1;exact Kw w
 by_cases h11:k=11
 ·subst h11;exact J8 w
 by_cases h12:k=12
 ·subst h12;exact IV w
 by_cases h15:k=15
 ·subst h15;exact IM w
 by_cases h13:k=13
 ·subst h13;exact Jd w
 by_cases h14:k=14
 ·subst h14;exact JV w
 by_cases h23:k=23
 ·subst h23;exact Jo w
 by_cases h21:k=21
 ·subst h21;exact JZ w
 by_cases h24:k=24
 ·subst h24;exact Jz w
 by_cases h29:k=29
 ·subst h29;exact JH w
 exact zP k ⟨h1,h11,h12,h15,h13,h14,h23,h21,h24,h29⟩ w
theorem AL {k n:Int} (hn:I64 n):(ui k n=true∧((cY k < 0∧n=0)∨(0≤cY k∧n≤cY k∧0≤n)∨(0≤cY k∧n≤cY k∧n < 0∧k=1)))∨
  (ui k n=false∧((cY k < 0∧n≠0)∨(0≤cY k∧cY k < n)∨(0≤cY k∧n≤cY k∧n < 0∧k≠1))):=by
 obtain⟨h1,h2⟩:=hn;unfold ui cY;split
 ·rename_i hk;subst hk;simp;omega
 ·split
  ·simp;omega
  ·split
   ·simp;omega
   ·split
    ·simp;omega
    ·simp;omega
theorem uR (most:Int) (l:List Int) (j:Nat) (y:Int) (h:l[j]? =some y):(l.take (j+1)).any (byd most)=((l.take j).any (byd most) || byd most y):=by
 rw [List.take_add_one,h];simp
theorem yY (most:Int) (l:List Int) (j:Nat) (y:Int) (h:l[j]? =some y) (hb:byd most y=true):l.any (byd most)=true:=by
 rw [List.any_eq_true];exact⟨y,List.mem_of_getElem? h,hb⟩
theorem vX (k id n ty pl:Int) (ar tt:List Int) (nm:List UInt8) (ao to:Option Addr) (ca ct:Nat) (w:World) (hs1:Sl w ao ar) (hs2:Sl w to tt) (hL:ar.length≤maxLen∧tt.length≤maxLen) (hn:I64 n) (hl:nm.length≤maxLen):
  Calls Tryz.prog 87 #[.agg #[.int .i64 k,.int .i64 id,.int .i64 n,.int .i64 ty,.slice ao ar.length ca,.slice to tt.length ct,.string (bs nm),.int .i64 pl]] w fun e w'=>e= .returned (.int .i64 (aU (k,id,n,ty,ar,tt,nm,pl)))∧Below w.heap.size w w':=by
 have b0:=af w (.cells #[.int .i64 k,.int .i64 id,.int .i64 n,.int .i64 ty,.slice ao ar.length ca,.slice to tt.length ct,.string (bs nm),.int .i64 pl] 41);have H0:=aa (heap_alloc_new w (.cells #[.int .i64 k,.int .i64 id,.int .i64 n,.int .i64 ty,.slice ao ar.length ca,.slice to tt.length ct,.string (bs nm),.int .i64 pl] 41));have A0:=aa (hs1.below b0);have U0:=aa (hs2.below b0);have B0:=aa b0;have hz0:(w.alloc (.cells #[.int .i64 k,.int .i64 id,.int .i64 n,.int .i64 ty,.slice ao ar.length ca,.slice to tt.length ct,.string (bs nm),.int .i64 pl] 41)).heap.size > w.heap.size:=by simp
 have HL:=aa hL;obtain⟨hLa,hLt⟩:=hL;unfold maxLen at hLa hLt;have HN:=aa hn;have HSZ:Hid ((bs nm).size≤maxLen):=aa (by rw [bE];exact hl);have HRC:=aa (AL (k:=k) hn);clear b0 hs1 hs2 hn hl;go_enter Tryz.func87,Tryz.ntmps87
 go_upto_region 1 with fail
 show Code.wp _ _ _ _ (w.alloc (.cells #[.int .i64 k,.int .i64 id,.int .i64 n,.int .i64 ty,.slice ao ar.length ca,.slice to tt.length ct,.string (bs nm),.int .i64 pl] 41));generalize w.alloc (.cells #[.int .i64 k,.int .i64 id,.int .i64 n,.int .i64 ty,.slice ao ar.length ca,.slice to tt.length ct,.string (bs nm),.int .i64 pl] 41)=W at *;obtain⟨c0,c1,c2,c3,c4,c5,c6,c7⟩:=pF H0.out;by_cases ho1:k < 1
 ·have HC:Hid ((2:Int)=aU (k,id,n,ty,ar,tt,nm,pl)):=aa (by unfold aU;rw [if_pos (by dsimp only;unfold wW;rw [show decide (1≤k)=false by simp;omega];rfl)]);go_wp2_with fail
  go_ret;exact⟨L5.aX HC.out,ae B0.out (Below.refl _ _)⟩
 by_cases ho2:29 < k
 ·have HC:Hid ((2:Int)=aU (k,id,n,ty,ar,tt,nm,pl)):=aa (by unfold aU;rw [if_pos (by dsimp only;unfold wW;rw [show decide (k≤29)=false by simp;omega];simp)]);go_wp2_with fail
  go_ret;exact⟨L5.aX HC.out,ae B0.out (Below.refl _ _)⟩
 have HO:Hid (wW k=true):=aa (by unfold wW;simp;omega);go_wp2_with fail
 refine(L5.iA k ty _).mono ?_;rintro e w1 ⟨rfl,hw1⟩;rw [hw1];clear hw1
 cases hm:L5.may k ty with
 |false=>
  have HC:Hid ((2:Int)=aU (k,id,n,ty,ar,tt,nm,pl)):=aa (by unfold aU;rw [if_pos (by dsimp only;rw [hm,Bool.and_false])]);replace hm:=aa hm;go_wp2_with fail
  go_ret;exact⟨L5.aX HC.out,ae B0.out (Below.refl _ _)⟩
 |true=>
 have HF1:Hid (¬((wW k && L5.may k ty)=false)):=aa (by rw [HO.out,hm];simp);replace hm:=aa hm;go_wp2_with fail
 refine(L5.db k ty _ _ _ _ _ _ W).mono ?_;rintro e w2 ⟨rfl,b2⟩;have B2:=aa b2;clear b2;clear c0 c1 c2 c3 c4 c5 c6 c7;obtain⟨c0,c1,c2,c3,c4,c5,c6,c7⟩:=pF ((B2.out.block _ (by omega)).trans H0.out);have HNU:Hid ((L5.cn k ty=0∧id= -1∨L5.cn k ty≠0∧¬id < 0∧¬1048576 < id)∧qj k id ty=true∨((L5.cn k ty=0∧id≠ -1)∨(L5.cn k ty≠0∧id < 0)∨(L5.cn k ty≠0∧¬id < 0∧1048576 < id))∧qj k id ty=false):=aa (by
  unfold qj byd;by_cases h:L5.cn k ty=0
  ·rw [if_pos h];by_cases h2:id= -1 <;> simp [h,h2]
  ·rw [if_neg h];by_cases h2:id < 0 <;> by_cases h3:1048576 < id <;> simp [h,h2,h3])
 generalize L5.cn k ty=mk at *;rcases HNU.out with ⟨hq1,hq⟩ | ⟨hq1,hq⟩;rotate_left
 ·have HC:Hid ((8:Int)=aU (k,id,n,ty,ar,tt,nm,pl)):=aa (by unfold aU;rw [if_neg HF1.out,if_pos hq]);replace hq:=aa hq;clear HNU HRC;rcases hq1 with ⟨hq2,hq3⟩ | ⟨hq2,hq3⟩ | ⟨hq2,hq3,hq4⟩
  ·subst hq2;have hq5:(id == -1)=false:=(by simpa using hq3);have hq6:(id != -1)=true:=(by rw [bne,hq5];rfl);go_wp2_with fail
   go_ret;exact⟨L5.aX HC.out,ae B0.out B2.out⟩
  ·have hq5:(mk != 0)=true:=(by simpa using hq2);go_wp2_with fail
   go_ret;exact⟨L5.aX HC.out,ae B0.out B2.out⟩
  ·have hq5:(mk != 0)=true:=(by simpa using hq2);go_wp2_with fail
   go_ret;exact⟨L5.aX HC.out,ae B0.out B2.out⟩
 have HF2:Hid (¬(qj k id ty=false)):=aa (by rw [hq];simp);replace hq:=aa hq;clear HNU;rcases hq1 with ⟨hq2,hq3⟩ | ⟨hq2,hq3,hq4⟩
 all_goals
  first
  |subst hq2
   have hq5:(id == -1)=true:=(by rw [hq3];rfl);have hq6:(id != -1)=false:=(by rw [hq3];rfl);replace hq3:=aa hq3
  |have hq5:(mk != 0)=true:=by simpa using hq2
  go_wp2_with fail
  refine(rp k id n ty pl ar tt nm ao to ca ct _ HL.out).mono ?_;rintro e w3 ⟨rfl,b3⟩;have B3:=aa (ae B2.out b3);clear b3
  cases hc:jb k ar.length tt.length with
  |false=>
   have HC:Hid ((13:Int)=aU (k,id,n,ty,ar,tt,nm,pl)):=aa (by unfold aU;rw [if_neg HF1.out,if_neg HF2.out,if_pos hc]);replace hc:=aa hc;go_wp2_with fail
   go_ret;exact⟨L5.aX HC.out,ae B0.out B3.out⟩
  |true=>
  have HF3:Hid (¬(jb k ar.length tt.length=false)):=aa (by rw [hc];simp);replace hc:=aa hc;clear c0 c1 c2 c3 c4 c5 c6 c7;obtain⟨c0,c1,c2,c3,c4,c5,c6,c7⟩:=pF ((B3.out.block _ (by omega)).trans H0.out);go_wp2_with fail
  refine(BZ k _).mono ?_;rintro e w4 ⟨rfl,hw4⟩;rw [hw4];clear hw4;have B4:=aa B3.out;generalize cY k=top at *;rcases HRC.out with ⟨hr,hr1⟩ | ⟨hr,hr1⟩;rotate_left
  ·have HC:Hid ((18:Int)=aU (k,id,n,ty,ar,tt,nm,pl)):=aa (by unfold aU;rw [if_neg HF1.out,if_neg HF2.out,if_neg HF3.out,if_pos hr]);replace hr:=aa hr;clear HRC;rcases hr1 with ⟨h1,h2⟩ | ⟨h1,h2⟩ | ⟨h1,h2,h3,h4⟩
   ·have h5:(n != 0)=true:=(by simpa using h2);go_wp2_with fail
    go_ret;exact⟨L5.aX HC.out,ae B0.out B4.out⟩
   ·have h5:¬top < 0:=(by omega);go_wp2_with fail
    go_ret;exact⟨L5.aX HC.out,ae B0.out B4.out⟩
   ·have h5:¬top < 0:=(by omega);have h6:¬top < n:=(by omega);have h7:(k != 1)=true:=(by simpa using h4);go_wp2_with fail
    go_ret;exact⟨L5.aX HC.out,ae B0.out B4.out⟩
  have HF4:Hid (¬(ui k n=false)):=aa (by rw [hr];simp);replace hr:=aa hr;clear HRC;rcases hr1 with ⟨h1,h2⟩ | ⟨h1,h2,h3⟩ | ⟨h1,h2,h3,h4⟩
  all_goals
   first
   |have h5:(n != 0)=false:=by rw [h2];rfl
    have h6:¬0≤top:=(by omega);replace h2:=aa h2;clear c0 c1 c3 c4 c5 c6 c7;obtain⟨c0,c1,c2,c3,c4,c5,c6,c7⟩:=pF ((B4.out.block _ (by omega)).trans H0.out)
   |have h5:¬top < 0:=by omega
    have h6:¬top < n:=(by omega);have h7:(k != 1)=false:=(by rw [h4];rfl);replace h4:=aa h4
   |have h5:¬top < 0:=by omega
    have h6:¬top < n:=(by omega);have h7:¬n < 0:=by omega
   go_wp2_with fail
   clear c0 c1 c2 c3 c4 c5 c6 c7;go_loopw [5] (fun i wr=>∃j:Nat,j≤ar.length∧i= .int .i64 j∧Hid ((ar.take j).any (byd 1048576)=false)∧Hid (Below W.heap.size W wr)) (fun i _=>ar.length - (intOf i).toNat)
   case atStart=>exact⟨0,Nat.zero_le _,rfl,aa rfl,B4⟩
   case round=>
    obtain⟨j,hj,rfl,HA5,HWa⟩:=hrel;obtain⟨c0,c1,c2,c3,c4,c5,c6,c7⟩:=pF ((HWa.out.block _ (by omega)).trans H0.out);by_cases hlt:j < ar.length
    ·obtain⟨y,hy⟩:∃y,ar[j]? =some y:=⟨_,List.getElem?_eq_getElem hlt⟩;rcases A0.out with he | ⟨g,o,rfl,hg,hcc⟩
     ·subst he;simp at hlt
     have hcell:=(HWa.out.cell (p:=⟨g,o+j,none⟩) hg).trans (hcc j y hy);have hlt':(j:Int) < ar.length:=(by omega);have HT:=aa (uR 1048576 ar j y hy);have HH:=aa (yY 1048576 ar j y hy);clear hcc hy;by_cases hy0:y < 0
     ·have HC:Hid ((8:Int)=aU (k,id,n,ty,ar,tt,nm,pl)):=aa (by unfold aU;rw [if_neg HF1.out,if_neg HF2.out,if_neg HF3.out,if_neg HF4.out,if_pos (HH.out (by simp [byd,hy0]))]);clear HH HT;go_wp2_with fail
      go_ret;exact⟨L5.aX HC.out,ae B0.out HWa.out⟩
     ·by_cases hy1:1048576 < y
      ·have HC:Hid ((8:Int)=aU (k,id,n,ty,ar,tt,nm,pl)):=aa (by unfold aU;rw [if_neg HF1.out,if_neg HF2.out,if_neg HF3.out,if_neg HF4.out,if_pos (HH.out (by simp [byd,hy1]))]);clear HH HT;go_wp2_with fail
       go_ret;exact⟨L5.aX HC.out,ae B0.out HWa.out⟩
      ·have HT1:=aa (HT.out.trans (by rw [HA5.out];simp [byd,hy0,hy1]:_=false));clear HH HT;go_wp2_with fail
       go_roundw
       case rel=>exact⟨j+1,by omega,by go_num,HT1,HWa⟩
       case measure=>simp [intOf];omega
    ·obtain rfl:j=ar.length:=(by omega);have HF5:Hid (¬(ar.any (byd 1048576)=true)):=aa (by have:=HA5.out;rw [List.take_length] at this;rw [this];simp);go_wp2_with fail
     clear c0 c1 c2 c3 c4 c5 c6 c7;go_loopw [6] (fun i wr=>∃j:Nat,j≤tt.length∧i= .int .i64 j∧Hid ((tt.take j).any (byd 255)=false)∧Hid (Below W.heap.size W wr)) (fun i _=>tt.length - (intOf i).toNat)
     case atStart=>exact⟨0,Nat.zero_le _,rfl,aa rfl,HWa⟩
     case round=>
      obtain⟨j,hj,rfl,HA6,HWt⟩:=hrel;obtain⟨c0,c1,c2,c3,c4,c5,c6,c7⟩:=pF ((HWt.out.block _ (by omega)).trans H0.out);by_cases hlt:j < tt.length
      ·obtain⟨y,hy⟩:∃y,tt[j]? =some y:=⟨_,List.getElem?_eq_getElem hlt⟩;rcases U0.out with he | ⟨g,o,rfl,hg,hcc⟩
       ·subst he;simp at hlt
       have hcell:=(HWt.out.cell (p:=⟨g,o+j,none⟩) hg).trans (hcc j y hy);have hlt':(j:Int) < tt.length:=(by omega);have HT:=aa (uR 255 tt j y hy);have HH:=aa (yY 255 tt j y hy);clear hcc hy;by_cases hy0:y < 0
       ·have HC:Hid ((7:Int)=aU (k,id,n,ty,ar,tt,nm,pl)):=aa (by unfold aU;rw [if_neg HF1.out,if_neg HF2.out,if_neg HF3.out,if_neg HF4.out,if_neg HF5.out,if_pos (HH.out (by simp [byd,hy0]))]);clear HH HT;go_wp2_with fail
        go_ret;exact⟨L5.aX HC.out,ae B0.out HWt.out⟩
       ·by_cases hy1:255 < y
        ·have HC:Hid ((7:Int)=aU (k,id,n,ty,ar,tt,nm,pl)):=aa (by unfold aU;rw [if_neg HF1.out,if_neg HF2.out,if_neg HF3.out,if_neg HF4.out,if_neg HF5.out,if_pos (HH.out (by simp [byd,hy1]))]);clear HH HT;go_wp2_with fail
         go_ret;exact⟨L5.aX HC.out,ae B0.out HWt.out⟩
        ·have HT1:=aa (HT.out.trans (by rw [HA6.out];simp [byd,hy0,hy1]:_=false));clear HH HT;go_wp2_with fail
         go_roundw
         case rel=>exact⟨j+1,by omega,by go_num,HT1,HWt⟩
         case measure=>simp [intOf];omega
      ·obtain rfl:j=tt.length:=(by omega);have HF6:Hid (¬(tt.any (byd 255)=true)):=aa (by have:=HA6.out;rw [List.take_length] at this;rw [this];simp);clear HA6 HA5;have HC0:Hid (IG k nm=aU (k,id,n,ty,ar,tt,nm,pl)):=aa (by unfold aU;rw [if_neg HF1.out,if_neg HF2.out,if_neg HF3.out,if_neg HF4.out,if_neg HF5.out,if_neg HF6.out]);by_cases h10:k=10
       ·subst h10;obtain⟨a,b,hS⟩:=DN nm;have HS:=aa hS;have HC:Hid (fG nm=aU (10,id,n,ty,ar,tt,nm,pl)):=aa HC0.out;clear hS HC0;go_wp2_with fail
        refine(L3.lT (bs nm) _).mono ?_;rintro e w9 ⟨rfl,b9⟩;rw [HS.out];have B9:=aa (ae HWt.out b9);clear b9;generalize fG nm=z at *;go_wp2_with fail
        go_ret;exact⟨L5.aX HC.out,ae B0.out (ae B9.out (af w9 _))⟩
       ·have e10:(k == 10)=false:=(by simpa using h10);by_cases h21:k=21
        ·subst h21;have HC:Hid (∀r,L2.gn nm=r→(if r then(0:Int)else 4)=aU (21,id,n,ty,ar,tt,nm,pl)):=aa fun r h=>by rw [←HC0.out,←h];rfl
         clear HC0 h10;go_wp2_with fail
         refine(L2.mu (bs nm) _ HSZ.out).mono ?_;rintro e w9 ⟨rfl,hw9⟩;rw [hw9,eC];clear hw9
         cases hb:L2.gn nm with
         |true=>
          have HC1:=aa (HC.out true hb);go_wp2_with fail
          go_ret;exact⟨L5.aX HC1.out,ae B0.out HWt.out⟩
         |false=>
          have HC1:=aa (HC.out false hb);go_wp2_with fail
          go_ret;exact⟨L5.aX HC1.out,ae B0.out HWt.out⟩
        ·have e21:(k == 21)=false:=(by simpa using h21);have n21:(k != 21)=true:=(by rw [bne,e21];rfl);have HCn:Hid ((if nm= [] then(0:Int)else 4)=aU (k,id,n,ty,ar,tt,nm,pl)):=aa (by rw [←HC0.out];unfold IG;rw [if_neg h10,if_neg h21]);clear HC0 h10 h21;by_cases hnm:nm= []
         ·have HC1:=aa ((if_pos hnm).symm.trans HCn.out);have hE:(bs nm).toList.isEmpty=true:=(by rw [C5];simpa using hnm);clear hnm HCn;go_wp2_with fail
          go_ret;exact⟨L5.aX HC1.out,ae B0.out HWt.out⟩
         ·have HC1:=aa ((if_neg hnm).symm.trans HCn.out);have hE:(bs nm).toList.isEmpty=false:=(by rw [C5];simpa using hnm);clear hnm HCn;go_wp2_with fail
          go_ret;exact⟨L5.aX HC1.out,ae B0.out HWt.out⟩
theorem xd (x:Ins) (v:Value) (w:World) (h:ib w x v) (hn:I64 x.2.2.1) (hl:x.2.2.2.2.2.2.1.length≤maxLen):Calls Tryz.prog 87 #[v] w fun e w'=>e= .returned (.int .i64 (aU x))∧Below w.heap.size w w':=by
 obtain⟨k,id,n,ty,ar,tt,nm,pl⟩:=x;obtain⟨ao,to,ca,ct,rfl,h1,h2,h3,h4,h5,h6⟩:=h;exact vX k id n ty pl ar tt nm ao to ca ct w h1 h2 ⟨Nat.le_trans h3 h4,Nat.le_trans h5 h6⟩ hn hl
end Go.Proofs.YtaiaakklokahjaaGreatDoor
