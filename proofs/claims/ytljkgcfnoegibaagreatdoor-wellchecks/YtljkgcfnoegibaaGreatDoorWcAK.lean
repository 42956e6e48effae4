/- Texts of one chain, joined. -/
import Derived.Test.YtljkgcfnoegibaaGreatDoorWcAJ
import Derived.Maps.AppendAt
set_option maxHeartbeats 4000000
set_option maxRecDepth 20000
namespace Go.Proofs.YtljkgcfnoegibaaGreatDoor
open Go Go.RowKit
def WayN (ll:List (List Int)) (frm:List Int) (but:Int):Nat→Int→Prop
 |0,m=>m∈frm∧m≠but
 |n+1,m=>∃b,WayN ll frm but n b∧m∈ll.getD b.toNat []∧m≠but
def Rch (ll:List (List Int)) (frm:List Int) (but m:Int):Prop:=∃n,WayN ll frm but n m
theorem Rch.start {ll:List (List Int)} {frm:List Int} {but m:Int} (h:m∈frm) (hb:m≠but):Rch ll frm but m:=⟨0,h,hb⟩
theorem Rch.step {ll:List (List Int)} {frm:List Int} {but m c:Int} (h:Rch ll frm but m) (hc:c∈ll.getD m.toNat []) (hb:c≠but):Rch ll frm but c:=by
 obtain⟨n,h⟩:=h
 exact⟨n+1,m,h,hc,hb⟩
theorem Rch.rec' {ll:List (List Int)} {frm:List Int} {but:Int} {Q:Int→Prop} (h0:∀m,m∈frm→m≠but→Q m) (hs:∀b c,Rch ll frm but b→Q b→c∈ll.getD b.toNat []→c≠but→Q c):∀m,Rch ll frm but m→Q m:=by
 have key:∀n m,WayN ll frm but n m→Q m:=by
  intro n
  induction n with
  |zero=>intro m h;exact h0 m h.1 h.2
  |succ n ih=>
   rintro m ⟨b,h1,h2,h3⟩
   exact hs b m ⟨n,h1⟩ (ih b h1) h2 h3
 rintro m ⟨n,h⟩
 exact key n m h
theorem Rch.ne {ll:List (List Int)} {frm:List Int} {but m:Int} (h:Rch ll frm but m):m≠but:=by
 refine Rch.rec' (Q:=fun m=>m≠but) (fun m _ h=>h) (fun b c _ _ _ h=>h) m h
theorem mem_addL {met:List Int} {n m:Int}:m∈addL met n↔m∈met∨m=n:=by
 unfold addL
 cases h:hasL met n with
 |true=>
  simp only [if_true]
  constructor
  ·exact .inl
  ·rintro (h1 | rfl)
   ·exact h1
   ·exact hasL_mem.1 h
 |false=>simp
theorem mem_addB {but n m:Int} {met:List Int}:m∈addB but met n↔m∈met∨(m=n∧m≠but):=by
 unfold addB
 by_cases h:n=but
 ·rw [if_pos h]
  constructor
  ·exact .inl
  ·rintro (h1 | ⟨rfl,h2⟩)
   ·exact h1
   ·exact absurd h h2
 ·rw [if_neg h,mem_addL]
  constructor
  ·rintro (h1 | rfl)
   ·exact .inl h1
   ·exact .inr ⟨rfl,h⟩
  ·rintro (h1 | ⟨rfl,_⟩)
   ·exact .inl h1
   ·exact .inr rfl
theorem mem_addsB {but m:Int}:∀(l met:List Int),m∈addsB but met l↔m∈met∨(m∈l∧m≠but):=by
 intro l
 induction l with
 |nil=>intro met;simp [addsB]
 |cons n l ih=>
  intro met
  have e:addsB but met (n :: l)=addsB but (addB but met n) l:=rfl
  rw [e,ih,mem_addB]
  constructor
  ·rintro ((h | ⟨rfl,h2⟩) | ⟨h1,h2⟩)
   ·exact .inl h
   ·exact .inr ⟨by simp,h2⟩
   ·exact .inr ⟨by simp [h1],h2⟩
  ·rintro (h | ⟨h1,h2⟩)
   ·exact .inl (.inl h)
   ·rcases List.mem_cons.1 h1 with rfl | h1
    ·exact .inl (.inr ⟨rfl,h2⟩)
    ·exact .inr ⟨h1,h2⟩
theorem addsB_prefix (but:Int):∀(l met:List Int) (i:Nat) (m:Int),met[i]? =some m→(addsB but met l)[i]? =some m:=by
 intro l
 induction l with
 |nil=>intro met i m h;exact h
 |cons n l ih=>
  intro met i m h
  have e:addsB but met (n :: l)=addsB but (addB but met n) l:=rfl
  rw [e]
  refine ih _ i m ?_
  unfold addB addL
  split
  ·exact h
  ·split
   ·exact h
   ·rw [List.getElem?_append_left (List.getElem?_eq_some_iff.1 h).1];exact h
def ClosedTo (ll:List (List Int)) (but:Int) (I:Nat) (met:List Int):Prop:=∀(j:Nat) (m c:Int),j < I→met[j]? =some m→c∈ll.getD m.toNat []→c≠but→c∈met
theorem growE_spec {ll:List (List Int)} {but:Int} (hen:∀l∈ll,Num ll.length l):∀(N I:Nat) (met:List Int),NumD ll.length met→I≤met.length→ll.length+1≤N+I→ClosedTo ll but I met→
  (∀m∈met,m∈growE ll but N I met)∧(∀m c,m∈growE ll but N I met→c∈ll.getD m.toNat []→c≠but→c∈growE ll but N I met)∧NumD ll.length (growE ll but N I met)∧
  (∀Q:Int→Prop,(∀m∈met,Q m)→(∀m c,Q m→c∈ll.getD m.toNat []→c≠but→Q c)→∀m∈growE ll but N I met,Q m):=by
 intro N
 induction N with
 |zero=>
  intro I met hn hI hf _
  have:=fit_len _ _ hn.1 hn.2
  omega
 |succ N ih=>
  intro I met hn hI hf hc
  cases hm:met[I]? with
  |none=>
   have hl:=List.getElem?_eq_none_iff.1 hm
   rw [growE_end hl]
   refine⟨fun _ h=>h,fun m c hm hcc hb=> ?_,hn,fun Q h _=>h⟩
   obtain⟨j,hj,rfl⟩:=List.mem_iff_getElem.1 hm
   exact hc j _ c (by omega) (List.getElem?_eq_getElem hj) hcc hb
  |some m=>
   rw [growE_step hm]
   have hml:=hn.2 m (List.mem_of_getElem? hm)
   have hnum:Num ll.length (ll.getD m.toNat []):=by
    intro x hx
    rw [List.getD_eq_getElem?_getD] at hx
    cases hg:ll[m.toNat]? with
    |none=>rw [hg] at hx;simp at hx
    |some l=>rw [hg] at hx;exact hen l (List.mem_of_getElem? hg) x (by simpa using hx)
   have hge:met.length≤(addsB but met (ll.getD m.toNat [])).length:=addsB_len _ _ _
   have hlt:=(List.getElem?_eq_some_iff.1 hm).1
   obtain⟨i1,i2,i3,i4⟩:=ih (I+1) (addsB but met (ll.getD m.toNat [])) (NumD.addsB but _ _ hn hnum) (by omega) (by omega) (by
    intro j x c hj hx hcc hb
    rw [mem_addsB]
    by_cases e:j=I
    ·subst e
     rw [addsB_prefix but _ _ _ _ hm] at hx
     injection hx with hx
     subst hx
     exact .inr ⟨hcc,hb⟩
    ·have hjl:j < met.length:=by omega
     have hx2:met[j]? =some met[j]:=List.getElem?_eq_getElem hjl
     rw [addsB_prefix but _ _ _ _ hx2] at hx
     injection hx with hx
     exact .inl (hc j x c (by omega) (by rw [hx2,hx]) hcc hb))
   refine⟨fun x hx=>i1 x (mem_addsB _ _ |>.2 (.inl hx)),i2,i3,fun Q h0 hs x hx=>i4 Q ?_ hs x hx⟩
   intro y hy
   rcases(mem_addsB _ _).1 hy with hy | ⟨hy,hb⟩
   ·exact h0 y hy
   ·exact hs m y (h0 m (List.mem_of_getElem? hm)) hy hb
theorem metE_iff {ll:List (List Int)} {frm:List Int} {but:Int} (hen:∀l∈ll,Num ll.length l) (hfn:Num ll.length frm) (m:Int):m∈metE ll frm but↔Rch ll frm but m:=by
 obtain⟨h1,h2,_,h4⟩:=growE_spec (but:=but) hen (ll.length+1) 0 (addsB but [] frm) (NumD.addsB but _ _ (NumD.nil _) hfn) (Nat.zero_le _) (by omega) (fun j _ _ hj=>by omega)
 constructor
 ·intro hm
  refine h4 (Rch ll frm but) (fun x hx=> ?_) (fun x c hx hc hb=>hx.step hc hb) m hm
  rcases(mem_addsB _ _).1 hx with hx | ⟨hx,hb⟩
  ·cases hx
  ·exact Rch.start hx hb
 ·intro hm
  refine Rch.rec' (Q:=fun m=>m∈metE ll frm but) (fun x hx hb=>h1 x ((mem_addsB _ _).2 (.inr ⟨hx,hb⟩))) (fun x c _ hx hc hb=>h2 x c hx hc hb) m hm
theorem metE_num {ll:List (List Int)} {frm:List Int} {but:Int} (hen:∀l∈ll,Num ll.length l) (hfn:Num ll.length frm):NumD ll.length (metE ll frm but):=
 (growE_spec (but:=but) hen (ll.length+1) 0 (addsB but [] frm) (NumD.addsB but _ _ (NumD.nil _) hfn) (Nat.zero_le _) (by omega) (fun j _ _ hj=>by omega)).2.2.1
def All (ll:List (List Int)) (m:Int):Prop:=Rch ll [0] (-1) m
def Ahd (ll:List (List Int)) (a b:Int):Prop:=All ll a∧All ll b∧(a=b∨¬Rch ll [0] a b)
theorem Rch.all {ll:List (List Int)} {a m:Int} (hen:∀l∈ll,Num ll.length l) (h:Rch ll [0] a m):All ll m:=by
 refine Rch.rec' (Q:=fun m=>All ll m) (fun m hm _=>Rch.start hm (by simp at hm;omega)) (fun b c _ hb hc _=>hb.step hc ?_) m h
 intro e
 rw [List.getD_eq_getElem?_getD] at hc
 cases hg:ll[b.toNat]? with
 |none=>rw [hg] at hc;simp at hc
 |some l=>rw [hg] at hc;have:=hen l (List.mem_of_getElem? hg) c (by simpa using hc);omega
theorem Ahd.refl {ll:List (List Int)} {a:Int} (h:All ll a):Ahd ll a a:=⟨h,h,.inl rfl⟩
theorem Ahd.trans {ll:List (List Int)} {a b c:Int} (h:Ahd ll a b) (k:Ahd ll b c):Ahd ll a c:=by
 refine⟨h.1,k.2.1,?_⟩
 rcases h.2.2 with rfl | h2
 ·exact k.2.2
 rcases k.2.2 with rfl | k2
 ·exact .inr h2
 right
 intro hr
 refine k2 (Rch.rec' (Q:=fun m=>Rch ll [0] b m) (fun m hm hb=>Rch.start hm ?_) (fun x y hx hy hc hb=>hy.step hc ?_) c hr)
 ·rintro rfl
  exact h2 (Rch.start hm hb)
 ·rintro rfl
  exact h2 (hx.step hc hb)
theorem Ahd.anti {ll:List (List Int)} {a b:Int} (h:Ahd ll a b) (k:Ahd ll b a):a=b:=by
 by_cases hab:a=b
 ·exact hab
 exfalso
 have h2:=h.2.2.resolve_left hab
 have k2:=k.2.2.resolve_left (fun e=>hab e.symm)
 have key:∀m,All ll m→Rch ll [0] a m∧Rch ll [0] b m:=by
  refine Rch.rec' (fun m hm _=> ?_) (fun x y _ hx hc _=> ?_)
  ·have ha:m≠a:=by rintro rfl;exact k2 (Rch.start hm hab)
   have hb:m≠b:=by rintro rfl;exact h2 (Rch.start hm ha)
   exact⟨Rch.start hm ha,Rch.start hm hb⟩
  ·have ha:y≠a:=by rintro rfl;exact k2 (hx.2.step hc hab)
   have hb:y≠b:=by rintro rfl;exact h2 (hx.1.step hc ha)
   exact⟨hx.1.step hc ha,hx.2.step hc hb⟩
 exact h2 (key b h.2.1).1
theorem Ahd.chain {ll:List (List Int)} {x y z:Int} (h:Ahd ll x z) (k:Ahd ll y z):Ahd ll x y∨Ahd ll y x:=by
 by_cases h1:Ahd ll x y
 ·exact .inl h1
 by_cases h2:Ahd ll y x
 ·exact .inr h2
 exfalso
 have hxy:x≠y:=by rintro rfl;exact h1 (Ahd.refl h.1)
 have r1:Rch ll [0] x y:=Classical.byContradiction fun e=>h1 ⟨h.1,k.1,.inr e⟩
 have r2:Rch ll [0] y x:=Classical.byContradiction fun e=>h2 ⟨k.1,h.1,.inr e⟩
 have key:∀m,All ll m→Rch ll [0] x m∨Rch ll [0] y m:=by
  refine Rch.rec' (fun m hm _=> ?_) (fun b c _ hb hc _=> ?_)
  ·by_cases e:m=x
   ·subst e;exact .inr r2
   ·exact .inl (Rch.start hm e)
  ·rcases hb with hb | hb
   ·by_cases e:c=x
    ·subst e;exact .inr r2
    ·exact .inl (hb.step hc e)
   ·by_cases e:c=y
    ·subst e;exact .inl r1
    ·exact .inr (hb.step hc e)
 rcases key z h.2.1 with e | e
 ·rcases h.2.2 with rfl | h3
  ·exact h2 k
  ·exact h3 e
 ·rcases k.2.2 with rfl | k3
  ·exact h1 h
  ·exact k3 e
theorem Rch.not_first {ll:List (List Int)} {m:Int}:¬Rch ll [0] 0 m:=by
 intro h
 exact Rch.rec' (Q:=fun _=>False) (fun m hm hb=>hb (by simpa using hm)) (fun _ _ _ h _ _=>h) m h
theorem All.first (ll:List (List Int)):All ll 0:=Rch.start (by simp) (by omega)
theorem Ahd.first {ll:List (List Int)} {m:Int} (h:All ll m):Ahd ll 0 m:=⟨All.first ll,h,.inr Rch.not_first⟩
def cntB (p:Nat→Bool) (n:Nat):Nat:=((List.range n).filter p).length
theorem cntB_succ (p:Nat→Bool) (n:Nat):cntB p (n+1)=cntB p n+(if p n then 1 else 0):=by
 unfold cntB
 rw [List.range_succ,List.filter_append,List.length_append]
 cases h:p n <;> simp [h]
theorem cntB_le {p q:Nat→Bool}:∀n,(∀x,x < n→p x=true→q x=true)→cntB p n≤cntB q n:=by
 intro n
 induction n with
 |zero=>intro _;exact Nat.le_refl _
 |succ n ih=>
  intro h
  rw [cntB_succ,cntB_succ]
  have h1:=ih (fun x hx=>h x (by omega))
  have h2:=h n (by omega)
  cases hp:p n with
  |false=>simp;omega
  |true=>rw [h2 hp];simp;omega
theorem cntB_same {p q:Nat→Bool} (n:Nat) (h:∀x,x < n→p x=q x):cntB p n=cntB q n:=
 Nat.le_antisymm (cntB_le n fun x hx hp=>by rw [←h x hx];exact hp) (cntB_le n fun x hx hp=>by rw [h x hx];exact hp)
theorem cntB_one {p q:Nat→Bool} {y:Nat} (hy:p y=false):∀n,y < n→(∀x,x < n→q x=(p x || decide (x=y)))→cntB q n=cntB p n+1:=by
 intro n
 induction n with
 |zero=>intro h;omega
 |succ n ih=>
  intro hn h
  rw [cntB_succ,cntB_succ,h n (by omega)]
  by_cases e:n=y
  ·subst e
   have:cntB q n=cntB p n:=cntB_same n fun x hx=>by rw [h x (by omega)];simp;omega
   rw [this,hy]
   simp
  ·have:=ih (by omega) (fun x hx=>h x (by omega))
   rw [this]
   simp [e]
   omega
theorem cntB_lt {p q:Nat→Bool} {y n:Nat} (hy:p y=false) (hq:q y=true) (hn:y < n) (h:∀x,x < n→p x=true→q x=true):cntB p n < cntB q n:=by
 have h1:=cntB_one (p:=p) (q:=fun x=>p x || decide (x=y)) hy n hn (fun x _=>rfl)
 have h2:=cntB_le (p:=fun x=>p x || decide (x=y)) (q:=q) n (fun x hx hp=>by
  simp only [Bool.or_eq_true,decide_eq_true_eq] at hp
  rcases hp with hp | rfl
  ·exact h x hx hp
  ·exact hq)
 omega
theorem max_of (g:Int→Nat):∀(l:List Int),l≠ []→∃a∈l,∀c∈l,g c≤g a:=by
 intro l
 induction l with
 |nil=>intro h;exact absurd rfl h
 |cons x l ih=>
  intro _
  by_cases h:l= []
  ·subst h
   exact⟨x,by simp,fun c hc=>by simp at hc;subst hc;exact Nat.le_refl _⟩
  ·obtain⟨a,ha,hm⟩:=ih h
   by_cases e:g a≤g x
   ·refine⟨x,by simp,fun c hc=> ?_⟩
    rcases List.mem_cons.1 hc with rfl | hc
    ·exact Nat.le_refl _
    ·exact Nat.le_trans (hm c hc) e
   ·refine⟨a,by simp [ha],fun c hc=> ?_⟩
    rcases List.mem_cons.1 hc with rfl | hc
    ·omega
    ·exact hm c hc
def aheadB (ll:List (List Int)) (a b:Int):Bool:=hasL (metE ll [0] (-1)) a && hasL (metE ll [0] (-1)) b && (decide (a=b) || !hasL (metE ll [0] a) b)
def depthB (ll:List (List Int)) (b:Int):Nat:=cntB (fun a=>decide ((a:Int)≠b) && aheadB ll a b) ll.length
def Gr (ll:List (List Int)):Prop:=(∀l∈ll,Num ll.length l)∧0 < ll.length
theorem Gr.frm {ll:List (List Int)} (h:Gr ll):Num ll.length [0]:=fun m hm=>by
 have:=h.2
 simp at hm
 subst hm
 omega
theorem all_iff {ll:List (List Int)} (h:Gr ll) (m:Int):hasL (metE ll [0] (-1)) m=true↔All ll m:=by rw [hasL_mem];exact metE_iff h.1 h.frm m
theorem All.num {ll:List (List Int)} (h:Gr ll) {m:Int} (hm:All ll m):0≤m∧m < ll.length:=(metE_num h.1 h.frm).2 m ((metE_iff h.1 h.frm m).2 hm)
theorem ahead_iff {ll:List (List Int)} (h:Gr ll) (a b:Int):aheadB ll a b=true↔Ahd ll a b:=by
 unfold aheadB Ahd
 rw [Bool.and_eq_true,Bool.and_eq_true,all_iff h,all_iff h,Bool.or_eq_true,decide_eq_true_eq,Bool.not_eq_true',←Bool.not_eq_true,hasL_mem,metE_iff h.1 h.frm,and_assoc]
theorem ahead_no {ll:List (List Int)} (h:Gr ll) (a b:Int):aheadB ll a b=false↔¬Ahd ll a b:=by rw [←ahead_iff h];simp
theorem depth_lt {ll:List (List Int)} (h:Gr ll) {a b:Int} (hab:Ahd ll a b) (hne:a≠b):depthB ll a < depthB ll b:=by
 obtain⟨h0,h1⟩:=hab.1.num h
 obtain⟨A,rfl⟩:∃A:Nat,a=(A:Int):=⟨a.toNat,by omega⟩
 refine cntB_lt (y:=A) (by simp) (by simp [hne,(ahead_iff h _ _).2 hab]) (by omega) (fun x hx hp=> ?_)
 simp only [Bool.and_eq_true,decide_eq_true_eq,ahead_iff h] at hp ⊢
 refine⟨?_,hp.2.trans hab⟩
 rintro rfl
 exact hne (hab.anti hp.2)
theorem up_ex {ll:List (List Int)} (h:Gr ll) {b:Int} (hb:All ll b) (h0:b≠0):∃a,Ahd ll a b∧a≠b∧depthB ll a+1=depthB ll b∧∀c,Ahd ll c b→c≠b→Ahd ll c a:=by
 obtain⟨a,ha,hm⟩:=max_of (depthB ll) (((List.range ll.length).filter fun(a:Nat)=>decide ((a:Int)≠b) && aheadB ll a b).map Int.ofNat) (by
  intro e
  have:(0:Int)∈((List.range ll.length).filter fun(a:Nat)=>decide ((a:Int)≠b) && aheadB ll a b).map Int.ofNat:=
   List.mem_map.2 ⟨0,List.mem_filter.2 ⟨by simpa using h.2,by simp only [Bool.and_eq_true,decide_eq_true_eq,ahead_iff h];exact⟨fun e=>h0 (by rw [←e];rfl),Ahd.first hb⟩⟩,rfl⟩
  rw [e] at this
  cases this)
 obtain⟨A,hA,rfl⟩:=List.mem_map.1 ha
 obtain⟨hAr,hAp⟩:=List.mem_filter.1 hA
 simp only [Bool.and_eq_true,decide_eq_true_eq,ahead_iff h] at hAp
 have last:∀c,Ahd ll c b→c≠b→Ahd ll c A:=by
  intro c hc hne
  obtain⟨c0,c1⟩:=hc.1.num h
  obtain⟨C,rfl⟩:∃C:Nat,c=(C:Int):=⟨c.toNat,by omega⟩
  rcases hc.chain hAp.2 with k | k
  ·exact k
  ·by_cases e:(A:Int)=C
   ·rw [e];exact Ahd.refl hc.1
   ·have h1:=depth_lt h k e
    have h2:=hm (C:Int) (List.mem_map.2 ⟨C,List.mem_filter.2 ⟨by simp;omega,by simp only [Bool.and_eq_true,decide_eq_true_eq,ahead_iff h];exact⟨hne,hc⟩⟩,rfl⟩)
    have h3:depthB ll (C:Int)≤depthB ll (A:Int):=h2
    omega
 refine⟨A,hAp.2,hAp.1,?_,last⟩
 refine(cntB_one (p:=fun(x:Nat)=>decide ((x:Int)≠(A:Int)) && aheadB ll x A) (y:=A) (by simp) _ (by simpa using hAr) (fun x hx=> ?_)).symm
 rw [Bool.eq_iff_iff]
 simp only [Bool.or_eq_true,Bool.and_eq_true,decide_eq_true_eq,ahead_iff h]
 constructor
 ·rintro ⟨h1,h2⟩
  by_cases e:x=A
  ·exact .inr e
  ·exact .inl ⟨by omega,last _ h2 h1⟩
 ·rintro (⟨h1,h2⟩ | rfl)
  ·refine⟨?_,h2.trans hAp.2⟩
   rintro rfl
   exact hAp.1 (hAp.2.anti h2)
  ·exact hAp
def IsUp (ll:List (List Int)) (b a:Int):Prop:=a≠b∧Ahd ll a b∧depthB ll a+1=depthB ll b
theorem IsUp.one {ll:List (List Int)} (h:Gr ll) {b a c:Int} (ha:IsUp ll b a) (hc:IsUp ll b c):a=c:=by
 rcases ha.2.1.chain hc.2.1 with k | k
 ·refine Classical.byContradiction fun e=> ?_
  have:=depth_lt h k e
  have:=ha.2.2
  have:=hc.2.2
  omega
 ·refine Classical.byContradiction fun e=> ?_
  have:=depth_lt h k (fun e2=>e e2.symm)
  have:=ha.2.2
  have:=hc.2.2
  omega
theorem IsUp.ex {ll:List (List Int)} (h:Gr ll) {b:Int} (hb:All ll b) (h0:b≠0):∃a,IsUp ll b a:=by
 obtain⟨a,h1,h2,h3,_⟩:=up_ex h hb h0
 exact⟨a,h2,h1,h3⟩
theorem IsUp.last {ll:List (List Int)} (h:Gr ll) {b a c:Int} (ha:IsUp ll b a) (hc:Ahd ll c b) (hne:c≠b):Ahd ll c a:=by
 have hb:=ha.2.1.2.1
 have h0:b≠0:=by
  rintro rfl
  exact ha.1 (ha.2.1.anti (Ahd.first ha.2.1.1))
 obtain⟨d,h1,h2,h3,h4⟩:=up_ex h hb h0
 rw [ha.one h ⟨h2,h1,h3⟩]
 exact h4 c hc hne
theorem IsUp.not_first {ll:List (List Int)} {a:Int}:¬IsUp ll 0 a:=fun h=>h.1 (h.2.1.anti (Ahd.first h.2.1.1))
theorem IsUp.of_last {ll:List (List Int)} (h:Gr ll) {b a:Int} (ha:Ahd ll a b) (hne:a≠b) (hl:∀c,Ahd ll c b→c≠b→Ahd ll c a):IsUp ll b a:=by
 have h0:b≠0:=by
  rintro rfl
  exact hne (ha.anti (Ahd.first ha.1))
 obtain⟨d,h1,h2,h3,h4⟩:=up_ex h ha.2.1 h0
 have e:a=d:=(h4 a ha hne).anti (hl d h1 h2)
 rw [e]
 exact⟨h2,h1,h3⟩
open G (Tok Er Ins Fun)
def RowAt (w:World) (B e g n:Nat) (xs:List Value):Prop:=w.ownsRow B e 1 (.slice (some ⟨g,0,none⟩) n n) n xs
theorem RowAt.len {w:World} {B e g n:Nat} {xs:List Value} (h:RowAt w B e g n xs):xs.length=n:=by have:=h.1;omega
theorem RowAt.lt {w:World} {B e g n:Nat} {xs:List Value} (h:RowAt w B e g n xs):B≤g∧g < w.heap.size:=World.ownsRow.lt h g rfl
theorem RowAt.cell {w:World} {B e g n:Nat} {xs:List Value} (h:RowAt w B e g n xs) {j:Nat} {u:Value} (hj:xs[j]? =some u):w.cell? ⟨g,j,none⟩=some u:=by
 have h1:=(List.getElem?_eq_some_iff.1 hj).1
 have h2:=h.len
 rw [World.ownsRow.cellAt h j (by omega),hj]
theorem RowAt.frozen {w:World} {B e g n:Nat} {xs:List Value} (h:RowAt w B e g n xs) (j:Nat):w.frozen? ⟨g,j,none⟩=false:=World.ownsRow.frozenAt h j
theorem RowAt.set {w:World} {B e g n:Nat} {xs:List Value} (h:RowAt w B e g n xs) (j:Nat) (u:Value):RowAt (w.setCell ⟨g,j,none⟩ u) B e g n (xs.set j u):=(World.ownsRow.stored h j u).1
theorem RowAt.below {w w':World} {B e g n:Nat} {xs:List Value} (h:RowAt w B e g n xs) (b:Below w.heap.size w w'):RowAt w' B e g n xs:=own_below b _ _ _ _ _ _ h
theorem RowAt.base {w:World} {B B' e g n:Nat} {xs:List Value} (h:RowAt w B e g n xs) (hB:B'≤B):RowAt w B' e g n xs:=own_base h hB
theorem RowAt.alloc {w:World} {B e g n:Nat} {xs:List Value} (h:RowAt w B e g n xs) (o:Obj):RowAt (w.alloc o) B e g n xs:=World.ownsRow.alloc h o
theorem RowAt.kept {w w':World} {B e g n:Nat} {xs:List Value} {row:Option Nat} (h:RowAt w B e g n xs) (hg:w.grownBy w' row) (hne:some g≠row):RowAt w' B e g n xs:=World.ownsRow.kept h hg (.inr hne)
theorem RowAt.other {w:World} {B e g n:Nat} {xs:List Value} (h:RowAt w B e g n xs) {p:Addr} (hp:g≠p.block) (u:Value):RowAt (w.setCell p u) B e g n xs:=own_setCell h (by simpa [Value.ownBlock] using hp) u
theorem ints_set (l:List Int) (j:Nat) (x:Int):(ints l).set j (.int .i64 x)=ints (l.set j x):=by simp [ints,List.map_set]
def bools (l:List Bool):List Value:=l.map Value.bool
theorem bools_set (l:List Bool) (j:Nat) (x:Bool):(bools l).set j (.bool x)=bools (l.set j x):=by simp [bools,List.map_set]
theorem bools_at {l:List Bool} {j:Nat} {x:Bool} (h:l[j]? =some x):(bools l)[j]? =some (.bool x):=by simp [bools,h]
theorem made_ints (n:Nat):(madeCells (Value.int .i64 0).cells (n * 1)).toList=ints (List.replicate n 0):=by
 show(madeCells #[Value.int .i64 0] (n * 1)).toList=_
 rw [toList_madeCells_one,Nat.mul_one];simp [ints]
theorem made_bools (n:Nat):(madeCells (Value.bool false).cells (n * 1)).toList=bools (List.replicate n false):=by
 show(madeCells #[Value.bool false] (n * 1)).toList=_
 rw [toList_madeCells_one,Nat.mul_one];simp [bools]
theorem made_rows (n:Nat):(madeCells (Value.slice none 0 0).cells (n * 1)).toList=List.replicate n (.slice none 0 0):=by
 show(madeCells #[Value.slice none 0 0] (n * 1)).toList=_
 rw [toList_madeCells_one,Nat.mul_one]
theorem grown_b {w w':World} (h:w.grownBy w' none):Below w.heap.size w w':=Below.grown (Below.refl _ _) h (Nat.le_refl _) (by intro k hk;cases hk)
def RowsS (B:Nat) (w:World) (ll:List (List Int)) (us:List Value):Prop:=
 us.length=ll.length∧(∀(i:Nat) (l:List Int),ll[i]? =some l→∃u,us[i]? =some u∧w.ownsRow B 3 1 u l.length (ints l))∧
 (∀(i j:Nat) (u v:Value),i≠j→us[i]? =some u→us[j]? =some v→u.ownBlock=none∨u.ownBlock≠v.ownBlock)
theorem RowsS.start (B:Nat) (w:World) (n:Nat):RowsS B w (List.replicate n []) (List.replicate n (.slice none 0 0)):=by
 refine⟨by simp,fun i l h=> ?_,fun i j u v _ h _=> ?_⟩
 ·obtain⟨hi,rfl⟩:=List.getElem?_eq_some_iff.1 h
  refine⟨.slice none 0 0,by rw [List.getElem?_replicate,if_pos (by simpa using hi)],?_⟩
  rw [List.getElem_replicate]
  exact World.ownsRow_nil _ _ _ _
 ·obtain⟨hi,rfl⟩:=List.getElem?_eq_some_iff.1 h
  rw [List.getElem_replicate]
  exact .inl rfl
theorem RowsS.map {B:Nat} {w w':World} {ll:List (List Int)} {us:List Value} (h:RowsS B w ll us) (f:∀(v:Value) (n:Nat) (xs:List Value),w.ownsRow B 3 1 v n xs→w'.ownsRow B 3 1 v n xs):RowsS B w' ll us:=by
 refine⟨h.1,fun i l hl=> ?_,h.2.2⟩
 obtain⟨u,k1,k2⟩:=h.2.1 i l hl
 exact⟨u,k1,f _ _ _ k2⟩
theorem RowsS.put {B:Nat} {w:World} {ll:List (List Int)} {us:List Value} (h:RowsS B w ll us) {p:Addr} (hp:p.block < B) (x:Value):RowsS B (w.setCell p x) ll us:=h.map fun _ _ _ hv=>ownsRow_setCell_below hv hp x
theorem RowsS.at {B:Nat} {w:World} {ll:List (List Int)} {us:List Value} (h:RowsS B w ll us) {i:Nat} (hi:i < ll.length):∃l u,ll[i]? =some l∧us[i]? =some u∧w.ownsRow B 3 1 u l.length (ints l):=by
 have hl:ll[i]? =some ll[i]:=List.getElem?_eq_getElem hi
 obtain⟨u,k1,k2⟩:=h.2.1 i _ hl
 exact⟨_,u,hl,k1,k2⟩
theorem RowsS.step {B:Nat} {wr w2:World} {ll:List (List Int)} {us:List Value} {i:Nat} {l:List Int} {u v':Value} {x:Int} {o:Obj} (h:RowsS B wr ll us) (hl:ll[i]? =some l) (hu:us[i]? =some u)
  (own:w2.ownsRow B 3 1 v' (l.length+1) (ints l ++ [.int .i64 x])) (hg:(wr.alloc o).grownBy w2 u.ownBlock) (hat:v'.ownBlock=u.ownBlock∨v'.ownBlock=some (wr.alloc o).heap.size):RowsS B w2 (ll.set i (l ++ [x])) (us.set i v'):=by
 obtain⟨h1,h2,h3⟩:=h
 have hi:=(List.getElem?_eq_some_iff.1 hl).1
 have hiu:=(List.getElem?_eq_some_iff.1 hu).1
 have small:∀(j:Nat) (v:Value),us[j]? =some v→∀k,v.ownBlock=some k→k < wr.heap.size:=by
  intro j v hv k hk
  have hj:j < ll.length:=by have:=(List.getElem?_eq_some_iff.1 hv).1;omega
  obtain⟨y,q1,q2⟩:=h2 j _ (List.getElem?_eq_getElem hj)
  rw [hv] at q1
  injection q1 with q1
  subst q1
  exact(q2.lt k hk).2
 have far:∀(j:Nat) (v:Value),j≠i→us[j]? =some v→v.ownBlock=none∨v.ownBlock≠v'.ownBlock:=by
  intro j v hj hv
  rcases hat with e | e
  ·rw [e];exact h3 j i v u hj hv hu
  ·cases hb:v.ownBlock with
   |none=>exact .inl rfl
   |some k=>
    right
    rw [e]
    have:=small j v hv k hb
    simp
    omega
 refine⟨by simp [h1],fun j m hm=> ?_,fun j k a b hjk ha hb=> ?_⟩
 ·rw [List.getElem?_set] at hm
  by_cases e:i=j
  ·subst e
   rw [if_pos rfl,if_pos hi] at hm
   injection hm with hm
   subst hm
   refine⟨v',by rw [List.getElem?_set,if_pos rfl,if_pos hiu],by simpa [ints] using own⟩
  ·rw [if_neg e] at hm
   obtain⟨y,q1,q2⟩:=h2 j m hm
   refine⟨y,by rw [List.getElem?_set_ne e];exact q1,?_⟩
   exact(q2.alloc o).kept hg (h3 j i y u (fun e2=>e e2.symm) q1 hu)
 ·rw [List.getElem?_set] at ha hb
  by_cases e:i=j
  ·subst e
   rw [if_pos rfl,if_pos hiu] at ha
   injection ha with ha
   subst ha
   rw [if_neg hjk] at hb
   rcases far k b (fun e=>hjk e.symm) hb with q | q
   ·cases hv:v'.ownBlock with
    |none=>exact .inl rfl
    |some z=>right;rw [q];simp
   ·exact .inr fun e=>q e.symm
  ·rw [if_neg e] at ha
   by_cases e2:i=k
   ·subst e2
    rw [if_pos rfl,if_pos hiu] at hb
    injection hb with hb
    subst hb
    exact far j a hjk ha
   ·rw [if_neg e2] at hb
    exact h3 j k a b hjk ha hb
theorem RowsS.rows {B B' g n:Nat} {w:World} {ll:List (List Int)} {us:List Value} (h:RowsS B w ll us) (hr:RowAt w B' 33 g n us) (hB:B'≤B):RowsO B' w ll (.slice (some ⟨g,0,none⟩) n n):=by
 have e:n=ll.length:=by have:=hr.len;have:=h.1;omega
 subst e
 refine⟨us,hr,h.1,fun i l hl=> ?_⟩
 obtain⟨u,k1,k2⟩:=h.2.1 i l hl
 exact⟨u,k1,own_base k2 hB⟩
def predTo (f:Fun) (b k:Nat):List Int:=((List.range k).filter fun j=>hasL (nextF f j) b).map Int.ofNat
def predsF (f:Fun):List (List Int):=(List.range f.2.2.2.1.length).map fun b=>predTo f b f.2.2.2.1.length
theorem predTo_yes {f:Fun} {b k:Nat} (h:hasL (nextF f k) b=true):predTo f b (k+1)=predTo f b k ++ [(k:Int)]:=by
 unfold predTo;rw [List.range_succ,List.filter_append,List.map_append];simp [h]
theorem predTo_no {f:Fun} {b k:Nat} (h:hasL (nextF f k) b=false):predTo f b (k+1)=predTo f b k:=by
 unfold predTo;rw [List.range_succ,List.filter_append,List.map_append];simp [h]
theorem predTo_len (f:Fun) (b k:Nat):(predTo f b k).length≤k:=by
 unfold predTo;rw [List.length_map]
 exact Nat.le_trans (List.length_filter_le _ _) (by simp)
theorem predsF_take {f:Fun} {b:Nat} (h:b < f.2.2.2.1.length):(predsF f).take (b+1)=(predsF f).take b ++ [predTo f b f.2.2.2.1.length]:=by
 refine take_more ?_
 unfold predsF
 rw [List.getElem?_map,List.getElem?_range h];rfl
theorem predsF_len (f:Fun):(predsF f).length=f.2.2.2.1.length:=by simp [predsF]
theorem rpreds_try (nm:List UInt8) (ps:List Int) (rt pl:Int) (bl:List (List Ins)) (ao bo:Option Addr) (c cb:Nat) (w:World)
  (hv:FunV w (nm,ps,rt,bl,pl) (.agg #[.string (bs nm),.slice ao ps.length c,.int .i64 rt,.slice bo bl.length cb,.int .i64 pl])) (hF:Ful (nm,ps,rt,bl,pl)):
  Calls Tryz.prog 78 #[.agg #[.string (bs nm),.slice ao ps.length c,.int .i64 rt,.slice bo bl.length cb,.int .i64 pl]] w fun e w'=>∃v,e= .returned v∧RowsO w.heap.size w' (predsF (nm,ps,rt,bl,pl)) v∧Below w.heap.size w w':=by
 obtain⟨i0,hi0,hz0,hz1,hz2⟩:=info_parts Tryz.info33
 obtain⟨i3,hi3,hz3,hz4,hz5⟩:=info_parts Tryz.info3
 have b0:=below_box w (.cells #[.string (bs nm),.slice ao ps.length c,.int .i64 rt,.slice bo bl.length cb,.int .i64 pl] 36)
 have X0:=hide (L5.Box.new w [.string (bs nm),.slice ao ps.length c,.int .i64 rt,.slice bo bl.length cb,.int .i64 pl] 36)
 have HV:=hide (hv.below b0)
 have B0:=hide b0
 have HFu:=hide hF
 have hbl:bl.length≤1000000:=hF.1
 clear b0 hv hF
 go_enter Tryz.func78,Tryz.ntmps78
 go_upto_region 1 with fail
 show Code.wp _ _ _ _ (w.alloc (.cells #[.string (bs nm),.slice ao ps.length c,.int .i64 rt,.slice bo bl.length cb,.int .i64 pl] 36))
 replace X0:Hid (L5.Box (w.alloc (.cells #[.string (bs nm),.slice ao ps.length c,.int .i64 rt,.slice bo bl.length cb,.int .i64 pl] 36)) w.heap.size [.string (bs nm),.slice ao ps.length c,.int .i64 rt,.slice bo bl.length cb,.int .i64 pl]):=X0
 generalize w.alloc (.cells #[.string (bs nm),.slice ao ps.length c,.int .i64 rt,.slice bo bl.length cb,.int .i64 pl] 36)=W at *
 go_wp2_with fail
 go_loopw [3,4] (fun v i wr=>∃K:Nat,K≤bl.length∧i= .int .i64 K∧Hid (RowsO W.heap.size wr ((predsF (nm,ps,rt,bl,pl)).take K) v)∧Hid (Below W.heap.size W wr)) (fun _ i _=>bl.length - (intOf i).toNat)
 case atStart=>exact⟨0,Nat.zero_le _,rfl,hide (RowsO.nil _ _),hide (Below.refl _ _)⟩
 case round=>
  obtain⟨K,hK,rfl,HR,HW⟩:=hrel
  obtain⟨x0,x1,x2,x3,x4⟩:_∧_∧_∧_∧_:=⟨(X0.out.below HW.out).2 0 _ rfl,(X0.out.below HW.out).2 1 _ rfl,(X0.out.below HW.out).2 2 _ rfl,(X0.out.below HW.out).2 3 _ rfl,(X0.out.below HW.out).2 4 _ rfl⟩
  by_cases hkt:K < bl.length
  ·have hkI:(K:Int) < bl.length:=by omega
   have hsk:Hid _:=hide (predsF_take (f:=(nm,ps,rt,bl,pl)) hkt)
   have hlen:((predsF (nm,ps,rt,bl,pl)).take K).length=K:=by rw [List.length_take,predsF_len];show min K bl.length=K;omega
   obtain⟨vo,vc,rfl⟩:=HR.out.len
   go_wp2_with fail
   clear x0 x1 x2 x3 x4
   generalize wr=W2 at *
   go_loopw [5,6] (fun v i wq=>∃J:Nat,J≤bl.length∧i= .int .i64 J∧Hid (Grw W2 (predTo (nm,ps,rt,bl,pl) K J) v wq)) (fun _ i _=>bl.length - (intOf i).toNat)
   case atStart=>exact⟨0,Nat.zero_le _,rfl,hide (Grw.start _)⟩
   case round=>
    obtain⟨J,hJ,rfl,HG⟩:=hrel
    have HWq:=hide (below_step HW.out HG.out.2)
    obtain⟨x0,x1,x2,x3,x4⟩:_∧_∧_∧_∧_:=⟨(X0.out.below HWq.out).2 0 _ rfl,(X0.out.below HWq.out).2 1 _ rfl,(X0.out.below HWq.out).2 2 _ rfl,(X0.out.below HWq.out).2 3 _ rfl,(X0.out.below HWq.out).2 4 _ rfl⟩
    by_cases hjt:J < bl.length
    ·have hjI:(J:Int) < bl.length:=by omega
     have HN:=hide (next_any (nm,ps,rt,bl,pl) J _ wr (HV.out.below HWq.out) HFu.out hjt)
     have hyes:=fun h=>hide (predTo_yes (f:=(nm,ps,rt,bl,pl)) (b:=K) (k:=J) h)
     have hno:=fun h=>hide (predTo_no (f:=(nm,ps,rt,bl,pl)) (b:=K) (k:=J) h)
     have hpl:=predTo_len (nm,ps,rt,bl,pl) K J
     generalize nextF (nm,ps,rt,bl,pl) J=l at *
     go_wp2_with fail
     refine HN.out.mono ?_;rintro e w1 ⟨u,rfl,hu,b1⟩
     obtain⟨uo,uc,rfl,hs1,hs2,hs3⟩:=ints_of hu
     have HH:=hide (rhas_any l K uo uc w1 hs1 (Nat.le_trans hs2 hs3))
     clear hs1 hs2 hs3 hu
     have HG1:Hid (Grw W2 (predTo (nm,ps,rt,bl,pl) K J) _ w1):=hide ⟨own_below b1 _ _ _ _ _ _ HG.out.1,below_step HG.out.2 b1⟩
     clear x0 x1 x2 x3 x4
     go_wp2_with fail
     refine HH.out.mono ?_;rintro e w2 ⟨rfl,rfl⟩
     cases hh:hasL l K with
     |true=>
      have HN2:=hyes hh
      replace hh:=hide hh
      have hWs:=HG1.out.2.size
      go_wp2_with (at_builtin;refine wpList_append_own _ rfl (.tmp 26) (.tmp 28) 33 rfl W2.heap.size 3 i3 _ 1 8 Tryz.underlying33 hi3 hz3 hz4 hz5 rfl (by decide) _ _ _ rfl (HG1.out.1.alloc _) ⟨w2.heap.size,0,none⟩ 1 1 [.int .i64 J] rfl rfl one_cell one_one (by unfold maxLen;omega) (by omega) (by simp;omega) ?_;intro v2 w3 own2 grow2 _)
      have HE:Hid (Grw W2 (predTo (nm,ps,rt,bl,pl) K (J+1)) v2 w3):=hide (by rw [HN2.out];exact HG1.out.step own2 grow2)
      clear own2 grow2
      go_wp2_with fail
      go_roundw
      case rel=>exact⟨J+1,by omega,by go_num,HE⟩
      case measure=>simp [intOf];omega
     |false=>
      have HE:Hid (Grw W2 (predTo (nm,ps,rt,bl,pl) K (J+1)) _ w2):=hide (by rw [(hno hh).out];exact HG1.out)
      replace hh:=hide hh
      go_wp2_with fail
      go_roundw
      case rel=>exact⟨J+1,by omega,by go_num,HE⟩
      case measure=>simp [intOf];omega
    ·obtain rfl:J=bl.length:=by omega
     have HR1:=hide (HR.out.below HG.out.2)
     have HU:=hide (own_base HG.out.1 HW.out.size)
     have HW1:=hide (below_step HW.out HG.out.2)
     replace hsk:Hid ((predsF (nm,ps,rt,bl,pl)).take (K+1)=(predsF (nm,ps,rt,bl,pl)).take K ++ [predTo (nm,ps,rt,bl,pl) K bl.length]):=hsk
     clear HG
     generalize predTo (nm,ps,rt,bl,pl) K bl.length=l at *
     obtain⟨us,ho,hus⟩:=HR1.out
     obtain⟨uo,uc,rfl⟩:=own_len HU.out
     have hWs:=HW1.out.size
     have ho2:=ho
     rw [hlen] at ho2
     go_wp2_with (at_builtin;refine wpList_append_own _ rfl (.tmp 30) (.tmp 32) 105 rfl W.heap.size 33 i0 _ 1 24 Tryz.underlying105 hi0 hz0 hz1 hz2 rfl (by decide) _ _ _ rfl (ho2.alloc _) ⟨wr.heap.size,0,none⟩ 1 1 [.slice uo l.length uc] rfl rfl one_cell (one_any rfl) (by unfold maxLen;omega) (by omega) (by simp;omega) ?_;intro v2 w2 own2 grow2 _)
     have HE:Hid (RowsO W.heap.size w2 ((predsF (nm,ps,rt,bl,pl)).take (K+1)) v2):=hide (by
      rw [hsk.out]
      exact RowsO.step ho hus HU.out (by rw [hlen];exact own2) (by rw [hlen];exact grow2))
     have HW2:Hid (Below W.heap.size W w2):=hide (by
      refine Below.grown (HW1.out.alloc HW1.out.size _) grow2 (by simp;omega) ?_
      intro k hk
      exact(ho2.lt k hk).1)
     clear own2 grow2
     go_wp2_with fail
     go_roundw
     case rel=>exact⟨K+1,by omega,by go_num,HE,HW2⟩
     case measure=>simp [intOf];omega
  ·obtain rfl:K=bl.length:=by omega
   have HE:Hid (RowsO W.heap.size wr (predsF (nm,ps,rt,bl,pl)) _):=hide (by have:=HR.out;rwa [List.take_of_length_le (by rw [predsF_len];exact Nat.le_refl _)] at this)
   have HE2:=hide (HE.out.base B0.out.size)
   go_wp2_with fail
   go_ret
   exact⟨_,rfl,HE2.out,below_step B0.out HW.out⟩
def Mid (B:Nat) (W w:World):Prop:=W.heap.size≤w.heap.size∧∀k,B≤k→k < W.heap.size→w.heap[k]? =W.heap[k]?
theorem Mid.refl (B:Nat) (W:World):Mid B W W:=⟨Nat.le_refl _,fun _ _ _=>rfl⟩
theorem Mid.put {B:Nat} {W w:World} (h:Mid B W w) {p:Addr} (hp:p.block < B∨W.heap.size≤p.block) (u:Value):Mid B W (w.setCell p u):=
 ⟨by simpa using h.1,fun k h1 h2=>(Below.heap_setCell w p u k (by omega)).trans (h.2 k h1 h2)⟩
theorem Mid.alloc {B:Nat} {W w:World} (h:Mid B W w) (o:Obj):Mid B W (w.alloc o):=
 ⟨by have:=h.1;simp;omega,fun k h1 h2=>(Below.heap_alloc w o k (by have:=h.1;omega)).trans (h.2 k h1 h2)⟩
theorem Mid.grown {B:Nat} {W w w':World} {row:Option Nat} (h:Mid B W w) (hg:w.grownBy w' row) (hr:∀k,row=some k→k < B∨W.heap.size≤k):Mid B W w':=
 ⟨Nat.le_trans h.1 hg.size,fun k h1 h2=>(hg.block k (by have:=h.1;omega) (fun e=>by have:=hr k e.symm;omega)).trans (h.2 k h1 h2)⟩
theorem Mid.cell {B:Nat} {W w:World} (h:Mid B W w) {p:Addr} (h1:B≤p.block) (h2:p.block < W.heap.size):w.cell? p=W.cell? p:=World.cell?_of_block (w:=W) (h.2 p.block h1 h2)
theorem own_mid {B e s n:Nat} {W w:World} {v:Value} {xs:List Value} (h:W.ownsRow B e s v n xs) (m:Mid B W w):w.ownsRow B e s v n xs:=by
 refine⟨h.1,?_⟩
 rcases h.2 with hn | ⟨g,cap,cur,rfl,hb,hgg,rest⟩
 ·exact .inl hn
 ·exact .inr ⟨g,cap,cur,rfl,hb,(m.2 g hb (Array.getElem?_eq_some_iff.1 hgg).1).trans hgg,rest⟩
theorem RowsO.row {B n c:Nat} {w:World} {ll:List (List Int)} {ao:Option Addr} (h:RowsO B w ll (.slice ao n c)) {K:Nat} {l:List Int} (hl:ll[K]? =some l):
  ∃g lo lc,ao=some ⟨g,0,none⟩∧w.cell? ⟨g,K,none⟩=some (.slice lo l.length lc)∧w.ownsRow B 3 1 (.slice lo l.length lc) l.length (ints l)∧B≤g∧g < w.heap.size:=by
 obtain⟨us,h1,h2,h3⟩:=h
 obtain⟨u,k1,k2⟩:=h3 K l hl
 obtain⟨lo,lc,rfl⟩:=own_len k2
 have hK:=(List.getElem?_eq_some_iff.1 hl).1
 rcases own_view h1 with ⟨_,hn⟩ | ⟨g,cap,e,q1,q2,q3,q4,q5,q6⟩
 ·omega
 ·injection e with e1 e2 e3
  exact⟨g,lo,lc,e1,q5 K _ k1,k2,q3,q4⟩
theorem own_cell {B n c:Nat} {w:World} {l:List Int} {ao:Option Addr} (h:w.ownsRow B 3 1 (.slice ao n c) l.length (ints l)) {j:Nat} {m:Int} (hm:l[j]? =some m):
  ∃g,ao=some ⟨g,0,none⟩∧w.cell? ⟨g,j,none⟩=some (.int .i64 m)∧g < w.heap.size:=by
 have hj:=(List.getElem?_eq_some_iff.1 hm).1
 rcases own_view h with ⟨_,hn⟩ | ⟨g,cap,e,q1,q2,q3,q4,q5,q6⟩
 ·omega
 ·injection e with e1 e2 e3
  exact⟨g,e1,q5 j _ (ints_at hm),q4⟩
theorem once_nodup (l:List Int):(onceL l).Nodup:=by
 have key:∀(l acc:List Int),acc.Nodup→(l.foldl addL acc).Nodup:=by
  intro l
  induction l with
  |nil=>intro acc h;exact h
  |cons m l ih=>
   intro acc h
   rw [List.foldl_cons]
   refine ih _ ?_
   cases hh:hasL acc m with
   |true=>rw [addL_yes hh];exact h
   |false=>
    rw [addL_no hh]
    refine List.nodup_append.2 ⟨h,by simp,?_⟩
    rintro x hx y hy rfl
    simp at hy
    subst hy
    rw [hasL_mem.2 hx] at hh
    cases hh
 exact key l [] List.nodup_nil
theorem take_fresh {l:List Int} (h:l.Nodup) {j:Nat} {m:Int} (hm:l[j]? =some m):hasL (l.take j) m=false:=by
 cases hh:hasL (l.take j) m with
 |false=>rfl
 |true=>
  exfalso
  have h1:=hasL_mem.1 hh
  obtain⟨i,hi,e⟩:=List.mem_iff_getElem.1 h1
  have hij:i < j:=by rw [List.length_take] at hi;omega
  obtain⟨hj,e2⟩:=List.getElem?_eq_some_iff.1 hm
  rw [List.getElem_take] at e
  exact absurd ((List.getElem_inj h).1 (e.trans e2.symm)) (by omega)
def pRows (f:Fun) (K:Nat) (acc:List Int):List (List Int):=(List.range f.2.2.2.1.length).map fun(b:Nat)=>predTo f b K ++ (if hasL acc b then [(K:Int)] else [])
theorem pRows_len (f:Fun) (K:Nat) (acc:List Int):(pRows f K acc).length=f.2.2.2.1.length:=by simp [pRows]
theorem pRows_at {f:Fun} (K:Nat) (acc:List Int) {M:Nat} (hM:M < f.2.2.2.1.length):(pRows f K acc)[M]? =some (predTo f M K ++ (if hasL acc M then [(K:Int)] else [])):=by
 unfold pRows;rw [List.getElem?_map,List.getElem?_range hM];rfl
theorem pRows_start (f:Fun):pRows f 0 []=List.replicate f.2.2.2.1.length []:=by
 apply List.ext_getElem?
 intro j
 rw [List.getElem?_replicate]
 by_cases hj:j < f.2.2.2.1.length
 ·rw [pRows_at _ _ hj,if_pos hj];simp [predTo,hasL]
 ·rw [if_neg hj,List.getElem?_eq_none (by rw [pRows_len];omega)]
theorem pRows_put {f:Fun} {K M:Nat} {acc:List Int} (hM:M < f.2.2.2.1.length):(pRows f K acc).set M (predTo f M K ++ [(K:Int)])=pRows f K (acc ++ [(M:Int)]):=by
 apply List.ext_getElem?
 intro j
 rw [List.getElem?_set,pRows_len]
 by_cases hj:j < f.2.2.2.1.length
 ·rw [pRows_at _ _ hj,pRows_at _ _ hj]
  by_cases e:M=j
  ·subst e
   rw [if_pos rfl,if_pos hM,hasL_snoc];simp
  ·have e2:¬(M:Int)=(j:Int):=by omega
   rw [if_neg e,hasL_snoc];simp [e2]
 ·have n1:∀acc,(pRows f K acc)[j]? =none:=fun acc=>List.getElem?_eq_none (by rw [pRows_len];omega)
  rw [n1,n1]
  by_cases e:M=j
  ·omega
  ·rw [if_neg e]
theorem pRows_next (f:Fun) (K:Nat):pRows f K (nextF f K)=pRows f (K+1) []:=by
 apply List.ext_getElem?
 intro j
 by_cases hj:j < f.2.2.2.1.length
 ·rw [pRows_at _ _ hj,pRows_at _ _ hj]
  cases hh:hasL (nextF f K) j with
  |true=>rw [predTo_yes hh];simp [hasL]
  |false=>rw [predTo_no hh];simp [hasL]
 ·rw [List.getElem?_eq_none (by rw [pRows_len];omega),List.getElem?_eq_none (by rw [pRows_len];omega)]
theorem pRows_end (f:Fun):pRows f f.2.2.2.1.length []=predsF f:=by
 unfold pRows predsF
 apply List.map_congr_left
 intro b _
 simp [hasL]
end Go.Proofs.YtljkgcfnoegibaaGreatDoor
