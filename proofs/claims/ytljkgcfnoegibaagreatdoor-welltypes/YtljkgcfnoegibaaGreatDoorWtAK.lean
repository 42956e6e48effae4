/- Texts of one chain, joined. -/
import Derived.Test.YtljkgcfnoegibaaGreatDoorWtAJ
import Derived.Laws.AppendOwnNone
import Derived.Maps.AppendAt
namespace Go.Proofs.YtljkgcfnoegibaaGreatDoor
open Go Go.RowKit
open G (Tok Er Ins Fun)
def Num (n:Nat) (l:List Int):Prop:=∀m∈l,0≤m∧m < n
theorem fit_len:∀(n:Nat) (l:List Int),l.Nodup→Num n l→l.length≤n:=by
 intro n
 induction n with
 |zero=>
  intro l _ h
  cases l with
  |nil=>simp
  |cons m l=>have:=h m (by simp);omega
 |succ n ih=>
  intro l hn h
  have h1:=ih (l.erase (n:Int)) (hn.erase _) (fun m hm=>by
   have h2:=(hn.mem_erase_iff).1 hm
   have h3:=h m h2.2
   have h4:m≠(n:Int):=h2.1
   omega)
  have h2:=List.length_erase (a:=(n:Int)) (l:=l)
  split at h2 <;> omega
def postF (f:Fun):Nat→Int→List Int→List Int→List Int
 |0,_,done,_=>done
 |N+1,k,done,op=>(nextF f k.toNat).foldl (fun out m=>if hasL out m || hasL (op ++ [k]) m then out else postF f N m out (op ++ [k])) done ++ [k]
def stepF (f:Fun) (N:Nat) (path out:List Int) (m:Int):List Int:=if hasL out m || hasL path m then out else postF f N m out path
def walkF (f:Fun) (N:Nat) (path done l:List Int):List Int:=l.foldl (stepF f N path) done
theorem postF_succ (f:Fun) (N:Nat) (k:Int) (done op:List Int):postF f (N+1) k done op=walkF f N (op ++ [k]) done (nextF f k.toNat) ++ [k]:=rfl
theorem walkF_take {f:Fun} {N:Nat} {path done l:List Int} {i:Nat} {m:Int} (h:l[i]? =some m):walkF f N path done (l.take (i+1))=stepF f N path (walkF f N path done (l.take i)) m:=by
 unfold walkF;rw [take_more h,List.foldl_append];rfl
theorem stepF_no {f:Fun} {N:Nat} {path out:List Int} {m:Int} (h:hasL out m=true∨hasL path m=true):stepF f N path out m=out:=by
 unfold stepF;rcases h with h | h <;> simp [h]
theorem stepF_yes {f:Fun} {N:Nat} {path out:List Int} {m:Int} (h1:hasL out m=false) (h2:hasL path m=false):stepF f N path out m=postF f N m out path:=by
 unfold stepF;simp [h1,h2]
def Tos (f:Fun):Prop:=∀j,Num f.2.2.2.1.length (nextF f j)
def Ext (n:Nat) (done op out:List Int):Prop:=∃e,out=done ++ e∧e.Nodup∧∀m∈e,(0≤m∧m < n)∧m ∉ done∧m ∉ op
theorem Ext.refl (n:Nat) (done op:List Int):Ext n done op done:=⟨[],by simp,List.nodup_nil,by simp⟩
theorem Ext.trans {n:Nat} {a b c op:List Int} (h:Ext n a op b) (k:Ext n b op c):Ext n a op c:=by
 obtain⟨e,rfl,h1,h2⟩:=h
 obtain⟨d,rfl,k1,k2⟩:=k
 refine⟨e ++ d,by simp,List.nodup_append.2 ⟨h1,k1,?_⟩,?_⟩
 ·rintro x hx y hy rfl
  exact(k2 x hy).2.1 (by simp [hx])
 ·intro m hm
  rcases List.mem_append.1 hm with hm | hm
  ·exact h2 m hm
  ·exact⟨(k2 m hm).1,fun h=>(k2 m hm).2.1 (by simp [h]),(k2 m hm).2.2⟩
theorem Ext.one {n:Nat} {a b op:List Int} {k:Int} (h:Ext n a (op ++ [k]) b) (hk:0≤k∧k < n) (ha:k ∉ a) (ho:k ∉ op):Ext n a op (b ++ [k]):=by
 obtain⟨e,rfl,h1,h2⟩:=h
 refine⟨e ++ [k],by simp,List.nodup_append.2 ⟨h1,by simp,?_⟩,?_⟩
 ·rintro x hx y hy rfl
  simp at hy
  exact(h2 x hx).2.2 (by simp [hy])
 ·intro m hm
  rcases List.mem_append.1 hm with hm | hm
  ·exact⟨(h2 m hm).1,(h2 m hm).2.1,fun h=>(h2 m hm).2.2 (by simp [h])⟩
  ·simp at hm;subst hm;exact⟨hk,ha,ho⟩
theorem hasL_no {l:List Int} {n:Int}:hasL l n=false↔n ∉ l:=by
 rw [←hasL_mem];simp
theorem post_ext {f:Fun} (hT:Tos f):∀(N:Nat) (k:Int) (done op:List Int),(0≤k∧k < f.2.2.2.1.length)→k ∉ done→k ∉ op→Ext f.2.2.2.1.length done op (postF f N k done op):=by
 intro N
 induction N with
 |zero=>intro k done op _ _ _;exact Ext.refl _ _ _
 |succ N ih=>
  intro k done op hk hd ho
  rw [postF_succ]
  refine Ext.one ?_ hk hd ho
  have key:∀(l out:List Int),Num f.2.2.2.1.length l→Ext f.2.2.2.1.length done (op ++ [k]) out→Ext f.2.2.2.1.length done (op ++ [k]) (walkF f N (op ++ [k]) out l):=by
   intro l
   induction l with
   |nil=>intro out _ h;exact h
   |cons m l ih2=>
    intro out hl h
    refine ih2 _ (fun x hx=>hl x (by simp [hx])) ?_
    by_cases hc:hasL out m=true∨hasL (op ++ [k]) m=true
    ·rw [stepF_no hc];exact h
    ·have hc1:hasL out m=false:=by simpa using fun e=>hc (.inl e)
     have hc2:hasL (op ++ [k]) m=false:=by simpa using fun e=>hc (.inr e)
     rw [stepF_yes hc1 hc2]
     exact h.trans (ih m out (op ++ [k]) (hl m (by simp)) (hasL_no.1 hc1) (hasL_no.1 hc2))
  exact key _ _ (hT _) (Ext.refl _ _ _)
theorem walk_ext {f:Fun} (hT:Tos f) (N:Nat) (path done:List Int):∀(l out:List Int),Num f.2.2.2.1.length l→Ext f.2.2.2.1.length done path out→Ext f.2.2.2.1.length done path (walkF f N path out l):=by
 intro l
 induction l with
 |nil=>intro out _ h;exact h
 |cons m l ih2=>
  intro out hl h
  refine ih2 _ (fun x hx=>hl x (by simp [hx])) ?_
  by_cases hc:hasL out m=true∨hasL path m=true
  ·rw [stepF_no hc];exact h
  ·have hc1:hasL out m=false:=by simpa using fun e=>hc (.inl e)
   have hc2:hasL path m=false:=by simpa using fun e=>hc (.inr e)
   rw [stepF_yes hc1 hc2]
   exact h.trans (post_ext hT N m out path (hl m (by simp)) (hasL_no.1 hc1) (hasL_no.1 hc2))
theorem Ext.num {n:Nat} {done op out:List Int} (h:Ext n done op out) (hd:done.Nodup) (hn:Num n done):out.Nodup∧Num n out:=by
 obtain⟨e,rfl,h1,h2⟩:=h
 refine⟨List.nodup_append.2 ⟨hd,h1,?_⟩,?_⟩
 ·rintro x hx y hy rfl
  exact(h2 x hy).2.1 hx
 ·intro m hm
  rcases List.mem_append.1 hm with hm | hm
  ·exact hn m hm
  ·exact(h2 m hm).1
theorem oneCell_ints (l:List Int):∀u∈ints l,u.oneCell'=true:=by
 intro u hu
 obtain⟨m,_,rfl⟩:=List.mem_map.1 hu
 rfl
theorem append_ints {w:World} {ops:Array Oper} {rest:List Oper} {o:Oper} {a:Act} {Q:Exit→Act→World→Prop} (hgd:o.guard=none) (s x:Operand)
  (ho:o.op= .call {callee:= .builtin .append,args:= #[s,x],argTypes:= #[33,33]}) (base B:Nat) (v vx:Value) (n:Nat) (xs:List Value) (l:List Int)
  (hs:a.eval s=v) (hown:w.ownsRow base 3 1 v n xs) (hx:a.eval x=vx) (hl:w.ownsRow B 3 1 vx l.length (ints l)) (h63:n+l.length≤4000000) (hbase:base≤w.heap.size)
  (h:∀v' w',w'.ownsRow base 3 1 v' (n+l.length) (xs ++ ints l)→w.grownBy w' v.ownBlock→wpList Tryz.prog ops Q rest (a.put o.dst v') w'):wpList Tryz.prog ops Q (o :: rest) a w:=by
 obtain⟨i0,hi0,hz0,hz1,hz2⟩:=info_parts Tryz.info3
 rcases own_view hl with ⟨rfl,hn⟩ | ⟨g,cap,rfl,h1,h2,h3,h4,h5,h6⟩
 ·refine wpList_append_own_none hgd s x 33 ho base 3 i0 1 Tryz.underlying33 hi0 v n xs hs hown hx ?_
  refine h v w ?_ (World.grownBy.refl _ _)
  have e:l= []:=List.length_eq_zero_iff.1 hn
  subst e
  simpa [ints] using hown
 ·refine wpList_append_own w hgd s x 33 ho base 3 i0 _ 1 8 Tryz.underlying33 hi0 hz0 hz1 hz2 rfl (by decide) v n xs hs hown ⟨g,0,none⟩ l.length cap (ints l) hx (by simp [ints]) ?_ (oneCell_ints l) (by unfold maxLen;omega) (by omega) hbase ?_
  ·intro j u hj
   rw [Addr.add_lit,Nat.zero_add]
   exact h5 j u hj
  ·intro v' w' k1 k2 _
   exact h v' w' k1 k2
def RowsR (w:World) (ao:Option Addr) (ll:List (List Int)):Prop:=ll= []∨∃b o,ao=some ⟨b,o,none⟩∧b < w.heap.size∧∀(i:Nat) (l:List Int),ll[i]? =some l→∃u,w.cell? ⟨b,o+i,none⟩=some u∧IntsV w l u
def RowsV (w:World) (ll:List (List Int)) (v:Value):Prop:=∃ao c,v= .slice ao ll.length c∧RowsR w ao ll∧ll.length≤c∧c≤maxLen
theorem RowsR.below {w w':World} {ao:Option Addr} {ll:List (List Int)} (h:RowsR w ao ll) (hb:Below w.heap.size w w'):RowsR w' ao ll:=by
 rcases h with h | ⟨b,o,e,hl,hc⟩
 ·exact .inl h
 ·refine .inr ⟨b,o,e,Nat.lt_of_lt_of_le hl hb.size,fun i l hi=> ?_⟩
  obtain⟨u,h1,h2⟩:=hc i l hi
  exact⟨u,(hb.cell (p:=⟨b,o+i,none⟩) hl).trans h1,h2.below hb⟩
theorem RowsV.below {w w':World} {ll:List (List Int)} {v:Value} (h:RowsV w ll v) (hb:Below w.heap.size w w'):RowsV w' ll v:=by
 obtain⟨ao,c,e,h1,h2⟩:=h
 exact⟨ao,c,e,h1.below hb,h2⟩
theorem RowsO.read {B:Nat} {w:World} {ll:List (List Int)} {v:Value} (h:RowsO B w ll v):RowsV w ll v:=by
 obtain⟨us,h1,h2,h3⟩:=h
 rcases own_view h1 with ⟨rfl,hn⟩ | ⟨g,cap,rfl,k1,k2,k3,k4,k5,k6⟩
 ·have e:ll= []:=List.length_eq_zero_iff.1 hn
  subst e
  exact⟨none,0,rfl,.inl rfl,Nat.le_refl _,Nat.zero_le _⟩
 ·refine⟨some ⟨g,0,none⟩,cap,rfl,.inr ⟨g,0,rfl,k4,fun i l hi=> ?_⟩,k1,k2⟩
  obtain⟨u,m1,m2⟩:=h3 i l hi
  exact⟨u,by rw [Nat.zero_add];exact k5 i u m1,ints_of m2⟩
def addB (but:Int) (met:List Int) (m:Int):List Int:=if m=but then met else addL met m
theorem addB_but {but m:Int} {met:List Int} (h:m=but):addB but met m=met:=if_pos h
theorem addB_has {but m:Int} {met:List Int} (h:m≠but) (hh:hasL met m=true):addB but met m=met:=(if_neg h).trans (addL_yes hh)
theorem addB_new {but m:Int} {met:List Int} (h:m≠but) (hh:hasL met m=false):addB but met m=met ++ [m]:=(if_neg h).trans (addL_no hh)
def NumD (n:Nat) (l:List Int):Prop:=l.Nodup∧Num n l
theorem NumD.nil (n:Nat):NumD n []:=⟨List.nodup_nil,fun m hm=>by simp at hm⟩
theorem NumD.addB {n:Nat} {met:List Int} (h:NumD n met) (but:Int) {m:Int} (hm:0≤m∧m < n):NumD n (addB but met m):=by
 by_cases h1:m=but
 ·rw [addB_but h1];exact h
 ·cases h2:hasL met m with
  |true=>rw [addB_has h1 h2];exact h
  |false=>
   rw [addB_new h1 h2]
   refine⟨List.nodup_append.2 ⟨h.1,by simp,?_⟩,?_⟩
   ·rintro x hx y hy rfl
    simp at hy;subst hy;exact hasL_no.1 h2 hx
   ·intro x hx
    rcases List.mem_append.1 hx with hx | hx
    ·exact h.2 x hx
    ·simp at hx;subst hx;exact hm
def addsB (but:Int) (met l:List Int):List Int:=l.foldl (addB but) met
theorem addsB_take {but m:Int} {met l:List Int} {i:Nat} (h:l[i]? =some m):addsB but met (l.take (i+1))=addB but (addsB but met (l.take i)) m:=by
 unfold addsB;rw [take_more h,List.foldl_append];rfl
theorem NumD.addsB {n:Nat} (but:Int):∀(l met:List Int),NumD n met→Num n l→NumD n (addsB but met l):=by
 intro l
 induction l with
 |nil=>intro met h _;exact h
 |cons m l ih=>intro met h hl;exact ih _ (h.addB but (hl m (by simp))) (fun x hx=>hl x (by simp [hx]))
theorem addL_ge (met:List Int) (m:Int):met.length≤(addL met m).length:=by
 unfold addL;split
 ·omega
 ·simp
theorem addB_ge (but:Int) (met:List Int) (m:Int):met.length≤(addB but met m).length:=by
 unfold addB;split
 ·omega
 ·exact addL_ge _ _
theorem addsB_len (but:Int):∀(l met:List Int),met.length≤(addsB but met l).length:=by
 intro l
 induction l with
 |nil=>intro met;exact Nat.le_refl _
 |cons m l ih=>intro met;exact Nat.le_trans (addB_ge but met m) (ih _)
theorem Num.take {n:Nat} {l:List Int} (h:Num n l) (k:Nat):Num n (l.take k):=fun x hx=>h x (List.mem_of_mem_take hx)
def growE (ll:List (List Int)) (but:Int):Nat→Nat→List Int→List Int
 |0,_,met=>met
 |N+1,i,met=>match met[i]? with
  |none=>met
  |some m=>growE ll but N (i+1) (addsB but met (ll.getD m.toNat []))
def metE (ll:List (List Int)) (frm:List Int) (but:Int):List Int:=growE ll but (ll.length+1) 0 (addsB but [] frm)
theorem growE_end {ll:List (List Int)} {but:Int} {N i:Nat} {met:List Int} (h:met.length≤i):growE ll but N i met=met:=by
 cases N with
 |zero=>rfl
 |succ N=>rw [growE,List.getElem?_eq_none h]
theorem growE_step {ll:List (List Int)} {but m:Int} {N i:Nat} {met:List Int} (h:met[i]? =some m):growE ll but (N+1) i met=growE ll but N (i+1) (addsB but met (ll.getD m.toNat [])):=by
 rw [growE,h]
def WayN (ll:List (List Int)) (frm:List Int) (but:Int):Nat→Int→Prop
 |0,m=>m∈frm∧m≠but
 |n+1,m=>∃b,WayN ll frm but n b∧m∈ll.getD b.toNat []∧m≠but
def Rch (ll:List (List Int)) (frm:List Int) (but m:Int):Prop:=∃n,WayN ll frm but n m
theorem Rch.start {ll:List (List Int)} {frm:List Int} {but m:Int} (h:m∈frm) (hb:m≠but):Rch ll frm but m:=⟨0,h,hb⟩
theorem Rch.step {ll:List (List Int)} {frm:List Int} {but m c:Int} (h:Rch ll frm but m) (hc:c∈ll.getD m.toNat []) (hb:c≠but):Rch ll frm but c:=by
 obtain⟨n,h⟩:=h
 exact⟨n+1,m,h,hc,hb⟩
theorem Rch.rec' {ll:List (List Int)} {frm:List Int} {but:Int} {Q:Int→Prop} (h0:∀m,m∈frm→m≠but→Q m) (hs:∀b c,Rch ll frm but b→Q b→c∈ll.getD b.toNat []→c≠but→Q c):∀m,Rch ll frm but m→Q m:=by
 have key:∀n m,WayN ll frm but n m→Q m:=by
  intro n
  induction n with
  |zero=>intro m h;exact h0 m h.1 h.2
  |succ n ih=>
   rintro m ⟨b,h1,h2,h3⟩
   exact hs b m ⟨n,h1⟩ (ih b h1) h2 h3
 rintro m ⟨n,h⟩
 exact key n m h
theorem Rch.ne {ll:List (List Int)} {frm:List Int} {but m:Int} (h:Rch ll frm but m):m≠but:=by
 refine Rch.rec' (Q:=fun m=>m≠but) (fun m _ h=>h) (fun b c _ _ _ h=>h) m h
theorem mem_addL {met:List Int} {n m:Int}:m∈addL met n↔m∈met∨m=n:=by
 unfold addL
 cases h:hasL met n with
 |true=>
  simp only [if_true]
  constructor
  ·exact .inl
  ·rintro (h1 | rfl)
   ·exact h1
   ·exact hasL_mem.1 h
 |false=>simp
theorem mem_addB {but n m:Int} {met:List Int}:m∈addB but met n↔m∈met∨(m=n∧m≠but):=by
 unfold addB
 by_cases h:n=but
 ·rw [if_pos h]
  constructor
  ·exact .inl
  ·rintro (h1 | ⟨rfl,h2⟩)
   ·exact h1
   ·exact absurd h h2
 ·rw [if_neg h,mem_addL]
  constructor
  ·rintro (h1 | rfl)
   ·exact .inl h1
   ·exact .inr ⟨rfl,h⟩
  ·rintro (h1 | ⟨rfl,_⟩)
   ·exact .inl h1
   ·exact .inr rfl
theorem mem_addsB {but m:Int}:∀(l met:List Int),m∈addsB but met l↔m∈met∨(m∈l∧m≠but):=by
 intro l
 induction l with
 |nil=>intro met;simp [addsB]
 |cons n l ih=>
  intro met
  have e:addsB but met (n :: l)=addsB but (addB but met n) l:=rfl
  rw [e,ih,mem_addB]
  constructor
  ·rintro ((h | ⟨rfl,h2⟩) | ⟨h1,h2⟩)
   ·exact .inl h
   ·exact .inr ⟨by simp,h2⟩
   ·exact .inr ⟨by simp [h1],h2⟩
  ·rintro (h | ⟨h1,h2⟩)
   ·exact .inl (.inl h)
   ·rcases List.mem_cons.1 h1 with rfl | h1
    ·exact .inl (.inr ⟨rfl,h2⟩)
    ·exact .inr ⟨h1,h2⟩
theorem addsB_prefix (but:Int):∀(l met:List Int) (i:Nat) (m:Int),met[i]? =some m→(addsB but met l)[i]? =some m:=by
 intro l
 induction l with
 |nil=>intro met i m h;exact h
 |cons n l ih=>
  intro met i m h
  have e:addsB but met (n :: l)=addsB but (addB but met n) l:=rfl
  rw [e]
  refine ih _ i m ?_
  unfold addB addL
  split
  ·exact h
  ·split
   ·exact h
   ·rw [List.getElem?_append_left (List.getElem?_eq_some_iff.1 h).1];exact h
def ClosedTo (ll:List (List Int)) (but:Int) (I:Nat) (met:List Int):Prop:=∀(j:Nat) (m c:Int),j < I→met[j]? =some m→c∈ll.getD m.toNat []→c≠but→c∈met
theorem growE_spec {ll:List (List Int)} {but:Int} (hen:∀l∈ll,Num ll.length l):∀(N I:Nat) (met:List Int),NumD ll.length met→I≤met.length→ll.length+1≤N+I→ClosedTo ll but I met→
  (∀m∈met,m∈growE ll but N I met)∧(∀m c,m∈growE ll but N I met→c∈ll.getD m.toNat []→c≠but→c∈growE ll but N I met)∧NumD ll.length (growE ll but N I met)∧
  (∀Q:Int→Prop,(∀m∈met,Q m)→(∀m c,Q m→c∈ll.getD m.toNat []→c≠but→Q c)→∀m∈growE ll but N I met,Q m):=by
 intro N
 induction N with
 |zero=>
  intro I met hn hI hf _
  have:=fit_len _ _ hn.1 hn.2
  omega
 |succ N ih=>
  intro I met hn hI hf hc
  cases hm:met[I]? with
  |none=>
   have hl:=List.getElem?_eq_none_iff.1 hm
   rw [growE_end hl]
   refine⟨fun _ h=>h,fun m c hm hcc hb=> ?_,hn,fun Q h _=>h⟩
   obtain⟨j,hj,rfl⟩:=List.mem_iff_getElem.1 hm
   exact hc j _ c (by omega) (List.getElem?_eq_getElem hj) hcc hb
  |some m=>
   rw [growE_step hm]
   have hml:=hn.2 m (List.mem_of_getElem? hm)
   have hnum:Num ll.length (ll.getD m.toNat []):=by
    intro x hx
    rw [List.getD_eq_getElem?_getD] at hx
    cases hg:ll[m.toNat]? with
    |none=>rw [hg] at hx;simp at hx
    |some l=>rw [hg] at hx;exact hen l (List.mem_of_getElem? hg) x (by simpa using hx)
   have hge:met.length≤(addsB but met (ll.getD m.toNat [])).length:=addsB_len _ _ _
   have hlt:=(List.getElem?_eq_some_iff.1 hm).1
   obtain⟨i1,i2,i3,i4⟩:=ih (I+1) (addsB but met (ll.getD m.toNat [])) (NumD.addsB but _ _ hn hnum) (by omega) (by omega) (by
    intro j x c hj hx hcc hb
    rw [mem_addsB]
    by_cases e:j=I
    ·subst e
     rw [addsB_prefix but _ _ _ _ hm] at hx
     injection hx with hx
     subst hx
     exact .inr ⟨hcc,hb⟩
    ·have hjl:j < met.length:=by omega
     have hx2:met[j]? =some met[j]:=List.getElem?_eq_getElem hjl
     rw [addsB_prefix but _ _ _ _ hx2] at hx
     injection hx with hx
     exact .inl (hc j x c (by omega) (by rw [hx2,hx]) hcc hb))
   refine⟨fun x hx=>i1 x (mem_addsB _ _ |>.2 (.inl hx)),i2,i3,fun Q h0 hs x hx=>i4 Q ?_ hs x hx⟩
   intro y hy
   rcases(mem_addsB _ _).1 hy with hy | ⟨hy,hb⟩
   ·exact h0 y hy
   ·exact hs m y (h0 m (List.mem_of_getElem? hm)) hy hb
theorem metE_iff {ll:List (List Int)} {frm:List Int} {but:Int} (hen:∀l∈ll,Num ll.length l) (hfn:Num ll.length frm) (m:Int):m∈metE ll frm but↔Rch ll frm but m:=by
 obtain⟨h1,h2,_,h4⟩:=growE_spec (but:=but) hen (ll.length+1) 0 (addsB but [] frm) (NumD.addsB but _ _ (NumD.nil _) hfn) (Nat.zero_le _) (by omega) (fun j _ _ hj=>by omega)
 constructor
 ·intro hm
  refine h4 (Rch ll frm but) (fun x hx=> ?_) (fun x c hx hc hb=>hx.step hc hb) m hm
  rcases(mem_addsB _ _).1 hx with hx | ⟨hx,hb⟩
  ·cases hx
  ·exact Rch.start hx hb
 ·intro hm
  refine Rch.rec' (Q:=fun m=>m∈metE ll frm but) (fun x hx hb=>h1 x ((mem_addsB _ _).2 (.inr ⟨hx,hb⟩))) (fun x c _ hx hc hb=>h2 x c hx hc hb) m hm
theorem metE_num {ll:List (List Int)} {frm:List Int} {but:Int} (hen:∀l∈ll,Num ll.length l) (hfn:Num ll.length frm):NumD ll.length (metE ll frm but):=
 (growE_spec (but:=but) hen (ll.length+1) 0 (addsB but [] frm) (NumD.addsB but _ _ (NumD.nil _) hfn) (Nat.zero_le _) (by omega) (fun j _ _ hj=>by omega)).2.2.1
def All (ll:List (List Int)) (m:Int):Prop:=Rch ll [0] (-1) m
def Ahd (ll:List (List Int)) (a b:Int):Prop:=All ll a∧All ll b∧(a=b∨¬Rch ll [0] a b)
theorem Rch.all {ll:List (List Int)} {a m:Int} (hen:∀l∈ll,Num ll.length l) (h:Rch ll [0] a m):All ll m:=by
 refine Rch.rec' (Q:=fun m=>All ll m) (fun m hm _=>Rch.start hm (by simp at hm;omega)) (fun b c _ hb hc _=>hb.step hc ?_) m h
 intro e
 rw [List.getD_eq_getElem?_getD] at hc
 cases hg:ll[b.toNat]? with
 |none=>rw [hg] at hc;simp at hc
 |some l=>rw [hg] at hc;have:=hen l (List.mem_of_getElem? hg) c (by simpa using hc);omega
theorem Ahd.refl {ll:List (List Int)} {a:Int} (h:All ll a):Ahd ll a a:=⟨h,h,.inl rfl⟩
theorem Ahd.trans {ll:List (List Int)} {a b c:Int} (h:Ahd ll a b) (k:Ahd ll b c):Ahd ll a c:=by
 refine⟨h.1,k.2.1,?_⟩
 rcases h.2.2 with rfl | h2
 ·exact k.2.2
 rcases k.2.2 with rfl | k2
 ·exact .inr h2
 right
 intro hr
 refine k2 (Rch.rec' (Q:=fun m=>Rch ll [0] b m) (fun m hm hb=>Rch.start hm ?_) (fun x y hx hy hc hb=>hy.step hc ?_) c hr)
 ·rintro rfl
  exact h2 (Rch.start hm hb)
 ·rintro rfl
  exact h2 (hx.step hc hb)
theorem Ahd.anti {ll:List (List Int)} {a b:Int} (h:Ahd ll a b) (k:Ahd ll b a):a=b:=by
 by_cases hab:a=b
 ·exact hab
 exfalso
 have h2:=h.2.2.resolve_left hab
 have k2:=k.2.2.resolve_left (fun e=>hab e.symm)
 have key:∀m,All ll m→Rch ll [0] a m∧Rch ll [0] b m:=by
  refine Rch.rec' (fun m hm _=> ?_) (fun x y _ hx hc _=> ?_)
  ·have ha:m≠a:=by rintro rfl;exact k2 (Rch.start hm hab)
   have hb:m≠b:=by rintro rfl;exact h2 (Rch.start hm ha)
   exact⟨Rch.start hm ha,Rch.start hm hb⟩
  ·have ha:y≠a:=by rintro rfl;exact k2 (hx.2.step hc hab)
   have hb:y≠b:=by rintro rfl;exact h2 (hx.1.step hc ha)
   exact⟨hx.1.step hc ha,hx.2.step hc hb⟩
 exact h2 (key b h.2.1).1
theorem Ahd.chain {ll:List (List Int)} {x y z:Int} (h:Ahd ll x z) (k:Ahd ll y z):Ahd ll x y∨Ahd ll y x:=by
 by_cases h1:Ahd ll x y
 ·exact .inl h1
 by_cases h2:Ahd ll y x
 ·exact .inr h2
 exfalso
 have hxy:x≠y:=by rintro rfl;exact h1 (Ahd.refl h.1)
 have r1:Rch ll [0] x y:=Classical.byContradiction fun e=>h1 ⟨h.1,k.1,.inr e⟩
 have r2:Rch ll [0] y x:=Classical.byContradiction fun e=>h2 ⟨k.1,h.1,.inr e⟩
 have key:∀m,All ll m→Rch ll [0] x m∨Rch ll [0] y m:=by
  refine Rch.rec' (fun m hm _=> ?_) (fun b c _ hb hc _=> ?_)
  ·by_cases e:m=x
   ·subst e;exact .inr r2
   ·exact .inl (Rch.start hm e)
  ·rcases hb with hb | hb
   ·by_cases e:c=x
    ·subst e;exact .inr r2
    ·exact .inl (hb.step hc e)
   ·by_cases e:c=y
    ·subst e;exact .inl r1
    ·exact .inr (hb.step hc e)
 rcases key z h.2.1 with e | e
 ·rcases h.2.2 with rfl | h3
  ·exact h2 k
  ·exact h3 e
 ·rcases k.2.2 with rfl | k3
  ·exact h1 h
  ·exact k3 e
theorem Rch.not_first {ll:List (List Int)} {m:Int}:¬Rch ll [0] 0 m:=by
 intro h
 exact Rch.rec' (Q:=fun _=>False) (fun m hm hb=>hb (by simpa using hm)) (fun _ _ _ h _ _=>h) m h
theorem All.first (ll:List (List Int)):All ll 0:=Rch.start (by simp) (by omega)
theorem Ahd.first {ll:List (List Int)} {m:Int} (h:All ll m):Ahd ll 0 m:=⟨All.first ll,h,.inr Rch.not_first⟩
def cntB (p:Nat→Bool) (n:Nat):Nat:=((List.range n).filter p).length
theorem cntB_succ (p:Nat→Bool) (n:Nat):cntB p (n+1)=cntB p n+(if p n then 1 else 0):=by
 unfold cntB
 rw [List.range_succ,List.filter_append,List.length_append]
 cases h:p n <;> simp [h]
theorem cntB_le {p q:Nat→Bool}:∀n,(∀x,x < n→p x=true→q x=true)→cntB p n≤cntB q n:=by
 intro n
 induction n with
 |zero=>intro _;exact Nat.le_refl _
 |succ n ih=>
  intro h
  rw [cntB_succ,cntB_succ]
  have h1:=ih (fun x hx=>h x (by omega))
  have h2:=h n (by omega)
  cases hp:p n with
  |false=>simp;omega
  |true=>rw [h2 hp];simp;omega
theorem cntB_same {p q:Nat→Bool} (n:Nat) (h:∀x,x < n→p x=q x):cntB p n=cntB q n:=
 Nat.le_antisymm (cntB_le n fun x hx hp=>by rw [←h x hx];exact hp) (cntB_le n fun x hx hp=>by rw [h x hx];exact hp)
theorem cntB_one {p q:Nat→Bool} {y:Nat} (hy:p y=false):∀n,y < n→(∀x,x < n→q x=(p x || decide (x=y)))→cntB q n=cntB p n+1:=by
 intro n
 induction n with
 |zero=>intro h;omega
 |succ n ih=>
  intro hn h
  rw [cntB_succ,cntB_succ,h n (by omega)]
  by_cases e:n=y
  ·subst e
   have:cntB q n=cntB p n:=cntB_same n fun x hx=>by rw [h x (by omega)];simp;omega
   rw [this,hy]
   simp
  ·have:=ih (by omega) (fun x hx=>h x (by omega))
   rw [this]
   simp [e]
   omega
theorem cntB_lt {p q:Nat→Bool} {y n:Nat} (hy:p y=false) (hq:q y=true) (hn:y < n) (h:∀x,x < n→p x=true→q x=true):cntB p n < cntB q n:=by
 have h1:=cntB_one (p:=p) (q:=fun x=>p x || decide (x=y)) hy n hn (fun x _=>rfl)
 have h2:=cntB_le (p:=fun x=>p x || decide (x=y)) (q:=q) n (fun x hx hp=>by
  simp only [Bool.or_eq_true,decide_eq_true_eq] at hp
  rcases hp with hp | rfl
  ·exact h x hx hp
  ·exact hq)
 omega
theorem max_of (g:Int→Nat):∀(l:List Int),l≠ []→∃a∈l,∀c∈l,g c≤g a:=by
 intro l
 induction l with
 |nil=>intro h;exact absurd rfl h
 |cons x l ih=>
  intro _
  by_cases h:l= []
  ·subst h
   exact⟨x,by simp,fun c hc=>by simp at hc;subst hc;exact Nat.le_refl _⟩
  ·obtain⟨a,ha,hm⟩:=ih h
   by_cases e:g a≤g x
   ·refine⟨x,by simp,fun c hc=> ?_⟩
    rcases List.mem_cons.1 hc with rfl | hc
    ·exact Nat.le_refl _
    ·exact Nat.le_trans (hm c hc) e
   ·refine⟨a,by simp [ha],fun c hc=> ?_⟩
    rcases List.mem_cons.1 hc with rfl | hc
    ·omega
    ·exact hm c hc
def aheadB (ll:List (List Int)) (a b:Int):Bool:=hasL (metE ll [0] (-1)) a && hasL (metE ll [0] (-1)) b && (decide (a=b) || !hasL (metE ll [0] a) b)
def depthB (ll:List (List Int)) (b:Int):Nat:=cntB (fun a=>decide ((a:Int)≠b) && aheadB ll a b) ll.length
def Gr (ll:List (List Int)):Prop:=(∀l∈ll,Num ll.length l)∧0 < ll.length
theorem Gr.frm {ll:List (List Int)} (h:Gr ll):Num ll.length [0]:=fun m hm=>by
 have:=h.2
 simp at hm
 subst hm
 omega
theorem all_iff {ll:List (List Int)} (h:Gr ll) (m:Int):hasL (metE ll [0] (-1)) m=true↔All ll m:=by rw [hasL_mem];exact metE_iff h.1 h.frm m
theorem All.num {ll:List (List Int)} (h:Gr ll) {m:Int} (hm:All ll m):0≤m∧m < ll.length:=(metE_num h.1 h.frm).2 m ((metE_iff h.1 h.frm m).2 hm)
theorem ahead_iff {ll:List (List Int)} (h:Gr ll) (a b:Int):aheadB ll a b=true↔Ahd ll a b:=by
 unfold aheadB Ahd
 rw [Bool.and_eq_true,Bool.and_eq_true,all_iff h,all_iff h,Bool.or_eq_true,decide_eq_true_eq,Bool.not_eq_true',←Bool.not_eq_true,hasL_mem,metE_iff h.1 h.frm,and_assoc]
theorem ahead_no {ll:List (List Int)} (h:Gr ll) (a b:Int):aheadB ll a b=false↔¬Ahd ll a b:=by rw [←ahead_iff h];simp
theorem depth_lt {ll:List (List Int)} (h:Gr ll) {a b:Int} (hab:Ahd ll a b) (hne:a≠b):depthB ll a < depthB ll b:=by
 obtain⟨h0,h1⟩:=hab.1.num h
 obtain⟨A,rfl⟩:∃A:Nat,a=(A:Int):=⟨a.toNat,by omega⟩
 refine cntB_lt (y:=A) (by simp) (by simp [hne,(ahead_iff h _ _).2 hab]) (by omega) (fun x hx hp=> ?_)
 simp only [Bool.and_eq_true,decide_eq_true_eq,ahead_iff h] at hp ⊢
 refine⟨?_,hp.2.trans hab⟩
 rintro rfl
 exact hne (hab.anti hp.2)
theorem up_ex {ll:List (List Int)} (h:Gr ll) {b:Int} (hb:All ll b) (h0:b≠0):∃a,Ahd ll a b∧a≠b∧depthB ll a+1=depthB ll b∧∀c,Ahd ll c b→c≠b→Ahd ll c a:=by
 obtain⟨a,ha,hm⟩:=max_of (depthB ll) (((List.range ll.length).filter fun(a:Nat)=>decide ((a:Int)≠b) && aheadB ll a b).map Int.ofNat) (by
  intro e
  have:(0:Int)∈((List.range ll.length).filter fun(a:Nat)=>decide ((a:Int)≠b) && aheadB ll a b).map Int.ofNat:=
   List.mem_map.2 ⟨0,List.mem_filter.2 ⟨by simpa using h.2,by simp only [Bool.and_eq_true,decide_eq_true_eq,ahead_iff h];exact⟨fun e=>h0 (by rw [←e];rfl),Ahd.first hb⟩⟩,rfl⟩
  rw [e] at this
  cases this)
 obtain⟨A,hA,rfl⟩:=List.mem_map.1 ha
 obtain⟨hAr,hAp⟩:=List.mem_filter.1 hA
 simp only [Bool.and_eq_true,decide_eq_true_eq,ahead_iff h] at hAp
 have last:∀c,Ahd ll c b→c≠b→Ahd ll c A:=by
  intro c hc hne
  obtain⟨c0,c1⟩:=hc.1.num h
  obtain⟨C,rfl⟩:∃C:Nat,c=(C:Int):=⟨c.toNat,by omega⟩
  rcases hc.chain hAp.2 with k | k
  ·exact k
  ·by_cases e:(A:Int)=C
   ·rw [e];exact Ahd.refl hc.1
   ·have h1:=depth_lt h k e
    have h2:=hm (C:Int) (List.mem_map.2 ⟨C,List.mem_filter.2 ⟨by simp;omega,by simp only [Bool.and_eq_true,decide_eq_true_eq,ahead_iff h];exact⟨hne,hc⟩⟩,rfl⟩)
    have h3:depthB ll (C:Int)≤depthB ll (A:Int):=h2
    omega
 refine⟨A,hAp.2,hAp.1,?_,last⟩
 refine(cntB_one (p:=fun(x:Nat)=>decide ((x:Int)≠(A:Int)) && aheadB ll x A) (y:=A) (by simp) _ (by simpa using hAr) (fun x hx=> ?_)).symm
 rw [Bool.eq_iff_iff]
 simp only [Bool.or_eq_true,Bool.and_eq_true,decide_eq_true_eq,ahead_iff h]
 constructor
 ·rintro ⟨h1,h2⟩
  by_cases e:x=A
  ·exact .inr e
  ·exact .inl ⟨by omega,last _ h2 h1⟩
 ·rintro (⟨h1,h2⟩ | rfl)
  ·refine⟨?_,h2.trans hAp.2⟩
   rintro rfl
   exact hAp.1 (hAp.2.anti h2)
  ·exact hAp
def IsUp (ll:List (List Int)) (b a:Int):Prop:=a≠b∧Ahd ll a b∧depthB ll a+1=depthB ll b
theorem IsUp.one {ll:List (List Int)} (h:Gr ll) {b a c:Int} (ha:IsUp ll b a) (hc:IsUp ll b c):a=c:=by
 rcases ha.2.1.chain hc.2.1 with k | k
 ·refine Classical.byContradiction fun e=> ?_
  have:=depth_lt h k e
  have:=ha.2.2
  have:=hc.2.2
  omega
 ·refine Classical.byContradiction fun e=> ?_
  have:=depth_lt h k (fun e2=>e e2.symm)
  have:=ha.2.2
  have:=hc.2.2
  omega
theorem IsUp.ex {ll:List (List Int)} (h:Gr ll) {b:Int} (hb:All ll b) (h0:b≠0):∃a,IsUp ll b a:=by
 obtain⟨a,h1,h2,h3,_⟩:=up_ex h hb h0
 exact⟨a,h2,h1,h3⟩
theorem IsUp.last {ll:List (List Int)} (h:Gr ll) {b a c:Int} (ha:IsUp ll b a) (hc:Ahd ll c b) (hne:c≠b):Ahd ll c a:=by
 have hb:=ha.2.1.2.1
 have h0:b≠0:=by
  rintro rfl
  exact ha.1 (ha.2.1.anti (Ahd.first ha.2.1.1))
 obtain⟨d,h1,h2,h3,h4⟩:=up_ex h hb h0
 rw [ha.one h ⟨h2,h1,h3⟩]
 exact h4 c hc hne
theorem IsUp.not_first {ll:List (List Int)} {a:Int}:¬IsUp ll 0 a:=fun h=>h.1 (h.2.1.anti (Ahd.first h.2.1.1))
theorem IsUp.of_last {ll:List (List Int)} (h:Gr ll) {b a:Int} (ha:Ahd ll a b) (hne:a≠b) (hl:∀c,Ahd ll c b→c≠b→Ahd ll c a):IsUp ll b a:=by
 have h0:b≠0:=by
  rintro rfl
  exact hne (ha.anti (Ahd.first ha.1))
 obtain⟨d,h1,h2,h3,h4⟩:=up_ex h ha.2.1 h0
 have e:a=d:=(h4 a ha hne).anti (hl d h1 h2)
 rw [e]
 exact⟨h2,h1,h3⟩
def RowAt (w:World) (B e g n:Nat) (xs:List Value):Prop:=w.ownsRow B e 1 (.slice (some ⟨g,0,none⟩) n n) n xs
theorem RowAt.len {w:World} {B e g n:Nat} {xs:List Value} (h:RowAt w B e g n xs):xs.length=n:=by have:=h.1;omega
theorem RowAt.lt {w:World} {B e g n:Nat} {xs:List Value} (h:RowAt w B e g n xs):B≤g∧g < w.heap.size:=World.ownsRow.lt h g rfl
theorem RowAt.cell {w:World} {B e g n:Nat} {xs:List Value} (h:RowAt w B e g n xs) {j:Nat} {u:Value} (hj:xs[j]? =some u):w.cell? ⟨g,j,none⟩=some u:=by
 have h1:=(List.getElem?_eq_some_iff.1 hj).1
 have h2:=h.len
 rw [World.ownsRow.cellAt h j (by omega),hj]
theorem RowAt.frozen {w:World} {B e g n:Nat} {xs:List Value} (h:RowAt w B e g n xs) (j:Nat):w.frozen? ⟨g,j,none⟩=false:=World.ownsRow.frozenAt h j
theorem RowAt.set {w:World} {B e g n:Nat} {xs:List Value} (h:RowAt w B e g n xs) (j:Nat) (u:Value):RowAt (w.setCell ⟨g,j,none⟩ u) B e g n (xs.set j u):=(World.ownsRow.stored h j u).1
theorem RowAt.below {w w':World} {B e g n:Nat} {xs:List Value} (h:RowAt w B e g n xs) (b:Below w.heap.size w w'):RowAt w' B e g n xs:=own_below b _ _ _ _ _ _ h
theorem RowAt.base {w:World} {B B' e g n:Nat} {xs:List Value} (h:RowAt w B e g n xs) (hB:B'≤B):RowAt w B' e g n xs:=own_base h hB
theorem RowAt.alloc {w:World} {B e g n:Nat} {xs:List Value} (h:RowAt w B e g n xs) (o:Obj):RowAt (w.alloc o) B e g n xs:=World.ownsRow.alloc h o
theorem RowAt.kept {w w':World} {B e g n:Nat} {xs:List Value} {row:Option Nat} (h:RowAt w B e g n xs) (hg:w.grownBy w' row) (hne:some g≠row):RowAt w' B e g n xs:=World.ownsRow.kept h hg (.inr hne)
theorem RowAt.other {w:World} {B e g n:Nat} {xs:List Value} (h:RowAt w B e g n xs) {p:Addr} (hp:g≠p.block) (u:Value):RowAt (w.setCell p u) B e g n xs:=own_setCell h (by simpa [Value.ownBlock] using hp) u
theorem ints_set (l:List Int) (j:Nat) (x:Int):(ints l).set j (.int .i64 x)=ints (l.set j x):=by simp [ints,List.map_set]
def bools (l:List Bool):List Value:=l.map Value.bool
theorem bools_set (l:List Bool) (j:Nat) (x:Bool):(bools l).set j (.bool x)=bools (l.set j x):=by simp [bools,List.map_set]
theorem bools_at {l:List Bool} {j:Nat} {x:Bool} (h:l[j]? =some x):(bools l)[j]? =some (.bool x):=by simp [bools,h]
theorem made_ints (n:Nat):(madeCells (Value.int .i64 0).cells (n * 1)).toList=ints (List.replicate n 0):=by
 show(madeCells #[Value.int .i64 0] (n * 1)).toList=_
 rw [toList_madeCells_one,Nat.mul_one];simp [ints]
theorem made_bools (n:Nat):(madeCells (Value.bool false).cells (n * 1)).toList=bools (List.replicate n false):=by
 show(madeCells #[Value.bool false] (n * 1)).toList=_
 rw [toList_madeCells_one,Nat.mul_one];simp [bools]
theorem made_rows (n:Nat):(madeCells (Value.slice none 0 0).cells (n * 1)).toList=List.replicate n (.slice none 0 0):=by
 show(madeCells #[Value.slice none 0 0] (n * 1)).toList=_
 rw [toList_madeCells_one,Nat.mul_one]
theorem grown_b {w w':World} (h:w.grownBy w' none):Below w.heap.size w w':=Below.grown (Below.refl _ _) h (Nat.le_refl _) (by intro k hk;cases hk)
def RowsS (B:Nat) (w:World) (ll:List (List Int)) (us:List Value):Prop:=
 us.length=ll.length∧(∀(i:Nat) (l:List Int),ll[i]? =some l→∃u,us[i]? =some u∧w.ownsRow B 3 1 u l.length (ints l))∧
 (∀(i j:Nat) (u v:Value),i≠j→us[i]? =some u→us[j]? =some v→u.ownBlock=none∨u.ownBlock≠v.ownBlock)
theorem RowsS.start (B:Nat) (w:World) (n:Nat):RowsS B w (List.replicate n []) (List.replicate n (.slice none 0 0)):=by
 refine⟨by simp,fun i l h=> ?_,fun i j u v _ h _=> ?_⟩
 ·obtain⟨hi,rfl⟩:=List.getElem?_eq_some_iff.1 h
  refine⟨.slice none 0 0,by rw [List.getElem?_replicate,if_pos (by simpa using hi)],?_⟩
  rw [List.getElem_replicate]
  exact World.ownsRow_nil _ _ _ _
 ·obtain⟨hi,rfl⟩:=List.getElem?_eq_some_iff.1 h
  rw [List.getElem_replicate]
  exact .inl rfl
theorem RowsS.map {B:Nat} {w w':World} {ll:List (List Int)} {us:List Value} (h:RowsS B w ll us) (f:∀(v:Value) (n:Nat) (xs:List Value),w.ownsRow B 3 1 v n xs→w'.ownsRow B 3 1 v n xs):RowsS B w' ll us:=by
 refine⟨h.1,fun i l hl=> ?_,h.2.2⟩
 obtain⟨u,k1,k2⟩:=h.2.1 i l hl
 exact⟨u,k1,f _ _ _ k2⟩
theorem RowsS.put {B:Nat} {w:World} {ll:List (List Int)} {us:List Value} (h:RowsS B w ll us) {p:Addr} (hp:p.block < B) (x:Value):RowsS B (w.setCell p x) ll us:=h.map fun _ _ _ hv=>ownsRow_setCell_below hv hp x
theorem RowsS.at {B:Nat} {w:World} {ll:List (List Int)} {us:List Value} (h:RowsS B w ll us) {i:Nat} (hi:i < ll.length):∃l u,ll[i]? =some l∧us[i]? =some u∧w.ownsRow B 3 1 u l.length (ints l):=by
 have hl:ll[i]? =some ll[i]:=List.getElem?_eq_getElem hi
 obtain⟨u,k1,k2⟩:=h.2.1 i _ hl
 exact⟨_,u,hl,k1,k2⟩
theorem RowsS.step {B:Nat} {wr w2:World} {ll:List (List Int)} {us:List Value} {i:Nat} {l:List Int} {u v':Value} {x:Int} {o:Obj} (h:RowsS B wr ll us) (hl:ll[i]? =some l) (hu:us[i]? =some u)
  (own:w2.ownsRow B 3 1 v' (l.length+1) (ints l ++ [.int .i64 x])) (hg:(wr.alloc o).grownBy w2 u.ownBlock) (hat:v'.ownBlock=u.ownBlock∨v'.ownBlock=some (wr.alloc o).heap.size):RowsS B w2 (ll.set i (l ++ [x])) (us.set i v'):=by
 obtain⟨h1,h2,h3⟩:=h
 have hi:=(List.getElem?_eq_some_iff.1 hl).1
 have hiu:=(List.getElem?_eq_some_iff.1 hu).1
 have small:∀(j:Nat) (v:Value),us[j]? =some v→∀k,v.ownBlock=some k→k < wr.heap.size:=by
  intro j v hv k hk
  have hj:j < ll.length:=by have:=(List.getElem?_eq_some_iff.1 hv).1;omega
  obtain⟨y,q1,q2⟩:=h2 j _ (List.getElem?_eq_getElem hj)
  rw [hv] at q1
  injection q1 with q1
  subst q1
  exact(q2.lt k hk).2
 have far:∀(j:Nat) (v:Value),j≠i→us[j]? =some v→v.ownBlock=none∨v.ownBlock≠v'.ownBlock:=by
  intro j v hj hv
  rcases hat with e | e
  ·rw [e];exact h3 j i v u hj hv hu
  ·cases hb:v.ownBlock with
   |none=>exact .inl rfl
   |some k=>
    right
    rw [e]
    have:=small j v hv k hb
    simp
    omega
 refine⟨by simp [h1],fun j m hm=> ?_,fun j k a b hjk ha hb=> ?_⟩
 ·rw [List.getElem?_set] at hm
  by_cases e:i=j
  ·subst e
   rw [if_pos rfl,if_pos hi] at hm
   injection hm with hm
   subst hm
   refine⟨v',by rw [List.getElem?_set,if_pos rfl,if_pos hiu],by simpa [ints] using own⟩
  ·rw [if_neg e] at hm
   obtain⟨y,q1,q2⟩:=h2 j m hm
   refine⟨y,by rw [List.getElem?_set_ne e];exact q1,?_⟩
   exact(q2.alloc o).kept hg (h3 j i y u (fun e2=>e e2.symm) q1 hu)
 ·rw [List.getElem?_set] at ha hb
  by_cases e:i=j
  ·subst e
   rw [if_pos rfl,if_pos hiu] at ha
   injection ha with ha
   subst ha
   rw [if_neg hjk] at hb
   rcases far k b (fun e=>hjk e.symm) hb with q | q
   ·cases hv:v'.ownBlock with
    |none=>exact .inl rfl
    |some z=>right;rw [q];simp
   ·exact .inr fun e=>q e.symm
  ·rw [if_neg e] at ha
   by_cases e2:i=k
   ·subst e2
    rw [if_pos rfl,if_pos hiu] at hb
    injection hb with hb
    subst hb
    exact far j a hjk ha
   ·rw [if_neg e2] at hb
    exact h3 j k a b hjk ha hb
theorem RowsS.rows {B B' g n:Nat} {w:World} {ll:List (List Int)} {us:List Value} (h:RowsS B w ll us) (hr:RowAt w B' 33 g n us) (hB:B'≤B):RowsO B' w ll (.slice (some ⟨g,0,none⟩) n n):=by
 have e:n=ll.length:=by have:=hr.len;have:=h.1;omega
 subst e
 refine⟨us,hr,h.1,fun i l hl=> ?_⟩
 obtain⟨u,k1,k2⟩:=h.2.1 i l hl
 exact⟨u,k1,own_base k2 hB⟩
end Go.Proofs.YtljkgcfnoegibaaGreatDoor
