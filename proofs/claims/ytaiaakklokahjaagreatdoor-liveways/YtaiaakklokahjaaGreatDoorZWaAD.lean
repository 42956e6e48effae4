/- Texts of one chain, joined. -/
import Derived.Test.YtaiaakklokahjaaGreatDoorZWaAA
import Derived.Test.YtaiaakklokahjaaGreatDoorZWaAB
import Derived.Test.YtaiaakklokahjaaGreatDoorZWaAC
import Derived.Deep.RegionHeld3
import Derived.Deep.AppendLies
import Derived.Deep.DrawnRows
import Derived.Deep.RegionLaw
import Derived.Deep.RegionWith
import Derived.Laws.MakeOwn
import Derived.Laws.CopyOwn
namespace Go.Proofs.YtaiaakklokahjaaGreatDoor
open Go Go.RowKit
open G (Tok Er Ins Fun ah bk fk)
def bL (s:List UInt8):Int × Int:=L1.aK s
def aF (s:List UInt8) (most:Int):Option Int:=if(L1.dq s most).2=0 then some (L1.dq s most).1 else none
def gX (s:List UInt8):Bool:=L2.gn s
def fG (s:List UInt8):Int:=match L3.lD (bs s)with
 |.tuple #[_,.int .i64 c]=>c
 |_=>0
def dZ (op:Int):Nat:=(L5.takes (L5.num op)).length
def jG (s:List UInt8):Int × Int:=L5.find (bs s)
def lg (op t:Int):Int:=L5.cn op t
def rm (k:Nat) (s:List UInt8):Bool:=decide (G.mark aF 98 255 s=some (k:Int))
theorem nM:gX []=false:=rfl
theorem nO:(bL []).2≠0:=by decide
theorem yq:fG []≠0:=by decide
theorem sy:(jG []).1=0:=congrArg Prod.fst (L5.py (s:=bs []) (by rw [bE];rfl))
def Of (r:Option Int) (c p:Int) (w:World) (e:Ending) (w':World):Prop:=
 Below w.heap.size w w'∧((∃x,r=some x∧e= .returned (.int .i64 x))∨(r=none∧e=I0 c p))
theorem below_drewN {B:Nat} {a w:World} (h:Below B a w) (n:Nat):Below B a (w.drewN n):=⟨h.1,h.2,h.3,h.4,h.5⟩
def Mj (s:List UInt8) (t:Int):Bool:=(L5.letter t).toList == s
theorem Tryz.cU:(Tryz.prog.info? 3).map (fun i=>(i.zero,i.size,i.bytes))=some (some (.int .i64 0),1,8):=by kernel_rfl
abbrev ints (l:List Int):List Value:=l.map (Value.int .i64)
def ak (x:Ins) (va vt:Value):List Value:= [.int .i64 x.1,.int .i64 x.2.1,.int .i64 x.2.2.1,.int .i64 x.2.2.2.1,va,vt,.string (bs x.2.2.2.2.2.2.1),.int .i64 x.2.2.2.2.2.2.2]
def cQ (B c:Nat) (x:Ins) (w:World):Prop:=
 ∃va vt,w.heap[c]? =some (.cells (ak x va vt).toArray 41 (0,0))∧w.ownsRow B 3 1 va x.2.2.2.2.1.length (ints x.2.2.2.2.1)∧w.ownsRow B 3 1 vt x.2.2.2.2.2.1.length (ints x.2.2.2.2.2.1)∧
  (va.ownBlock=none∨va.ownBlock≠vt.ownBlock)∧B≤c
theorem cQ.keep {B c:Nat} {x:Ins} {w w':World} (h:cQ B c x w) (hb:∀k,B≤k→k < w.heap.size→w'.heap[k]? =w.heap[k]?):cQ B c x w':=by
 obtain⟨va,vt,h1,h2,h3,h4,h5⟩:=h;have key:∀ {v:Value} {n:Nat} {xs:List Value},w.ownsRow B 3 1 v n xs→w'.ownsRow B 3 1 v n xs:=by
  intro v n xs ho;refine⟨ho.1,?_⟩;rcases ho.2 with hn | ⟨g,cap,cur,hv2,hbb,hg,rest⟩
  ·exact .inl hn
  ·exact .inr ⟨g,cap,cur,hv2,hbb,(hb g hbb (Array.getElem?_eq_some_iff.1 hg).1).trans hg,rest⟩
 exact⟨va,vt,(hb c h5 (Array.getElem?_eq_some_iff.1 h1).1).trans h1,key h2,key h3,h4,h5⟩
theorem cQ.step {B c:Nat} {x:Ins} {w w':World} (h:cQ B c x w) (hk:Below w.heap.size w w'):cQ B c x w':=h.keep fun k _ h2=>hk.block k h2
theorem cQ.lt {B c:Nat} {x:Ins} {w:World} (h:cQ B c x w):c < w.heap.size∧B≤c:=by
 obtain⟨va,vt,h1,h2,h3,h4,h5⟩:=h;exact⟨(Array.getElem?_eq_some_iff.1 h1).1,h5⟩
def addArg (x:Ins) (v:Int):Ins:=(x.1,x.2.1,x.2.2.1,x.2.2.2.1,x.2.2.2.2.1 ++ [v],x.2.2.2.2.2.1,x.2.2.2.2.2.2.1,x.2.2.2.2.2.2.2)
def eF (x:Ins) (v:Int):Ins:=(x.1,x.2.1,x.2.2.1,x.2.2.2.1,x.2.2.2.2.1,x.2.2.2.2.2.1 ++ [v],x.2.2.2.2.2.2.1,x.2.2.2.2.2.2.2)
def fi (x:Ins) (v:Int):Ins:=(x.1,x.2.1,v,x.2.2.2.1,x.2.2.2.2.1,x.2.2.2.2.2.1,x.2.2.2.2.2.2.1,x.2.2.2.2.2.2.2)
def setName (x:Ins) (s:List UInt8):Ins:=(x.1,x.2.1,x.2.2.1,x.2.2.2.1,x.2.2.2.2.1,x.2.2.2.2.2.1,s,x.2.2.2.2.2.2.2)
def bj {α:Type} (x:Ins) (f:Ins→α→Ins) (r:Except Er (α × List Tok)):Except Er (Ins × List Tok):=G.andThen r fun v l=> .ok (f x v,l)
def Cel (w:World) (c i:Nat) (v:Value):Prop:=w.cell? ⟨c,i,none⟩=some v∧w.frozen? ⟨c,i,none⟩=false
theorem Cel.below {B:Nat} {w w':World} (k:Below B w w') {c i:Nat} {v:Value} (hp:c < B) (h1:w.cell? ⟨c,i,none⟩=some v) (h2:w.frozen? ⟨c,i,none⟩=false):w'.cell? ⟨c,i,none⟩=some v∧w'.frozen? ⟨c,i,none⟩=false:=
 ⟨(k.cell (p:=⟨c,i,none⟩) hp).trans h1,(k.frozen (p:=⟨c,i,none⟩) hp).trans h2⟩
theorem Cel.grown {w w':World} {row:Option Nat} (k:w.grownBy w' row) {c i:Nat} {v:Value} (hp:c < w.heap.size) (hr:row≠some c) (h1:w.cell? ⟨c,i,none⟩=some v) (h2:w.frozen? ⟨c,i,none⟩=false):w'.cell? ⟨c,i,none⟩=some v∧w'.frozen? ⟨c,i,none⟩=false:=
 ⟨(k.cell_far ⟨c,i,none⟩ hp (Ne.symm hr)).trans h1,(k.frozen_far ⟨c,i,none⟩ hp (Ne.symm hr)).trans h2⟩
theorem one_cell {w1:World} {a:Value} {t:TypeId}:∀j u,[a][j]? =some u→(w1.alloc (.cells #[a] t)).cell? ((⟨w1.heap.size,0,none⟩:Addr).add j)=some u:=by
 intro j u hj;match j,hj with
 |0,hj=>simp at hj;subst hj;simp [Addr.add]
theorem one_one {a:Int}:∀u∈ [Value.int .i64 a],u.oneCell'=true:=by
 intro u hu;simp only [List.mem_singleton] at hu;subst hu;rfl
theorem bI {w:World} {b e s n:Nat} {v:Value} {xs:List Value} (h:w.ownsRow b e s v n xs) {p:Addr} (hp:v.ownBlock≠some p.block) (u:Value):(w.setCell p u).ownsRow b e s v n xs:=by
 refine⟨h.1,?_⟩;rcases h.2 with hn | ⟨g,cap,cur,hv2,hbb,hg,rest⟩
 ·exact .inl hn
 ·refine .inr ⟨g,cap,cur,hv2,hbb,?_,rest⟩;rw [Below.heap_setCell _ _ _ _ (fun e=>hp (by rw [hv2,←e];rfl))];exact hg
theorem cQ.arg {B c gg cap:Nat} {x:Ins} {k:Int} {va:Value} {w w3:World} (h:cQ B c x w) (hc:w.cell? ⟨c,4,none⟩=some va)
  (hown:w3.ownsRow B 3 1 (.slice (some ⟨gg,0,none⟩) (x.2.2.2.2.1.length+1) cap) (x.2.2.2.2.1.length+1) (ints x.2.2.2.2.1 ++ [.int .i64 k])) (hg:w.grownBy w3 va.ownBlock) (hat:va.ownBlock=some gg∨gg=w.heap.size):
  cQ B c (addArg x k) (w3.setCell ⟨c,4,none⟩ (.slice (some ⟨gg,0,none⟩) (x.2.2.2.2.1.length+1) cap)):=by
 obtain⟨va',vt,h1,h2,h3,h4,h5⟩:=h;have e:va'=va:=by
  have:w.cell? ⟨c,4,none⟩=some va':=by simp [World.cell?,h1,ak]
  rw [hc] at this;exact(Option.some.inj this).symm
 subst e;have hcl:c < w.heap.size:=(Array.getElem?_eq_some_iff.1 h1).1;have n1:va'.ownBlock≠some c:=bp h2 h1 (by decide);have n2:vt.ownBlock≠some c:=bp h3 h1 (by decide);have h1':w3.heap[c]? =some (.cells (ak x va' vt).toArray 41 (0,0)):=(hg.block c hcl (fun e=>n1 e.symm)).trans h1;have h3':w3.ownsRow B 3 1 vt x.2.2.2.2.2.1.length (ints x.2.2.2.2.2.1):=h3.kept hg (by
  rcases h4 with h4 | h4
  ·rw [h4];cases vt.ownBlock <;> simp
  ·exact .inr (Ne.symm h4))
 have n3:(Value.slice (some ⟨gg,0,none⟩) (x.2.2.2.2.1.length+1) cap).ownBlock≠some c:=bp hown h1' (by decide);refine⟨_,vt,(heap_setCell_same w3 c 4 _ 41 _ h1').trans rfl,?_,bI h3' n2 _,?_,h5⟩
 ·have:=bI hown (p:=⟨c,4,none⟩) n3 (.slice (some ⟨gg,0,none⟩) (x.2.2.2.2.1.length+1) cap);simpa [addArg] using this
 ·refine .inr fun e=> ?_;have e:some gg=vt.ownBlock:=e;rcases hat with hat | hat
  ·rcases h4 with h4 | h4
   ·rw [h4] at hat;cases hat
   ·exact h4 (hat.trans e)
  ·have:=(h3.lt gg e.symm).2;omega
theorem cQ.to {B c gg cap:Nat} {x:Ins} {k:Int} {vt:Value} {w w3:World} (h:cQ B c x w) (hc:w.cell? ⟨c,5,none⟩=some vt)
  (hown:w3.ownsRow B 3 1 (.slice (some ⟨gg,0,none⟩) (x.2.2.2.2.2.1.length+1) cap) (x.2.2.2.2.2.1.length+1) (ints x.2.2.2.2.2.1 ++ [.int .i64 k])) (hg:w.grownBy w3 vt.ownBlock) (hat:vt.ownBlock=some gg∨gg=w.heap.size):
  cQ B c (eF x k) (w3.setCell ⟨c,5,none⟩ (.slice (some ⟨gg,0,none⟩) (x.2.2.2.2.2.1.length+1) cap)):=by
 obtain⟨va,vt',h1,h2,h3,h4,h5⟩:=h;have e:vt'=vt:=by
  have:w.cell? ⟨c,5,none⟩=some vt':=by simp [World.cell?,h1,ak]
  rw [hc] at this;exact(Option.some.inj this).symm
 subst e;have hcl:c < w.heap.size:=(Array.getElem?_eq_some_iff.1 h1).1;have n1:va.ownBlock≠some c:=bp h2 h1 (by decide);have n2:vt'.ownBlock≠some c:=bp h3 h1 (by decide);have h1':w3.heap[c]? =some (.cells (ak x va vt').toArray 41 (0,0)):=(hg.block c hcl (fun e=>n2 e.symm)).trans h1;have h2':w3.ownsRow B 3 1 va x.2.2.2.2.1.length (ints x.2.2.2.2.1):=h2.kept hg h4;have n3:(Value.slice (some ⟨gg,0,none⟩) (x.2.2.2.2.2.1.length+1) cap).ownBlock≠some c:=bp hown h1' (by decide);refine⟨va,_,(heap_setCell_same w3 c 5 _ 41 _ h1').trans rfl,bI h2' n1 _,?_,?_,h5⟩
 ·have:=bI hown (p:=⟨c,5,none⟩) n3 (.slice (some ⟨gg,0,none⟩) (x.2.2.2.2.2.1.length+1) cap);simpa [eF] using this
 ·cases hv:va.ownBlock with
  |none=>exact .inl rfl
  |some q=>
   refine .inr fun e=> ?_;have e:some q=some gg:=e;rcases hat with hat | hat
   ·rcases h4 with h4 | h4
    ·rw [h4] at hv;cases hv
    ·exact h4 (by rw [hv,e,hat])
   ·have:=(h2.lt q hv).2
    cases e;omega
theorem cQ.put {B c i:Nat} {x y:Ins} {w:World} {v:Value} (h:cQ B c x w) (hy:∀va vt,(ak x va vt).toArray.setIfInBounds i v=(ak y va vt).toArray) (ha:y.2.2.2.2.1=x.2.2.2.2.1) (ht:y.2.2.2.2.2.1=x.2.2.2.2.2.1):cQ B c y (w.setCell ⟨c,i,none⟩ v):=by
 obtain⟨va,vt,h1,h2,h3,h4,h5⟩:=h;have n1:va.ownBlock≠some c:=bp h2 h1 (by decide);have n2:vt.ownBlock≠some c:=bp h3 h1 (by decide);refine⟨va,vt,?_,?_,?_,h4,h5⟩
 ·rw [heap_setCell_same w c i _ 41 _ h1,hy]
 ·rw [ha];exact bI h2 n1 _
 ·rw [ht];exact bI h3 n2 _
theorem cQ.fi {B c:Nat} {x:Ins} {w:World} (h:cQ B c x w) (v:Int):cQ B c (fi x v) (w.setCell ⟨c,2,none⟩ (.int .i64 v)):=h.put (fun _ _=>rfl) rfl rfl
theorem cQ.setName {B c:Nat} {x:Ins} {w:World} (h:cQ B c x w) (s:List UInt8):cQ B c (setName x s) (w.setCell ⟨c,6,none⟩ (.string (bs s))):=h.put (fun _ _=>rfl) rfl rfl
theorem J7 (s:List UInt8):∃a b:Int,L3.lD (bs s)= .tuple #[.agg #[.int .i64 a,.int .i64 b],.int .i64 (fG s)]:=by
 have key:∃a b c:Int,L3.lD (bs s)= .tuple #[.agg #[.int .i64 a,.int .i64 b],.int .i64 c]:=by
  unfold L3.lD L3.nw;split
  ·exact⟨_,_,_,rfl⟩
  ·split
   ·exact⟨_,_,_,rfl⟩
   ·split
    ·exact⟨_,_,_,rfl⟩
    ·exact⟨_,_,_,rfl⟩
 obtain⟨a,b,c,h⟩:=key;refine⟨a,b,?_⟩;have e:fG s=c:=by unfold fG;rw [h];rfl
 rw [e,h]
theorem Below.xu {B:Nat} {w w':World} (h:Below B w.drew w'):Below B w w':=⟨h.1,h.2,h.3,h.4,h.5⟩
theorem xX (s t:List UInt8):((bs s).toList != t)=decide (s≠t):=by
 rw [ByteArray.toList_eq,eC];by_cases h:s=t
 ·subst h;simp
 ·simp [h]
theorem De {l:List Tok} (h:gE 37 (ah l)=false):G.taken l=false:=by
 unfold G.taken;unfold gE at h;rw [h];rfl
theorem AA {l:List Tok} (h:gE 37 (ah l)=true):G.taken l=decide (bk l≠ [61]):=by
 unfold G.taken;unfold gE at h;rw [h,Bool.true_and];by_cases h:bk l= [61]
 ·rw [h];rfl
 ·simp [h]
abbrev Way:=Ins→List Tok→Except Er (Ins × List Tok)
def aG (E:Int):Way:=fun x l=>bj x addArg (G.value aF E l)
def gQ (E:Int):Way:=fun x l=>bj x eF (G.label aF E l)
theorem bQ {l:List Tok} (h:l≠ []):l.tail.length+1=l.length:=by
 cases l with
 |nil=>exact absurd rfl h
 |cons t r=>simp
def bt (a:Nat) (w:World):Nat:=(intOf ((w.cell? ⟨a,1,none⟩).getD (.int .i64 0))).toNat
def gT (E:Int):Way:=fun x l=>if G.taken l then aG E x l else .ok (x,l)
def nt (E:Int):Nat→Way
 |0=>fun x l=> .ok (x,l)
 |f+1=>fun x l=>if G.taken l then G.andThen (aG E x l) fun x' l'=>nt E f x' l' else .ok (x,l)
def nE (E:Int):Way:=fun x l=>nt E (l.length+1) x l
theorem xF {E:Int} {f:Nat} {x:Ins} {l:List Tok} (h:G.taken l=false):nt E (f+1) x l= .ok (x,l):=by
 unfold nt;rw [h];rfl
theorem iM (s t:List UInt8):((bs s).toList == t)=decide (s=t):=by
 rw [ByteArray.toList_eq,eC];by_cases h:s=t
 ·subst h;simp
 ·simp [h]
theorem qK {l:List Tok} (h:gE 98 (ah l)=false):G.bZ l=false:=by
 unfold G.bZ;unfold gE at h;rw [h];rfl
def lj (E:Int):Nat→Way
 |0=>fun x l=> .ok (x,l)
 |f+1=>fun x l=>if G.bZ l then G.andThen (gQ E x l) fun x' l'=>G.andThen (aG E x' l') fun x'' l''=>lj E f x'' l'' else .ok (x,l)
def oN (E:Int):Way:=fun x l=>lj E (l.length+1) x l
theorem vI {E:Int} {f:Nat} {x:Ins} {l:List Tok} (h:G.bZ l=false):lj E (f+1) x l= .ok (x,l):=by
 unfold lj;rw [h];rfl
def eX (E:Int):Way:=fun x l=>if gE 64 (ah l)then bj x fi (G.index aF 64 1048576 3 E l)else .ok (x,l)
def cq:Int→List Nat
 |1=> [152]
 |2=> [150,150]
 |3=> [150,150]
 |4=> [150,150]
 |5=> [150,150]
 |6=> [150,150]
 |7=> [150,150]
 |8=> []
 |9=> [150,150]
 |10=> [153]
 |11=> [150,154]
 |12=> [150,154]
 |13=> [150,154,150]
 |14=> [150,154,150]
 |15=> [150,154]
 |16=> [150]
 |17=> [150]
 |18=> [150,150]
 |19=> [150,150]
 |20=> [151,150,155]
 |21=> [156,157,158]
 |22=> [150]
 |23=> [159]
 |24=> [150,159]
 |25=> [150]
 |26=> [151]
 |27=> [150,151,151]
 |28=> [160]
 |29=> [161]
 |_=> []
def rC (E:Int):Way:=fun x l=>bj x fi (G.kN bL E l)
def oH (E:Int):Way:=fun x l=>bj x setName (G.shaped fG E l)
def eJ (E most:Int):Way:=fun x l=>bj x fi (G.number bL E 0 most l)
def rl (E:Int):Way:=fun x l=>bj x setName (G.name gX E l)
def LH (E:Int):Nat→Way
 |150=>aG E
 |151=>gQ E
 |152=>rC E
 |153=>oH E
 |154=>eJ E 15
 |155=>oN E
 |156=>eX E
 |157=>rl E
 |158=>nE E
 |159=>eJ E 1048576
 |160=>gT E
 |161=>eJ E 255
 |_=>fun x l=> .ok (x,l)
def ed (E:Int):List Nat→Way
 |[]=>fun x l=> .ok (x,l)
 |k :: r=>fun x l=>G.andThen (LH E k x l) (ed E r)
def Far (q:Nat) (u w:World):Prop:=w.os=u.os∧w.tape=u.tape∧w.output=u.output∧w.heap.size=u.heap.size∧∀k,k≠q→w.heap[k]? =u.heap[k]?
theorem Far.refl (q:Nat) (w:World):Far q w w:=⟨rfl,rfl,rfl,rfl,fun _ _=>rfl⟩
theorem Far.set {q:Nat} {u w:World} (h:Far q u w) (i:Nat) (v:Value):Far q u (w.setCell ⟨q,i,none⟩ v):=
 ⟨h.1,h.2.1,h.2.2.1,by rw [←h.2.2.2.1];simp [World.setCell],fun k hk=>(Below.heap_setCell _ _ _ _ hk).trans (h.2.2.2.2 k hk)⟩
theorem Far.own {q b e s n:Nat} {v:Value} {xs:List Value} {u w:World} (h:Far q u w) (ho:u.ownsRow b e s v n xs) (hv:v.ownBlock≠some q):w.ownsRow b e s v n xs:=by
 refine⟨ho.1,?_⟩;rcases ho.2 with hn | ⟨g,cap,cur,hv2,hb,hg,rest⟩
 ·exact .inl hn
 ·exact .inr ⟨g,cap,cur,hv2,hb,(h.2.2.2.2 g (fun e=>hv (by rw [hv2,←e];rfl))).trans hg,rest⟩
theorem cQ.cells {B c:Nat} {x:Ins} {w:World} (h:cQ B c x w):∃va vt,(∀i v,(ak x va vt)[i]? =some v→w.cell? ⟨c,i,none⟩=some v)∧(∀i,w.frozen? ⟨c,i,none⟩=false)∧
  w.ownsRow B 3 1 va x.2.2.2.2.1.length (ints x.2.2.2.2.1)∧w.ownsRow B 3 1 vt x.2.2.2.2.2.1.length (ints x.2.2.2.2.2.1)∧(∀c':Nat,(∃cs fz,w.heap[c']? =some (.cells cs 41 fz))→va.ownBlock≠some c'∧vt.ownBlock≠some c'):=by
 obtain⟨va,vt,h1,h2,h3,h4,h5⟩:=h;refine⟨va,vt,fun i v hv=> ?_,fun i=>by simp [World.frozen?,h1],h2,h3,fun c' hc=> ?_⟩
 ·simp only [World.cell?,h1];simpa using hv
 ·obtain⟨cs,fz,hc⟩:=hc;exact⟨bp h2 hc (by decide),bp h3 hc (by decide)⟩
def sH (B:Nat) (x:Ins) (v:Value) (w:World):Prop:=
 ∃va vt,v= .agg (ak x va vt).toArray∧w.ownsRow B 3 1 va x.2.2.2.2.1.length (ints x.2.2.2.2.1)∧w.ownsRow B 3 1 vt x.2.2.2.2.2.1.length (ints x.2.2.2.2.2.1)
def BF (E p id:Int) (l:List Tok):Except Er (Ins × List Tok):=G.andThen (G.oW jG lg E id l) fun o r=>ed E (cq o.1) (o.1,id,0,o.2,[],[],[],p) r
def jC (E:Int) (l:List Tok):Except Er (Ins × List Tok):=G.andThen (G.ident aF E l) fun id r=>BF E (fk E l) id r
theorem xM (s:ByteArray):∀n i,i+n≤116→(L5.lr s n i).1=0∨(1≤(L5.lr s n i).1∧(L5.lr s n i).1≤29):=by
 intro n;induction n with
 |zero=>intro i _;exact .inl rfl
 |succ n ih=>
  intro i h;unfold L5.lr;split
  ·right;constructor <;> (show _≤_;simp;omega)
  ·exact ih (i+1) (by omega)
theorem Aw (s:List UInt8):(jG s).1=0∨(1≤(jG s).1∧(jG s).1≤29):=xM (bs s) 116 0 (by omega)
def It (x:Ins) (v:Int):Ins:=(x.1,v,x.2.2.1,x.2.2.2.1,x.2.2.2.2.1,x.2.2.2.2.2.1,x.2.2.2.2.2.2.1,x.2.2.2.2.2.2.2)
def Ex (x:Ins) (v:Int):Ins:=(v,x.2.1,x.2.2.1,x.2.2.2.1,x.2.2.2.2.1,x.2.2.2.2.2.1,x.2.2.2.2.2.2.1,x.2.2.2.2.2.2.2)
def Cq (x:Ins) (v:Int):Ins:=(x.1,x.2.1,x.2.2.1,v,x.2.2.2.2.1,x.2.2.2.2.2.1,x.2.2.2.2.2.2.1,x.2.2.2.2.2.2.2)
theorem vS (w:World):Below w.heap.size w w.drew:=(Below.refl _ _).drew
def KO (g:Nat) (w:World):Prop:=w.cell? ⟨g,0,none⟩=some (.int .i64 0)∧w.cell? ⟨g,1,none⟩=some (.int .i64 0)∧w.cell? ⟨g,2,none⟩=some (.int .i64 0)∧w.cell? ⟨g,3,none⟩=some (.int .i64 0)∧w.cell? ⟨g,4,none⟩=some (.slice none 0 0)∧w.cell? ⟨g,5,none⟩=some (.slice none 0 0)∧w.cell? ⟨g,6,none⟩=some (.string ⟨#[]⟩)∧w.cell? ⟨g,7,none⟩=some (.int .i64 0)∧
 w.frozen? ⟨g,0,none⟩=false∧w.frozen? ⟨g,1,none⟩=false∧w.frozen? ⟨g,2,none⟩=false∧w.frozen? ⟨g,3,none⟩=false∧w.frozen? ⟨g,4,none⟩=false∧w.frozen? ⟨g,5,none⟩=false∧w.frozen? ⟨g,6,none⟩=false∧w.frozen? ⟨g,7,none⟩=false
theorem kH {g:Nat} {w:World} (h:w.heap[g]? =some (.cells #[.int .i64 0,.int .i64 0,.int .i64 0,.int .i64 0,.slice none 0 0,.slice none 0 0,.string ⟨#[]⟩,.int .i64 0] 41 (0,0))):KO g w:=by
 unfold KO;simp [World.cell?,World.frozen?,h]
theorem aQ {w:World} {b e s n:Nat} {v:Value} {xs:List Value} (h:w.ownsRow b e s v n xs):∃(ao:Option Addr) (m cap:Nat),v= .slice ao m cap:=by
 rcases h.2 with ⟨hv,_⟩ | ⟨g,cap,cur,hv,_⟩
 ·exact⟨_,_,_,hv⟩
 ·exact⟨_,_,_,hv⟩
theorem then_assoc {α β γ:Type} (x:Except Er (α × List Tok)) (f:α→G.Rd β) (g:β→G.Rd γ):G.andThen (G.andThen x f) g=G.andThen x fun v r=>G.andThen (f v r) g:=by
 cases x with
 |error e=>rfl
 |ok p=>rfl
theorem then_ok {α β:Type} (v:α) (l:List Tok) (f:α→G.Rd β):G.andThen (.ok (v,l)) f=f v l:=rfl
theorem dh {α β:Type} {x:Except Er (α × List Tok)} {f g:α→G.Rd β} (h:∀v r,x= .ok (v,r)→f v r=g v r):G.andThen x f=G.andThen x g:=by
 cases x with
 |error e=>rfl
 |ok p=>exact h p.1 p.2 rfl
def fill (x:Ins) (y:G.Opd):Ins:=(x.1,x.2.1,y.1,x.2.2.2.1,y.2.1,y.2.2.1,y.2.2.2,x.2.2.2.2.2.2.2)
abbrev bu (E op:Int):G.Rd G.Opd:=G.operands bL aF gX fG dZ E op
abbrev bare (op id ty p:Int):Ins:=(op,id,0,ty,[],[],[],p)
theorem DG {E:Int}:∀(f f':Nat) (x:Ins) (l:List Tok),l.length < f→l.length < f'→nt E f x l=G.andThen (G.bO aF E f' x.2.2.2.2.1 l) fun a r=> .ok ((x.1,x.2.1,x.2.2.1,x.2.2.2.1,a,x.2.2.2.2.2.1,x.2.2.2.2.2.2.1,x.2.2.2.2.2.2.2),r):=by
 intro f;induction f with
 |zero=>intro f' x l h;omega
 |succ f ih=>
  intro f' x l h h';obtain⟨f',rfl⟩:∃k,f'=k+1:=⟨f' - 1,by omega⟩
  cases ht:G.taken l with
  |false=>rw [xF ht];unfold G.bO;rw [ht];rfl
  |true=>
   conv=>lhs;unfold nt
   conv=>rhs;unfold G.bO
   rw [ht,if_pos rfl,if_pos rfl];unfold aG bj;rw [then_assoc,then_assoc];refine dh fun v r hv=> ?_;obtain⟨h1,h2,_⟩:=G.bW hv;have:=bQ h1;show nt E f (addArg x v) r=_;rw [ih f' (addArg x v) r (by rw [h2];omega) (by rw [h2];omega)];rfl
theorem Ei {E:Int}:∀(f f':Nat) (x:Ins) (l:List Tok),l.length < f→l.length < f'→x.2.2.2.2.2.1≠ []→lj E f x l=G.andThen (G.km aF E f' x.2.2.2.2.2.1 x.2.2.2.2.1 l) fun a r=> .ok ((x.1,x.2.1,x.2.2.1,x.2.2.2.1,a.2,a.1,x.2.2.2.2.2.2.1,x.2.2.2.2.2.2.2),r):=by
 intro f;induction f with
 |zero=>intro f' x l h;omega
 |succ f ih=>
  intro f' x l h h' hx;obtain⟨f',rfl⟩:∃k,f'=k+1:=⟨f' - 1,by omega⟩
  cases ht:G.bZ l with
  |false=>rw [vI ht];unfold G.km;rw [if_neg (by simp [ht,hx])];rfl
  |true=>
   conv=>lhs;unfold lj
   conv=>rhs;unfold G.km
   rw [ht,if_pos rfl,if_pos (.inr rfl)];unfold gQ bj;rw [then_assoc,then_assoc];refine dh fun b r hb=> ?_;obtain⟨h1,h2,_⟩:=G.gZ hb;have:=bQ h1;show(G.andThen (aG E (eF x b) r) fun x'' l''=>lj E f x'' l'')=G.andThen (G.andThen (G.value aF E r) _) _;unfold aG bj;rw [then_assoc,then_assoc];refine dh fun v q hv=> ?_;obtain⟨h3,h4,_⟩:=G.bW hv;have:=bQ h3;show lj E f (addArg (eF x b) v) q=_;rw [ih f' (addArg (eF x b) v) q (by rw [h4];rw [h2] at *;omega) (by rw [h4];rw [h2] at *;omega) (by simp [addArg,eF])];rfl
theorem Kl (E id ty p:Int) (l:List Tok):ed E (cq 1) (bare 1 id ty p) l=G.andThen (bu E 1 l) fun y r=> .ok (fill (bare 1 id ty p) y,r):=by
 show G.andThen (rC E (bare 1 id ty p) l) (fun x1 l1=> .ok (x1,l1))=G.andThen (G.andThen (G.kN bL E l) (fun v1 r1=>G.done (v1,[],[],[]) r1)) _;simp only [rC,bj,then_assoc,then_ok,G.done];rfl
theorem I8 (E id ty p:Int) (l:List Tok):ed E (cq 10) (bare 10 id ty p) l=G.andThen (bu E 10 l) fun y r=> .ok (fill (bare 10 id ty p) y,r):=by
 show G.andThen (oH E (bare 10 id ty p) l) (fun x1 l1=> .ok (x1,l1))=G.andThen (G.andThen (G.shaped fG E l) (fun v1 r1=>G.done (0,[],[],v1) r1)) _;simp only [oH,bj,then_assoc,then_ok,G.done];rfl
theorem Kb (E id ty p:Int) (l:List Tok):ed E (cq 11) (bare 11 id ty p) l=G.andThen (bu E 11 l) fun y r=> .ok (fill (bare 11 id ty p) y,r):=by
 show G.andThen (aG E (bare 11 id ty p) l) (fun x1 l1=>G.andThen (eJ E 15 x1 l1) (fun x2 l2=> .ok (x2,l2)))=G.andThen (G.andThen (G.value aF E l) (fun v1 r1=>G.andThen (G.number bL E 0 15 r1) (fun v2 r2=>G.done (v2,[v1],[],[]) r2))) _;simp only [eJ,aG,bj,then_assoc,then_ok,G.done];rfl
theorem J0 (E id ty p:Int) (l:List Tok):ed E (cq 12) (bare 12 id ty p) l=G.andThen (bu E 12 l) fun y r=> .ok (fill (bare 12 id ty p) y,r):=by
 show G.andThen (aG E (bare 12 id ty p) l) (fun x1 l1=>G.andThen (eJ E 15 x1 l1) (fun x2 l2=> .ok (x2,l2)))=G.andThen (G.andThen (G.value aF E l) (fun v1 r1=>G.andThen (G.number bL E 0 15 r1) (fun v2 r2=>G.done (v2,[v1],[],[]) r2))) _;simp only [eJ,aG,bj,then_assoc,then_ok,G.done];rfl
theorem Kd (E id ty p:Int) (l:List Tok):ed E (cq 13) (bare 13 id ty p) l=G.andThen (bu E 13 l) fun y r=> .ok (fill (bare 13 id ty p) y,r):=by
 show G.andThen (aG E (bare 13 id ty p) l) (fun x1 l1=>G.andThen (eJ E 15 x1 l1) (fun x2 l2=>G.andThen (aG E x2 l2) (fun x3 l3=> .ok (x3,l3))))=G.andThen (G.andThen (G.value aF E l) (fun v1 r1=>G.andThen (G.number bL E 0 15 r1) (fun v2 r2=>G.andThen (G.value aF E r2) (fun v3 r3=>G.done (v2,[v1,v3],[],[]) r3)))) _;simp only [eJ,aG,bj,then_assoc,then_ok,G.done];rfl
theorem II (E id ty p:Int) (l:List Tok):ed E (cq 14) (bare 14 id ty p) l=G.andThen (bu E 14 l) fun y r=> .ok (fill (bare 14 id ty p) y,r):=by
 show G.andThen (aG E (bare 14 id ty p) l) (fun x1 l1=>G.andThen (eJ E 15 x1 l1) (fun x2 l2=>G.andThen (aG E x2 l2) (fun x3 l3=> .ok (x3,l3))))=G.andThen (G.andThen (G.value aF E l) (fun v1 r1=>G.andThen (G.number bL E 0 15 r1) (fun v2 r2=>G.andThen (G.value aF E r2) (fun v3 r3=>G.done (v2,[v1,v3],[],[]) r3)))) _;simp only [eJ,aG,bj,then_assoc,then_ok,G.done];rfl
theorem Jt (E id ty p:Int) (l:List Tok):ed E (cq 15) (bare 15 id ty p) l=G.andThen (bu E 15 l) fun y r=> .ok (fill (bare 15 id ty p) y,r):=by
 show G.andThen (aG E (bare 15 id ty p) l) (fun x1 l1=>G.andThen (eJ E 15 x1 l1) (fun x2 l2=> .ok (x2,l2)))=G.andThen (G.andThen (G.value aF E l) (fun v1 r1=>G.andThen (G.number bL E 0 15 r1) (fun v2 r2=>G.done (v2,[v1],[],[]) r2))) _;simp only [eJ,aG,bj,then_assoc,then_ok,G.done];rfl
theorem JJ (E id ty p:Int) (l:List Tok):ed E (cq 23) (bare 23 id ty p) l=G.andThen (bu E 23 l) fun y r=> .ok (fill (bare 23 id ty p) y,r):=by
 show G.andThen (eJ E 1048576 (bare 23 id ty p) l) (fun x1 l1=> .ok (x1,l1))=G.andThen (G.andThen (G.number bL E 0 1048576 l) (fun v1 r1=>G.done (v1,[],[],[]) r1)) _;simp only [eJ,bj,then_assoc,then_ok,G.done];rfl
theorem Jg (E id ty p:Int) (l:List Tok):ed E (cq 24) (bare 24 id ty p) l=G.andThen (bu E 24 l) fun y r=> .ok (fill (bare 24 id ty p) y,r):=by
 show G.andThen (aG E (bare 24 id ty p) l) (fun x1 l1=>G.andThen (eJ E 1048576 x1 l1) (fun x2 l2=> .ok (x2,l2)))=G.andThen (G.andThen (G.value aF E l) (fun v1 r1=>G.andThen (G.number bL E 0 1048576 r1) (fun v2 r2=>G.done (v2,[v1],[],[]) r2))) _;simp only [eJ,aG,bj,then_assoc,then_ok,G.done];rfl
theorem JK (E id ty p:Int) (l:List Tok):ed E (cq 26) (bare 26 id ty p) l=G.andThen (bu E 26 l) fun y r=> .ok (fill (bare 26 id ty p) y,r):=by
 show G.andThen (gQ E (bare 26 id ty p) l) (fun x1 l1=> .ok (x1,l1))=G.andThen (G.andThen (G.label aF E l) (fun v1 r1=>G.done (0,[],[v1],[]) r1)) _;simp only [gQ,bj,then_assoc,then_ok,G.done];rfl
theorem Ka (E id ty p:Int) (l:List Tok):ed E (cq 27) (bare 27 id ty p) l=G.andThen (bu E 27 l) fun y r=> .ok (fill (bare 27 id ty p) y,r):=by
 show G.andThen (aG E (bare 27 id ty p) l) (fun x1 l1=>G.andThen (gQ E x1 l1) (fun x2 l2=>G.andThen (gQ E x2 l2) (fun x3 l3=> .ok (x3,l3))))=G.andThen (G.andThen (G.value aF E l) (fun v1 r1=>G.andThen (G.label aF E r1) (fun v2 r2=>G.andThen (G.label aF E r2) (fun v3 r3=>G.done (0,[v1],[v2,v3],[]) r3)))) _;simp only [gQ,aG,bj,then_assoc,then_ok,G.done];rfl
theorem Jr (E id ty p:Int) (l:List Tok):ed E (cq 29) (bare 29 id ty p) l=G.andThen (bu E 29 l) fun y r=> .ok (fill (bare 29 id ty p) y,r):=by
 show G.andThen (eJ E 255 (bare 29 id ty p) l) (fun x1 l1=> .ok (x1,l1))=G.andThen (G.andThen (G.number bL E 0 255 l) (fun v1 r1=>G.done (v1,[],[],[]) r1)) _;simp only [eJ,bj,then_assoc,then_ok,G.done];rfl
theorem Lc (E id ty p:Int) (l:List Tok):ed E (cq 2) (bare 2 id ty p) l=G.andThen (bu E 2 l) fun y r=> .ok (fill (bare 2 id ty p) y,r):=by
 have e:bu E 2 l=G.andThen (G.aV aF E 2 [] l) fun a=>G.done (0,a,[],[]):=by
  have h:dZ 2=2:=by decide
  rw [←h];rfl
 rw [e];show G.andThen (aG E (bare 2 id ty p) l) (fun x1 l1=>G.andThen (aG E x1 l1) (fun x2 l2=> .ok (x2,l2)))=_;simp only [aG,bj,then_assoc,then_ok,G.done,G.aV];rfl
theorem Kv (E id ty p:Int) (l:List Tok):ed E (cq 3) (bare 3 id ty p) l=G.andThen (bu E 3 l) fun y r=> .ok (fill (bare 3 id ty p) y,r):=by
 have e:bu E 3 l=G.andThen (G.aV aF E 2 [] l) fun a=>G.done (0,a,[],[]):=by
  have h:dZ 3=2:=by decide
  rw [←h];rfl
 rw [e];show G.andThen (aG E (bare 3 id ty p) l) (fun x1 l1=>G.andThen (aG E x1 l1) (fun x2 l2=> .ok (x2,l2)))=_;simp only [aG,bj,then_assoc,then_ok,G.done,G.aV];rfl
theorem Ky (E id ty p:Int) (l:List Tok):ed E (cq 4) (bare 4 id ty p) l=G.andThen (bu E 4 l) fun y r=> .ok (fill (bare 4 id ty p) y,r):=by
 have e:bu E 4 l=G.andThen (G.aV aF E 2 [] l) fun a=>G.done (0,a,[],[]):=by
  have h:dZ 4=2:=by decide
  rw [←h];rfl
 rw [e];show G.andThen (aG E (bare 4 id ty p) l) (fun x1 l1=>G.andThen (aG E x1 l1) (fun x2 l2=> .ok (x2,l2)))=_;simp only [aG,bj,then_assoc,then_ok,G.done,G.aV];rfl
theorem La (E id ty p:Int) (l:List Tok):ed E (cq 5) (bare 5 id ty p) l=G.andThen (bu E 5 l) fun y r=> .ok (fill (bare 5 id ty p) y,r):=by
 have e:bu E 5 l=G.andThen (G.aV aF E 2 [] l) fun a=>G.done (0,a,[],[]):=by
  have h:dZ 5=2:=by decide
  rw [←h];rfl
 rw [e];show G.andThen (aG E (bare 5 id ty p) l) (fun x1 l1=>G.andThen (aG E x1 l1) (fun x2 l2=> .ok (x2,l2)))=_;simp only [aG,bj,then_assoc,then_ok,G.done,G.aV];rfl
theorem Kx (E id ty p:Int) (l:List Tok):ed E (cq 6) (bare 6 id ty p) l=G.andThen (bu E 6 l) fun y r=> .ok (fill (bare 6 id ty p) y,r):=by
 have e:bu E 6 l=G.andThen (G.aV aF E 2 [] l) fun a=>G.done (0,a,[],[]):=by
  have h:dZ 6=2:=by decide
  rw [←h];rfl
 rw [e];show G.andThen (aG E (bare 6 id ty p) l) (fun x1 l1=>G.andThen (aG E x1 l1) (fun x2 l2=> .ok (x2,l2)))=_;simp only [aG,bj,then_assoc,then_ok,G.done,G.aV];rfl
theorem Kn (E id ty p:Int) (l:List Tok):ed E (cq 7) (bare 7 id ty p) l=G.andThen (bu E 7 l) fun y r=> .ok (fill (bare 7 id ty p) y,r):=by
 have e:bu E 7 l=G.andThen (G.aV aF E 2 [] l) fun a=>G.done (0,a,[],[]):=by
  have h:dZ 7=2:=by decide
  rw [←h];rfl
 rw [e];show G.andThen (aG E (bare 7 id ty p) l) (fun x1 l1=>G.andThen (aG E x1 l1) (fun x2 l2=> .ok (x2,l2)))=_;simp only [aG,bj,then_assoc,then_ok,G.done,G.aV];rfl
theorem KE (E id ty p:Int) (l:List Tok):ed E (cq 8) (bare 8 id ty p) l=G.andThen (bu E 8 l) fun y r=> .ok (fill (bare 8 id ty p) y,r):=by
 have e:bu E 8 l=G.andThen (G.aV aF E 0 [] l) fun a=>G.done (0,a,[],[]):=by
  have h:dZ 8=0:=by decide
  rw [←h];rfl
 rw [e];show(.ok (bare 8 id ty p,l):Except Er (Ins × List Tok))=_;simp only [then_ok,G.done,G.aV];rfl
theorem KY (E id ty p:Int) (l:List Tok):ed E (cq 9) (bare 9 id ty p) l=G.andThen (bu E 9 l) fun y r=> .ok (fill (bare 9 id ty p) y,r):=by
 have e:bu E 9 l=G.andThen (G.aV aF E 2 [] l) fun a=>G.done (0,a,[],[]):=by
  have h:dZ 9=2:=by decide
  rw [←h];rfl
 rw [e];show G.andThen (aG E (bare 9 id ty p) l) (fun x1 l1=>G.andThen (aG E x1 l1) (fun x2 l2=> .ok (x2,l2)))=_;simp only [aG,bj,then_assoc,then_ok,G.done,G.aV];rfl
theorem JN (E id ty p:Int) (l:List Tok):ed E (cq 16) (bare 16 id ty p) l=G.andThen (bu E 16 l) fun y r=> .ok (fill (bare 16 id ty p) y,r):=by
 have e:bu E 16 l=G.andThen (G.aV aF E 1 [] l) fun a=>G.done (0,a,[],[]):=by
  have h:dZ 16=1:=by decide
  rw [←h];rfl
 rw [e];show G.andThen (aG E (bare 16 id ty p) l) (fun x1 l1=> .ok (x1,l1))=_;simp only [aG,bj,then_assoc,then_ok,G.done,G.aV];rfl
theorem I6 (E id ty p:Int) (l:List Tok):ed E (cq 17) (bare 17 id ty p) l=G.andThen (bu E 17 l) fun y r=> .ok (fill (bare 17 id ty p) y,r):=by
 have e:bu E 17 l=G.andThen (G.aV aF E 1 [] l) fun a=>G.done (0,a,[],[]):=by
  have h:dZ 17=1:=by decide
  rw [←h];rfl
 rw [e];show G.andThen (aG E (bare 17 id ty p) l) (fun x1 l1=> .ok (x1,l1))=_;simp only [aG,bj,then_assoc,then_ok,G.done,G.aV];rfl
theorem JD (E id ty p:Int) (l:List Tok):ed E (cq 18) (bare 18 id ty p) l=G.andThen (bu E 18 l) fun y r=> .ok (fill (bare 18 id ty p) y,r):=by
 have e:bu E 18 l=G.andThen (G.aV aF E 2 [] l) fun a=>G.done (0,a,[],[]):=by
  have h:dZ 18=2:=by decide
  rw [←h];rfl
 rw [e];show G.andThen (aG E (bare 18 id ty p) l) (fun x1 l1=>G.andThen (aG E x1 l1) (fun x2 l2=> .ok (x2,l2)))=_;simp only [aG,bj,then_assoc,then_ok,G.done,G.aV];rfl
theorem I4 (E id ty p:Int) (l:List Tok):ed E (cq 19) (bare 19 id ty p) l=G.andThen (bu E 19 l) fun y r=> .ok (fill (bare 19 id ty p) y,r):=by
 have e:bu E 19 l=G.andThen (G.aV aF E 2 [] l) fun a=>G.done (0,a,[],[]):=by
  have h:dZ 19=2:=by decide
  rw [←h];rfl
 rw [e];show G.andThen (aG E (bare 19 id ty p) l) (fun x1 l1=>G.andThen (aG E x1 l1) (fun x2 l2=> .ok (x2,l2)))=_;simp only [aG,bj,then_assoc,then_ok,G.done,G.aV];rfl
theorem JM (E id ty p:Int) (l:List Tok):ed E (cq 22) (bare 22 id ty p) l=G.andThen (bu E 22 l) fun y r=> .ok (fill (bare 22 id ty p) y,r):=by
 have e:bu E 22 l=G.andThen (G.aV aF E 1 [] l) fun a=>G.done (0,a,[],[]):=by
  have h:dZ 22=1:=by decide
  rw [←h];rfl
 rw [e];show G.andThen (aG E (bare 22 id ty p) l) (fun x1 l1=> .ok (x1,l1))=_;simp only [aG,bj,then_assoc,then_ok,G.done,G.aV];rfl
theorem Jk (E id ty p:Int) (l:List Tok):ed E (cq 25) (bare 25 id ty p) l=G.andThen (bu E 25 l) fun y r=> .ok (fill (bare 25 id ty p) y,r):=by
 have e:bu E 25 l=G.andThen (G.aV aF E 1 [] l) fun a=>G.done (0,a,[],[]):=by
  have h:dZ 25=1:=by decide
  rw [←h];rfl
 rw [e];show G.andThen (aG E (bare 25 id ty p) l) (fun x1 l1=> .ok (x1,l1))=_;simp only [aG,bj,then_assoc,then_ok,G.done,G.aV];rfl
theorem JC (E id ty p:Int) (l:List Tok):ed E (cq 28) (bare 28 id ty p) l=G.andThen (bu E 28 l) fun y r=> .ok (fill (bare 28 id ty p) y,r):=by
 show G.andThen (gT E (bare 28 id ty p) l) (fun x1 l1=> .ok (x1,l1))=G.andThen (G.sG aF E l) _;unfold gT G.sG
 cases ht:G.taken l with
 |false=>rfl
 |true=>
  rw [if_pos rfl,if_pos rfl];simp only [aG,bj,then_assoc,then_ok,G.done];rfl
theorem GY (E:Int) (x:Ins) (l:List Tok) (hx:x.2.2.1=0):eX E x l=G.andThen (G.spot aF E l) fun n r=> .ok (fi x n,r):=by
 unfold eX G.spot gE;by_cases h:(ah l).head? =some 64
 ·rw [if_pos (by simpa using h),if_pos h];rfl
 ·rw [if_neg (by simpa using h),if_neg h];show _=Except.ok (fi x 0,l);rw [show fi x 0=x from by unfold fi;rw [←hx]]
theorem I3 (E id ty p:Int) (l:List Tok):ed E (cq 21) (bare 21 id ty p) l=G.andThen (bu E 21 l) fun y r=> .ok (fill (bare 21 id ty p) y,r):=by
 show G.andThen (eX E (bare 21 id ty p) l) (fun x1 l1=>G.andThen (rl E x1 l1) (fun x2 l2=>G.andThen (nE E x2 l2) (fun x3 l3=> .ok (x3,l3))))=G.andThen (G.andThen (G.spot aF E l) fun n r=>G.andThen (G.name gX E r) fun s r=>G.andThen (G.values aF E r) fun a=>G.done (n,a,[],s)) _;rw [GY E _ l rfl];simp only [rl,bj,then_assoc,then_ok,G.done];refine dh fun n r _=>dh fun s r2 _=> ?_;show G.andThen (nt E (r2.length+1) _ r2) _=G.andThen (G.bO aF E (r2.length+1) [] r2) _;rw [DG (r2.length+1) (r2.length+1) _ r2 (by omega) (by omega),then_assoc];rfl
theorem IZ (E id ty p:Int) (l:List Tok):ed E (cq 20) (bare 20 id ty p) l=G.andThen (bu E 20 l) fun y r=> .ok (fill (bare 20 id ty p) y,r):=by
 show G.andThen (gQ E (bare 20 id ty p) l) (fun x1 l1=>G.andThen (aG E x1 l1) (fun x2 l2=>G.andThen (oN E x2 l2) (fun x3 l3=> .ok (x3,l3))))=G.andThen (G.andThen (G.km aF E (l.length+1) [] [] l) fun x=>G.done (0,x.2,x.1,[])) _;conv=>rhs;unfold G.km
 rw [if_pos (.inl rfl)];simp only [gQ,aG,bj,then_assoc,then_ok,G.done];refine dh fun b r hb=>dh fun v r2 hv=> ?_;obtain⟨h1,h2,_⟩:=G.gZ hb;obtain⟨h3,h4,_⟩:=G.bW hv;have t1:=bQ h1;have t2:=bQ h3;show G.andThen (lj E (r2.length+1) _ r2) _=G.andThen (G.km aF E l.length [b] [v] r2) _;rw [Ei (r2.length+1) l.length _ r2 (by omega) (by rw [h4];rw [h2] at *;omega) (by simp [addArg,eF]),then_assoc];rfl
theorem IJ (E op id ty p:Int) (l:List Tok) (ho:1≤op∧op≤29):ed E (cq op) (bare op id ty p) l=G.andThen (bu E op l) fun y r=> .ok (fill (bare op id ty p) y,r):=by
 obtain rfl | rfl | rfl | rfl | rfl | rfl | rfl | rfl | rfl | rfl | rfl | rfl | rfl | rfl | rfl | rfl | rfl | rfl | rfl | rfl | rfl | rfl | rfl | rfl | rfl | rfl | rfl | rfl | rfl:op=1∨op=2∨op=3∨op=4∨op=5∨op=6∨op=7∨op=8∨op=9∨op=10∨op=11∨op=12∨op=13∨op=14∨op=15∨op=16∨op=17∨op=18∨op=19∨op=20∨op=21∨op=22∨op=23∨op=24∨op=25∨op=26∨op=27∨op=28∨op=29:=by omega
 ·exact Kl E id ty p l
 ·exact Lc E id ty p l
 ·exact Kv E id ty p l
 ·exact Ky E id ty p l
 ·exact La E id ty p l
 ·exact Kx E id ty p l
 ·exact Kn E id ty p l
 ·exact KE E id ty p l
 ·exact KY E id ty p l
 ·exact I8 E id ty p l
 ·exact Kb E id ty p l
 ·exact J0 E id ty p l
 ·exact Kd E id ty p l
 ·exact II E id ty p l
 ·exact Jt E id ty p l
 ·exact JN E id ty p l
 ·exact I6 E id ty p l
 ·exact JD E id ty p l
 ·exact I4 E id ty p l
 ·exact IZ E id ty p l
 ·exact I3 E id ty p l
 ·exact JM E id ty p l
 ·exact JJ E id ty p l
 ·exact Jg E id ty p l
 ·exact Jk E id ty p l
 ·exact JK E id ty p l
 ·exact Ka E id ty p l
 ·exact JC E id ty p l
 ·exact Jr E id ty p l
theorem ig (E:Int) (l:List Tok):G.ux bL aF gX fG dZ jG lg E l=jC E l:=by
 unfold G.ux G.Fg G.start jC BF;rw [then_assoc];refine dh fun id r _=> ?_;show G.andThen (G.andThen (G.oW jG lg E id r) fun o=>G.done (id,o.1,o.2)) _=_;rw [then_assoc];refine dh fun o r2 ho=> ?_;have hz:o.1≠0∧o=jG (ah r):=by
  obtain⟨h1,h2,h3,h4,_⟩:=G.ng sy ho;exact⟨h4,h3⟩
 have hr:1≤o.1∧o.1≤29:=by
  rcases Aw (ah r)with h | h
  ·rw [←hz.2] at h;exact absurd h hz.1
  ·rw [←hz.2] at h;exact h
 show G.andThen (bu E o.1 r2) _=_;rw [IJ E o.1 id o.2 (fk E l) r2 hr];rfl
theorem aI {w:World} {b e s n:Nat} {v:Value} {xs:List Value} (h:w.ownsRow b e s v n xs):∃(ao:Option Addr) (cap:Nat),v= .slice ao n cap:=by
 rcases h.2 with ⟨hv,hn⟩ | ⟨g,cap,cur,hv,_⟩
 ·exact⟨none,0,by rw [hv,hn]⟩
 ·exact⟨_,_,hv⟩
def dj (B:Nat) (w:World):List Ins→List Value→Prop
 |[],cs=>cs= []
 |x :: r,cs=>∃va vt rest,cs=ak x va vt ++ rest∧w.ownsRow B 3 1 va x.2.2.2.2.1.length (ints x.2.2.2.2.1)∧w.ownsRow B 3 1 vt x.2.2.2.2.2.1.length (ints x.2.2.2.2.2.1)∧dj B w r rest
theorem dj.keep {B B':Nat} {w w':World} (hk:∀(v:Value) (n:Nat) (xs:List Value),w.ownsRow B 3 1 v n xs→w'.ownsRow B' 3 1 v n xs):∀(l:List Ins) (cs:List Value),dj B w l cs→dj B' w' l cs:=by
 intro l;induction l with
 |nil=>intro cs h;exact h
 |cons x r ih=>
  rintro cs ⟨va,vt,rest,h1,h2,h3,h4⟩;exact⟨va,vt,rest,h1,hk _ _ _ h2,hk _ _ _ h3,ih rest h4⟩
theorem dj.snoc {B:Nat} {w:World} {x:Ins} {va vt:Value} (h1:w.ownsRow B 3 1 va x.2.2.2.2.1.length (ints x.2.2.2.2.1)) (h2:w.ownsRow B 3 1 vt x.2.2.2.2.2.1.length (ints x.2.2.2.2.2.1)):∀(l:List Ins) (cs:List Value),dj B w l cs→dj B w (l ++ [x]) (cs ++ ak x va vt):=by
 intro l;induction l with
 |nil=>intro cs h;cases h;exact⟨va,vt,[],by simp,h1,h2,rfl⟩
 |cons y r ih=>
  rintro cs ⟨ua,ut,rest,rfl,h4,h5,h6⟩;exact⟨ua,ut,rest ++ ak x va vt,by simp,h4,h5,ih rest h6⟩
def bR (B:Nat) (xs:List Ins) (v:Value) (w:World):Prop:=∃cs,w.ownsRow B 41 8 v xs.length cs∧dj B w xs cs
theorem az {w w':World} (b:Below w.heap.size w w') (B e s:Nat):∀(v:Value) (n:Nat) (xs:List Value),w.ownsRow B e s v n xs→w'.ownsRow B e s v n xs:=
 fun v _ _ h=>h.kept (L2.uq b) (by cases v.ownBlock <;> simp)
theorem eP {w w':World} {row:Value} {B B' e s e' s' n:Nat} {xs:List Value} (hg:w.grownBy w' row.ownBlock) (hr:w.ownsRow B' e' s' row n xs) (he:e≠e'):∀(v:Value) (m:Nat) (ys:List Value),w.ownsRow B e s v m ys→w'.ownsRow B e s v m ys:=
 fun _ _ _ h=>h.kept hg (Ay h hr he)
theorem bR.below {B:Nat} {xs:List Ins} {v:Value} {w w':World} (h:bR B xs v w) (b:Below w.heap.size w w'):bR B xs v w':=by
 obtain⟨cs,h1,h2⟩:=h;exact⟨cs,az b _ _ _ _ _ _ h1,dj.keep (az b B 3 1) _ _ h2⟩
theorem bR.base {B B':Nat} {xs:List Ins} {v:Value} {w:World} (h:bR B xs v w) (hB:B'≤B):bR B' xs v w:=by
 obtain⟨cs,h1,h2⟩:=h;exact⟨cs,aL h1 hB,dj.keep (fun _ _ _ h=>aL h hB) _ _ h2⟩
theorem Tryz.JL:(Tryz.prog.info? 41).map (fun i=>(i.zero,i.size,i.bytes))=some (some (.agg #[.int .i64 0,.int .i64 0,.int .i64 0,.int .i64 0,.slice none 0 0,.slice none 0 0,.string ⟨#[]⟩,.int .i64 0]),8,104):=by kernel_rfl
theorem o4 {w:World} {x:Ins} {va vt:Value}:∀(j:Nat) (u:Value),(ak x va vt)[j]? =some u→(w.alloc (.cells (ak x va vt).toArray 41)).cell? ((⟨w.heap.size,0,none⟩:Addr).add j)=some u:=
 World.news_of_block (cs:=(ak x va vt).toArray) (heap_alloc_new w _)
theorem Bk {x:Ins} {ao ap:Option Addr} {m n c d:Nat}:∀u∈ak x (.slice ao m c) (.slice ap n d),u.oneCell'=true:=by
 intro u hu;simp only [ak,List.mem_cons,List.not_mem_nil,or_false] at hu;rcases hu with rfl | rfl | rfl | rfl | rfl | rfl | rfl | rfl <;> rfl
abbrev jy (E:Int) (k n:Nat):G.Rd (List Ins × Nat):=G.block bL aF gX fG dZ jG lg rm E k n
abbrev mF (E:Int) (f n:Nat) (acc:List Ins):G.Rd (List Ins × Nat):=G.ss bL aF gX fG dZ jG lg E f n acc
theorem pG {E:Int} {f n:Nat} {acc:List Ins} {l:List Tok} (h:ah l= [125]∨bk l= [58]):mF E (f+1) n acc l= .ok ((acc,n),l):=by
 unfold mF G.ss;rw [if_pos h]
theorem tM {E:Int} {f n:Nat} {acc:List Ins} {l:List Tok} (h:¬(ah l= [125]∨bk l= [58])) (hn:4096≤n):mF E (f+1) n acc l= .error (6,fk E l):=by
 unfold mF G.ss;rw [if_neg h,if_pos hn]
theorem yc {E:Int} {f n:Nat} {acc:List Ins} {l:List Tok} {er:Er} (h:¬(ah l= [125]∨bk l= [58])) (hn:n < 4096) (hi:jC E l= .error er):mF E (f+1) n acc l= .error er:=by
 unfold mF G.ss;rw [if_neg h,if_neg (by omega),ig,hi];rfl
theorem DS {E:Int} {f n:Nat} {acc:List Ins} {l l':List Tok} {x:Ins} (h:¬(ah l= [125]∨bk l= [58])) (hn:n < 4096) (hi:jC E l= .ok (x,l')):mF E (f+1) n acc l=mF E f (n+1) (acc ++ [x]) l':=by
 conv=>lhs;unfold mF G.ss
 rw [if_neg h,if_neg (by omega),ig,hi];rfl
theorem kJ {E:Int} {l l':List Tok} {x:Ins} (h:jC E l= .ok (x,l')):l'.length < l.length:=by
 rw [←ig] at h;obtain⟨h1,h2⟩:=G.vA nM nO yq sy l x l' h;have:=h2.length_le;have:=bQ h1;omega
theorem bR.snoc {B:Nat} {acc:List Ins} {x:Ins} {v v2 va vt:Value} {cs:List Value} {w w2:World} {o:Obj} (oR:w.ownsRow B 41 8 v acc.length cs) (hR:dj B w acc cs) (o1:w.ownsRow B 3 1 va x.2.2.2.2.1.length (ints x.2.2.2.2.1)) (o2:w.ownsRow B 3 1 vt x.2.2.2.2.2.1.length (ints x.2.2.2.2.2.1))
  (own:w2.ownsRow B 41 8 v2 (acc.length+1) (cs ++ ak x va vt)) (grow:(w.alloc o).grownBy w2 v.ownBlock):bR B (acc ++ [x]) v2 w2:=by
 have key:∀(v':Value) (n:Nat) (xs:List Value),w.ownsRow B 3 1 v' n xs→w2.ownsRow B 3 1 v' n xs:=fun v' n xs h=>eP grow (oR.alloc o) (by decide) _ _ _ (h.alloc o);exact⟨cs ++ ak x va vt,by rw [List.length_append];exact own,dj.snoc (key _ _ _ o1) (key _ _ _ o2) _ _ (dj.keep key _ _ hR)⟩
end Go.Proofs.YtaiaakklokahjaaGreatDoor
