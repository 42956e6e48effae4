/- Texts of one chain, joined. -/
import Derived.Test.YtljkgcfnoegibaaGreatDoorZAAA
import Derived.Test.YtljkgcfnoegibaaGreatDoorZAAB
import Derived.Test.YtljkgcfnoegibaaGreatDoorZAAC
import Derived.Deep.RegionHeld3
import Derived.Deep.AppendLies
import Derived.Deep.DrawnRows
import Derived.Deep.RegionLaw
import Derived.Deep.RegionWith
import Derived.Laws.MakeOwn
import Derived.Laws.CopyOwn
namespace Go.Proofs.YtljkgcfnoegibaaGreatDoor
open Go Go.RowKit
open G (Tok Er Ins Fun peek0 peek1 fG)
def cC (s:List UInt8):Int × Int:=L1.aO s
def aQ (s:List UInt8) (most:Int):Option Int:=if(L1.cZ s most).2=0 then some (L1.cZ s most).1 else none
def iP (s:List UInt8):Bool:=L2.fk s
def fy (s:List UInt8):Int:=match L3.kQ (bs s)with
 |.tuple #[_,.int .i64 c]=>c
 |_=>0
def eZ (op:Int):Nat:=(L5.takes (L5.num op)).length
def jN (s:List UInt8):Int × Int:=L5.find (bs s)
def mQ (op t:Int):Int:=L5.bD op t
def tT (k:Nat) (s:List UInt8):Bool:=decide (G.mark aQ 98 255 s=some (k:Int))
theorem oQ:iP []=false:=rfl
theorem mN:(cC []).2≠0:=by decide
theorem tV:fy []≠0:=by decide
theorem oV:(jN []).1=0:=congrArg Prod.fst (L5.qB (s:=bs []) (by rw [aY];rfl))
def Of (r:Option Int) (c p:Int) (w:World) (e:Ending) (w':World):Prop:=
 Below w.heap.size w w'∧((∃x,r=some x∧e= .returned (.int .i64 x))∨(r=none∧e=Jd c p))
theorem below_drewN {B:Nat} {a w:World} (h:Below B a w) (n:Nat):Below B a (w.drewN n):=⟨h.1,h.2,h.3,h.4,h.5⟩
def MI (s:List UInt8) (t:Int):Bool:=(L5.letter t).toList == s
theorem Tryz.cr:(Tryz.prog.info? 3).map (fun i=>(i.zero,i.size,i.bytes))=some (some (.int .i64 0),1,8):=by kernel_rfl
abbrev ints (l:List Int):List Value:=l.map (Value.int .i64)
def ak (x:Ins) (va vt:Value):List Value:= [.int .i64 x.1,.int .i64 x.2.1,.int .i64 x.2.2.1,.int .i64 x.2.2.2.1,va,vt,.string (bs x.2.2.2.2.2.2.1),.int .i64 x.2.2.2.2.2.2.2]
def cU (B c:Nat) (x:Ins) (w:World):Prop:=
 ∃va vt,w.heap[c]? =some (.cells (ak x va vt).toArray 47 (0,0))∧w.ownsRow B 3 1 va x.2.2.2.2.1.length (ints x.2.2.2.2.1)∧w.ownsRow B 3 1 vt x.2.2.2.2.2.1.length (ints x.2.2.2.2.2.1)∧
  (va.ownBlock=none∨va.ownBlock≠vt.ownBlock)∧B≤c
theorem cU.kX {B c:Nat} {x:Ins} {w w':World} (h:cU B c x w) (hb:∀k,B≤k→k < w.heap.size→w'.heap[k]? =w.heap[k]?):cU B c x w':=by
 obtain⟨va,vt,h1,h2,h3,h4,h5⟩:=h;have key:∀ {v:Value} {n:Nat} {xs:List Value},w.ownsRow B 3 1 v n xs→w'.ownsRow B 3 1 v n xs:=by
  intro v n xs ho;refine⟨ho.1,?_⟩;rcases ho.2 with hn | ⟨g,cap,cur,hv2,hbb,hg,rest⟩
  ·exact .inl hn
  ·exact .inr ⟨g,cap,cur,hv2,hbb,(hb g hbb (Array.getElem?_eq_some_iff.1 hg).1).trans hg,rest⟩
 exact⟨va,vt,(hb c h5 (Array.getElem?_eq_some_iff.1 h1).1).trans h1,key h2,key h3,h4,h5⟩
theorem cU.step {B c:Nat} {x:Ins} {w w':World} (h:cU B c x w) (hk:Below w.heap.size w w'):cU B c x w':=h.kX fun k _ h2=>hk.block k h2
theorem cU.lt {B c:Nat} {x:Ins} {w:World} (h:cU B c x w):c < w.heap.size∧B≤c:=by
 obtain⟨va,vt,h1,h2,h3,h4,h5⟩:=h;exact⟨(Array.getElem?_eq_some_iff.1 h1).1,h5⟩
def addArg (x:Ins) (v:Int):Ins:=(x.1,x.2.1,x.2.2.1,x.2.2.2.1,x.2.2.2.2.1 ++ [v],x.2.2.2.2.2.1,x.2.2.2.2.2.2.1,x.2.2.2.2.2.2.2)
def dt (x:Ins) (v:Int):Ins:=(x.1,x.2.1,x.2.2.1,x.2.2.2.1,x.2.2.2.2.1,x.2.2.2.2.2.1 ++ [v],x.2.2.2.2.2.2.1,x.2.2.2.2.2.2.2)
def dO (x:Ins) (v:Int):Ins:=(x.1,x.2.1,v,x.2.2.2.1,x.2.2.2.2.1,x.2.2.2.2.2.1,x.2.2.2.2.2.2.1,x.2.2.2.2.2.2.2)
def setName (x:Ins) (s:List UInt8):Ins:=(x.1,x.2.1,x.2.2.1,x.2.2.2.1,x.2.2.2.2.1,x.2.2.2.2.2.1,s,x.2.2.2.2.2.2.2)
def bF {α:Type} (x:Ins) (f:Ins→α→Ins) (r:Except Er (α × List Tok)):Except Er (Ins × List Tok):=G.andThen r fun v l=> .ok (f x v,l)
def Cel (w:World) (c i:Nat) (v:Value):Prop:=w.cell? ⟨c,i,none⟩=some v∧w.frozen? ⟨c,i,none⟩=false
theorem Cel.below {B:Nat} {w w':World} (k:Below B w w') {c i:Nat} {v:Value} (hp:c < B) (h1:w.cell? ⟨c,i,none⟩=some v) (h2:w.frozen? ⟨c,i,none⟩=false):w'.cell? ⟨c,i,none⟩=some v∧w'.frozen? ⟨c,i,none⟩=false:=
 ⟨(k.cell (p:=⟨c,i,none⟩) hp).trans h1,(k.frozen (p:=⟨c,i,none⟩) hp).trans h2⟩
theorem Cel.grown {w w':World} {row:Option Nat} (k:w.grownBy w' row) {c i:Nat} {v:Value} (hp:c < w.heap.size) (hr:row≠some c) (h1:w.cell? ⟨c,i,none⟩=some v) (h2:w.frozen? ⟨c,i,none⟩=false):w'.cell? ⟨c,i,none⟩=some v∧w'.frozen? ⟨c,i,none⟩=false:=
 ⟨(k.cell_far ⟨c,i,none⟩ hp (Ne.symm hr)).trans h1,(k.frozen_far ⟨c,i,none⟩ hp (Ne.symm hr)).trans h2⟩
theorem aM {w1:World} {a:Value} {t:TypeId}:∀j u,[a][j]? =some u→(w1.alloc (.cells #[a] t)).cell? ((⟨w1.heap.size,0,none⟩:Addr).add j)=some u:=by
 intro j u hj;match j,hj with
 |0,hj=>simp at hj;subst hj;simp [Addr.add]
theorem bt {a:Int}:∀u∈ [Value.int .i64 a],u.oneCell'=true:=by
 intro u hu;simp only [List.mem_singleton] at hu;subst hu;rfl
theorem bO {w:World} {b e s n:Nat} {v:Value} {xs:List Value} (h:w.ownsRow b e s v n xs) {p:Addr} (hp:v.ownBlock≠some p.block) (u:Value):(w.setCell p u).ownsRow b e s v n xs:=by
 refine⟨h.1,?_⟩;rcases h.2 with hn | ⟨g,cap,cur,hv2,hbb,hg,rest⟩
 ·exact .inl hn
 ·refine .inr ⟨g,cap,cur,hv2,hbb,?_,rest⟩;rw [Below.heap_setCell _ _ _ _ (fun e=>hp (by rw [hv2,←e];rfl))];exact hg
theorem cU.arg {B c gg cap:Nat} {x:Ins} {k:Int} {va:Value} {w w3:World} (h:cU B c x w) (hc:w.cell? ⟨c,4,none⟩=some va)
  (hown:w3.ownsRow B 3 1 (.slice (some ⟨gg,0,none⟩) (x.2.2.2.2.1.length+1) cap) (x.2.2.2.2.1.length+1) (ints x.2.2.2.2.1 ++ [.int .i64 k])) (hg:w.grownBy w3 va.ownBlock) (hat:va.ownBlock=some gg∨gg=w.heap.size):
  cU B c (addArg x k) (w3.setCell ⟨c,4,none⟩ (.slice (some ⟨gg,0,none⟩) (x.2.2.2.2.1.length+1) cap)):=by
 obtain⟨va',vt,h1,h2,h3,h4,h5⟩:=h;have e:va'=va:=by
  have:w.cell? ⟨c,4,none⟩=some va':=by simp [World.cell?,h1,ak]
  rw [hc] at this;exact(Option.some.inj this).symm
 subst e;have hcl:c < w.heap.size:=(Array.getElem?_eq_some_iff.1 h1).1;have n1:va'.ownBlock≠some c:=aU h2 h1 (by decide);have n2:vt.ownBlock≠some c:=aU h3 h1 (by decide);have h1':w3.heap[c]? =some (.cells (ak x va' vt).toArray 47 (0,0)):=(hg.block c hcl (fun e=>n1 e.symm)).trans h1;have h3':w3.ownsRow B 3 1 vt x.2.2.2.2.2.1.length (ints x.2.2.2.2.2.1):=h3.kept hg (by
  rcases h4 with h4 | h4
  ·rw [h4];cases vt.ownBlock <;> simp
  ·exact .inr (Ne.symm h4))
 have n3:(Value.slice (some ⟨gg,0,none⟩) (x.2.2.2.2.1.length+1) cap).ownBlock≠some c:=aU hown h1' (by decide);refine⟨_,vt,(heap_setCell_same w3 c 4 _ 47 _ h1').trans rfl,?_,bO h3' n2 _,?_,h5⟩
 ·have:=bO hown (p:=⟨c,4,none⟩) n3 (.slice (some ⟨gg,0,none⟩) (x.2.2.2.2.1.length+1) cap);simpa [addArg] using this
 ·refine .inr fun e=> ?_;have e:some gg=vt.ownBlock:=e;rcases hat with hat | hat
  ·rcases h4 with h4 | h4
   ·rw [h4] at hat;cases hat
   ·exact h4 (hat.trans e)
  ·have:=(h3.lt gg e.symm).2;omega
theorem cU.to {B c gg cap:Nat} {x:Ins} {k:Int} {vt:Value} {w w3:World} (h:cU B c x w) (hc:w.cell? ⟨c,5,none⟩=some vt)
  (hown:w3.ownsRow B 3 1 (.slice (some ⟨gg,0,none⟩) (x.2.2.2.2.2.1.length+1) cap) (x.2.2.2.2.2.1.length+1) (ints x.2.2.2.2.2.1 ++ [.int .i64 k])) (hg:w.grownBy w3 vt.ownBlock) (hat:vt.ownBlock=some gg∨gg=w.heap.size):
  cU B c (dt x k) (w3.setCell ⟨c,5,none⟩ (.slice (some ⟨gg,0,none⟩) (x.2.2.2.2.2.1.length+1) cap)):=by
 obtain⟨va,vt',h1,h2,h3,h4,h5⟩:=h;have e:vt'=vt:=by
  have:w.cell? ⟨c,5,none⟩=some vt':=by simp [World.cell?,h1,ak]
  rw [hc] at this;exact(Option.some.inj this).symm
 subst e;have hcl:c < w.heap.size:=(Array.getElem?_eq_some_iff.1 h1).1;have n1:va.ownBlock≠some c:=aU h2 h1 (by decide);have n2:vt'.ownBlock≠some c:=aU h3 h1 (by decide);have h1':w3.heap[c]? =some (.cells (ak x va vt').toArray 47 (0,0)):=(hg.block c hcl (fun e=>n2 e.symm)).trans h1;have h2':w3.ownsRow B 3 1 va x.2.2.2.2.1.length (ints x.2.2.2.2.1):=h2.kept hg h4;have n3:(Value.slice (some ⟨gg,0,none⟩) (x.2.2.2.2.2.1.length+1) cap).ownBlock≠some c:=aU hown h1' (by decide);refine⟨va,_,(heap_setCell_same w3 c 5 _ 47 _ h1').trans rfl,bO h2' n1 _,?_,?_,h5⟩
 ·have:=bO hown (p:=⟨c,5,none⟩) n3 (.slice (some ⟨gg,0,none⟩) (x.2.2.2.2.2.1.length+1) cap);simpa [dt] using this
 ·cases hv:va.ownBlock with
  |none=>exact .inl rfl
  |some q=>
   refine .inr fun e=> ?_;have e:some q=some gg:=e;rcases hat with hat | hat
   ·rcases h4 with h4 | h4
    ·rw [h4] at hv;cases hv
    ·exact h4 (by rw [hv,e,hat])
   ·have:=(h2.lt q hv).2
    cases e;omega
theorem cU.put {B c i:Nat} {x y:Ins} {w:World} {v:Value} (h:cU B c x w) (hy:∀va vt,(ak x va vt).toArray.setIfInBounds i v=(ak y va vt).toArray) (ha:y.2.2.2.2.1=x.2.2.2.2.1) (ht:y.2.2.2.2.2.1=x.2.2.2.2.2.1):cU B c y (w.setCell ⟨c,i,none⟩ v):=by
 obtain⟨va,vt,h1,h2,h3,h4,h5⟩:=h;have n1:va.ownBlock≠some c:=aU h2 h1 (by decide);have n2:vt.ownBlock≠some c:=aU h3 h1 (by decide);refine⟨va,vt,?_,?_,?_,h4,h5⟩
 ·rw [heap_setCell_same w c i _ 47 _ h1,hy]
 ·rw [ha];exact bO h2 n1 _
 ·rw [ht];exact bO h3 n2 _
theorem cU.dO {B c:Nat} {x:Ins} {w:World} (h:cU B c x w) (v:Int):cU B c (dO x v) (w.setCell ⟨c,2,none⟩ (.int .i64 v)):=h.put (fun _ _=>rfl) rfl rfl
theorem cU.setName {B c:Nat} {x:Ins} {w:World} (h:cU B c x w) (s:List UInt8):cU B c (setName x s) (w.setCell ⟨c,6,none⟩ (.string (bs s))):=h.put (fun _ _=>rfl) rfl rfl
theorem FG (s:List UInt8):∃a b:Int,L3.kQ (bs s)= .tuple #[.agg #[.int .i64 a,.int .i64 b],.int .i64 (fy s)]:=by
 have key:∃a b c:Int,L3.kQ (bs s)= .tuple #[.agg #[.int .i64 a,.int .i64 b],.int .i64 c]:=by
  unfold L3.kQ L3.mJ;split
  ·exact⟨_,_,_,rfl⟩
  ·split
   ·exact⟨_,_,_,rfl⟩
   ·split
    ·exact⟨_,_,_,rfl⟩
    ·exact⟨_,_,_,rfl⟩
 obtain⟨a,b,c,h⟩:=key;refine⟨a,b,?_⟩;have e:fy s=c:=by unfold fy;rw [h];rfl
 rw [e,h]
theorem Below.qv {B:Nat} {w w':World} (h:Below B w.drew w'):Below B w w':=⟨h.1,h.2,h.3,h.4,h.5⟩
theorem AG (s t:List UInt8):((bs s).toList != t)=decide (s≠t):=by
 rw [ByteArray.toList_eq,dz];by_cases h:s=t
 ·subst h;simp
 ·simp [h]
theorem Dx {l:List Tok} (h:iz 37 (peek0 l)=false):G.taken l=false:=by
 unfold G.taken;unfold iz at h;rw [h];rfl
theorem Bo {l:List Tok} (h:iz 37 (peek0 l)=true):G.taken l=decide (peek1 l≠ [61]):=by
 unfold G.taken;unfold iz at h;rw [h,Bool.true_and];by_cases h:peek1 l= [61]
 ·rw [h];rfl
 ·simp [h]
abbrev Way:=Ins→List Tok→Except Er (Ins × List Tok)
def aR (E:Int):Way:=fun x l=>bF x addArg (G.value aQ E l)
def jb (E:Int):Way:=fun x l=>bF x dt (G.label aQ E l)
theorem cG {l:List Tok} (h:l≠ []):l.tail.length+1=l.length:=by
 cases l with
 |nil=>exact absurd rfl h
 |cons t r=>simp
def bQ (a:Nat) (w:World):Nat:=(intOf ((w.cell? ⟨a,1,none⟩).getD (.int .i64 0))).toNat
def ja (E:Int):Way:=fun x l=>if G.taken l then aR E x l else .ok (x,l)
def moreV (E:Int):Nat→Way
 |0=>fun x l=> .ok (x,l)
 |f+1=>fun x l=>if G.taken l then G.andThen (aR E x l) fun x' l'=>moreV E f x' l' else .ok (x,l)
def oL (E:Int):Way:=fun x l=>moreV E (l.length+1) x l
theorem zC {E:Int} {f:Nat} {x:Ins} {l:List Tok} (h:G.taken l=false):moreV E (f+1) x l= .ok (x,l):=by
 unfold moreV;rw [h];rfl
theorem jB (s t:List UInt8):((bs s).toList == t)=decide (s=t):=by
 rw [ByteArray.toList_eq,dz];by_cases h:s=t
 ·subst h;simp
 ·simp [h]
theorem sD {l:List Tok} (h:iz 98 (peek0 l)=false):G.df l=false:=by
 unfold G.df;unfold iz at h;rw [h];rfl
def mO (E:Int):Nat→Way
 |0=>fun x l=> .ok (x,l)
 |f+1=>fun x l=>if G.df l then G.andThen (jb E x l) fun x' l'=>G.andThen (aR E x' l') fun x'' l''=>mO E f x'' l'' else .ok (x,l)
def pU (E:Int):Way:=fun x l=>mO E (l.length+1) x l
theorem yW {E:Int} {f:Nat} {x:Ins} {l:List Tok} (h:G.df l=false):mO E (f+1) x l= .ok (x,l):=by
 unfold mO;rw [h];rfl
def gr (E:Int):Way:=fun x l=>if iz 64 (peek0 l)then bF x dO (G.index aQ 64 1048576 3 E l)else .ok (x,l)
def dr:Int→List Nat
 |1=> [152]
 |2=> [150,150]
 |3=> [150,150]
 |4=> [150,150]
 |5=> [150,150]
 |6=> [150,150]
 |7=> [150,150]
 |8=> []
 |9=> [150,150]
 |10=> [153]
 |11=> [150,154]
 |12=> [150,154]
 |13=> [150,154,150]
 |14=> [150,154,150]
 |15=> [150,154]
 |16=> [150]
 |17=> [150]
 |18=> [150,150]
 |19=> [150,150]
 |20=> [151,150,155]
 |21=> [156,157,158]
 |22=> [150]
 |23=> [159]
 |24=> [150,159]
 |25=> [150]
 |26=> [151]
 |27=> [150,151,151]
 |28=> [160]
 |29=> [161]
 |_=> []
def um (E:Int):Way:=fun x l=>bF x dO (G.mz cC E l)
def pW (E:Int):Way:=fun x l=>bF x setName (G.shaped fy E l)
def fK (E most:Int):Way:=fun x l=>bF x dO (G.number cC E 0 most l)
def tj (E:Int):Way:=fun x l=>bF x setName (G.name iP E l)
def Mw (E:Int):Nat→Way
 |150=>aR E
 |151=>jb E
 |152=>um E
 |153=>pW E
 |154=>fK E 15
 |155=>pU E
 |156=>gr E
 |157=>tj E
 |158=>oL E
 |159=>fK E 1048576
 |160=>ja E
 |161=>fK E 255
 |_=>fun x l=> .ok (x,l)
def fg (E:Int):List Nat→Way
 |[]=>fun x l=> .ok (x,l)
 |k :: r=>fun x l=>G.andThen (Mw E k x l) (fg E r)
def Far (q:Nat) (u w:World):Prop:=w.os=u.os∧w.tape=u.tape∧w.output=u.output∧w.heap.size=u.heap.size∧∀k,k≠q→w.heap[k]? =u.heap[k]?
theorem Far.refl (q:Nat) (w:World):Far q w w:=⟨rfl,rfl,rfl,rfl,fun _ _=>rfl⟩
theorem Far.set {q:Nat} {u w:World} (h:Far q u w) (i:Nat) (v:Value):Far q u (w.setCell ⟨q,i,none⟩ v):=
 ⟨h.1,h.2.1,h.2.2.1,by rw [←h.2.2.2.1];simp [World.setCell],fun k hk=>(Below.heap_setCell _ _ _ _ hk).trans (h.2.2.2.2 k hk)⟩
theorem Far.own {q b e s n:Nat} {v:Value} {xs:List Value} {u w:World} (h:Far q u w) (ho:u.ownsRow b e s v n xs) (hv:v.ownBlock≠some q):w.ownsRow b e s v n xs:=by
 refine⟨ho.1,?_⟩;rcases ho.2 with hn | ⟨g,cap,cur,hv2,hb,hg,rest⟩
 ·exact .inl hn
 ·exact .inr ⟨g,cap,cur,hv2,hb,(h.2.2.2.2 g (fun e=>hv (by rw [hv2,←e];rfl))).trans hg,rest⟩
theorem cU.cells {B c:Nat} {x:Ins} {w:World} (h:cU B c x w):∃va vt,(∀i v,(ak x va vt)[i]? =some v→w.cell? ⟨c,i,none⟩=some v)∧(∀i,w.frozen? ⟨c,i,none⟩=false)∧
  w.ownsRow B 3 1 va x.2.2.2.2.1.length (ints x.2.2.2.2.1)∧w.ownsRow B 3 1 vt x.2.2.2.2.2.1.length (ints x.2.2.2.2.2.1)∧(∀c':Nat,(∃cs fz,w.heap[c']? =some (.cells cs 47 fz))→va.ownBlock≠some c'∧vt.ownBlock≠some c'):=by
 obtain⟨va,vt,h1,h2,h3,h4,h5⟩:=h;refine⟨va,vt,fun i v hv=> ?_,fun i=>by simp [World.frozen?,h1],h2,h3,fun c' hc=> ?_⟩
 ·simp only [World.cell?,h1];simpa using hv
 ·obtain⟨cs,fz,hc⟩:=hc;exact⟨aU h2 hc (by decide),aU h3 hc (by decide)⟩
def pK (B:Nat) (x:Ins) (v:Value) (w:World):Prop:=
 ∃va vt,v= .agg (ak x va vt).toArray∧w.ownsRow B 3 1 va x.2.2.2.2.1.length (ints x.2.2.2.2.1)∧w.ownsRow B 3 1 vt x.2.2.2.2.2.1.length (ints x.2.2.2.2.2.1)
def Dz (E p id:Int) (l:List Tok):Except Er (Ins × List Tok):=G.andThen (G.o6 jN mQ E id l) fun o r=>fg E (dr o.1) (o.1,id,0,o.2,[],[],[],p) r
def kY (E:Int) (l:List Tok):Except Er (Ins × List Tok):=G.andThen (G.ident aQ E l) fun id r=>Dz E (fG E l) id r
theorem za (s:ByteArray):∀n i,i+n≤116→(L5.findN s n i).1=0∨(1≤(L5.findN s n i).1∧(L5.findN s n i).1≤29):=by
 intro n;induction n with
 |zero=>intro i _;exact .inl rfl
 |succ n ih=>
  intro i h;unfold L5.findN;split
  ·right;constructor <;> (show _≤_;simp;omega)
  ·exact ih (i+1) (by omega)
theorem Dc (s:List UInt8):(jN s).1=0∨(1≤(jN s).1∧(jN s).1≤29):=za (bs s) 116 0 (by omega)
def A4 (x:Ins) (v:Int):Ins:=(x.1,v,x.2.2.1,x.2.2.2.1,x.2.2.2.2.1,x.2.2.2.2.2.1,x.2.2.2.2.2.2.1,x.2.2.2.2.2.2.2)
def vE (x:Ins) (v:Int):Ins:=(v,x.2.1,x.2.2.1,x.2.2.2.1,x.2.2.2.2.1,x.2.2.2.2.2.1,x.2.2.2.2.2.2.1,x.2.2.2.2.2.2.2)
def xL (x:Ins) (v:Int):Ins:=(x.1,x.2.1,x.2.2.1,v,x.2.2.2.2.1,x.2.2.2.2.2.1,x.2.2.2.2.2.2.1,x.2.2.2.2.2.2.2)
theorem qV (w:World):Below w.heap.size w w.drew:=(Below.refl _ _).drew
def G4 (g:Nat) (w:World):Prop:=w.cell? ⟨g,0,none⟩=some (.int .i64 0)∧w.cell? ⟨g,1,none⟩=some (.int .i64 0)∧w.cell? ⟨g,2,none⟩=some (.int .i64 0)∧w.cell? ⟨g,3,none⟩=some (.int .i64 0)∧w.cell? ⟨g,4,none⟩=some (.slice none 0 0)∧w.cell? ⟨g,5,none⟩=some (.slice none 0 0)∧w.cell? ⟨g,6,none⟩=some (.string ⟨#[]⟩)∧w.cell? ⟨g,7,none⟩=some (.int .i64 0)∧
 w.frozen? ⟨g,0,none⟩=false∧w.frozen? ⟨g,1,none⟩=false∧w.frozen? ⟨g,2,none⟩=false∧w.frozen? ⟨g,3,none⟩=false∧w.frozen? ⟨g,4,none⟩=false∧w.frozen? ⟨g,5,none⟩=false∧w.frozen? ⟨g,6,none⟩=false∧w.frozen? ⟨g,7,none⟩=false
theorem kz {g:Nat} {w:World} (h:w.heap[g]? =some (.cells #[.int .i64 0,.int .i64 0,.int .i64 0,.int .i64 0,.slice none 0 0,.slice none 0 0,.string ⟨#[]⟩,.int .i64 0] 47 (0,0))):G4 g w:=by
 unfold G4;simp [World.cell?,World.frozen?,h]
theorem aN {w:World} {b e s n:Nat} {v:Value} {xs:List Value} (h:w.ownsRow b e s v n xs):∃(ao:Option Addr) (m cap:Nat),v= .slice ao m cap:=by
 rcases h.2 with ⟨hv,_⟩ | ⟨g,cap,cur,hv,_⟩
 ·exact⟨_,_,_,hv⟩
 ·exact⟨_,_,_,hv⟩
theorem then_assoc {α β γ:Type} (x:Except Er (α × List Tok)) (f:α→G.Rd β) (g:β→G.Rd γ):G.andThen (G.andThen x f) g=G.andThen x fun v r=>G.andThen (f v r) g:=by
 cases x with
 |error e=>rfl
 |ok p=>rfl
theorem then_ok {α β:Type} (v:α) (l:List Tok) (f:α→G.Rd β):G.andThen (.ok (v,l)) f=f v l:=rfl
theorem ee {α β:Type} {x:Except Er (α × List Tok)} {f g:α→G.Rd β} (h:∀v r,x= .ok (v,r)→f v r=g v r):G.andThen x f=G.andThen x g:=by
 cases x with
 |error e=>rfl
 |ok p=>exact h p.1 p.2 rfl
def fill (x:Ins) (y:G.Opd):Ins:=(x.1,x.2.1,y.1,x.2.2.2.1,y.2.1,y.2.2.1,y.2.2.2,x.2.2.2.2.2.2.2)
abbrev bT (E op:Int):G.Rd G.Opd:=G.operands cC aQ iP fy eZ E op
abbrev bare (op id ty p:Int):Ins:=(op,id,0,ty,[],[],[],p)
theorem DX {E:Int}:∀(f f':Nat) (x:Ins) (l:List Tok),l.length < f→l.length < f'→moreV E f x l=G.andThen (G.valuesW aQ E f' x.2.2.2.2.1 l) fun a r=> .ok ((x.1,x.2.1,x.2.2.1,x.2.2.2.1,a,x.2.2.2.2.2.1,x.2.2.2.2.2.2.1,x.2.2.2.2.2.2.2),r):=by
 intro f;induction f with
 |zero=>intro f' x l h;omega
 |succ f ih=>
  intro f' x l h h';obtain⟨f',rfl⟩:∃k,f'=k+1:=⟨f' - 1,by omega⟩
  cases ht:G.taken l with
  |false=>rw [zC ht];unfold G.valuesW;rw [ht];rfl
  |true=>
   conv=>lhs;unfold moreV
   conv=>rhs;unfold G.valuesW
   rw [ht,if_pos rfl,if_pos rfl];unfold aR bF;rw [then_assoc,then_assoc];refine ee fun v r hv=> ?_;obtain⟨h1,h2,_⟩:=G.cY hv;have:=cG h1;show moreV E f (addArg x v) r=_;rw [ih f' (addArg x v) r (by rw [h2];omega) (by rw [h2];omega)];rfl
theorem FO {E:Int}:∀(f f':Nat) (x:Ins) (l:List Tok),l.length < f→l.length < f'→x.2.2.2.2.2.1≠ []→mO E f x l=G.andThen (G.phiW aQ E f' x.2.2.2.2.2.1 x.2.2.2.2.1 l) fun a r=> .ok ((x.1,x.2.1,x.2.2.1,x.2.2.2.1,a.2,a.1,x.2.2.2.2.2.2.1,x.2.2.2.2.2.2.2),r):=by
 intro f;induction f with
 |zero=>intro f' x l h;omega
 |succ f ih=>
  intro f' x l h h' hx;obtain⟨f',rfl⟩:∃k,f'=k+1:=⟨f' - 1,by omega⟩
  cases ht:G.df l with
  |false=>rw [yW ht];unfold G.phiW;rw [if_neg (by simp [ht,hx])];rfl
  |true=>
   conv=>lhs;unfold mO
   conv=>rhs;unfold G.phiW
   rw [ht,if_pos rfl,if_pos (.inr rfl)];unfold jb bF;rw [then_assoc,then_assoc];refine ee fun b r hb=> ?_;obtain⟨h1,h2,_⟩:=G.jg hb;have:=cG h1;show(G.andThen (aR E (dt x b) r) fun x'' l''=>mO E f x'' l'')=G.andThen (G.andThen (G.value aQ E r) _) _;unfold aR bF;rw [then_assoc,then_assoc];refine ee fun v q hv=> ?_;obtain⟨h3,h4,_⟩:=G.cY hv;have:=cG h3;show mO E f (addArg (dt x b) v) q=_;rw [ih f' (addArg (dt x b) v) q (by rw [h4];rw [h2] at *;omega) (by rw [h4];rw [h2] at *;omega) (by simp [addArg,dt])];rfl
theorem K9 (E id ty p:Int) (l:List Tok):fg E (dr 1) (bare 1 id ty p) l=G.andThen (bT E 1 l) fun y r=> .ok (fill (bare 1 id ty p) y,r):=by
 show G.andThen (um E (bare 1 id ty p) l) (fun x1 l1=> .ok (x1,l1))=G.andThen (G.andThen (G.mz cC E l) (fun v1 r1=>G.done (v1,[],[],[]) r1)) _;simp only [um,bF,then_assoc,then_ok,G.done];rfl
theorem JF (E id ty p:Int) (l:List Tok):fg E (dr 10) (bare 10 id ty p) l=G.andThen (bT E 10 l) fun y r=> .ok (fill (bare 10 id ty p) y,r):=by
 show G.andThen (pW E (bare 10 id ty p) l) (fun x1 l1=> .ok (x1,l1))=G.andThen (G.andThen (G.shaped fy E l) (fun v1 r1=>G.done (0,[],[],v1) r1)) _;simp only [pW,bF,then_assoc,then_ok,G.done];rfl
theorem I7 (E id ty p:Int) (l:List Tok):fg E (dr 11) (bare 11 id ty p) l=G.andThen (bT E 11 l) fun y r=> .ok (fill (bare 11 id ty p) y,r):=by
 show G.andThen (aR E (bare 11 id ty p) l) (fun x1 l1=>G.andThen (fK E 15 x1 l1) (fun x2 l2=> .ok (x2,l2)))=G.andThen (G.andThen (G.value aQ E l) (fun v1 r1=>G.andThen (G.number cC E 0 15 r1) (fun v2 r2=>G.done (v2,[v1],[],[]) r2))) _;simp only [fK,aR,bF,then_assoc,then_ok,G.done];rfl
theorem JE (E id ty p:Int) (l:List Tok):fg E (dr 12) (bare 12 id ty p) l=G.andThen (bT E 12 l) fun y r=> .ok (fill (bare 12 id ty p) y,r):=by
 show G.andThen (aR E (bare 12 id ty p) l) (fun x1 l1=>G.andThen (fK E 15 x1 l1) (fun x2 l2=> .ok (x2,l2)))=G.andThen (G.andThen (G.value aQ E l) (fun v1 r1=>G.andThen (G.number cC E 0 15 r1) (fun v2 r2=>G.done (v2,[v1],[],[]) r2))) _;simp only [fK,aR,bF,then_assoc,then_ok,G.done];rfl
theorem Ju (E id ty p:Int) (l:List Tok):fg E (dr 13) (bare 13 id ty p) l=G.andThen (bT E 13 l) fun y r=> .ok (fill (bare 13 id ty p) y,r):=by
 show G.andThen (aR E (bare 13 id ty p) l) (fun x1 l1=>G.andThen (fK E 15 x1 l1) (fun x2 l2=>G.andThen (aR E x2 l2) (fun x3 l3=> .ok (x3,l3))))=G.andThen (G.andThen (G.value aQ E l) (fun v1 r1=>G.andThen (G.number cC E 0 15 r1) (fun v2 r2=>G.andThen (G.value aQ E r2) (fun v3 r3=>G.done (v2,[v1,v3],[],[]) r3)))) _;simp only [fK,aR,bF,then_assoc,then_ok,G.done];rfl
theorem IZ (E id ty p:Int) (l:List Tok):fg E (dr 14) (bare 14 id ty p) l=G.andThen (bT E 14 l) fun y r=> .ok (fill (bare 14 id ty p) y,r):=by
 show G.andThen (aR E (bare 14 id ty p) l) (fun x1 l1=>G.andThen (fK E 15 x1 l1) (fun x2 l2=>G.andThen (aR E x2 l2) (fun x3 l3=> .ok (x3,l3))))=G.andThen (G.andThen (G.value aQ E l) (fun v1 r1=>G.andThen (G.number cC E 0 15 r1) (fun v2 r2=>G.andThen (G.value aQ E r2) (fun v3 r3=>G.done (v2,[v1,v3],[],[]) r3)))) _;simp only [fK,aR,bF,then_assoc,then_ok,G.done];rfl
theorem Jj (E id ty p:Int) (l:List Tok):fg E (dr 15) (bare 15 id ty p) l=G.andThen (bT E 15 l) fun y r=> .ok (fill (bare 15 id ty p) y,r):=by
 show G.andThen (aR E (bare 15 id ty p) l) (fun x1 l1=>G.andThen (fK E 15 x1 l1) (fun x2 l2=> .ok (x2,l2)))=G.andThen (G.andThen (G.value aQ E l) (fun v1 r1=>G.andThen (G.number cC E 0 15 r1) (fun v2 r2=>G.done (v2,[v1],[],[]) r2))) _;simp only [fK,aR,bF,then_assoc,then_ok,G.done];rfl
theorem Ka (E id ty p:Int) (l:List Tok):fg E (dr 23) (bare 23 id ty p) l=G.andThen (bT E 23 l) fun y r=> .ok (fill (bare 23 id ty p) y,r):=by
 show G.andThen (fK E 1048576 (bare 23 id ty p) l) (fun x1 l1=> .ok (x1,l1))=G.andThen (G.andThen (G.number cC E 0 1048576 l) (fun v1 r1=>G.done (v1,[],[],[]) r1)) _;simp only [fK,bF,then_assoc,then_ok,G.done];rfl
theorem II (E id ty p:Int) (l:List Tok):fg E (dr 24) (bare 24 id ty p) l=G.andThen (bT E 24 l) fun y r=> .ok (fill (bare 24 id ty p) y,r):=by
 show G.andThen (aR E (bare 24 id ty p) l) (fun x1 l1=>G.andThen (fK E 1048576 x1 l1) (fun x2 l2=> .ok (x2,l2)))=G.andThen (G.andThen (G.value aQ E l) (fun v1 r1=>G.andThen (G.number cC E 0 1048576 r1) (fun v2 r2=>G.done (v2,[v1],[],[]) r2))) _;simp only [fK,aR,bF,then_assoc,then_ok,G.done];rfl
theorem Je (E id ty p:Int) (l:List Tok):fg E (dr 26) (bare 26 id ty p) l=G.andThen (bT E 26 l) fun y r=> .ok (fill (bare 26 id ty p) y,r):=by
 show G.andThen (jb E (bare 26 id ty p) l) (fun x1 l1=> .ok (x1,l1))=G.andThen (G.andThen (G.label aQ E l) (fun v1 r1=>G.done (0,[],[v1],[]) r1)) _;simp only [jb,bF,then_assoc,then_ok,G.done];rfl
theorem Jo (E id ty p:Int) (l:List Tok):fg E (dr 27) (bare 27 id ty p) l=G.andThen (bT E 27 l) fun y r=> .ok (fill (bare 27 id ty p) y,r):=by
 show G.andThen (aR E (bare 27 id ty p) l) (fun x1 l1=>G.andThen (jb E x1 l1) (fun x2 l2=>G.andThen (jb E x2 l2) (fun x3 l3=> .ok (x3,l3))))=G.andThen (G.andThen (G.value aQ E l) (fun v1 r1=>G.andThen (G.label aQ E r1) (fun v2 r2=>G.andThen (G.label aQ E r2) (fun v3 r3=>G.done (0,[v1],[v2,v3],[]) r3)))) _;simp only [jb,aR,bF,then_assoc,then_ok,G.done];rfl
theorem Kq (E id ty p:Int) (l:List Tok):fg E (dr 29) (bare 29 id ty p) l=G.andThen (bT E 29 l) fun y r=> .ok (fill (bare 29 id ty p) y,r):=by
 show G.andThen (fK E 255 (bare 29 id ty p) l) (fun x1 l1=> .ok (x1,l1))=G.andThen (G.andThen (G.number cC E 0 255 l) (fun v1 r1=>G.done (v1,[],[],[]) r1)) _;simp only [fK,bF,then_assoc,then_ok,G.done];rfl
theorem KT (E id ty p:Int) (l:List Tok):fg E (dr 2) (bare 2 id ty p) l=G.andThen (bT E 2 l) fun y r=> .ok (fill (bare 2 id ty p) y,r):=by
 have e:bT E 2 l=G.andThen (G.bp aQ E 2 [] l) fun a=>G.done (0,a,[],[]):=by
  have h:eZ 2=2:=by decide
  rw [←h];rfl
 rw [e];show G.andThen (aR E (bare 2 id ty p) l) (fun x1 l1=>G.andThen (aR E x1 l1) (fun x2 l2=> .ok (x2,l2)))=_;simp only [aR,bF,then_assoc,then_ok,G.done,G.bp];rfl
theorem Le (E id ty p:Int) (l:List Tok):fg E (dr 3) (bare 3 id ty p) l=G.andThen (bT E 3 l) fun y r=> .ok (fill (bare 3 id ty p) y,r):=by
 have e:bT E 3 l=G.andThen (G.bp aQ E 2 [] l) fun a=>G.done (0,a,[],[]):=by
  have h:eZ 3=2:=by decide
  rw [←h];rfl
 rw [e];show G.andThen (aR E (bare 3 id ty p) l) (fun x1 l1=>G.andThen (aR E x1 l1) (fun x2 l2=> .ok (x2,l2)))=_;simp only [aR,bF,then_assoc,then_ok,G.done,G.bp];rfl
theorem KV (E id ty p:Int) (l:List Tok):fg E (dr 4) (bare 4 id ty p) l=G.andThen (bT E 4 l) fun y r=> .ok (fill (bare 4 id ty p) y,r):=by
 have e:bT E 4 l=G.andThen (G.bp aQ E 2 [] l) fun a=>G.done (0,a,[],[]):=by
  have h:eZ 4=2:=by decide
  rw [←h];rfl
 rw [e];show G.andThen (aR E (bare 4 id ty p) l) (fun x1 l1=>G.andThen (aR E x1 l1) (fun x2 l2=> .ok (x2,l2)))=_;simp only [aR,bF,then_assoc,then_ok,G.done,G.bp];rfl
theorem Lt (E id ty p:Int) (l:List Tok):fg E (dr 5) (bare 5 id ty p) l=G.andThen (bT E 5 l) fun y r=> .ok (fill (bare 5 id ty p) y,r):=by
 have e:bT E 5 l=G.andThen (G.bp aQ E 2 [] l) fun a=>G.done (0,a,[],[]):=by
  have h:eZ 5=2:=by decide
  rw [←h];rfl
 rw [e];show G.andThen (aR E (bare 5 id ty p) l) (fun x1 l1=>G.andThen (aR E x1 l1) (fun x2 l2=> .ok (x2,l2)))=_;simp only [aR,bF,then_assoc,then_ok,G.done,G.bp];rfl
theorem Lc (E id ty p:Int) (l:List Tok):fg E (dr 6) (bare 6 id ty p) l=G.andThen (bT E 6 l) fun y r=> .ok (fill (bare 6 id ty p) y,r):=by
 have e:bT E 6 l=G.andThen (G.bp aQ E 2 [] l) fun a=>G.done (0,a,[],[]):=by
  have h:eZ 6=2:=by decide
  rw [←h];rfl
 rw [e];show G.andThen (aR E (bare 6 id ty p) l) (fun x1 l1=>G.andThen (aR E x1 l1) (fun x2 l2=> .ok (x2,l2)))=_;simp only [aR,bF,then_assoc,then_ok,G.done,G.bp];rfl
theorem Li (E id ty p:Int) (l:List Tok):fg E (dr 7) (bare 7 id ty p) l=G.andThen (bT E 7 l) fun y r=> .ok (fill (bare 7 id ty p) y,r):=by
 have e:bT E 7 l=G.andThen (G.bp aQ E 2 [] l) fun a=>G.done (0,a,[],[]):=by
  have h:eZ 7=2:=by decide
  rw [←h];rfl
 rw [e];show G.andThen (aR E (bare 7 id ty p) l) (fun x1 l1=>G.andThen (aR E x1 l1) (fun x2 l2=> .ok (x2,l2)))=_;simp only [aR,bF,then_assoc,then_ok,G.done,G.bp];rfl
theorem Ln (E id ty p:Int) (l:List Tok):fg E (dr 8) (bare 8 id ty p) l=G.andThen (bT E 8 l) fun y r=> .ok (fill (bare 8 id ty p) y,r):=by
 have e:bT E 8 l=G.andThen (G.bp aQ E 0 [] l) fun a=>G.done (0,a,[],[]):=by
  have h:eZ 8=0:=by decide
  rw [←h];rfl
 rw [e];show(.ok (bare 8 id ty p,l):Except Er (Ins × List Tok))=_;simp only [then_ok,G.done,G.bp];rfl
theorem KC (E id ty p:Int) (l:List Tok):fg E (dr 9) (bare 9 id ty p) l=G.andThen (bT E 9 l) fun y r=> .ok (fill (bare 9 id ty p) y,r):=by
 have e:bT E 9 l=G.andThen (G.bp aQ E 2 [] l) fun a=>G.done (0,a,[],[]):=by
  have h:eZ 9=2:=by decide
  rw [←h];rfl
 rw [e];show G.andThen (aR E (bare 9 id ty p) l) (fun x1 l1=>G.andThen (aR E x1 l1) (fun x2 l2=> .ok (x2,l2)))=_;simp only [aR,bF,then_assoc,then_ok,G.done,G.bp];rfl
theorem Kv (E id ty p:Int) (l:List Tok):fg E (dr 16) (bare 16 id ty p) l=G.andThen (bT E 16 l) fun y r=> .ok (fill (bare 16 id ty p) y,r):=by
 have e:bT E 16 l=G.andThen (G.bp aQ E 1 [] l) fun a=>G.done (0,a,[],[]):=by
  have h:eZ 16=1:=by decide
  rw [←h];rfl
 rw [e];show G.andThen (aR E (bare 16 id ty p) l) (fun x1 l1=> .ok (x1,l1))=_;simp only [aR,bF,then_assoc,then_ok,G.done,G.bp];rfl
theorem I4 (E id ty p:Int) (l:List Tok):fg E (dr 17) (bare 17 id ty p) l=G.andThen (bT E 17 l) fun y r=> .ok (fill (bare 17 id ty p) y,r):=by
 have e:bT E 17 l=G.andThen (G.bp aQ E 1 [] l) fun a=>G.done (0,a,[],[]):=by
  have h:eZ 17=1:=by decide
  rw [←h];rfl
 rw [e];show G.andThen (aR E (bare 17 id ty p) l) (fun x1 l1=> .ok (x1,l1))=_;simp only [aR,bF,then_assoc,then_ok,G.done,G.bp];rfl
theorem JI (E id ty p:Int) (l:List Tok):fg E (dr 18) (bare 18 id ty p) l=G.andThen (bT E 18 l) fun y r=> .ok (fill (bare 18 id ty p) y,r):=by
 have e:bT E 18 l=G.andThen (G.bp aQ E 2 [] l) fun a=>G.done (0,a,[],[]):=by
  have h:eZ 18=2:=by decide
  rw [←h];rfl
 rw [e];show G.andThen (aR E (bare 18 id ty p) l) (fun x1 l1=>G.andThen (aR E x1 l1) (fun x2 l2=> .ok (x2,l2)))=_;simp only [aR,bF,then_assoc,then_ok,G.done,G.bp];rfl
theorem Ki (E id ty p:Int) (l:List Tok):fg E (dr 19) (bare 19 id ty p) l=G.andThen (bT E 19 l) fun y r=> .ok (fill (bare 19 id ty p) y,r):=by
 have e:bT E 19 l=G.andThen (G.bp aQ E 2 [] l) fun a=>G.done (0,a,[],[]):=by
  have h:eZ 19=2:=by decide
  rw [←h];rfl
 rw [e];show G.andThen (aR E (bare 19 id ty p) l) (fun x1 l1=>G.andThen (aR E x1 l1) (fun x2 l2=> .ok (x2,l2)))=_;simp only [aR,bF,then_assoc,then_ok,G.done,G.bp];rfl
theorem Ko (E id ty p:Int) (l:List Tok):fg E (dr 22) (bare 22 id ty p) l=G.andThen (bT E 22 l) fun y r=> .ok (fill (bare 22 id ty p) y,r):=by
 have e:bT E 22 l=G.andThen (G.bp aQ E 1 [] l) fun a=>G.done (0,a,[],[]):=by
  have h:eZ 22=1:=by decide
  rw [←h];rfl
 rw [e];show G.andThen (aR E (bare 22 id ty p) l) (fun x1 l1=> .ok (x1,l1))=_;simp only [aR,bF,then_assoc,then_ok,G.done,G.bp];rfl
theorem JS (E id ty p:Int) (l:List Tok):fg E (dr 25) (bare 25 id ty p) l=G.andThen (bT E 25 l) fun y r=> .ok (fill (bare 25 id ty p) y,r):=by
 have e:bT E 25 l=G.andThen (G.bp aQ E 1 [] l) fun a=>G.done (0,a,[],[]):=by
  have h:eZ 25=1:=by decide
  rw [←h];rfl
 rw [e];show G.andThen (aR E (bare 25 id ty p) l) (fun x1 l1=> .ok (x1,l1))=_;simp only [aR,bF,then_assoc,then_ok,G.done,G.bp];rfl
theorem Kt (E id ty p:Int) (l:List Tok):fg E (dr 28) (bare 28 id ty p) l=G.andThen (bT E 28 l) fun y r=> .ok (fill (bare 28 id ty p) y,r):=by
 show G.andThen (ja E (bare 28 id ty p) l) (fun x1 l1=> .ok (x1,l1))=G.andThen (G.uz aQ E l) _;unfold ja G.uz
 cases ht:G.taken l with
 |false=>rfl
 |true=>
  rw [if_pos rfl,if_pos rfl];simp only [aR,bF,then_assoc,then_ok,G.done];rfl
theorem Is (E:Int) (x:Ins) (l:List Tok) (hx:x.2.2.1=0):gr E x l=G.andThen (G.spot aQ E l) fun n r=> .ok (dO x n,r):=by
 unfold gr G.spot iz;by_cases h:(peek0 l).head? =some 64
 ·rw [if_pos (by simpa using h),if_pos h];rfl
 ·rw [if_neg (by simpa using h),if_neg h];show _=Except.ok (dO x 0,l);rw [show dO x 0=x from by unfold dO;rw [←hx]]
theorem JY (E id ty p:Int) (l:List Tok):fg E (dr 21) (bare 21 id ty p) l=G.andThen (bT E 21 l) fun y r=> .ok (fill (bare 21 id ty p) y,r):=by
 show G.andThen (gr E (bare 21 id ty p) l) (fun x1 l1=>G.andThen (tj E x1 l1) (fun x2 l2=>G.andThen (oL E x2 l2) (fun x3 l3=> .ok (x3,l3))))=G.andThen (G.andThen (G.spot aQ E l) fun n r=>G.andThen (G.name iP E r) fun s r=>G.andThen (G.values aQ E r) fun a=>G.done (n,a,[],s)) _;rw [Is E _ l rfl];simp only [tj,bF,then_assoc,then_ok,G.done];refine ee fun n r _=>ee fun s r2 _=> ?_;show G.andThen (moreV E (r2.length+1) _ r2) _=G.andThen (G.valuesW aQ E (r2.length+1) [] r2) _;rw [DX (r2.length+1) (r2.length+1) _ r2 (by omega) (by omega),then_assoc];rfl
theorem I6 (E id ty p:Int) (l:List Tok):fg E (dr 20) (bare 20 id ty p) l=G.andThen (bT E 20 l) fun y r=> .ok (fill (bare 20 id ty p) y,r):=by
 show G.andThen (jb E (bare 20 id ty p) l) (fun x1 l1=>G.andThen (aR E x1 l1) (fun x2 l2=>G.andThen (pU E x2 l2) (fun x3 l3=> .ok (x3,l3))))=G.andThen (G.andThen (G.phiW aQ E (l.length+1) [] [] l) fun x=>G.done (0,x.2,x.1,[])) _;conv=>rhs;unfold G.phiW
 rw [if_pos (.inl rfl)];simp only [jb,aR,bF,then_assoc,then_ok,G.done];refine ee fun b r hb=>ee fun v r2 hv=> ?_;obtain⟨h1,h2,_⟩:=G.jg hb;obtain⟨h3,h4,_⟩:=G.cY hv;have t1:=cG h1;have t2:=cG h3;show G.andThen (mO E (r2.length+1) _ r2) _=G.andThen (G.phiW aQ E l.length [b] [v] r2) _;rw [FO (r2.length+1) l.length _ r2 (by omega) (by rw [h4];rw [h2] at *;omega) (by simp [addArg,dt]),then_assoc];rfl
theorem IK (E op id ty p:Int) (l:List Tok) (ho:1≤op∧op≤29):fg E (dr op) (bare op id ty p) l=G.andThen (bT E op l) fun y r=> .ok (fill (bare op id ty p) y,r):=by
 obtain rfl | rfl | rfl | rfl | rfl | rfl | rfl | rfl | rfl | rfl | rfl | rfl | rfl | rfl | rfl | rfl | rfl | rfl | rfl | rfl | rfl | rfl | rfl | rfl | rfl | rfl | rfl | rfl | rfl:op=1∨op=2∨op=3∨op=4∨op=5∨op=6∨op=7∨op=8∨op=9∨op=10∨op=11∨op=12∨op=13∨op=14∨op=15∨op=16∨op=17∨op=18∨op=19∨op=20∨op=21∨op=22∨op=23∨op=24∨op=25∨op=26∨op=27∨op=28∨op=29:=by omega
 ·exact K9 E id ty p l
 ·exact KT E id ty p l
 ·exact Le E id ty p l
 ·exact KV E id ty p l
 ·exact Lt E id ty p l
 ·exact Lc E id ty p l
 ·exact Li E id ty p l
 ·exact Ln E id ty p l
 ·exact KC E id ty p l
 ·exact JF E id ty p l
 ·exact I7 E id ty p l
 ·exact JE E id ty p l
 ·exact Ju E id ty p l
 ·exact IZ E id ty p l
 ·exact Jj E id ty p l
 ·exact Kv E id ty p l
 ·exact I4 E id ty p l
 ·exact JI E id ty p l
 ·exact Ki E id ty p l
 ·exact I6 E id ty p l
 ·exact JY E id ty p l
 ·exact Ko E id ty p l
 ·exact Ka E id ty p l
 ·exact II E id ty p l
 ·exact JS E id ty p l
 ·exact Je E id ty p l
 ·exact Jo E id ty p l
 ·exact Kt E id ty p l
 ·exact Kq E id ty p l
theorem jo (E:Int) (l:List Tok):G.vh cC aQ iP fy eZ jN mQ E l=kY E l:=by
 unfold G.vh G.Ec G.start kY Dz;rw [then_assoc];refine ee fun id r _=> ?_;show G.andThen (G.andThen (G.o6 jN mQ E id r) fun o=>G.done (id,o.1,o.2)) _=_;rw [then_assoc];refine ee fun o r2 ho=> ?_;have hz:o.1≠0∧o=jN (peek0 r):=by
  obtain⟨h1,h2,h3,h4,_⟩:=G.nL oV ho;exact⟨h4,h3⟩
 have hr:1≤o.1∧o.1≤29:=by
  rcases Dc (peek0 r)with h | h
  ·rw [←hz.2] at h;exact absurd h hz.1
  ·rw [←hz.2] at h;exact h
 show G.andThen (bT E o.1 r2) _=_;rw [IK E o.1 id o.2 (fG E l) r2 hr];rfl
theorem aL {w:World} {b e s n:Nat} {v:Value} {xs:List Value} (h:w.ownsRow b e s v n xs):∃(ao:Option Addr) (cap:Nat),v= .slice ao n cap:=by
 rcases h.2 with ⟨hv,hn⟩ | ⟨g,cap,cur,hv,_⟩
 ·exact⟨none,0,by rw [hv,hn]⟩
 ·exact⟨_,_,hv⟩
def dS (B:Nat) (w:World):List Ins→List Value→Prop
 |[],cs=>cs= []
 |x :: r,cs=>∃va vt rest,cs=ak x va vt ++ rest∧w.ownsRow B 3 1 va x.2.2.2.2.1.length (ints x.2.2.2.2.1)∧w.ownsRow B 3 1 vt x.2.2.2.2.2.1.length (ints x.2.2.2.2.2.1)∧dS B w r rest
theorem dS.kX {B B':Nat} {w w':World} (hk:∀(v:Value) (n:Nat) (xs:List Value),w.ownsRow B 3 1 v n xs→w'.ownsRow B' 3 1 v n xs):∀(l:List Ins) (cs:List Value),dS B w l cs→dS B' w' l cs:=by
 intro l;induction l with
 |nil=>intro cs h;exact h
 |cons x r ih=>
  rintro cs ⟨va,vt,rest,h1,h2,h3,h4⟩;exact⟨va,vt,rest,h1,hk _ _ _ h2,hk _ _ _ h3,ih rest h4⟩
theorem dS.snoc {B:Nat} {w:World} {x:Ins} {va vt:Value} (h1:w.ownsRow B 3 1 va x.2.2.2.2.1.length (ints x.2.2.2.2.1)) (h2:w.ownsRow B 3 1 vt x.2.2.2.2.2.1.length (ints x.2.2.2.2.2.1)):∀(l:List Ins) (cs:List Value),dS B w l cs→dS B w (l ++ [x]) (cs ++ ak x va vt):=by
 intro l;induction l with
 |nil=>intro cs h;cases h;exact⟨va,vt,[],by simp,h1,h2,rfl⟩
 |cons y r ih=>
  rintro cs ⟨ua,ut,rest,rfl,h4,h5,h6⟩;exact⟨ua,ut,rest ++ ak x va vt,by simp,h4,h5,ih rest h6⟩
def ck (B:Nat) (xs:List Ins) (v:Value) (w:World):Prop:=∃cs,w.ownsRow B 47 8 v xs.length cs∧dS B w xs cs
theorem br {w w':World} (b:Below w.heap.size w w') (B e s:Nat):∀(v:Value) (n:Nat) (xs:List Value),w.ownsRow B e s v n xs→w'.ownsRow B e s v n xs:=
 fun v _ _ h=>h.kept (L2.bY b) (by cases v.ownBlock <;> simp)
theorem fE {w w':World} {row:Value} {B B' e s e' s' n:Nat} {xs:List Value} (hg:w.grownBy w' row.ownBlock) (hr:w.ownsRow B' e' s' row n xs) (he:e≠e'):∀(v:Value) (m:Nat) (ys:List Value),w.ownsRow B e s v m ys→w'.ownsRow B e s v m ys:=
 fun _ _ _ h=>h.kept hg (Bj h hr he)
theorem ck.below {B:Nat} {xs:List Ins} {v:Value} {w w':World} (h:ck B xs v w) (b:Below w.heap.size w w'):ck B xs v w':=by
 obtain⟨cs,h1,h2⟩:=h;exact⟨cs,br b _ _ _ _ _ _ h1,dS.kX (br b B 3 1) _ _ h2⟩
theorem ck.base {B B':Nat} {xs:List Ins} {v:Value} {w:World} (h:ck B xs v w) (hB:B'≤B):ck B' xs v w:=by
 obtain⟨cs,h1,h2⟩:=h;exact⟨cs,aT h1 hB,dS.kX (fun _ _ _ h=>aT h hB) _ _ h2⟩
theorem Tryz.Dw:(Tryz.prog.info? 47).map (fun i=>(i.zero,i.size,i.bytes))=some (some (.agg #[.int .i64 0,.int .i64 0,.int .i64 0,.int .i64 0,.slice none 0 0,.slice none 0 0,.string ⟨#[]⟩,.int .i64 0]),8,104):=by kernel_rfl
theorem jG {w:World} {x:Ins} {va vt:Value}:∀(j:Nat) (u:Value),(ak x va vt)[j]? =some u→(w.alloc (.cells (ak x va vt).toArray 47)).cell? ((⟨w.heap.size,0,none⟩:Addr).add j)=some u:=
 World.news_of_block (cs:=(ak x va vt).toArray) (heap_alloc_new w _)
theorem sI {x:Ins} {ao ap:Option Addr} {m n c d:Nat}:∀u∈ak x (.slice ao m c) (.slice ap n d),u.oneCell'=true:=by
 intro u hu;simp only [ak,List.mem_cons,List.not_mem_nil,or_false] at hu;rcases hu with rfl | rfl | rfl | rfl | rfl | rfl | rfl | rfl <;> rfl
abbrev kV (E:Int) (k n:Nat):G.Rd (List Ins × Nat):=G.block cC aQ iP fy eZ jN mQ tT E k n
abbrev nF (E:Int) (f n:Nat) (acc:List Ins):G.Rd (List Ins × Nat):=G.insW cC aQ iP fy eZ jN mQ E f n acc
theorem o5 {E:Int} {f n:Nat} {acc:List Ins} {l:List Tok} (h:peek0 l= [125]∨peek1 l= [58]):nF E (f+1) n acc l= .ok ((acc,n),l):=by
 unfold nF G.insW;rw [if_pos h]
theorem xi {E:Int} {f n:Nat} {acc:List Ins} {l:List Tok} (h:¬(peek0 l= [125]∨peek1 l= [58])) (hn:4096≤n):nF E (f+1) n acc l= .error (6,fG E l):=by
 unfold nF G.insW;rw [if_neg h,if_pos hn]
theorem AH {E:Int} {f n:Nat} {acc:List Ins} {l:List Tok} {er:Er} (h:¬(peek0 l= [125]∨peek1 l= [58])) (hn:n < 4096) (hi:kY E l= .error er):nF E (f+1) n acc l= .error er:=by
 unfold nF G.insW;rw [if_neg h,if_neg (by omega),jo,hi];rfl
theorem FN {E:Int} {f n:Nat} {acc:List Ins} {l l':List Tok} {x:Ins} (h:¬(peek0 l= [125]∨peek1 l= [58])) (hn:n < 4096) (hi:kY E l= .ok (x,l')):nF E (f+1) n acc l=nF E f (n+1) (acc ++ [x]) l':=by
 conv=>lhs;unfold nF G.insW
 rw [if_neg h,if_neg (by omega),jo,hi];rfl
theorem mr {E:Int} {l l':List Tok} {x:Ins} (h:kY E l= .ok (x,l')):l'.length < l.length:=by
 rw [←jo] at h;obtain⟨h1,h2⟩:=G.yp oQ mN tV oV l x l' h;have:=h2.length_le;have:=cG h1;omega
theorem ck.snoc {B:Nat} {acc:List Ins} {x:Ins} {v v2 va vt:Value} {cs:List Value} {w w2:World} {o:Obj} (oR:w.ownsRow B 47 8 v acc.length cs) (hR:dS B w acc cs) (o1:w.ownsRow B 3 1 va x.2.2.2.2.1.length (ints x.2.2.2.2.1)) (o2:w.ownsRow B 3 1 vt x.2.2.2.2.2.1.length (ints x.2.2.2.2.2.1))
  (own:w2.ownsRow B 47 8 v2 (acc.length+1) (cs ++ ak x va vt)) (grow:(w.alloc o).grownBy w2 v.ownBlock):ck B (acc ++ [x]) v2 w2:=by
 have key:∀(v':Value) (n:Nat) (xs:List Value),w.ownsRow B 3 1 v' n xs→w2.ownsRow B 3 1 v' n xs:=fun v' n xs h=>fE grow (oR.alloc o) (by decide) _ _ _ (h.alloc o);exact⟨cs ++ ak x va vt,by rw [List.length_append];exact own,dS.snoc (key _ _ _ o1) (key _ _ _ o2) _ _ (dS.kX key _ _ hR)⟩
end Go.Proofs.YtljkgcfnoegibaaGreatDoor
