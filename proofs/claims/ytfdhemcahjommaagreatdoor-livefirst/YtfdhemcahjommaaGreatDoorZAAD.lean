/- Texts of one chain, joined. -/
import Derived.Test.YtfdhemcahjommaaGreatDoorZAAA
import Derived.Test.YtfdhemcahjommaaGreatDoorZAAB
import Derived.Test.YtfdhemcahjommaaGreatDoorZAAC
import Derived.Deep.RegionHeld3
import Derived.Deep.AppendLies
import Derived.Deep.DrawnRows
import Derived.Deep.RegionLaw
import Derived.Deep.RegionWith
import Derived.Laws.MakeOwn
import Derived.Laws.CopyOwn
namespace Go.Proofs.YtfdhemcahjommaaGreatDoor
open Go Go.RowKit
open G (Tok Er Ins Fun ak br ft)
def bO (s:List UInt8):Int × Int:=L1.aN s
def aH (s:List UInt8) (most:Int):Option Int:=if(L1.dG s most).2=0 then some (L1.dG s most).1 else none
def ib (s:List UInt8):Bool:=L2.gE s
def fL (s:List UInt8):Int:=match L3.lu (bs s)with
 |.tuple #[_,.int .i64 c]=>c
 |_=>0
def eD (op:Int):Nat:=(L5.takes (L5.num op)).length
def jG (s:List UInt8):Int × Int:=L5.find (bs s)
def lk (op t:Int):Int:=L5.cd op t
def rN (k:Nat) (s:List UInt8):Bool:=decide (G.mark aH 98 255 s=some (k:Int))
theorem nR:ib []=false:=rfl
theorem nL:(bO []).2≠0:=by decide
theorem ya:fL []≠0:=by decide
theorem sn:(jG []).1=0:=congrArg Prod.fst (L5.nW (s:=bs []) (by rw [bI];rfl))
def Of (r:Option Int) (c p:Int) (w:World) (e:Ending) (w':World):Prop:=
 Below w.heap.size w w'∧((∃x,r=some x∧e= .returned (.int .i64 x))∨(r=none∧e=IQ c p))
theorem below_drewN {B:Nat} {a w:World} (h:Below B a w) (n:Nat):Below B a (w.drewN n):=⟨h.1,h.2,h.3,h.4,h.5⟩
def Mg (s:List UInt8) (t:Int):Bool:=(L5.letter t).toList == s
theorem Tryz.dj:(Tryz.prog.info? 3).map (fun i=>(i.zero,i.size,i.bytes))=some (some (.int .i64 0),1,8):=by kernel_rfl
abbrev ints (l:List Int):List Value:=l.map (Value.int .i64)
def au (x:Ins) (va vt:Value):List Value:= [.int .i64 x.1,.int .i64 x.2.1,.int .i64 x.2.2.1,.int .i64 x.2.2.2.1,va,vt,.string (bs x.2.2.2.2.2.2.1),.int .i64 x.2.2.2.2.2.2.2]
def dd (B c:Nat) (x:Ins) (w:World):Prop:=
 ∃va vt,w.heap[c]? =some (.cells (au x va vt).toArray 48 (0,0))∧w.ownsRow B 3 1 va x.2.2.2.2.1.length (ints x.2.2.2.2.1)∧w.ownsRow B 3 1 vt x.2.2.2.2.2.1.length (ints x.2.2.2.2.2.1)∧
  (va.ownBlock=none∨va.ownBlock≠vt.ownBlock)∧B≤c
theorem dd.keep {B c:Nat} {x:Ins} {w w':World} (h:dd B c x w) (hb:∀k,B≤k→k < w.heap.size→w'.heap[k]? =w.heap[k]?):dd B c x w':=by
 obtain⟨va,vt,h1,h2,h3,h4,h5⟩:=h;have key:∀ {v:Value} {n:Nat} {xs:List Value},w.ownsRow B 3 1 v n xs→w'.ownsRow B 3 1 v n xs:=by
  intro v n xs ho;refine⟨ho.1,?_⟩;rcases ho.2 with hn | ⟨g,cap,cur,hv2,hbb,hg,rest⟩
  ·exact .inl hn
  ·exact .inr ⟨g,cap,cur,hv2,hbb,(hb g hbb (Array.getElem?_eq_some_iff.1 hg).1).trans hg,rest⟩
 exact⟨va,vt,(hb c h5 (Array.getElem?_eq_some_iff.1 h1).1).trans h1,key h2,key h3,h4,h5⟩
theorem dd.step {B c:Nat} {x:Ins} {w w':World} (h:dd B c x w) (hk:Below w.heap.size w w'):dd B c x w':=h.keep fun k _ h2=>hk.block k h2
theorem dd.lt {B c:Nat} {x:Ins} {w:World} (h:dd B c x w):c < w.heap.size∧B≤c:=by
 obtain⟨va,vt,h1,h2,h3,h4,h5⟩:=h;exact⟨(Array.getElem?_eq_some_iff.1 h1).1,h5⟩
def addArg (x:Ins) (v:Int):Ins:=(x.1,x.2.1,x.2.2.1,x.2.2.2.1,x.2.2.2.2.1 ++ [v],x.2.2.2.2.2.1,x.2.2.2.2.2.2.1,x.2.2.2.2.2.2.2)
def eT (x:Ins) (v:Int):Ins:=(x.1,x.2.1,x.2.2.1,x.2.2.2.1,x.2.2.2.2.1,x.2.2.2.2.2.1 ++ [v],x.2.2.2.2.2.2.1,x.2.2.2.2.2.2.2)
def fB (x:Ins) (v:Int):Ins:=(x.1,x.2.1,v,x.2.2.2.1,x.2.2.2.2.1,x.2.2.2.2.2.1,x.2.2.2.2.2.2.1,x.2.2.2.2.2.2.2)
def setName (x:Ins) (s:List UInt8):Ins:=(x.1,x.2.1,x.2.2.1,x.2.2.2.1,x.2.2.2.2.1,x.2.2.2.2.2.1,s,x.2.2.2.2.2.2.2)
def bm {α:Type} (x:Ins) (f:Ins→α→Ins) (r:Except Er (α × List Tok)):Except Er (Ins × List Tok):=G.andThen r fun v l=> .ok (f x v,l)
def Cel (w:World) (c i:Nat) (v:Value):Prop:=w.cell? ⟨c,i,none⟩=some v∧w.frozen? ⟨c,i,none⟩=false
theorem Cel.below {B:Nat} {w w':World} (k:Below B w w') {c i:Nat} {v:Value} (hp:c < B) (h1:w.cell? ⟨c,i,none⟩=some v) (h2:w.frozen? ⟨c,i,none⟩=false):w'.cell? ⟨c,i,none⟩=some v∧w'.frozen? ⟨c,i,none⟩=false:=
 ⟨(k.cell (p:=⟨c,i,none⟩) hp).trans h1,(k.frozen (p:=⟨c,i,none⟩) hp).trans h2⟩
theorem Cel.grown {w w':World} {row:Option Nat} (k:w.grownBy w' row) {c i:Nat} {v:Value} (hp:c < w.heap.size) (hr:row≠some c) (h1:w.cell? ⟨c,i,none⟩=some v) (h2:w.frozen? ⟨c,i,none⟩=false):w'.cell? ⟨c,i,none⟩=some v∧w'.frozen? ⟨c,i,none⟩=false:=
 ⟨(k.cell_far ⟨c,i,none⟩ hp (Ne.symm hr)).trans h1,(k.frozen_far ⟨c,i,none⟩ hp (Ne.symm hr)).trans h2⟩
theorem one_cell {w1:World} {a:Value} {t:TypeId}:∀j u,[a][j]? =some u→(w1.alloc (.cells #[a] t)).cell? ((⟨w1.heap.size,0,none⟩:Addr).add j)=some u:=by
 intro j u hj;match j,hj with
 |0,hj=>simp at hj;subst hj;simp [Addr.add]
theorem one_one {a:Int}:∀u∈ [Value.int .i64 a],u.oneCell'=true:=by
 intro u hu;simp only [List.mem_singleton] at hu;subst hu;rfl
theorem bM {w:World} {b e s n:Nat} {v:Value} {xs:List Value} (h:w.ownsRow b e s v n xs) {p:Addr} (hp:v.ownBlock≠some p.block) (u:Value):(w.setCell p u).ownsRow b e s v n xs:=by
 refine⟨h.1,?_⟩;rcases h.2 with hn | ⟨g,cap,cur,hv2,hbb,hg,rest⟩
 ·exact .inl hn
 ·refine .inr ⟨g,cap,cur,hv2,hbb,?_,rest⟩;rw [Below.heap_setCell _ _ _ _ (fun e=>hp (by rw [hv2,←e];rfl))];exact hg
theorem dd.arg {B c gg cap:Nat} {x:Ins} {k:Int} {va:Value} {w w3:World} (h:dd B c x w) (hc:w.cell? ⟨c,4,none⟩=some va)
  (hown:w3.ownsRow B 3 1 (.slice (some ⟨gg,0,none⟩) (x.2.2.2.2.1.length+1) cap) (x.2.2.2.2.1.length+1) (ints x.2.2.2.2.1 ++ [.int .i64 k])) (hg:w.grownBy w3 va.ownBlock) (hat:va.ownBlock=some gg∨gg=w.heap.size):
  dd B c (addArg x k) (w3.setCell ⟨c,4,none⟩ (.slice (some ⟨gg,0,none⟩) (x.2.2.2.2.1.length+1) cap)):=by
 obtain⟨va',vt,h1,h2,h3,h4,h5⟩:=h;have e:va'=va:=by
  have:w.cell? ⟨c,4,none⟩=some va':=by simp [World.cell?,h1,au]
  rw [hc] at this;exact(Option.some.inj this).symm
 subst e;have hcl:c < w.heap.size:=(Array.getElem?_eq_some_iff.1 h1).1;have n1:va'.ownBlock≠some c:=bw h2 h1 (by decide);have n2:vt.ownBlock≠some c:=bw h3 h1 (by decide);have h1':w3.heap[c]? =some (.cells (au x va' vt).toArray 48 (0,0)):=(hg.block c hcl (fun e=>n1 e.symm)).trans h1;have h3':w3.ownsRow B 3 1 vt x.2.2.2.2.2.1.length (ints x.2.2.2.2.2.1):=h3.kept hg (by
  rcases h4 with h4 | h4
  ·rw [h4];cases vt.ownBlock <;> simp
  ·exact .inr (Ne.symm h4))
 have n3:(Value.slice (some ⟨gg,0,none⟩) (x.2.2.2.2.1.length+1) cap).ownBlock≠some c:=bw hown h1' (by decide);refine⟨_,vt,(heap_setCell_same w3 c 4 _ 48 _ h1').trans rfl,?_,bM h3' n2 _,?_,h5⟩
 ·have:=bM hown (p:=⟨c,4,none⟩) n3 (.slice (some ⟨gg,0,none⟩) (x.2.2.2.2.1.length+1) cap);simpa [addArg] using this
 ·refine .inr fun e=> ?_;have e:some gg=vt.ownBlock:=e;rcases hat with hat | hat
  ·rcases h4 with h4 | h4
   ·rw [h4] at hat;cases hat
   ·exact h4 (hat.trans e)
  ·have:=(h3.lt gg e.symm).2;omega
theorem dd.to {B c gg cap:Nat} {x:Ins} {k:Int} {vt:Value} {w w3:World} (h:dd B c x w) (hc:w.cell? ⟨c,5,none⟩=some vt)
  (hown:w3.ownsRow B 3 1 (.slice (some ⟨gg,0,none⟩) (x.2.2.2.2.2.1.length+1) cap) (x.2.2.2.2.2.1.length+1) (ints x.2.2.2.2.2.1 ++ [.int .i64 k])) (hg:w.grownBy w3 vt.ownBlock) (hat:vt.ownBlock=some gg∨gg=w.heap.size):
  dd B c (eT x k) (w3.setCell ⟨c,5,none⟩ (.slice (some ⟨gg,0,none⟩) (x.2.2.2.2.2.1.length+1) cap)):=by
 obtain⟨va,vt',h1,h2,h3,h4,h5⟩:=h;have e:vt'=vt:=by
  have:w.cell? ⟨c,5,none⟩=some vt':=by simp [World.cell?,h1,au]
  rw [hc] at this;exact(Option.some.inj this).symm
 subst e;have hcl:c < w.heap.size:=(Array.getElem?_eq_some_iff.1 h1).1;have n1:va.ownBlock≠some c:=bw h2 h1 (by decide);have n2:vt'.ownBlock≠some c:=bw h3 h1 (by decide);have h1':w3.heap[c]? =some (.cells (au x va vt').toArray 48 (0,0)):=(hg.block c hcl (fun e=>n2 e.symm)).trans h1;have h2':w3.ownsRow B 3 1 va x.2.2.2.2.1.length (ints x.2.2.2.2.1):=h2.kept hg h4;have n3:(Value.slice (some ⟨gg,0,none⟩) (x.2.2.2.2.2.1.length+1) cap).ownBlock≠some c:=bw hown h1' (by decide);refine⟨va,_,(heap_setCell_same w3 c 5 _ 48 _ h1').trans rfl,bM h2' n1 _,?_,?_,h5⟩
 ·have:=bM hown (p:=⟨c,5,none⟩) n3 (.slice (some ⟨gg,0,none⟩) (x.2.2.2.2.2.1.length+1) cap);simpa [eT] using this
 ·cases hv:va.ownBlock with
  |none=>exact .inl rfl
  |some q=>
   refine .inr fun e=> ?_;have e:some q=some gg:=e;rcases hat with hat | hat
   ·rcases h4 with h4 | h4
    ·rw [h4] at hv;cases hv
    ·exact h4 (by rw [hv,e,hat])
   ·have:=(h2.lt q hv).2
    cases e;omega
theorem dd.put {B c i:Nat} {x y:Ins} {w:World} {v:Value} (h:dd B c x w) (hy:∀va vt,(au x va vt).toArray.setIfInBounds i v=(au y va vt).toArray) (ha:y.2.2.2.2.1=x.2.2.2.2.1) (ht:y.2.2.2.2.2.1=x.2.2.2.2.2.1):dd B c y (w.setCell ⟨c,i,none⟩ v):=by
 obtain⟨va,vt,h1,h2,h3,h4,h5⟩:=h;have n1:va.ownBlock≠some c:=bw h2 h1 (by decide);have n2:vt.ownBlock≠some c:=bw h3 h1 (by decide);refine⟨va,vt,?_,?_,?_,h4,h5⟩
 ·rw [heap_setCell_same w c i _ 48 _ h1,hy]
 ·rw [ha];exact bM h2 n1 _
 ·rw [ht];exact bM h3 n2 _
theorem dd.fB {B c:Nat} {x:Ins} {w:World} (h:dd B c x w) (v:Int):dd B c (fB x v) (w.setCell ⟨c,2,none⟩ (.int .i64 v)):=h.put (fun _ _=>rfl) rfl rfl
theorem dd.setName {B c:Nat} {x:Ins} {w:World} (h:dd B c x w) (s:List UInt8):dd B c (setName x s) (w.setCell ⟨c,6,none⟩ (.string (bs s))):=h.put (fun _ _=>rfl) rfl rfl
theorem JQ (s:List UInt8):∃a b:Int,L3.lu (bs s)= .tuple #[.agg #[.int .i64 a,.int .i64 b],.int .i64 (fL s)]:=by
 have key:∃a b c:Int,L3.lu (bs s)= .tuple #[.agg #[.int .i64 a,.int .i64 b],.int .i64 c]:=by
  unfold L3.lu L3.np;split
  ·exact⟨_,_,_,rfl⟩
  ·split
   ·exact⟨_,_,_,rfl⟩
   ·split
    ·exact⟨_,_,_,rfl⟩
    ·exact⟨_,_,_,rfl⟩
 obtain⟨a,b,c,h⟩:=key;refine⟨a,b,?_⟩;have e:fL s=c:=by unfold fL;rw [h];rfl
 rw [e,h]
theorem Below.v8 {B:Nat} {w w':World} (h:Below B w.drew w'):Below B w w':=⟨h.1,h.2,h.3,h.4,h.5⟩
theorem yW (s t:List UInt8):((bs s).toList != t)=decide (s≠t):=by
 rw [ByteArray.toList_eq,eM];by_cases h:s=t
 ·subst h;simp
 ·simp [h]
theorem Ed {l:List Tok} (h:gD 37 (ak l)=false):G.taken l=false:=by
 unfold G.taken;unfold gD at h;rw [h];rfl
theorem zR {l:List Tok} (h:gD 37 (ak l)=true):G.taken l=decide (br l≠ [61]):=by
 unfold G.taken;unfold gD at h;rw [h,Bool.true_and];by_cases h:br l= [61]
 ·rw [h];rfl
 ·simp [h]
abbrev Way:=Ins→List Tok→Except Er (Ins × List Tok)
def aJ (E:Int):Way:=fun x l=>bm x addArg (G.value aH E l)
def ic (E:Int):Way:=fun x l=>bm x eT (G.label aH E l)
theorem bS {l:List Tok} (h:l≠ []):l.tail.length+1=l.length:=by
 cases l with
 |nil=>exact absurd rfl h
 |cons t r=>simp
def bE (a:Nat) (w:World):Nat:=(intOf ((w.cell? ⟨a,1,none⟩).getD (.int .i64 0))).toNat
def gZ (E:Int):Way:=fun x l=>if G.taken l then aJ E x l else .ok (x,l)
def nA (E:Int):Nat→Way
 |0=>fun x l=> .ok (x,l)
 |f+1=>fun x l=>if G.taken l then G.andThen (aJ E x l) fun x' l'=>nA E f x' l' else .ok (x,l)
def nz (E:Int):Way:=fun x l=>nA E (l.length+1) x l
theorem wH {E:Int} {f:Nat} {x:Ins} {l:List Tok} (h:G.taken l=false):nA E (f+1) x l= .ok (x,l):=by
 unfold nA;rw [h];rfl
theorem iO (s t:List UInt8):((bs s).toList == t)=decide (s=t):=by
 rw [ByteArray.toList_eq,eM];by_cases h:s=t
 ·subst h;simp
 ·simp [h]
theorem qM {l:List Tok} (h:gD 98 (ak l)=false):G.cg l=false:=by
 unfold G.cg;unfold gD at h;rw [h];rfl
def mi (E:Int):Nat→Way
 |0=>fun x l=> .ok (x,l)
 |f+1=>fun x l=>if G.cg l then G.andThen (ic E x l) fun x' l'=>G.andThen (aJ E x' l') fun x'' l''=>mi E f x'' l'' else .ok (x,l)
def oU (E:Int):Way:=fun x l=>mi E (l.length+1) x l
theorem xV {E:Int} {f:Nat} {x:Ins} {l:List Tok} (h:G.cg l=false):mi E (f+1) x l= .ok (x,l):=by
 unfold mi;rw [h];rfl
def fj (E:Int):Way:=fun x l=>if gD 64 (ak l)then bm x fB (G.index aH 64 1048576 3 E l)else .ok (x,l)
def cD:Int→List Nat
 |1=> [152]
 |2=> [150,150]
 |3=> [150,150]
 |4=> [150,150]
 |5=> [150,150]
 |6=> [150,150]
 |7=> [150,150]
 |8=> []
 |9=> [150,150]
 |10=> [153]
 |11=> [150,154]
 |12=> [150,154]
 |13=> [150,154,150]
 |14=> [150,154,150]
 |15=> [150,154]
 |16=> [150]
 |17=> [150]
 |18=> [150,150]
 |19=> [150,150]
 |20=> [151,150,155]
 |21=> [156,157,158]
 |22=> [150]
 |23=> [159]
 |24=> [150,159]
 |25=> [150]
 |26=> [151]
 |27=> [150,151,151]
 |28=> [160]
 |29=> [161]
 |_=> []
def rF (E:Int):Way:=fun x l=>bm x fB (G.kH bO E l)
def n5 (E:Int):Way:=fun x l=>bm x setName (G.shaped fL E l)
def eP (E most:Int):Way:=fun x l=>bm x fB (G.number bO E 0 most l)
def sd (E:Int):Way:=fun x l=>bm x setName (G.name ib E l)
def LQ (E:Int):Nat→Way
 |150=>aJ E
 |151=>ic E
 |152=>rF E
 |153=>n5 E
 |154=>eP E 15
 |155=>oU E
 |156=>fj E
 |157=>sd E
 |158=>nz E
 |159=>eP E 1048576
 |160=>gZ E
 |161=>eP E 255
 |_=>fun x l=> .ok (x,l)
def eB (E:Int):List Nat→Way
 |[]=>fun x l=> .ok (x,l)
 |k :: r=>fun x l=>G.andThen (LQ E k x l) (eB E r)
def Far (q:Nat) (u w:World):Prop:=w.os=u.os∧w.tape=u.tape∧w.output=u.output∧w.heap.size=u.heap.size∧∀k,k≠q→w.heap[k]? =u.heap[k]?
theorem Far.refl (q:Nat) (w:World):Far q w w:=⟨rfl,rfl,rfl,rfl,fun _ _=>rfl⟩
theorem Far.set {q:Nat} {u w:World} (h:Far q u w) (i:Nat) (v:Value):Far q u (w.setCell ⟨q,i,none⟩ v):=
 ⟨h.1,h.2.1,h.2.2.1,by rw [←h.2.2.2.1];simp [World.setCell],fun k hk=>(Below.heap_setCell _ _ _ _ hk).trans (h.2.2.2.2 k hk)⟩
theorem Far.own {q b e s n:Nat} {v:Value} {xs:List Value} {u w:World} (h:Far q u w) (ho:u.ownsRow b e s v n xs) (hv:v.ownBlock≠some q):w.ownsRow b e s v n xs:=by
 refine⟨ho.1,?_⟩;rcases ho.2 with hn | ⟨g,cap,cur,hv2,hb,hg,rest⟩
 ·exact .inl hn
 ·exact .inr ⟨g,cap,cur,hv2,hb,(h.2.2.2.2 g (fun e=>hv (by rw [hv2,←e];rfl))).trans hg,rest⟩
theorem dd.cells {B c:Nat} {x:Ins} {w:World} (h:dd B c x w):∃va vt,(∀i v,(au x va vt)[i]? =some v→w.cell? ⟨c,i,none⟩=some v)∧(∀i,w.frozen? ⟨c,i,none⟩=false)∧
  w.ownsRow B 3 1 va x.2.2.2.2.1.length (ints x.2.2.2.2.1)∧w.ownsRow B 3 1 vt x.2.2.2.2.2.1.length (ints x.2.2.2.2.2.1)∧(∀c':Nat,(∃cs fz,w.heap[c']? =some (.cells cs 48 fz))→va.ownBlock≠some c'∧vt.ownBlock≠some c'):=by
 obtain⟨va,vt,h1,h2,h3,h4,h5⟩:=h;refine⟨va,vt,fun i v hv=> ?_,fun i=>by simp [World.frozen?,h1],h2,h3,fun c' hc=> ?_⟩
 ·simp only [World.cell?,h1];simpa using hv
 ·obtain⟨cs,fz,hc⟩:=hc;exact⟨bw h2 hc (by decide),bw h3 hc (by decide)⟩
def sj (B:Nat) (x:Ins) (v:Value) (w:World):Prop:=
 ∃va vt,v= .agg (au x va vt).toArray∧w.ownsRow B 3 1 va x.2.2.2.2.1.length (ints x.2.2.2.2.1)∧w.ownsRow B 3 1 vt x.2.2.2.2.2.1.length (ints x.2.2.2.2.2.1)
def Ce (E p id:Int) (l:List Tok):Except Er (Ins × List Tok):=G.andThen (G.oS jG lk E id l) fun o r=>eB E (cD o.1) (o.1,id,0,o.2,[],[],[],p) r
def jV (E:Int) (l:List Tok):Except Er (Ins × List Tok):=G.andThen (G.ident aH E l) fun id r=>Ce E (ft E l) id r
theorem vR (s:ByteArray):∀n i,i+n≤116→(L5.lH s n i).1=0∨(1≤(L5.lH s n i).1∧(L5.lH s n i).1≤29):=by
 intro n;induction n with
 |zero=>intro i _;exact .inl rfl
 |succ n ih=>
  intro i h;unfold L5.lH;split
  ·right;constructor <;> (show _≤_;simp;omega)
  ·exact ih (i+1) (by omega)
theorem Au (s:List UInt8):(jG s).1=0∨(1≤(jG s).1∧(jG s).1≤29):=vR (bs s) 116 0 (by omega)
def Io (x:Ins) (v:Int):Ins:=(x.1,v,x.2.2.1,x.2.2.2.1,x.2.2.2.2.1,x.2.2.2.2.2.1,x.2.2.2.2.2.2.1,x.2.2.2.2.2.2.2)
def Fc (x:Ins) (v:Int):Ins:=(v,x.2.1,x.2.2.1,x.2.2.2.1,x.2.2.2.2.1,x.2.2.2.2.2.1,x.2.2.2.2.2.2.1,x.2.2.2.2.2.2.2)
def EA (x:Ins) (v:Int):Ins:=(x.1,x.2.1,x.2.2.1,v,x.2.2.2.2.1,x.2.2.2.2.2.1,x.2.2.2.2.2.2.1,x.2.2.2.2.2.2.2)
theorem xp (w:World):Below w.heap.size w w.drew:=(Below.refl _ _).drew
def KQ (g:Nat) (w:World):Prop:=w.cell? ⟨g,0,none⟩=some (.int .i64 0)∧w.cell? ⟨g,1,none⟩=some (.int .i64 0)∧w.cell? ⟨g,2,none⟩=some (.int .i64 0)∧w.cell? ⟨g,3,none⟩=some (.int .i64 0)∧w.cell? ⟨g,4,none⟩=some (.slice none 0 0)∧w.cell? ⟨g,5,none⟩=some (.slice none 0 0)∧w.cell? ⟨g,6,none⟩=some (.string ⟨#[]⟩)∧w.cell? ⟨g,7,none⟩=some (.int .i64 0)∧
 w.frozen? ⟨g,0,none⟩=false∧w.frozen? ⟨g,1,none⟩=false∧w.frozen? ⟨g,2,none⟩=false∧w.frozen? ⟨g,3,none⟩=false∧w.frozen? ⟨g,4,none⟩=false∧w.frozen? ⟨g,5,none⟩=false∧w.frozen? ⟨g,6,none⟩=false∧w.frozen? ⟨g,7,none⟩=false
theorem kK {g:Nat} {w:World} (h:w.heap[g]? =some (.cells #[.int .i64 0,.int .i64 0,.int .i64 0,.int .i64 0,.slice none 0 0,.slice none 0 0,.string ⟨#[]⟩,.int .i64 0] 48 (0,0))):KQ g w:=by
 unfold KQ;simp [World.cell?,World.frozen?,h]
theorem aT {w:World} {b e s n:Nat} {v:Value} {xs:List Value} (h:w.ownsRow b e s v n xs):∃(ao:Option Addr) (m cap:Nat),v= .slice ao m cap:=by
 rcases h.2 with ⟨hv,_⟩ | ⟨g,cap,cur,hv,_⟩
 ·exact⟨_,_,_,hv⟩
 ·exact⟨_,_,_,hv⟩
theorem then_assoc {α β γ:Type} (x:Except Er (α × List Tok)) (f:α→G.Rd β) (g:β→G.Rd γ):G.andThen (G.andThen x f) g=G.andThen x fun v r=>G.andThen (f v r) g:=by
 cases x with
 |error e=>rfl
 |ok p=>rfl
theorem then_ok {α β:Type} (v:α) (l:List Tok) (f:α→G.Rd β):G.andThen (.ok (v,l)) f=f v l:=rfl
theorem dx {α β:Type} {x:Except Er (α × List Tok)} {f g:α→G.Rd β} (h:∀v r,x= .ok (v,r)→f v r=g v r):G.andThen x f=G.andThen x g:=by
 cases x with
 |error e=>rfl
 |ok p=>exact h p.1 p.2 rfl
def fill (x:Ins) (y:G.Opd):Ins:=(x.1,x.2.1,y.1,x.2.2.2.1,y.2.1,y.2.2.1,y.2.2.2,x.2.2.2.2.2.2.2)
abbrev bD (E op:Int):G.Rd G.Opd:=G.operands bO aH ib fL eD E op
abbrev bare (op id ty p:Int):Ins:=(op,id,0,ty,[],[],[],p)
theorem Ee {E:Int}:∀(f f':Nat) (x:Ins) (l:List Tok),l.length < f→l.length < f'→nA E f x l=G.andThen (G.bQ aH E f' x.2.2.2.2.1 l) fun a r=> .ok ((x.1,x.2.1,x.2.2.1,x.2.2.2.1,a,x.2.2.2.2.2.1,x.2.2.2.2.2.2.1,x.2.2.2.2.2.2.2),r):=by
 intro f;induction f with
 |zero=>intro f' x l h;omega
 |succ f ih=>
  intro f' x l h h';obtain⟨f',rfl⟩:∃k,f'=k+1:=⟨f' - 1,by omega⟩
  cases ht:G.taken l with
  |false=>rw [wH ht];unfold G.bQ;rw [ht];rfl
  |true=>
   conv=>lhs;unfold nA
   conv=>rhs;unfold G.bQ
   rw [ht,if_pos rfl,if_pos rfl];unfold aJ bm;rw [then_assoc,then_assoc];refine dx fun v r hv=> ?_;obtain⟨h1,h2,_⟩:=G.bZ hv;have:=bS h1;show nA E f (addArg x v) r=_;rw [ih f' (addArg x v) r (by rw [h2];omega) (by rw [h2];omega)];rfl
theorem DU {E:Int}:∀(f f':Nat) (x:Ins) (l:List Tok),l.length < f→l.length < f'→x.2.2.2.2.2.1≠ []→mi E f x l=G.andThen (G.ku aH E f' x.2.2.2.2.2.1 x.2.2.2.2.1 l) fun a r=> .ok ((x.1,x.2.1,x.2.2.1,x.2.2.2.1,a.2,a.1,x.2.2.2.2.2.2.1,x.2.2.2.2.2.2.2),r):=by
 intro f;induction f with
 |zero=>intro f' x l h;omega
 |succ f ih=>
  intro f' x l h h' hx;obtain⟨f',rfl⟩:∃k,f'=k+1:=⟨f' - 1,by omega⟩
  cases ht:G.cg l with
  |false=>rw [xV ht];unfold G.ku;rw [if_neg (by simp [ht,hx])];rfl
  |true=>
   conv=>lhs;unfold mi
   conv=>rhs;unfold G.ku
   rw [ht,if_pos rfl,if_pos (.inr rfl)];unfold ic bm;rw [then_assoc,then_assoc];refine dx fun b r hb=> ?_;obtain⟨h1,h2,_⟩:=G.ik hb;have:=bS h1;show(G.andThen (aJ E (eT x b) r) fun x'' l''=>mi E f x'' l'')=G.andThen (G.andThen (G.value aH E r) _) _;unfold aJ bm;rw [then_assoc,then_assoc];refine dx fun v q hv=> ?_;obtain⟨h3,h4,_⟩:=G.bZ hv;have:=bS h3;show mi E f (addArg (eT x b) v) q=_;rw [ih f' (addArg (eT x b) v) q (by rw [h4];rw [h2] at *;omega) (by rw [h4];rw [h2] at *;omega) (by simp [addArg,eT])];rfl
theorem KM (E id ty p:Int) (l:List Tok):eB E (cD 1) (bare 1 id ty p) l=G.andThen (bD E 1 l) fun y r=> .ok (fill (bare 1 id ty p) y,r):=by
 show G.andThen (rF E (bare 1 id ty p) l) (fun x1 l1=> .ok (x1,l1))=G.andThen (G.andThen (G.kH bO E l) (fun v1 r1=>G.done (v1,[],[],[]) r1)) _;simp only [rF,bm,then_assoc,then_ok,G.done];rfl
theorem IK (E id ty p:Int) (l:List Tok):eB E (cD 10) (bare 10 id ty p) l=G.andThen (bD E 10 l) fun y r=> .ok (fill (bare 10 id ty p) y,r):=by
 show G.andThen (n5 E (bare 10 id ty p) l) (fun x1 l1=> .ok (x1,l1))=G.andThen (G.andThen (G.shaped fL E l) (fun v1 r1=>G.done (0,[],[],v1) r1)) _;simp only [n5,bm,then_assoc,then_ok,G.done];rfl
theorem Iw (E id ty p:Int) (l:List Tok):eB E (cD 11) (bare 11 id ty p) l=G.andThen (bD E 11 l) fun y r=> .ok (fill (bare 11 id ty p) y,r):=by
 show G.andThen (aJ E (bare 11 id ty p) l) (fun x1 l1=>G.andThen (eP E 15 x1 l1) (fun x2 l2=> .ok (x2,l2)))=G.andThen (G.andThen (G.value aH E l) (fun v1 r1=>G.andThen (G.number bO E 0 15 r1) (fun v2 r2=>G.done (v2,[v1],[],[]) r2))) _;simp only [eP,aJ,bm,then_assoc,then_ok,G.done];rfl
theorem JA (E id ty p:Int) (l:List Tok):eB E (cD 12) (bare 12 id ty p) l=G.andThen (bD E 12 l) fun y r=> .ok (fill (bare 12 id ty p) y,r):=by
 show G.andThen (aJ E (bare 12 id ty p) l) (fun x1 l1=>G.andThen (eP E 15 x1 l1) (fun x2 l2=> .ok (x2,l2)))=G.andThen (G.andThen (G.value aH E l) (fun v1 r1=>G.andThen (G.number bO E 0 15 r1) (fun v2 r2=>G.done (v2,[v1],[],[]) r2))) _;simp only [eP,aJ,bm,then_assoc,then_ok,G.done];rfl
theorem J2 (E id ty p:Int) (l:List Tok):eB E (cD 13) (bare 13 id ty p) l=G.andThen (bD E 13 l) fun y r=> .ok (fill (bare 13 id ty p) y,r):=by
 show G.andThen (aJ E (bare 13 id ty p) l) (fun x1 l1=>G.andThen (eP E 15 x1 l1) (fun x2 l2=>G.andThen (aJ E x2 l2) (fun x3 l3=> .ok (x3,l3))))=G.andThen (G.andThen (G.value aH E l) (fun v1 r1=>G.andThen (G.number bO E 0 15 r1) (fun v2 r2=>G.andThen (G.value aH E r2) (fun v3 r3=>G.done (v2,[v1,v3],[],[]) r3)))) _;simp only [eP,aJ,bm,then_assoc,then_ok,G.done];rfl
theorem IL (E id ty p:Int) (l:List Tok):eB E (cD 14) (bare 14 id ty p) l=G.andThen (bD E 14 l) fun y r=> .ok (fill (bare 14 id ty p) y,r):=by
 show G.andThen (aJ E (bare 14 id ty p) l) (fun x1 l1=>G.andThen (eP E 15 x1 l1) (fun x2 l2=>G.andThen (aJ E x2 l2) (fun x3 l3=> .ok (x3,l3))))=G.andThen (G.andThen (G.value aH E l) (fun v1 r1=>G.andThen (G.number bO E 0 15 r1) (fun v2 r2=>G.andThen (G.value aH E r2) (fun v3 r3=>G.done (v2,[v1,v3],[],[]) r3)))) _;simp only [eP,aJ,bm,then_assoc,then_ok,G.done];rfl
theorem IA (E id ty p:Int) (l:List Tok):eB E (cD 15) (bare 15 id ty p) l=G.andThen (bD E 15 l) fun y r=> .ok (fill (bare 15 id ty p) y,r):=by
 show G.andThen (aJ E (bare 15 id ty p) l) (fun x1 l1=>G.andThen (eP E 15 x1 l1) (fun x2 l2=> .ok (x2,l2)))=G.andThen (G.andThen (G.value aH E l) (fun v1 r1=>G.andThen (G.number bO E 0 15 r1) (fun v2 r2=>G.done (v2,[v1],[],[]) r2))) _;simp only [eP,aJ,bm,then_assoc,then_ok,G.done];rfl
theorem IZ (E id ty p:Int) (l:List Tok):eB E (cD 23) (bare 23 id ty p) l=G.andThen (bD E 23 l) fun y r=> .ok (fill (bare 23 id ty p) y,r):=by
 show G.andThen (eP E 1048576 (bare 23 id ty p) l) (fun x1 l1=> .ok (x1,l1))=G.andThen (G.andThen (G.number bO E 0 1048576 l) (fun v1 r1=>G.done (v1,[],[],[]) r1)) _;simp only [eP,bm,then_assoc,then_ok,G.done];rfl
theorem JH (E id ty p:Int) (l:List Tok):eB E (cD 24) (bare 24 id ty p) l=G.andThen (bD E 24 l) fun y r=> .ok (fill (bare 24 id ty p) y,r):=by
 show G.andThen (aJ E (bare 24 id ty p) l) (fun x1 l1=>G.andThen (eP E 1048576 x1 l1) (fun x2 l2=> .ok (x2,l2)))=G.andThen (G.andThen (G.value aH E l) (fun v1 r1=>G.andThen (G.number bO E 0 1048576 r1) (fun v2 r2=>G.done (v2,[v1],[],[]) r2))) _;simp only [eP,aJ,bm,then_assoc,then_ok,G.done];rfl
theorem Iu (E id ty p:Int) (l:List Tok):eB E (cD 26) (bare 26 id ty p) l=G.andThen (bD E 26 l) fun y r=> .ok (fill (bare 26 id ty p) y,r):=by
 show G.andThen (ic E (bare 26 id ty p) l) (fun x1 l1=> .ok (x1,l1))=G.andThen (G.andThen (G.label aH E l) (fun v1 r1=>G.done (0,[],[v1],[]) r1)) _;simp only [ic,bm,then_assoc,then_ok,G.done];rfl
theorem Jh (E id ty p:Int) (l:List Tok):eB E (cD 27) (bare 27 id ty p) l=G.andThen (bD E 27 l) fun y r=> .ok (fill (bare 27 id ty p) y,r):=by
 show G.andThen (aJ E (bare 27 id ty p) l) (fun x1 l1=>G.andThen (ic E x1 l1) (fun x2 l2=>G.andThen (ic E x2 l2) (fun x3 l3=> .ok (x3,l3))))=G.andThen (G.andThen (G.value aH E l) (fun v1 r1=>G.andThen (G.label aH E r1) (fun v2 r2=>G.andThen (G.label aH E r2) (fun v3 r3=>G.done (0,[v1],[v2,v3],[]) r3)))) _;simp only [ic,aJ,bm,then_assoc,then_ok,G.done];rfl
theorem I6 (E id ty p:Int) (l:List Tok):eB E (cD 29) (bare 29 id ty p) l=G.andThen (bD E 29 l) fun y r=> .ok (fill (bare 29 id ty p) y,r):=by
 show G.andThen (eP E 255 (bare 29 id ty p) l) (fun x1 l1=> .ok (x1,l1))=G.andThen (G.andThen (G.number bO E 0 255 l) (fun v1 r1=>G.done (v1,[],[],[]) r1)) _;simp only [eP,bm,then_assoc,then_ok,G.done];rfl
theorem KE (E id ty p:Int) (l:List Tok):eB E (cD 2) (bare 2 id ty p) l=G.andThen (bD E 2 l) fun y r=> .ok (fill (bare 2 id ty p) y,r):=by
 have e:bD E 2 l=G.andThen (G.aY aH E 2 [] l) fun a=>G.done (0,a,[],[]):=by
  have h:eD 2=2:=by decide
  rw [←h];rfl
 rw [e];show G.andThen (aJ E (bare 2 id ty p) l) (fun x1 l1=>G.andThen (aJ E x1 l1) (fun x2 l2=> .ok (x2,l2)))=_;simp only [aJ,bm,then_assoc,then_ok,G.done,G.aY];rfl
theorem Ko (E id ty p:Int) (l:List Tok):eB E (cD 3) (bare 3 id ty p) l=G.andThen (bD E 3 l) fun y r=> .ok (fill (bare 3 id ty p) y,r):=by
 have e:bD E 3 l=G.andThen (G.aY aH E 2 [] l) fun a=>G.done (0,a,[],[]):=by
  have h:eD 3=2:=by decide
  rw [←h];rfl
 rw [e];show G.andThen (aJ E (bare 3 id ty p) l) (fun x1 l1=>G.andThen (aJ E x1 l1) (fun x2 l2=> .ok (x2,l2)))=_;simp only [aJ,bm,then_assoc,then_ok,G.done,G.aY];rfl
theorem Kx (E id ty p:Int) (l:List Tok):eB E (cD 4) (bare 4 id ty p) l=G.andThen (bD E 4 l) fun y r=> .ok (fill (bare 4 id ty p) y,r):=by
 have e:bD E 4 l=G.andThen (G.aY aH E 2 [] l) fun a=>G.done (0,a,[],[]):=by
  have h:eD 4=2:=by decide
  rw [←h];rfl
 rw [e];show G.andThen (aJ E (bare 4 id ty p) l) (fun x1 l1=>G.andThen (aJ E x1 l1) (fun x2 l2=> .ok (x2,l2)))=_;simp only [aJ,bm,then_assoc,then_ok,G.done,G.aY];rfl
theorem KF (E id ty p:Int) (l:List Tok):eB E (cD 5) (bare 5 id ty p) l=G.andThen (bD E 5 l) fun y r=> .ok (fill (bare 5 id ty p) y,r):=by
 have e:bD E 5 l=G.andThen (G.aY aH E 2 [] l) fun a=>G.done (0,a,[],[]):=by
  have h:eD 5=2:=by decide
  rw [←h];rfl
 rw [e];show G.andThen (aJ E (bare 5 id ty p) l) (fun x1 l1=>G.andThen (aJ E x1 l1) (fun x2 l2=> .ok (x2,l2)))=_;simp only [aJ,bm,then_assoc,then_ok,G.done,G.aY];rfl
theorem Kg (E id ty p:Int) (l:List Tok):eB E (cD 6) (bare 6 id ty p) l=G.andThen (bD E 6 l) fun y r=> .ok (fill (bare 6 id ty p) y,r):=by
 have e:bD E 6 l=G.andThen (G.aY aH E 2 [] l) fun a=>G.done (0,a,[],[]):=by
  have h:eD 6=2:=by decide
  rw [←h];rfl
 rw [e];show G.andThen (aJ E (bare 6 id ty p) l) (fun x1 l1=>G.andThen (aJ E x1 l1) (fun x2 l2=> .ok (x2,l2)))=_;simp only [aJ,bm,then_assoc,then_ok,G.done,G.aY];rfl
theorem Ke (E id ty p:Int) (l:List Tok):eB E (cD 7) (bare 7 id ty p) l=G.andThen (bD E 7 l) fun y r=> .ok (fill (bare 7 id ty p) y,r):=by
 have e:bD E 7 l=G.andThen (G.aY aH E 2 [] l) fun a=>G.done (0,a,[],[]):=by
  have h:eD 7=2:=by decide
  rw [←h];rfl
 rw [e];show G.andThen (aJ E (bare 7 id ty p) l) (fun x1 l1=>G.andThen (aJ E x1 l1) (fun x2 l2=> .ok (x2,l2)))=_;simp only [aJ,bm,then_assoc,then_ok,G.done,G.aY];rfl
theorem KN (E id ty p:Int) (l:List Tok):eB E (cD 8) (bare 8 id ty p) l=G.andThen (bD E 8 l) fun y r=> .ok (fill (bare 8 id ty p) y,r):=by
 have e:bD E 8 l=G.andThen (G.aY aH E 0 [] l) fun a=>G.done (0,a,[],[]):=by
  have h:eD 8=0:=by decide
  rw [←h];rfl
 rw [e];show(.ok (bare 8 id ty p,l):Except Er (Ins × List Tok))=_;simp only [then_ok,G.done,G.aY];rfl
theorem KR (E id ty p:Int) (l:List Tok):eB E (cD 9) (bare 9 id ty p) l=G.andThen (bD E 9 l) fun y r=> .ok (fill (bare 9 id ty p) y,r):=by
 have e:bD E 9 l=G.andThen (G.aY aH E 2 [] l) fun a=>G.done (0,a,[],[]):=by
  have h:eD 9=2:=by decide
  rw [←h];rfl
 rw [e];show G.andThen (aJ E (bare 9 id ty p) l) (fun x1 l1=>G.andThen (aJ E x1 l1) (fun x2 l2=> .ok (x2,l2)))=_;simp only [aJ,bm,then_assoc,then_ok,G.done,G.aY];rfl
theorem Jn (E id ty p:Int) (l:List Tok):eB E (cD 16) (bare 16 id ty p) l=G.andThen (bD E 16 l) fun y r=> .ok (fill (bare 16 id ty p) y,r):=by
 have e:bD E 16 l=G.andThen (G.aY aH E 1 [] l) fun a=>G.done (0,a,[],[]):=by
  have h:eD 16=1:=by decide
  rw [←h];rfl
 rw [e];show G.andThen (aJ E (bare 16 id ty p) l) (fun x1 l1=> .ok (x1,l1))=_;simp only [aJ,bm,then_assoc,then_ok,G.done,G.aY];rfl
theorem I5 (E id ty p:Int) (l:List Tok):eB E (cD 17) (bare 17 id ty p) l=G.andThen (bD E 17 l) fun y r=> .ok (fill (bare 17 id ty p) y,r):=by
 have e:bD E 17 l=G.andThen (G.aY aH E 1 [] l) fun a=>G.done (0,a,[],[]):=by
  have h:eD 17=1:=by decide
  rw [←h];rfl
 rw [e];show G.andThen (aJ E (bare 17 id ty p) l) (fun x1 l1=> .ok (x1,l1))=_;simp only [aJ,bm,then_assoc,then_ok,G.done,G.aY];rfl
theorem IF (E id ty p:Int) (l:List Tok):eB E (cD 18) (bare 18 id ty p) l=G.andThen (bD E 18 l) fun y r=> .ok (fill (bare 18 id ty p) y,r):=by
 have e:bD E 18 l=G.andThen (G.aY aH E 2 [] l) fun a=>G.done (0,a,[],[]):=by
  have h:eD 18=2:=by decide
  rw [←h];rfl
 rw [e];show G.andThen (aJ E (bare 18 id ty p) l) (fun x1 l1=>G.andThen (aJ E x1 l1) (fun x2 l2=> .ok (x2,l2)))=_;simp only [aJ,bm,then_assoc,then_ok,G.done,G.aY];rfl
theorem JN (E id ty p:Int) (l:List Tok):eB E (cD 19) (bare 19 id ty p) l=G.andThen (bD E 19 l) fun y r=> .ok (fill (bare 19 id ty p) y,r):=by
 have e:bD E 19 l=G.andThen (G.aY aH E 2 [] l) fun a=>G.done (0,a,[],[]):=by
  have h:eD 19=2:=by decide
  rw [←h];rfl
 rw [e];show G.andThen (aJ E (bare 19 id ty p) l) (fun x1 l1=>G.andThen (aJ E x1 l1) (fun x2 l2=> .ok (x2,l2)))=_;simp only [aJ,bm,then_assoc,then_ok,G.done,G.aY];rfl
theorem Jj (E id ty p:Int) (l:List Tok):eB E (cD 22) (bare 22 id ty p) l=G.andThen (bD E 22 l) fun y r=> .ok (fill (bare 22 id ty p) y,r):=by
 have e:bD E 22 l=G.andThen (G.aY aH E 1 [] l) fun a=>G.done (0,a,[],[]):=by
  have h:eD 22=1:=by decide
  rw [←h];rfl
 rw [e];show G.andThen (aJ E (bare 22 id ty p) l) (fun x1 l1=> .ok (x1,l1))=_;simp only [aJ,bm,then_assoc,then_ok,G.done,G.aY];rfl
theorem Iz (E id ty p:Int) (l:List Tok):eB E (cD 25) (bare 25 id ty p) l=G.andThen (bD E 25 l) fun y r=> .ok (fill (bare 25 id ty p) y,r):=by
 have e:bD E 25 l=G.andThen (G.aY aH E 1 [] l) fun a=>G.done (0,a,[],[]):=by
  have h:eD 25=1:=by decide
  rw [←h];rfl
 rw [e];show G.andThen (aJ E (bare 25 id ty p) l) (fun x1 l1=> .ok (x1,l1))=_;simp only [aJ,bm,then_assoc,then_ok,G.done,G.aY];rfl
theorem II (E id ty p:Int) (l:List Tok):eB E (cD 28) (bare 28 id ty p) l=G.andThen (bD E 28 l) fun y r=> .ok (fill (bare 28 id ty p) y,r):=by
 show G.andThen (gZ E (bare 28 id ty p) l) (fun x1 l1=> .ok (x1,l1))=G.andThen (G.sk aH E l) _;unfold gZ G.sk
 cases ht:G.taken l with
 |false=>rfl
 |true=>
  rw [if_pos rfl,if_pos rfl];simp only [aJ,bm,then_assoc,then_ok,G.done];rfl
theorem FQ (E:Int) (x:Ins) (l:List Tok) (hx:x.2.2.1=0):fj E x l=G.andThen (G.spot aH E l) fun n r=> .ok (fB x n,r):=by
 unfold fj G.spot gD;by_cases h:(ak l).head? =some 64
 ·rw [if_pos (by simpa using h),if_pos h];rfl
 ·rw [if_neg (by simpa using h),if_neg h];show _=Except.ok (fB x 0,l);rw [show fB x 0=x from by unfold fB;rw [←hx]]
theorem J3 (E id ty p:Int) (l:List Tok):eB E (cD 21) (bare 21 id ty p) l=G.andThen (bD E 21 l) fun y r=> .ok (fill (bare 21 id ty p) y,r):=by
 show G.andThen (fj E (bare 21 id ty p) l) (fun x1 l1=>G.andThen (sd E x1 l1) (fun x2 l2=>G.andThen (nz E x2 l2) (fun x3 l3=> .ok (x3,l3))))=G.andThen (G.andThen (G.spot aH E l) fun n r=>G.andThen (G.name ib E r) fun s r=>G.andThen (G.values aH E r) fun a=>G.done (n,a,[],s)) _;rw [FQ E _ l rfl];simp only [sd,bm,then_assoc,then_ok,G.done];refine dx fun n r _=>dx fun s r2 _=> ?_;show G.andThen (nA E (r2.length+1) _ r2) _=G.andThen (G.bQ aH E (r2.length+1) [] r2) _;rw [Ee (r2.length+1) (r2.length+1) _ r2 (by omega) (by omega),then_assoc];rfl
theorem Jl (E id ty p:Int) (l:List Tok):eB E (cD 20) (bare 20 id ty p) l=G.andThen (bD E 20 l) fun y r=> .ok (fill (bare 20 id ty p) y,r):=by
 show G.andThen (ic E (bare 20 id ty p) l) (fun x1 l1=>G.andThen (aJ E x1 l1) (fun x2 l2=>G.andThen (oU E x2 l2) (fun x3 l3=> .ok (x3,l3))))=G.andThen (G.andThen (G.ku aH E (l.length+1) [] [] l) fun x=>G.done (0,x.2,x.1,[])) _;conv=>rhs;unfold G.ku
 rw [if_pos (.inl rfl)];simp only [ic,aJ,bm,then_assoc,then_ok,G.done];refine dx fun b r hb=>dx fun v r2 hv=> ?_;obtain⟨h1,h2,_⟩:=G.ik hb;obtain⟨h3,h4,_⟩:=G.bZ hv;have t1:=bS h1;have t2:=bS h3;show G.andThen (mi E (r2.length+1) _ r2) _=G.andThen (G.ku aH E l.length [b] [v] r2) _;rw [DU (r2.length+1) l.length _ r2 (by omega) (by rw [h4];rw [h2] at *;omega) (by simp [addArg,eT]),then_assoc];rfl
theorem Ix (E op id ty p:Int) (l:List Tok) (ho:1≤op∧op≤29):eB E (cD op) (bare op id ty p) l=G.andThen (bD E op l) fun y r=> .ok (fill (bare op id ty p) y,r):=by
 obtain rfl | rfl | rfl | rfl | rfl | rfl | rfl | rfl | rfl | rfl | rfl | rfl | rfl | rfl | rfl | rfl | rfl | rfl | rfl | rfl | rfl | rfl | rfl | rfl | rfl | rfl | rfl | rfl | rfl:op=1∨op=2∨op=3∨op=4∨op=5∨op=6∨op=7∨op=8∨op=9∨op=10∨op=11∨op=12∨op=13∨op=14∨op=15∨op=16∨op=17∨op=18∨op=19∨op=20∨op=21∨op=22∨op=23∨op=24∨op=25∨op=26∨op=27∨op=28∨op=29:=by omega
 ·exact KM E id ty p l
 ·exact KE E id ty p l
 ·exact Ko E id ty p l
 ·exact Kx E id ty p l
 ·exact KF E id ty p l
 ·exact Kg E id ty p l
 ·exact Ke E id ty p l
 ·exact KN E id ty p l
 ·exact KR E id ty p l
 ·exact IK E id ty p l
 ·exact Iw E id ty p l
 ·exact JA E id ty p l
 ·exact J2 E id ty p l
 ·exact IL E id ty p l
 ·exact IA E id ty p l
 ·exact Jn E id ty p l
 ·exact I5 E id ty p l
 ·exact IF E id ty p l
 ·exact JN E id ty p l
 ·exact Jl E id ty p l
 ·exact J3 E id ty p l
 ·exact Jj E id ty p l
 ·exact IZ E id ty p l
 ·exact JH E id ty p l
 ·exact Iz E id ty p l
 ·exact Iu E id ty p l
 ·exact Jh E id ty p l
 ·exact II E id ty p l
 ·exact I6 E id ty p l
theorem ix (E:Int) (l:List Tok):G.um bO aH ib fL eD jG lk E l=jV E l:=by
 unfold G.um G.Dz G.start jV Ce;rw [then_assoc];refine dx fun id r _=> ?_;show G.andThen (G.andThen (G.oS jG lk E id r) fun o=>G.done (id,o.1,o.2)) _=_;rw [then_assoc];refine dx fun o r2 ho=> ?_;have hz:o.1≠0∧o=jG (ak r):=by
  obtain⟨h1,h2,h3,h4,_⟩:=G.ng sn ho;exact⟨h4,h3⟩
 have hr:1≤o.1∧o.1≤29:=by
  rcases Au (ak r)with h | h
  ·rw [←hz.2] at h;exact absurd h hz.1
  ·rw [←hz.2] at h;exact h
 show G.andThen (bD E o.1 r2) _=_;rw [Ix E o.1 id o.2 (ft E l) r2 hr];rfl
theorem aI {w:World} {b e s n:Nat} {v:Value} {xs:List Value} (h:w.ownsRow b e s v n xs):∃(ao:Option Addr) (cap:Nat),v= .slice ao n cap:=by
 rcases h.2 with ⟨hv,hn⟩ | ⟨g,cap,cur,hv,_⟩
 ·exact⟨none,0,by rw [hv,hn]⟩
 ·exact⟨_,_,hv⟩
def dt (B:Nat) (w:World):List Ins→List Value→Prop
 |[],cs=>cs= []
 |x :: r,cs=>∃va vt rest,cs=au x va vt ++ rest∧w.ownsRow B 3 1 va x.2.2.2.2.1.length (ints x.2.2.2.2.1)∧w.ownsRow B 3 1 vt x.2.2.2.2.2.1.length (ints x.2.2.2.2.2.1)∧dt B w r rest
theorem dt.keep {B B':Nat} {w w':World} (hk:∀(v:Value) (n:Nat) (xs:List Value),w.ownsRow B 3 1 v n xs→w'.ownsRow B' 3 1 v n xs):∀(l:List Ins) (cs:List Value),dt B w l cs→dt B' w' l cs:=by
 intro l;induction l with
 |nil=>intro cs h;exact h
 |cons x r ih=>
  rintro cs ⟨va,vt,rest,h1,h2,h3,h4⟩;exact⟨va,vt,rest,h1,hk _ _ _ h2,hk _ _ _ h3,ih rest h4⟩
theorem dt.snoc {B:Nat} {w:World} {x:Ins} {va vt:Value} (h1:w.ownsRow B 3 1 va x.2.2.2.2.1.length (ints x.2.2.2.2.1)) (h2:w.ownsRow B 3 1 vt x.2.2.2.2.2.1.length (ints x.2.2.2.2.2.1)):∀(l:List Ins) (cs:List Value),dt B w l cs→dt B w (l ++ [x]) (cs ++ au x va vt):=by
 intro l;induction l with
 |nil=>intro cs h;cases h;exact⟨va,vt,[],by simp,h1,h2,rfl⟩
 |cons y r ih=>
  rintro cs ⟨ua,ut,rest,rfl,h4,h5,h6⟩;exact⟨ua,ut,rest ++ au x va vt,by simp,h4,h5,ih rest h6⟩
def bU (B:Nat) (xs:List Ins) (v:Value) (w:World):Prop:=∃cs,w.ownsRow B 48 8 v xs.length cs∧dt B w xs cs
theorem aB {w w':World} (b:Below w.heap.size w w') (B e s:Nat):∀(v:Value) (n:Nat) (xs:List Value),w.ownsRow B e s v n xs→w'.ownsRow B e s v n xs:=
 fun v _ _ h=>h.kept (L2.vn b) (by cases v.ownBlock <;> simp)
theorem fe {w w':World} {row:Value} {B B' e s e' s' n:Nat} {xs:List Value} (hg:w.grownBy w' row.ownBlock) (hr:w.ownsRow B' e' s' row n xs) (he:e≠e'):∀(v:Value) (m:Nat) (ys:List Value),w.ownsRow B e s v m ys→w'.ownsRow B e s v m ys:=
 fun _ _ _ h=>h.kept hg (Bn h hr he)
theorem bU.below {B:Nat} {xs:List Ins} {v:Value} {w w':World} (h:bU B xs v w) (b:Below w.heap.size w w'):bU B xs v w':=by
 obtain⟨cs,h1,h2⟩:=h;exact⟨cs,aB b _ _ _ _ _ _ h1,dt.keep (aB b B 3 1) _ _ h2⟩
theorem bU.base {B B':Nat} {xs:List Ins} {v:Value} {w:World} (h:bU B xs v w) (hB:B'≤B):bU B' xs v w:=by
 obtain⟨cs,h1,h2⟩:=h;exact⟨cs,aO h1 hB,dt.keep (fun _ _ _ h=>aO h hB) _ _ h2⟩
theorem Tryz.JT:(Tryz.prog.info? 48).map (fun i=>(i.zero,i.size,i.bytes))=some (some (.agg #[.int .i64 0,.int .i64 0,.int .i64 0,.int .i64 0,.slice none 0 0,.slice none 0 0,.string ⟨#[]⟩,.int .i64 0]),8,104):=by kernel_rfl
theorem pA {w:World} {x:Ins} {va vt:Value}:∀(j:Nat) (u:Value),(au x va vt)[j]? =some u→(w.alloc (.cells (au x va vt).toArray 48)).cell? ((⟨w.heap.size,0,none⟩:Addr).add j)=some u:=
 World.news_of_block (cs:=(au x va vt).toArray) (heap_alloc_new w _)
theorem A2 {x:Ins} {ao ap:Option Addr} {m n c d:Nat}:∀u∈au x (.slice ao m c) (.slice ap n d),u.oneCell'=true:=by
 intro u hu;simp only [au,List.mem_cons,List.not_mem_nil,or_false] at hu;rcases hu with rfl | rfl | rfl | rfl | rfl | rfl | rfl | rfl <;> rfl
abbrev jO (E:Int) (k n:Nat):G.Rd (List Ins × Nat):=G.block bO aH ib fL eD jG lk rN E k n
abbrev mE (E:Int) (f n:Nat) (acc:List Ins):G.Rd (List Ins × Nat):=G.rW bO aH ib fL eD jG lk E f n acc
theorem nS {E:Int} {f n:Nat} {acc:List Ins} {l:List Tok} (h:ak l= [125]∨br l= [58]):mE E (f+1) n acc l= .ok ((acc,n),l):=by
 unfold mE G.rW;rw [if_pos h]
theorem vv {E:Int} {f n:Nat} {acc:List Ins} {l:List Tok} (h:¬(ak l= [125]∨br l= [58])) (hn:4096≤n):mE E (f+1) n acc l= .error (6,ft E l):=by
 unfold mE G.rW;rw [if_neg h,if_pos hn]
theorem yK {E:Int} {f n:Nat} {acc:List Ins} {l:List Tok} {er:Er} (h:¬(ak l= [125]∨br l= [58])) (hn:n < 4096) (hi:jV E l= .error er):mE E (f+1) n acc l= .error er:=by
 unfold mE G.rW;rw [if_neg h,if_neg (by omega),ix,hi];rfl
theorem EG {E:Int} {f n:Nat} {acc:List Ins} {l l':List Tok} {x:Ins} (h:¬(ak l= [125]∨br l= [58])) (hn:n < 4096) (hi:jV E l= .ok (x,l')):mE E (f+1) n acc l=mE E f (n+1) (acc ++ [x]) l':=by
 conv=>lhs;unfold mE G.rW
 rw [if_neg h,if_neg (by omega),ix,hi];rfl
theorem kN {E:Int} {l l':List Tok} {x:Ins} (h:jV E l= .ok (x,l')):l'.length < l.length:=by
 rw [←ix] at h;obtain⟨h1,h2⟩:=G.xL nR nL ya sn l x l' h;have:=h2.length_le;have:=bS h1;omega
theorem bU.snoc {B:Nat} {acc:List Ins} {x:Ins} {v v2 va vt:Value} {cs:List Value} {w w2:World} {o:Obj} (oR:w.ownsRow B 48 8 v acc.length cs) (hR:dt B w acc cs) (o1:w.ownsRow B 3 1 va x.2.2.2.2.1.length (ints x.2.2.2.2.1)) (o2:w.ownsRow B 3 1 vt x.2.2.2.2.2.1.length (ints x.2.2.2.2.2.1))
  (own:w2.ownsRow B 48 8 v2 (acc.length+1) (cs ++ au x va vt)) (grow:(w.alloc o).grownBy w2 v.ownBlock):bU B (acc ++ [x]) v2 w2:=by
 have key:∀(v':Value) (n:Nat) (xs:List Value),w.ownsRow B 3 1 v' n xs→w2.ownsRow B 3 1 v' n xs:=fun v' n xs h=>fe grow (oR.alloc o) (by decide) _ _ _ (h.alloc o);exact⟨cs ++ au x va vt,by rw [List.length_append];exact own,dt.snoc (key _ _ _ o1) (key _ _ _ o2) _ _ (dt.keep key _ _ hR)⟩
end Go.Proofs.YtfdhemcahjommaaGreatDoor
