/- Texts of one chain, joined. -/
import Derived.Test.YtljkgcfnoegibaaGreatDoorZOAA
import Derived.Test.YtljkgcfnoegibaaGreatDoorZAAM
set_option maxHeartbeats 1000000
set_option maxRecDepth 20000
namespace Go.Proofs.YtljkgcfnoegibaaGreatDoor
open Go Go.RowKit
open G (Tok Er Ins Fun peek0 peek1 fG)
def GI (E:Int) (x:Ins):Prop:=I64 x.2.1∧I64 x.2.2.1∧(∀i∈x.2.2.2.2.1,I64 i)∧(∀i∈x.2.2.2.2.2.1,I64 i)∧x.2.2.2.2.1.length≤140000∧x.2.2.2.2.2.1.length≤140000∧x.2.2.2.2.2.2.1.length≤65536∧0≤x.2.2.2.2.2.2.2∧x.2.2.2.2.2.2.2≤E
theorem jP {v m:Int} (h:0≤v∧v≤m) (hm:m≤9223372036854775807):I64 v:=⟨by omega,by omega⟩
theorem GI.arg {E:Int} {x:Ins} {v:Int} (h:GI E x) (hv:I64 v) (hl:x.2.2.2.2.1.length < 140000):GI E (addArg x v):=by
 obtain⟨h1,h2,h3,h4,h5,h6⟩:=h;refine⟨h1,h2,fun i hi=> ?_,h4,by simp [addArg];omega,h6⟩;rcases List.mem_append.1 hi with hi | hi
 ·exact h3 i hi
 ·rw [List.mem_singleton.1 hi];exact hv
theorem GI.to {E:Int} {x:Ins} {v:Int} (h:GI E x) (hv:I64 v) (hl:x.2.2.2.2.2.1.length < 140000):GI E (dt x v):=by
 obtain⟨h1,h2,h3,h4,h5,h6,h7⟩:=h;refine⟨h1,h2,h3,fun i hi=> ?_,h5,by simp [dt];omega,h7⟩;rcases List.mem_append.1 hi with hi | hi
 ·exact h4 i hi
 ·rw [List.mem_singleton.1 hi];exact hv
theorem GI.bare {E op id ty p:Int} (h1:I64 id) (h2:0≤p∧p≤E):GI E (op,id,0,ty,[],[],[],p):=⟨h1,⟨by simp,by simp⟩,by simp,by simp,by simp,by simp,by simp,h2⟩
def Adv (L:List Tok) (q:Nat) (ec:Int) (q':Nat) (ec':Int) (d:Nat):Prop:=q≤q'∧(q'≤q∨q'≤L.length)∧(ec'=0→ec=0∧q+d≤q')
theorem Adv.refl {L:List Tok} (q:Nat) (ec:Int):Adv L q ec q ec 0:=⟨Nat.le_refl _,.inl (Nat.le_refl _),fun e=>⟨e,Nat.le_refl _⟩⟩
theorem Adv.trans {L:List Tok} {q q1 q2 d1 d2:Nat} {e e1 e2:Int} (h:Adv L q e q1 e1 d1) (k:Adv L q1 e1 q2 e2 d2):Adv L q e q2 e2 (d1+d2):=by
 obtain⟨h1,h2,h3⟩:=h;obtain⟨k1,k2,k3⟩:=k;refine⟨by omega,by omega,fun z=> ?_⟩;obtain⟨z1,z2⟩:=k3 z;obtain⟨z3,z4⟩:=h3 z1;exact⟨z3,by omega⟩
theorem Adv.less {L:List Tok} {q q' d d':Nat} {e e':Int} (h:Adv L q e q' e' d) (hd:d'≤d):Adv L q e q' e' d':=⟨h.1,h.2.1,fun z=>⟨(h.2.2 z).1,by have:=(h.2.2 z).2;omega⟩⟩
def left (a N:Nat) (w:World):Nat:=if intOf ((w.cell? ⟨a,4,none⟩).getD (.int .i64 0))=0 then N+1 - bQ a w else 0
theorem RA.left {a:Nat} {L:List Tok} {E:Int} {q n:Nat} {ec:Int} {w:World} (h:RA a L E q n ec w):YtljkgcfnoegibaaGreatDoor.left a L.length w=if ec=0 then L.length+1 - q else 0:=by
 obtain⟨c1,_,c4,_⟩:=h.at1;unfold YtljkgcfnoegibaaGreatDoor.left bQ;rw [c1,c4];by_cases he:ec=0 <;> simp [intOf,he]
theorem jU {a:Nat} {L:List Tok} {E:Int} {q q' n n' d:Nat} {ec':Int} {w w':World} (h:RA a L E q n 0 w) (h':RA a L E q' n' ec' w') (ad:Adv L q 0 q' ec' d) (hd:0 < d):YtljkgcfnoegibaaGreatDoor.left a L.length w' < YtljkgcfnoegibaaGreatDoor.left a L.length w:=by
 rw [h.left,h'.left,if_pos rfl];have h1:=(h.lim.2.2.2.2 rfl).2;split
 ·rename_i hz;have:=(ad.2.2 hz).2;have:=(h'.lim.2.2.2.2 hz).2;omega
 ·omega
abbrev ID:Array Value:= #[.int .i64 0,.int .i64 0,.int .i64 0,.int .i64 0,.slice none 0 0,.slice none 0 0,.string ⟨#[]⟩,.int .i64 0]
def cq (w:World) (a c g:Nat) (L:List Tok) (E:Int) (q n:Nat) (ec:Int) (x:Ins) (wk:World):Prop:=
 RA a L E q n ec wk∧cU w.heap.size c x wk∧wk.heap[g]? =some (.cells ID 47 (0,0))∧Kr a w wk∧(a < w.heap.size∧w.heap.size≤g∧g≠c)∧GI E x
section
variable {w:World} {a c g:Nat} {L:List Tok} {E:Int} {q n q' n':Nat} {ec ec':Int} {x y:Ins} {wk wk':World}
theorem cq.lt (h:cq w a c g L E q n ec x wk):a < w.heap.size∧w.heap.size≤g∧w.heap.size≤c∧c < wk.heap.size∧g < wk.heap.size∧g≠c∧w.heap.size≤wk.heap.size:=by
 obtain⟨h1,h2,h3,h4,⟨h5,h6,h7⟩,_⟩:=h;exact⟨h5,h6,h2.lt.2,h2.lt.1,(Array.getElem?_eq_some_iff.1 h3).1,h7,h4.size⟩
theorem cq.kr (h:cq w a c g L E q n ec x wk) (r:RA a L E q' n' ec' wk') (k:Kr a wk wk'):cq w a c g L E q' n' ec' x wk':=by
 have hl:=h.lt;obtain⟨h1,h2,h3,h4,h5,h6⟩:=h;exact⟨r,h2.kX fun i i1 i2=>k.2.2.2.2 i i2 (by omega),(k.2.2.2.2 g (by omega) (by omega)).trans h3,h4.trans k,h5,h6⟩
theorem cq.below (h:cq w a c g L E q n ec x wk) (b:Below wk.heap.size wk wk'):cq w a c g L E q n ec x wk':=h.kr (h.1.below b) (Kr.bJ b)
theorem cq.ran {d:Nat} (h:cq w a c g L E q n ec x wk) (r:Ran a L E n q ec d wk wk'):∃q' ec',cq w a c g L E q' n ec' x wk'∧Adv L q ec q' ec' d:=by
 obtain⟨q',ec',r1,k,ad⟩:=r;exact⟨q',ec',h.kr r1 k,ad⟩
theorem py {i:Nat} {v:Value} (h4:Kr a w wk) (hc:w.heap.size≤c):Kr a w (wk.setCell ⟨c,i,none⟩ v):=by
 have hb:=(Below.refl 0 wk).setCell (p:=⟨c,i,none⟩) (Nat.zero_le c) v;exact⟨hb.os.trans h4.1,hb.tape.trans h4.2.1,hb.output.trans h4.2.2.1,Nat.le_trans h4.size hb.size,fun k k1 k2=>(Below.heap_setCell wk ⟨c,i,none⟩ v k (by show k≠c;omega)).trans (h4.2.2.2.2 k k1 k2)⟩
theorem cq.put {i:Nat} {v:Value} (h:cq w a c g L E q n ec x wk) (hy:cU w.heap.size c y (wk.setCell ⟨c,i,none⟩ v)) (gy:GI E y):cq w a c g L E q n ec y (wk.setCell ⟨c,i,none⟩ v):=by
 have hl:=h.lt;obtain⟨h1,h2,h3,h4,h5,h6⟩:=h;obtain⟨cs,hc⟩:∃cs,wk.heap[c]? =some (.cells cs 47 (0,0)):=by obtain⟨va,vt,k1,_⟩:=h2;exact⟨_,k1⟩
 exact⟨h1.set hc (by decide) (by omega) i v,hy,(Below.heap_setCell _ _ _ _ (fun e=>h5.2.2 e)).trans h3,py h4 (by omega),h5,gy⟩
theorem cq.grow {w3:World} {row:Value} {m i:Nat} {ys:List Value} {v:Value} (h:cq w a c g L E q n ec x wk) (hg:wk.grownBy w3 row.ownBlock) (hr:wk.ownsRow w.heap.size 3 1 row m ys) (hy:cU w.heap.size c y (w3.setCell ⟨c,i,none⟩ v)) (gy:GI E y):cq w a c g L E q n ec y (w3.setCell ⟨c,i,none⟩ v):=by
 have hl:=h.lt;obtain⟨h1,h2,h3,h4,h5,h6⟩:=h;obtain⟨cs,hc⟩:∃cs,wk.heap[c]? =some (.cells cs 47 (0,0)):=by obtain⟨va,vt,k1,_⟩:=h2;exact⟨_,k1⟩
 have hc3:=(hg.block c hl.2.2.2.1 (fun e=>aU hr hc (by decide) e.symm)).trans hc;exact⟨(h1.grown hg hr (by decide) h5.1).set hc3 (by decide) (by omega) i v,hy,(Below.heap_setCell _ _ _ _ (fun e=>h5.2.2 e)).trans ((hg.block g (by omega) (fun e=>aU hr h3 (by decide) e.symm)).trans h3),py (h4.grown hg fun q hq=>(hr.lt q hq).1) (by omega),h5,gy⟩
theorem cU.va {B:Nat} {va:Value} (h:cU B c x wk) (hc:wk.cell? ⟨c,4,none⟩=some va):wk.ownsRow B 3 1 va x.2.2.2.2.1.length (ints x.2.2.2.2.1):=by
 obtain⟨va',vt,k1,k2,k3,k4,k5⟩:=h;have:wk.cell? ⟨c,4,none⟩=some va':=by simp [World.cell?,k1,ak]
 rw [hc] at this;cases this;exact k2
theorem cU.vt {B:Nat} {vt:Value} (h:cU B c x wk) (hc:wk.cell? ⟨c,5,none⟩=some vt):wk.ownsRow B 3 1 vt x.2.2.2.2.2.1.length (ints x.2.2.2.2.2.1):=by
 obtain⟨va,vt',k1,k2,k3,k4,k5⟩:=h;have:wk.cell? ⟨c,5,none⟩=some vt':=by simp [World.cell?,k1,ak]
 rw [hc] at this;cases this;exact k3
theorem cq.arg {gg cap:Nat} {k:Int} {va:Value} {w3:World} (h:cq w a c g L E q n ec x wk) (hc:wk.cell? ⟨c,4,none⟩=some va)
  (hown:w3.ownsRow w.heap.size 3 1 (.slice (some ⟨gg,0,none⟩) (x.2.2.2.2.1.length+1) cap) (x.2.2.2.2.1.length+1) (ints x.2.2.2.2.1 ++ [.int .i64 k])) (hg:wk.grownBy w3 va.ownBlock) (hat:va.ownBlock=some gg∨gg=wk.heap.size) (hk:I64 k) (hl:x.2.2.2.2.1.length < 140000):
  cq w a c g L E q n ec (addArg x k) (w3.setCell ⟨c,4,none⟩ (.slice (some ⟨gg,0,none⟩) (x.2.2.2.2.1.length+1) cap)):=
 h.grow hg (h.2.1.va hc) (h.2.1.arg hc hown hg hat) (h.2.2.2.2.2.arg hk hl)
theorem cq.to {gg cap:Nat} {k:Int} {vt:Value} {w3:World} (h:cq w a c g L E q n ec x wk) (hc:wk.cell? ⟨c,5,none⟩=some vt)
  (hown:w3.ownsRow w.heap.size 3 1 (.slice (some ⟨gg,0,none⟩) (x.2.2.2.2.2.1.length+1) cap) (x.2.2.2.2.2.1.length+1) (ints x.2.2.2.2.2.1 ++ [.int .i64 k])) (hg:wk.grownBy w3 vt.ownBlock) (hat:vt.ownBlock=some gg∨gg=wk.heap.size) (hk:I64 k) (hl:x.2.2.2.2.2.1.length < 140000):
  cq w a c g L E q n ec (dt x k) (w3.setCell ⟨c,5,none⟩ (.slice (some ⟨gg,0,none⟩) (x.2.2.2.2.2.1.length+1) cap)):=
 h.grow hg (h.2.1.vt hc) (h.2.1.to hc hown hg hat) (h.2.2.2.2.2.to hk hl)
end
def mw (a:Nat) (L:List Tok) (E:Int) (n q:Nat) (ec:Int) (d:Nat) (w:World) (e:Ending) (w':World):Prop:=
 ∃v y,e= .returned v∧pK w.heap.size y v w'∧GI E y∧Ran a L E n q ec d w w'
section
variable {w:World} {a c g:Nat} {L:List Tok} {E:Int} {q n q':Nat} {ec ec':Int} {x y:Ins} {wk wk':World}
theorem cq.tail {d:Nat} (h:cq w a c g L E q' n ec' x wk) (ad:Adv L q ec q' ec' d):∃aoA mA cA aoT mT cT,(∀i v,(ak x (.slice aoA mA cA) (.slice aoT mT cT))[i]? =some v→wk.cell? ⟨c,i,none⟩=some v)∧G4 g wk∧c≠g∧
  ∀W,Far g wk W→mw a L E n q ec d w (.returned (.agg (ak x (.slice aoA mA cA) (.slice aoT mT cT)).toArray)) W:=by
 have hl:=h.lt;obtain⟨h1,h2,h3,h4,h5,h6⟩:=h;obtain⟨va,vt,HC,HZ,o1,o2,o3⟩:=h2.cells;obtain⟨aoA,mA,cA,rfl⟩:=aN o1;obtain⟨aoT,mT,cT,rfl⟩:=aN o2;obtain⟨o3a,o3b⟩:=o3 g ⟨_,_,h3⟩;exact⟨aoA,mA,cA,aoT,mT,cT,HC,kz h3,fun e=>h5.2.2 e.symm,fun W hW=>⟨_,x,rfl,⟨_,_,rfl,hW.own o1 o3a,hW.own o2 o3b⟩,h6,q',ec',hW.ra h1 h3 (by decide) (by omega),hW.kr h4 h5.2.1,ad⟩⟩
theorem cq.pass {d d':Nat} {e:Ending} (h:cq w a c g L E q' n ec' x wk) (ad:Adv L q ec q' ec' d) (o:mw a L E n q' ec' d' wk e wk'):∃y aoA mA cA aoT mT cT,e= .returned (.agg (ak y (.slice aoA mA cA) (.slice aoT mT cT)).toArray)∧G4 g wk'∧
  ∀W,Far g wk' W→mw a L E n q ec (d+d') w (.returned (.agg (ak y (.slice aoA mA cA) (.slice aoT mT cT)).toArray)) W:=by
 have hl:=h.lt;obtain⟨v,y,rfl,⟨va,vt,rfl,o1,o2⟩,gy,q2,ec2,r,k,ad2⟩:=o;obtain⟨h1,h2,h3,h4,h5,h6⟩:=h;obtain⟨aoA,mA,cA,rfl⟩:=aN o1;obtain⟨aoT,mT,cT,rfl⟩:=aN o2;have hS:=(k.2.2.2.2 g hl.2.2.2.2.1 (by omega)).trans h3;exact⟨y,aoA,mA,cA,aoT,mT,cT,rfl,kz hS,fun W hW=>⟨_,y,rfl,⟨_,_,rfl,aT (hW.own o1 (aU o1 hS (by decide))) hl.2.2.2.2.2.2,aT (hW.own o2 (aU o2 hS (by decide))) hl.2.2.2.2.2.2⟩,gy,q2,ec2,hW.ra r hS (by decide) (by omega),hW.kr (h4.trans k) h5.2.1,ad.trans ad2⟩⟩
end
theorem cq.start {w:World} {a:Nat} {L:List Tok} {E:Int} {q n:Nat} {ec:Int} (h:RA a L E q n ec w) (op id ty p:Int) (h1:I64 id) (h2:0≤p∧p≤E):
  cq w a (w.heap.size+1+1) (w.heap.size+1) L E q n ec (op,id,0,ty,[],[],[],p) (((w.alloc (.cells (al op id 0 ty (bs []) p) 47)).alloc (.cells (al 0 0 0 0 ⟨#[]⟩ 0) 47)).alloc (.cells (al op id 0 ty (bs []) p) 47)):=by
 have b1:=ah w (.cells (al op id 0 ty (bs []) p) 47);have b2:=ah (w.alloc (.cells (al op id 0 ty (bs []) p) 47)) (.cells (al 0 0 0 0 ⟨#[]⟩ 0) 47);have b3:=ah ((w.alloc (.cells (al op id 0 ty (bs []) p) 47)).alloc (.cells (al 0 0 0 0 ⟨#[]⟩ 0) 47)) (.cells (al op id 0 ty (bs []) p) 47);have s1:(w.alloc (.cells (al op id 0 ty (bs []) p) 47)).heap.size=w.heap.size+1:=by simp
 have s2:((w.alloc (.cells (al op id 0 ty (bs []) p) 47)).alloc (.cells (al 0 0 0 0 ⟨#[]⟩ 0) 47)).heap.size=w.heap.size+2:=by simp
 refine⟨((h.below b1).below b2).below b3,⟨.slice none 0 0,.slice none 0 0,bV w op id 0 ty (bs []) p,World.ownsRow_nil _ _ _ _,World.ownsRow_nil _ _ _ _,.inl rfl,by omega⟩,?_,Kr.bJ (af (af b1 b2) b3),⟨h.lt,by omega,by omega⟩,GI.bare h1 h2⟩;refine(b3.block (w.heap.size+1) (by rw [s2];omega)).trans ?_;rw [←s1];exact heap_alloc_new _ _
theorem GI.n {E:Int} {x:Ins} {v:Int} (h:GI E x) (hv:I64 v):GI E (dO x v):=⟨h.1,hv,h.2.2⟩
theorem GI.name {E:Int} {x:Ins} {s:List UInt8} (h:GI E x) (hs:s.length≤65536):GI E (setName x s):=by
 obtain⟨h1,h2,h3,h4,h5,h6,h7,h8⟩:=h;exact⟨h1,h2,h3,h4,h5,h6,hs,h8⟩
section
variable {w:World} {a c g:Nat} {L:List Tok} {E:Int} {q n:Nat} {ec:Int} {x:Ins} {w1:World}
theorem cq.ready (h:cq w a c g L E q n ec x w1) (v:Int) {i m:Nat} {va:Value} {ys:List Value} (hc:w1.cell? ⟨c,i,none⟩=some va) (hz:w1.frozen? ⟨c,i,none⟩=false) (o:w1.ownsRow w.heap.size 3 1 va m ys):∃ao cp,w1.cell? ⟨c,i,none⟩=some (.slice ao m cp)∧w1.frozen? ⟨c,i,none⟩=false∧(w1.alloc (.cells #[.int .i64 v] 3)).cell? ⟨c,i,none⟩=some (.slice ao m cp)∧(w1.alloc (.cells #[.int .i64 v] 3)).frozen? ⟨c,i,none⟩=false∧
  (Value.slice ao m cp).ownBlock≠some c∧Hid ((w1.alloc (.cells #[.int .i64 v] 3)).ownsRow w.heap.size 3 1 (.slice ao m cp) m ys)∧w.heap.size≤(w1.alloc (.cells #[.int .i64 v] 3)).heap.size∧c < (w1.alloc (.cells #[.int .i64 v] 3)).heap.size:=by
 have hl:=h.lt;obtain⟨ao,cp,rfl⟩:=aL o;obtain⟨cB,zB⟩:=Cel.below (ah w1 (.cells #[.int .i64 v] 3)) hl.2.2.2.1 hc hz;obtain⟨ua,ut,q1,_⟩:=h.2.1;exact⟨ao,cp,hc,hz,cB,zB,aU o q1 (by decide),ae (o.alloc _),by simp;omega,by simp;omega⟩
theorem cq.mU (h:cq w a c g L E q n ec x w1) (v:Int):∃ao cp,w1.cell? ⟨c,4,none⟩=some (.slice ao x.2.2.2.2.1.length cp)∧w1.frozen? ⟨c,4,none⟩=false∧(w1.alloc (.cells #[.int .i64 v] 3)).cell? ⟨c,4,none⟩=some (.slice ao x.2.2.2.2.1.length cp)∧(w1.alloc (.cells #[.int .i64 v] 3)).frozen? ⟨c,4,none⟩=false∧
  (Value.slice ao x.2.2.2.2.1.length cp).ownBlock≠some c∧Hid ((w1.alloc (.cells #[.int .i64 v] 3)).ownsRow w.heap.size 3 1 (.slice ao x.2.2.2.2.1.length cp) x.2.2.2.2.1.length (ints x.2.2.2.2.1))∧w.heap.size≤(w1.alloc (.cells #[.int .i64 v] 3)).heap.size∧c < (w1.alloc (.cells #[.int .i64 v] 3)).heap.size:=by
 obtain⟨va,vt,HC,HZ,o1,o2,o3⟩:=h.2.1.cells;exact h.ready v (HC 4 _ rfl) (HZ 4) o1
theorem cq.uj (h:cq w a c g L E q n ec x w1) (v:Int):∃ao cp,w1.cell? ⟨c,5,none⟩=some (.slice ao x.2.2.2.2.2.1.length cp)∧w1.frozen? ⟨c,5,none⟩=false∧(w1.alloc (.cells #[.int .i64 v] 3)).cell? ⟨c,5,none⟩=some (.slice ao x.2.2.2.2.2.1.length cp)∧(w1.alloc (.cells #[.int .i64 v] 3)).frozen? ⟨c,5,none⟩=false∧
  (Value.slice ao x.2.2.2.2.2.1.length cp).ownBlock≠some c∧Hid ((w1.alloc (.cells #[.int .i64 v] 3)).ownsRow w.heap.size 3 1 (.slice ao x.2.2.2.2.2.1.length cp) x.2.2.2.2.2.1.length (ints x.2.2.2.2.2.1))∧w.heap.size≤(w1.alloc (.cells #[.int .i64 v] 3)).heap.size∧c < (w1.alloc (.cells #[.int .i64 v] 3)).heap.size:=by
 obtain⟨va,vt,HC,HZ,o1,o2,o3⟩:=h.2.1.cells;exact h.ready v (HC 5 _ rfl) (HZ 5) o2
end
section
variable {a:Nat} {L:List Tok} {E:Int} {q n:Nat} {ec:Int}
theorem IC (s:List UInt8) (op id ty p:Int) (w:World) (h:RA a L E q n ec w) (h1:I64 id) (h2:0≤p∧p≤E) (hs:∀c∈s,c=118∨c=115∨c=110∨c=108) (hsl:s.length≤100):
  Calls Tryz.prog 138 #[.pointer (some ⟨a,0,none⟩),.agg (al op id 0 ty (bs []) p),.string (bs s)] w (mw a L E n q ec 0 w):=by
 have HS:=ae hs;have hz:(bs s).size≤100:=by rw [aY];exact hsl
 have HZ:=ae (aY s);clear hs;obtain⟨i0,hi0,hz0,hz1,hz2⟩:=info_parts Tryz.cr;have M0:=ae (cq.start h op id ty p h1 h2);have hlm:=h.lim;clear h h1 h2;generalize hg:w.heap.size+1=g at *;generalize hc:g+1=c at *;go_enter Tryz.func138,Tryz.ntmps138
 go_upto_region 2 with fail
 show Code.wp _ _ _ _ (((w.alloc (.cells (al op id 0 ty (bs []) p) 47)).alloc (.cells (al 0 0 0 0 ⟨#[]⟩ 0) 47)).alloc (.cells (al op id 0 ty (bs []) p) 47));generalize ((w.alloc (.cells (al op id 0 ty (bs []) p) 47)).alloc (.cells (al 0 0 0 0 ⟨#[]⟩ 0) 47)).alloc (.cells (al op id 0 ty (bs []) p) 47)=W0 at *;clear hg hc;go_wp2_with fail
 go_loopw [8] (fun i wr=>∃(k:Nat) (x':Ins) (q':Nat) (ec':Int),i= .int .i64 k∧k≤s.length∧x'.2.2.2.2.1.length≤k∧x'.2.2.2.2.2.1.length≤k∧Hid (cq w a c g L E q' n ec' x' wr)∧Hid (Adv L q ec q' ec' 0)) (fun i _=>s.length - (intOf i).toNat)
 case atStart=>exact⟨0,_,q,ec,rfl,Nat.zero_le _,Nat.le_refl _,Nat.le_refl _,M0,ae (Adv.refl _ _)⟩
 case round=>
  obtain⟨k,x',q',ec',rfl,hk,hA,hT,M,AD⟩:=hrel;by_cases hlt:k < s.length
  ·obtain⟨d,hd,hdr⟩:=sX hlt;obtain⟨hkz,hb⟩:=Fq hd;have HD:=HS.out d (List.mem_of_getElem? hd);have hkz':(k:Int) < ((bs s).size:Int):=(by omega);clear hd hdr;rcases HD with rfl | rfl | rfl | rfl
   ·have hb1:((bs s)[k].toNat:Int)=118:=(by rw [hb];rfl);clear hb;go_wp2_with fail
    refine(pZ _ M.out.1).mono ?_;rintro e w1 ⟨⟨v,rfl,hv⟩,a1⟩;obtain⟨q1,ec1,m1,ad1⟩:=M.out.ran a1;have AD1:=ae ((AD.out.trans ad1).less (Nat.zero_le _));have M1:=ae m1;have HV:=ae hv;clear M a1 m1 ad1 hv AD;obtain⟨ao5,cp5,cA,zA,cB,zB,hne,O5,t45,t55⟩:=M1.out.mU v;have t25:x'.2.2.2.2.1.length+1≤maxLen:=(by unfold maxLen;omega);have t35:(x'.2.2.2.2.1.length+1) * 8≤140737488355328:=(by omega);go_wp2_with (at_builtin;refine wpList_append_lies _ rfl (.tmp 26) (.tmp 28) 33 rfl w.heap.size 3 i0 _ 1 8 Tryz.underlying33 hi0 hz0 hz1 hz2 rfl (by decide) _ _ _ rfl O5.out ⟨w1.heap.size,0,none⟩ 1 1 [.int .i64 v] rfl rfl aM bt (by decide) t25 t35 t45 (w1.heap.size+1) (by simp) ?_;intro gg5 cap5 w5 hown5 hgrow5 hat5 hlt5;obtain⟨cC5,zC5⟩:=Cel.grown hgrow5 t55 hne cB zB)
    have M3:=ae ((M1.out.below (ah w1 (.cells #[.int .i64 v] 3))).arg cB hown5 hgrow5 (hat5.imp (fun e=>e) (fun e=>e.trans (by simp))) (jP HV.out (by omega)) (by omega));go_roundw
    case rel=>exact⟨k+1,_,q1,ec1,by go_num,by omega,by(show _≤_+1;grind [addArg,dt,dO]),by(show _≤_+1;grind [addArg,dt,dO]),M3,AD1⟩
    case measure=>simp [intOf];omega
   ·have hb1:((bs s)[k].toNat:Int)=115:=(by rw [hb];rfl);clear hb;go_wp2_with fail
    refine(oN 0 15 _ M.out.1).mono ?_;rintro e w1 ⟨⟨v,rfl,hv⟩,a1⟩;obtain⟨q1,ec1,m1,ad1⟩:=M.out.ran a1;have AD1:=ae ((AD.out.trans ad1).less (Nat.zero_le _));have M1:=ae m1;have HV:=ae hv;clear M a1 m1 ad1 hv AD;obtain⟨va,vt,HC,HZ4,o1,o2,o3⟩:=M1.out.2.1.cells;have cA:=HC 2 _ rfl;have zA:=HZ4 2;have M3:=ae (M1.out.put (M1.out.2.1.dO v) (M1.out.2.2.2.2.2.n HV.out));clear HC HZ4 o1 o2 o3;go_wp2_with fail
    go_roundw
    case rel=>exact⟨k+1,_,q1,ec1,by go_num,by omega,by(show _≤_+1;grind [addArg,dt,dO]),by(show _≤_+1;grind [addArg,dt,dO]),M3,AD1⟩
    case measure=>simp [intOf];omega
   ·have hb1:((bs s)[k].toNat:Int)=110:=(by rw [hb];rfl);clear hb;go_wp2_with fail
    refine(oN 0 1048576 _ M.out.1).mono ?_;rintro e w1 ⟨⟨v,rfl,hv⟩,a1⟩;obtain⟨q1,ec1,m1,ad1⟩:=M.out.ran a1;have AD1:=ae ((AD.out.trans ad1).less (Nat.zero_le _));have M1:=ae m1;have HV:=ae hv;clear M a1 m1 ad1 hv AD;obtain⟨va,vt,HC,HZ4,o1,o2,o3⟩:=M1.out.2.1.cells;have cA:=HC 2 _ rfl;have zA:=HZ4 2;have M3:=ae (M1.out.put (M1.out.2.1.dO v) (M1.out.2.2.2.2.2.n HV.out));clear HC HZ4 o1 o2 o3;go_wp2_with fail
    go_roundw
    case rel=>exact⟨k+1,_,q1,ec1,by go_num,by omega,by(show _≤_+1;grind [addArg,dt,dO]),by(show _≤_+1;grind [addArg,dt,dO]),M3,AD1⟩
    case measure=>simp [intOf];omega
   ·have hb1:((bs s)[k].toNat:Int)=108:=(by rw [hb];rfl);clear hb;go_wp2_with fail
    refine(zv _ M.out.1).mono ?_;rintro e w1 ⟨⟨v,rfl,hv⟩,a1⟩;obtain⟨q1,ec1,m1,ad1⟩:=M.out.ran a1;have AD1:=ae ((AD.out.trans ad1).less (Nat.zero_le _));have M1:=ae m1;have HV:=ae hv;clear M a1 m1 ad1 hv AD;obtain⟨ao5,cp5,cA,zA,cB,zB,hne,O5,t45,t55⟩:=M1.out.uj v;have t25:x'.2.2.2.2.2.1.length+1≤maxLen:=(by unfold maxLen;omega);have t35:(x'.2.2.2.2.2.1.length+1) * 8≤140737488355328:=(by omega);go_wp2_with (at_builtin;refine wpList_append_lies _ rfl (.tmp 46) (.tmp 48) 33 rfl w.heap.size 3 i0 _ 1 8 Tryz.underlying33 hi0 hz0 hz1 hz2 rfl (by decide) _ _ _ rfl O5.out ⟨w1.heap.size,0,none⟩ 1 1 [.int .i64 v] rfl rfl aM bt (by decide) t25 t35 t45 (w1.heap.size+1) (by simp) ?_;intro gg5 cap5 w5 hown5 hgrow5 hat5 hlt5;obtain⟨cC5,zC5⟩:=Cel.grown hgrow5 t55 hne cB zB)
    have M3:=ae ((M1.out.below (ah w1 (.cells #[.int .i64 v] 3))).to cB hown5 hgrow5 (hat5.imp (fun e=>e) (fun e=>e.trans (by simp))) (jP HV.out (by omega)) (by omega));go_roundw
    case rel=>exact⟨k+1,_,q1,ec1,by go_num,by omega,by(show _≤_+1;grind [addArg,dt,dO]),by(show _≤_+1;grind [addArg,dt,dO]),M3,AD1⟩
    case measure=>simp [intOf];omega
  ·have hkz':¬(k:Int) < ((bs s).size:Int):=(by have:=HZ.out;omega);have hkz2:decide ((k:Int) < ((bs s).size:Int))=false:=(by simpa using hkz');obtain⟨aoA,mA,cA,aoT,mT,cT,HC,⟨s0,s1,s2,s3,s4,s5,s6,s7,f0,f1,f2,f3,f4,f5,f6,f7⟩,hcn,HF⟩:=M.out.tail AD.out;have y0:=HC 0 _ rfl;have y1:=HC 1 _ rfl;have y2:=HC 2 _ rfl;have y3:=HC 3 _ rfl;have y4:=HC 4 _ rfl;have y5:=HC 5 _ rfl;have y6:=HC 6 _ rfl;have y7:=HC 7 _ rfl;have FF:=ae (HF _ (((((((((Far.refl g wr).set 0 (.int .i64 x'.1)).set 1 (.int .i64 x'.2.1)).set 2 (.int .i64 x'.2.2.1)).set 3 (.int .i64 x'.2.2.2.1)).set 4 (.slice aoA mA cA)).set 5 (.slice aoT mT cT)).set 6 (.string (bs x'.2.2.2.2.2.2.1))).set 7 (.int .i64 x'.2.2.2.2.2.2.2)));clear HC HF;go_wp2_with fail
   exact bodyPost_ret (v:= .agg (ak x' (.slice aoA mA cA) (.slice aoT mT cT)).toArray) (by simp [results,Tryz.results138,go_sem,ak,s0,s1,s2,s3,s4,s5,s6,s7]) rfl FF.out
theorem MC (op id ty p:Int) (w:World) (h:RA a L E q n ec w) (h1:I64 id) (h2:0≤p∧p≤E):
  Calls Tryz.prog 135 #[.pointer (some ⟨a,0,none⟩),.agg (al op id 0 ty (bs []) p)] w (mw a L E n q ec 0 w):=by
 obtain⟨i0,hi0,hz0,hz1,hz2⟩:=info_parts Tryz.cr;have M0:=ae (cq.start h op id ty p h1 h2);have hlm:=h.lim;clear h h1 h2;generalize hg:w.heap.size+1=g at *;generalize hc:g+1=c at *;go_enter Tryz.func135,Tryz.ntmps135
 go_upto_region 2 with fail
 show Code.wp _ _ _ _ (((w.alloc (.cells (al op id 0 ty (bs []) p) 47)).alloc (.cells (al 0 0 0 0 ⟨#[]⟩ 0) 47)).alloc (.cells (al op id 0 ty (bs []) p) 47));generalize ((w.alloc (.cells (al op id 0 ty (bs []) p) 47)).alloc (.cells (al 0 0 0 0 ⟨#[]⟩ 0) 47)).alloc (.cells (al op id 0 ty (bs []) p) 47)=W0 at *;clear hg hc;go_wp2_with fail
 go_loopw [] (fun wr=>∃(ar tt:List Int) (q':Nat) (ec':Int),Hid (cq w a c g L E q' n ec' (op,id,0,ty,ar,tt,[],p) wr)∧Hid (Adv L q ec q' ec' 0)∧tt.length≤L.length+1∧ar.length≤L.length+1∧(ec'=0→tt.length≤q'∧ar.length≤q')) (fun wr=>left a L.length wr)
 case atStart=>exact⟨[],[],q,ec,M0,ae (Adv.refl _ _),by simp,by simp,fun _=>by simp⟩
 case round=>
  obtain⟨ar,tt,q',ec',M,AD,hT,hA,hTA⟩:=hrel;have hlm':=M.out.1.lim;obtain⟨va0,vt0,HC0,HZ0,o10,o20,o30⟩:=M.out.2.1.cells;obtain⟨ao0,cp0,rfl⟩:=aL o20;have q5:wr.cell? ⟨c,5,none⟩=some (.slice ao0 tt.length cp0):=HC0 5 _ rfl;have q4:=M.out.1.at1.2.2.1;clear HC0 HZ0 o10 o20 o30;by_cases he:ec'=0
  ·subst he;have hta:=hTA rfl;have hlz:=hlm'.2.2.2.2 rfl;have MM:=M;clear hTA;by_cases ht0:tt= []
   ·have hto:((tt.length:Int) == 0)=true:=(by rw [ht0];rfl);have M5:=M;clear M ht0;go_wp2_with fail
    clear hto q4 q5;refine(zv _ M5.out.1).mono ?_;rintro e w2 ⟨⟨b,rfl,hb⟩,a2⟩;obtain⟨q1,ec1,m1,ad1⟩:=M5.out.ran a2;have M1:=ae m1;have HB:=ae hb;have AD1:=ae ad1;clear M5 a2 m1 hb ad1;go_wp2_with fail
    refine(pZ _ M1.out.1).mono ?_;rintro e w3 ⟨⟨v,rfl,hv⟩,a3⟩;obtain⟨q2,ec2,m2,ad2⟩:=M1.out.ran a3;have M2:=ae m2;have HV:=ae hv;have AD2:=ae (AD1.out.trans ad2);clear M1 a3 m2 hv ad2 AD1;obtain⟨ao7,cp7,cA,zA,cB,zB,hne,O7,t47,t57⟩:=M2.out.uj b;have t27:tt.length+1≤maxLen:=(by unfold maxLen;omega);have t37:(tt.length+1) * 8≤140737488355328:=(by omega);go_upto_region 6 with (at_builtin;refine wpList_append_lies _ rfl (.tmp 30) (.tmp 32) 33 rfl w.heap.size 3 i0 _ 1 8 Tryz.underlying33 hi0 hz0 hz1 hz2 rfl (by decide) _ _ _ rfl O7.out ⟨w3.heap.size,0,none⟩ 1 1 [.int .i64 b] rfl rfl aM bt (by decide) t27 t37 t47 (w3.heap.size+1) (by simp) ?_;intro gg7 cap7 w7 hown7 hgrow7 hat7 hlt7;obtain⟨cC7,zC7⟩:=Cel.grown hgrow7 t57 hne cB zB)
    have M3:=ae ((M2.out.below (ah w3 (.cells #[.int .i64 b] 3))).to cB hown7 hgrow7 (hat7.imp (fun e=>e) (fun e=>e.trans (by simp))) (jP HB.out (by omega)) (show tt.length < 140000 by omega));show Code.wp _ _ _ _ (w7.setCell ⟨c,5,none⟩ (.slice (some ⟨gg7,0,none⟩) (tt.length+1) cap7));have M3:Hid (cq w a c g L E q2 n ec2 (op,id,0,ty,ar,tt ++ [b],[],p) (w7.setCell ⟨c,5,none⟩ (.slice (some ⟨gg7,0,none⟩) (tt.length+1) cap7))):=M3;clear cC7 zC7 hown7 hgrow7 hat7 hlt7 O7 cA zA cB zB hne t27 t37 t47 t57 M2;generalize w7.setCell ⟨c,5,none⟩ (.slice (some ⟨gg7,0,none⟩) (tt.length+1) cap7)=W7 at *;obtain⟨ao8,cp8,cA,zA,cB,zB,hne,O8,t48,t58⟩:=M3.out.mU v;have t28:ar.length+1≤maxLen:=(by unfold maxLen;omega);have t38:(ar.length+1) * 8≤140737488355328:=(by omega);go_wp2_with (at_builtin;refine wpList_append_lies _ rfl (.tmp 36) (.tmp 38) 33 rfl w.heap.size 3 i0 _ 1 8 Tryz.underlying33 hi0 hz0 hz1 hz2 rfl (by decide) _ _ _ rfl O8.out ⟨W7.heap.size,0,none⟩ 1 1 [.int .i64 v] rfl rfl aM bt (by decide) t28 t38 t48 (W7.heap.size+1) (by simp) ?_;intro gg8 cap8 w8 hown8 hgrow8 hat8 hlt8;obtain⟨cC8,zC8⟩:=Cel.grown hgrow8 t58 hne cB zB)
    have M4:=ae ((M3.out.below (ah W7 (.cells #[.int .i64 v] 3))).arg cB hown8 hgrow8 (hat8.imp (fun e=>e) (fun e=>e.trans (by simp))) (jP HV.out (by omega)) (show ar.length < 140000 by omega));have hlm4:=M4.out.1.lim;have AD4:=ae ((AD.out.trans AD2.out).less (Nat.zero_le _));have ad2:=AD2.out;unfold Adv at ad2;have hms:=ae (jU MM.out.1 M4.out.1 AD2.out (by omega));go_roundw
    case rel=>exact⟨ar ++ [v],tt ++ [b],q2,ec2,M4,AD4,by simp;omega,by simp;omega,fun e=>by simp;omega⟩
    case measure=>exact hms.out
   ·have hto:((tt.length:Int) == 0)=false:=by cases tt with
     |nil=>exact absurd rfl ht0
     |cons x y=>simp;omega
    clear ht0;go_wp2_with fail
    refine(Kz _ M.out.1).mono ?_;rintro e w1 ⟨⟨pb,rfl⟩,b1⟩;have M5:=ae (M.out.below b1);clear M b1 q4 q5
    cases pb with
    |true=>
     go_wp2_with fail
     clear hto;refine(zv _ M5.out.1).mono ?_;rintro e w2 ⟨⟨b,rfl,hb⟩,a2⟩;obtain⟨q1,ec1,m1,ad1⟩:=M5.out.ran a2;have M1:=ae m1;have HB:=ae hb;have AD1:=ae ad1;clear M5 a2 m1 hb ad1;go_wp2_with fail
     refine(pZ _ M1.out.1).mono ?_;rintro e w3 ⟨⟨v,rfl,hv⟩,a3⟩;obtain⟨q2,ec2,m2,ad2⟩:=M1.out.ran a3;have M2:=ae m2;have HV:=ae hv;have AD2:=ae (AD1.out.trans ad2);clear M1 a3 m2 hv ad2 AD1;obtain⟨ao7,cp7,cA,zA,cB,zB,hne,O7,t47,t57⟩:=M2.out.uj b;have t27:tt.length+1≤maxLen:=(by unfold maxLen;omega);have t37:(tt.length+1) * 8≤140737488355328:=(by omega);go_upto_region 6 with (at_builtin;refine wpList_append_lies _ rfl (.tmp 30) (.tmp 32) 33 rfl w.heap.size 3 i0 _ 1 8 Tryz.underlying33 hi0 hz0 hz1 hz2 rfl (by decide) _ _ _ rfl O7.out ⟨w3.heap.size,0,none⟩ 1 1 [.int .i64 b] rfl rfl aM bt (by decide) t27 t37 t47 (w3.heap.size+1) (by simp) ?_;intro gg7 cap7 w7 hown7 hgrow7 hat7 hlt7;obtain⟨cC7,zC7⟩:=Cel.grown hgrow7 t57 hne cB zB)
     have M3:=ae ((M2.out.below (ah w3 (.cells #[.int .i64 b] 3))).to cB hown7 hgrow7 (hat7.imp (fun e=>e) (fun e=>e.trans (by simp))) (jP HB.out (by omega)) (show tt.length < 140000 by omega));show Code.wp _ _ _ _ (w7.setCell ⟨c,5,none⟩ (.slice (some ⟨gg7,0,none⟩) (tt.length+1) cap7));have M3:Hid (cq w a c g L E q2 n ec2 (op,id,0,ty,ar,tt ++ [b],[],p) (w7.setCell ⟨c,5,none⟩ (.slice (some ⟨gg7,0,none⟩) (tt.length+1) cap7))):=M3;clear cC7 zC7 hown7 hgrow7 hat7 hlt7 O7 cA zA cB zB hne t27 t37 t47 t57 M2;generalize w7.setCell ⟨c,5,none⟩ (.slice (some ⟨gg7,0,none⟩) (tt.length+1) cap7)=W7 at *;obtain⟨ao8,cp8,cA,zA,cB,zB,hne,O8,t48,t58⟩:=M3.out.mU v;have t28:ar.length+1≤maxLen:=(by unfold maxLen;omega);have t38:(ar.length+1) * 8≤140737488355328:=(by omega);go_wp2_with (at_builtin;refine wpList_append_lies _ rfl (.tmp 36) (.tmp 38) 33 rfl w.heap.size 3 i0 _ 1 8 Tryz.underlying33 hi0 hz0 hz1 hz2 rfl (by decide) _ _ _ rfl O8.out ⟨W7.heap.size,0,none⟩ 1 1 [.int .i64 v] rfl rfl aM bt (by decide) t28 t38 t48 (W7.heap.size+1) (by simp) ?_;intro gg8 cap8 w8 hown8 hgrow8 hat8 hlt8;obtain⟨cC8,zC8⟩:=Cel.grown hgrow8 t58 hne cB zB)
     have M4:=ae ((M3.out.below (ah W7 (.cells #[.int .i64 v] 3))).arg cB hown8 hgrow8 (hat8.imp (fun e=>e) (fun e=>e.trans (by simp))) (jP HV.out (by omega)) (show ar.length < 140000 by omega));have hlm4:=M4.out.1.lim;have AD4:=ae ((AD.out.trans AD2.out).less (Nat.zero_le _));have ad2:=AD2.out;unfold Adv at ad2;have hms:=ae (jU MM.out.1 M4.out.1 AD2.out (by omega));go_roundw
     case rel=>exact⟨ar ++ [v],tt ++ [b],q2,ec2,M4,AD4,by simp;omega,by simp;omega,fun e=>by simp;omega⟩
     case measure=>exact hms.out
    |false=>
     obtain⟨aoA,mA,cA,aoT,mT,cT,HC,⟨s0,s1,s2,s3,s4,s5,s6,s7,f0,f1,f2,f3,f4,f5,f6,f7⟩,hcn,HF⟩:=M5.out.tail AD.out;have y0:=HC 0 _ rfl;have y1:=HC 1 _ rfl;have y2:=HC 2 _ rfl;have y3:=HC 3 _ rfl;have y4:=HC 4 _ rfl;have y5:=HC 5 _ rfl;have y6:=HC 6 _ rfl;have y7:=HC 7 _ rfl;have FF:=ae (HF _ (((((((((Far.refl g w1).set 0 (.int .i64 op)).set 1 (.int .i64 id)).set 2 (.int .i64 0)).set 3 (.int .i64 ty)).set 4 (.slice aoA mA cA)).set 5 (.slice aoT mT cT)).set 6 (.string (bs []))).set 7 (.int .i64 p)));clear HC HF;go_wp2_with fail
     exact bodyPost_ret (v:= .agg (ak (op,id,0,ty,ar,tt,[],p) (.slice aoA mA cA) (.slice aoT mT cT)).toArray) (by simp [results,Tryz.results135,go_sem,ak,s0,s1,s2,s3,s4,s5,s6,s7]) rfl FF.out
  ·have he2:(ec' == 0)=false:=(by simpa using he);clear q5;obtain⟨aoA,mA,cA,aoT,mT,cT,HC,⟨s0,s1,s2,s3,s4,s5,s6,s7,f0,f1,f2,f3,f4,f5,f6,f7⟩,hcn,HF⟩:=M.out.tail AD.out;have y0:=HC 0 _ rfl;have y1:=HC 1 _ rfl;have y2:=HC 2 _ rfl;have y3:=HC 3 _ rfl;have y4:=HC 4 _ rfl;have y5:=HC 5 _ rfl;have y6:=HC 6 _ rfl;have y7:=HC 7 _ rfl;have FF:=ae (HF _ (((((((((Far.refl g wr).set 0 (.int .i64 op)).set 1 (.int .i64 id)).set 2 (.int .i64 0)).set 3 (.int .i64 ty)).set 4 (.slice aoA mA cA)).set 5 (.slice aoT mT cT)).set 6 (.string (bs []))).set 7 (.int .i64 p)));clear HC HF;go_wp2_with fail
   exact bodyPost_ret (v:= .agg (ak (op,id,0,ty,ar,tt,[],p) (.slice aoA mA cA) (.slice aoT mT cT)).toArray) (by simp [results,Tryz.results135,go_sem,ak,s0,s1,s2,s3,s4,s5,s6,s7]) rfl FF.out
end
end Go.Proofs.YtljkgcfnoegibaaGreatDoor
