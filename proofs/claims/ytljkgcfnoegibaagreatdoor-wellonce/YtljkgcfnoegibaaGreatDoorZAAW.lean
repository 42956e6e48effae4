/- Texts of one chain, joined. -/
import Derived.Test.YtljkgcfnoegibaaGreatDoorZAAV
set_option maxHeartbeats 2000000
set_option maxRecDepth 20000
namespace Go.Proofs.YtljkgcfnoegibaaGreatDoor
open Go Go.RowKit
open G (Tok Er Ins Fun)
def Chg (B:Nat) (w w':World):Prop:=Below B w w'∧∀(i:Nat) (a:Array Value) (t:TypeId) (z:Nat × Nat),w.heap[i]? =some (Obj.cells a t z)→w'.heap[i]? =some (Obj.cells a t z)
theorem Chg.bJ {B:Nat} {w w':World} (h:Below w.heap.size w w') (hB:B≤w.heap.size):Chg B w w':=
 ⟨⟨h.os,h.tape,h.output,h.size,fun i hi=>h.block i (by omega)⟩,fun i a t z hi=>(h.block i (Array.getElem?_eq_some_iff.1 hi).1).trans hi⟩
theorem Chg.trans {B:Nat} {w w1 w2:World} (h:Chg B w w1) (k:Chg B w1 w2):Chg B w w2:=⟨h.1.trans k.1,fun i a t z hi=>k.2 i a t z (h.2 i a t z hi)⟩
theorem Chg.vQ {B b:Nat} {w w':World} (h:w.grownBy w' (some b)) (hm:∃es c,w.heap[b]? =some (.map es c)) (hB:B≤w.heap.size) (hb:B≤b):Chg B w w':=
 ⟨cx h hB hb,fun i a t z hi=>(h.block i (Array.getElem?_eq_some_iff.1 hi).1 (by
  intro e;injection e with e;subst e;obtain⟨es,c,hm⟩:=hm;rw [hm] at hi
  cases hi)).trans hi⟩
theorem qS {w:World} {a:Addr} {v:Value} (h:w.cell? a=some v):∃x t z,w.heap[a.block]? =some (.cells x t z):=by
 unfold World.cell? at h;split at h
 ·rename_i x t z hx;exact⟨_,_,_,hx⟩
 ·cases h
theorem Chg.cell {B:Nat} {w w':World} (h:Chg B w w') {a:Addr} {v:Value} (hc:w.cell? a=some v):w'.cell? a=some v:=by
 obtain⟨x,t,z,hx⟩:=qS hc;have:=h.2 _ _ _ _ hx;unfold World.cell? at hc ⊢;rw [this];rw [hx] at hc;exact hc
def kp (f:Fun) (c:Nat→Nat→Int):Option (Int × Int):=bw (fun k=>bw (fun i=>atC (c k i) (au f k i).2.2.2.2.2.2.2) (aG f k).length) f.2.2.2.1.length
def ft (f:Fun) (c:Nat→Nat→Int):Int × Int:=(kp f c).getD (0,0)
theorem A7 {f:Fun} {c:Nat→Nat→Int} (h:∀k,k < f.2.2.2.1.length→∀i,i < (aG f k).length→c k i=0):ft f c=(0,0):=by
 unfold ft kp;rw [bh]
 ·rfl
 ·intro k hk;apply bh;intro i hi;simp [atC,h k hk i hi]
theorem BK {f:Fun} {c:Nat→Nat→Int} {K I:Nat} (h:∀k,k < K→∀i,i < (aG f k).length→c k i=0) (hr:∀i,i < I→c K i=0) (hK:K < f.2.2.2.1.length) (hI:I < (aG f K).length) (hc:c K I≠0):ft f c=(c K I,(au f K I).2.2.2.2.2.2.2):=by
 unfold ft kp;have e1:bw (fun i=>atC (c K i) (au f K i).2.2.2.2.2.2.2) (aG f K).length=some (c K I,(au f K I).2.2.2.2.2.2.2):=by
  refine bN (K:=I) (fun i hi=> ?_) hI ?_
  ·simp [atC,hr i hi]
  ·simp [atC,hc]
 have e2:bw (fun k=>bw (fun i=>atC (c k i) (au f k i).2.2.2.2.2.2.2) (aG f k).length) f.2.2.2.1.length=some (c K I,(au f K I).2.2.2.2.2.2.2):=bN (K:=K) (fun k hk=>bh fun i hi=>by simp [atC,h k hk i hi]) hK e1;rw [e2];rfl
theorem cJ (w:World) (a:Addr) (u:Value):w.grownBy (w.setCell a u) (some a.block):=by
 have b:=(Below.refl 0 w).setCell (p:=a) (Nat.zero_le _) u;exact⟨b.os,b.tape,b.output,b.size,fun i _ hi=>Below.heap_setCell w a u i (fun e=>hi (by rw [e]))⟩
theorem passed11_any (po ap ab:Option Addr) (pn pc an cp bn cb:Nat) (nm:ByteArray) (rt pl:Int) (src:Bool) (qb qo qn qc tr tb mb:Nat) (op id nn ty xp:Int) (ar tt:List Int) (xn:ByteArray) (ao to:Option Addr) (ca ct:Nat) (p:List Fun) (xm:List UInt8) (w:World) (hp:bK w p (.slice po pn pc)) (hpn:pn=p.length) (hl:p.length≤1000000) (hxn:xn=bs xm) (c:Int)
  (hc:c=match findF p xm with
   |none=>12
   |some g=>if g.2.2.1≠ty then 9 else if g.2.1.length≠ar.length then 13 else 0):
  Calls Tryz.prog 128 #[.agg #[.slice po pn pc,.string nm,.slice ap an cp,.int .i64 rt,.slice ab bn cb,.int .i64 pl,.bool src,.slice (some ⟨qb,qo,none⟩) qn qc,.pointer (some ⟨tr,0,none⟩),.map (some tb),.map (some mb)],.agg #[.int .i64 op,.int .i64 id,.int .i64 nn,.int .i64 ty,.slice ao ar.length ca,.slice to tt.length ct,.string xn,.int .i64 xp]] w fun e w'=>(∃u,e= .returned (.tuple #[u,.int .i64 c])∧(c=0→∃so sc sl,u= .slice so (List.length sl) sc∧Sl w' so sl∧sl=((findF p xm).getD ie).2.1∧sl.length=ar.length))∧Below w.heap.size w w':=by
 obtain⟨b0,h0,h1⟩:=kK w (.cells #[.slice po pn pc,.string nm,.slice ap an cp,.int .i64 rt,.slice ab bn cb,.int .i64 pl,.bool src,.slice (some ⟨qb,qo,none⟩) qn qc,.pointer (some ⟨tr,0,none⟩),.map (some tb),.map (some mb)] 111) (.cells #[.int .i64 op,.int .i64 id,.int .i64 nn,.int .i64 ty,.slice ao ar.length ca,.slice to tt.length ct,.string xn,.int .i64 xp] 47);have H0:=ae h0;have H1:=ae h1;have B0:=ae b0;have HP:=ae (hp.below b0);have HC:=ae hc;clear b0 h0 h1 hp hc;have HSt:Hid (∀w',bK w' p (.slice po pn pc)→Calls Tryz.prog 27 #[.slice po pn pc,.string xn] w' fun e w''=>e= .returned (.int .i64 (stdI p xm))∧Below w'.heap.size w' w''):=ae (fun w' h=>by
  subst hpn hxn;exact gN p xm po pc w' h hl)
 replace hpn:=ae hpn;replace hxn:=ae hxn;generalize hla:ar.length=la at *;generalize tt.length=lt at *;clear hla;go_enter Tryz.func128,Tryz.ntmps128
 go_upto_region 1 with fail
 show Code.wp _ _ _ _ ((w.alloc (.cells #[.slice po pn pc,.string nm,.slice ap an cp,.int .i64 rt,.slice ab bn cb,.int .i64 pl,.bool src,.slice (some ⟨qb,qo,none⟩) qn qc,.pointer (some ⟨tr,0,none⟩),.map (some tb),.map (some mb)] 111)).alloc (.cells #[.int .i64 op,.int .i64 id,.int .i64 nn,.int .i64 ty,.slice ao la ca,.slice to lt ct,.string xn,.int .i64 xp] 47));generalize (w.alloc (.cells #[.slice po pn pc,.string nm,.slice ap an cp,.int .i64 rt,.slice ab bn cb,.int .i64 pl,.bool src,.slice (some ⟨qb,qo,none⟩) qn qc,.pointer (some ⟨tr,0,none⟩),.map (some tb),.map (some mb)] 111)).alloc (.cells #[.int .i64 op,.int .i64 id,.int .i64 nn,.int .i64 ty,.slice ao la ca,.slice to lt ct,.string xn,.int .i64 xp] 47)=W at *;obtain⟨⟨c0,c1,c2,c3,c4,c5,_,_,_,_,_⟩,hz0⟩:=cl _ _ _ _ _ _ _ _ _ _ _ _ _ _ _ _ _ _ _ _ H0.out;obtain⟨⟨x0,x1,x2,x3,x4,x5,x6,x7⟩,hz1⟩:=cH H1.out;go_wp2_with fail
 refine(HSt.out _ HP.out).mono ?_;rintro e w1 ⟨rfl,b1⟩;have HP1:=ae (HP.out.below b1);have B1:=ae (af B0.out b1);have K0:=ae ((b1.block _ hz0).trans H0.out);have K1:=ae ((b1.block _ hz1).trans H1.out);clear b1 c0 c1 c2 c3 c4 c5 x0 x1 x2 x3 x4 x5 x6 x7 H0 H1;obtain⟨⟨c0,c1,c2,c3,c4,c5,_,_,_,_,_⟩,hz0⟩:=cl _ _ _ _ _ _ _ _ _ _ _ _ _ _ _ _ _ _ _ _ K0.out;obtain⟨⟨x0,x1,x2,x3,x4,x5,x6,x7⟩,hz1⟩:=cH K1.out;have HFs:=ae (pN p xm);obtain⟨so,hso⟩:∃so,stdI p xm=so:=⟨_,rfl⟩;rw [hso]
 cases hst:kj p xm with
 |none=>
  have e1:so= -1:=by rw [←hso,stdI,hst]
  have HD:Hid (c=12):=ae (by rw [HC.out,HFs.out,hst];rfl);subst e1;clear hso hst HC HFs;go_wp2_with fail
  go_ret2;exact⟨⟨_,by rw [HD.out];rfl,fun h=>by rw [HD.out] at h;cases h⟩,B1.out⟩
 |some k=>
  have e1:so=(k:Int):=by rw [←hso,stdI,hst]
  have hkp:=zw hst;have HG:Hid (findF p xm=some (aF p k)):=ae (by rw [HFs.out,hst];rfl);subst e1;have hkn:(k:Int) < pn:=by rw [hpn.out];omega
  obtain⟨g,o,rfl,hfr⟩:=eh HP1.out hkp;obtain⟨fa,fb,fc,fd,hfv,d0,d1,d2,d3,d4⟩:=hfr.val;have HFv:=ae hfv;obtain⟨f,hf⟩:∃f,aF p k=f:=⟨_,rfl⟩;rw [hf] at d0 d1 d2 d3 d4 HFv HG;clear hfv hfr hf hso hst HFs;have HC2:Hid (c=if f.2.2.1≠ty then 9 else if f.2.1.length≠la then 13 else 0):=ae (by rw [HC.out,HG.out]);clear HC;have hkm:¬(k:Int)= -1:=by omega
  have b2:=ah w1 (.cells #[.string (bs f.1),.slice fa f.2.1.length fc,.int .i64 f.2.2.1,.slice fb f.2.2.2.1.length fd,.int .i64 f.2.2.2.2] 36);have F2:=ae (heap_alloc_new w1 (.cells #[.string (bs f.1),.slice fa f.2.1.length fc,.int .i64 f.2.2.1,.slice fb f.2.2.2.1.length fd,.int .i64 f.2.2.2.2] 36));have B2:=ae (af B1.out b2);have N1:=ae ((b2.block _ hz1).trans K1.out);have HSl:Hid (Sl (w1.alloc (.cells #[.string (bs f.1),.slice fa f.2.1.length fc,.int .i64 f.2.2.1,.slice fb f.2.2.2.1.length fd,.int .i64 f.2.2.2.2] 36)) fa f.2.1):=ae (by
   obtain⟨vp,vb,e,⟨ao',c',e2,hs,_⟩,_⟩:=HFv.out.below b2;simp only [Value.agg.injEq,Array.mk.injEq,List.cons.injEq] at e;obtain⟨_,e3,_⟩:=e;rw [e2] at e3;injection e3 with e3;subst e3;exact hs)
  generalize f.2.2.1=frt at *;obtain⟨fl,hfl⟩:∃fl,f.2.1.length=fl:=⟨_,rfl⟩;rw [hfl] at d1 HC2 F2 B2 N1 HSl;replace hfl:=ae hfl;generalize f.2.2.2.1.length=fbl at *;clear b2;go_upto_region 5 with fail
  generalize hB:bs f.1=fnm at *;clear hB;show Code.wp _ _ _ _ (w1.alloc (.cells #[.string fnm,.slice fa fl fc,.int .i64 frt,.slice fb fbl fd,.int .i64 f.2.2.2.2] 36));generalize w1.alloc (.cells #[.string fnm,.slice fa fl fc,.int .i64 frt,.slice fb fbl fd,.int .i64 f.2.2.2.2] 36)=w2 at *;generalize w1.heap.size=q1 at *;clear d0 d1 d2 d3 d4 c0 c1 c2 c3 c4 c5 x0 x1 x2 x3 x4 x5 x6 x7;obtain⟨⟨z0,z1,z2,z3,z4⟩,_,_⟩:=bP F2.out;obtain⟨⟨x0,x1,x2,x3,x4,x5,x6,x7⟩,_⟩:=cH N1.out;by_cases ht:ty=frt
  ·subst ht;by_cases hln:la=fl
   ·subst hln;have HD:Hid (c=0):=ae (by rw [HC2.out];simp);have HU:Hid (∃so' sc sl,Value.slice fa la fc= .slice so' (List.length sl) sc∧Sl w2 so' sl∧sl=((findF p xm).getD ie).2.1∧sl.length=la):=ae ⟨fa,fc,f.2.1,by rw [hfl.out],HSl.out,by rw [HG.out];rfl,hfl.out⟩;clear HC2;go_wp2_with fail
    go_ret2;exact⟨⟨_,by rw [HD.out];rfl,fun _=>HU.out⟩,B2.out⟩
   ·have hlnI:¬(la:Int)=fl:=(by omega);have HD:Hid (c=13):=ae (by rw [HC2.out];simp;omega);clear HC2;go_wp2_with fail
    go_ret2;exact⟨⟨_,by rw [HD.out];rfl,fun h=>by rw [HD.out] at h;cases h⟩,B2.out⟩
  ·have HD:Hid (c=9):=ae (by rw [HC2.out,if_pos (fun e=>ht e.symm)]);clear HC2;go_wp2_with fail
   go_ret2;exact⟨⟨_,by rw [HD.out];rfl,fun h=>by rw [HD.out] at h;cases h⟩,B2.out⟩
theorem Eg {p:List Fun} {f:Fun} {x:Ins} (h:x.1=28):cE p f x=if(decide (f.2.2.1=0) != decide (x.2.2.2.2.1.length=0))=true then 13 else 0:=by
 unfold cE;rw [h];simp
theorem CZ {p:List Fun} {f:Fun} {x:Ins} (h:x.1=21):cE p f x=match findF p x.2.2.2.2.2.2.1 with
   |none=>12
   |some g=>if g.2.2.1≠x.2.2.2.1 then 9 else if g.2.1.length≠x.2.2.2.2.1.length then 13 else 0:=by
 unfold cE;rw [h]
 cases findF p x.2.2.2.2.2.2.1 <;> simp
theorem CK {p:List Fun} {f:Fun} {x:Ins} (h1:x.1≠28) (h2:x.1≠21):cE p f x=0:=by
 unfold cE;simp [h1,h2]
theorem Jl {w:World} {ao:Option Addr} {l:List Int} (h:L5.SlI w ao l):Sl w ao l:=by
 rcases h with h | ⟨b,e,hb,h⟩
 ·exact .inl h
 ·exact .inr ⟨b,0,e,hb,fun i n hi=>by
   have hl:=(List.getElem?_eq_some_iff.1 hi).1;have e2:n=L5.nth l i:=(by unfold L5.nth;rw [List.getD_eq_getElem?_getD,hi];rfl);rw [Nat.zero_add,e2];exact h i hl⟩
theorem E9 {w:World} {B g n:Nat} {l:List Int} (h:aS w B 3 g n (ints l)):Sl w (some ⟨g,0,none⟩) l:=by
 by_cases h0:l= []
 ·exact .inl h0
 ·refine .inr ⟨g,0,rfl,?_,fun i m hi=> ?_⟩
  ·exact(Array.getElem?_eq_some_iff.1 (fX h)).1
  ·have:=h.cell (j:=i) (u:= .int .i64 m) (ints_at hi);simpa using this
theorem yF (po ap ab:Option Addr) (pn pc an cp bn cb:Nat) (nm:ByteArray) (rt pl:Int) (src:Bool) (qb qo qn qc tr tb mb:Nat) (op id nn ty xp:Int) (ar tt:List Int) (xn:ByteArray) (ao to:Option Addr) (ca ct:Nat) (p:List Fun) (f:Fun) (xm:List UInt8) (w:World) (hp:bK w p (.slice po pn pc)) (hpn:pn=p.length) (hl:p.length≤1000000) (hxn:xn=bs xm) (hrt:rt=f.2.2.1) (hT:L5.Tab w)
  (x:Ins) (hx:x=(op,id,nn,ty,ar,tt,xm,xp)) (hlen:ar.length≤1000000) (hck:aJ x=0):
  Calls Tryz.prog 101 #[.agg #[.slice po pn pc,.string nm,.slice ap an cp,.int .i64 rt,.slice ab bn cb,.int .i64 pl,.bool src,.slice (some ⟨qb,qo,none⟩) qn qc,.pointer (some ⟨tr,0,none⟩),.map (some tb),.map (some mb)],.agg #[.int .i64 op,.int .i64 id,.int .i64 nn,.int .i64 ty,.slice ao ar.length ca,.slice to tt.length ct,.string xn,.int .i64 xp]] w fun e w'=>(∃u,e= .returned (.tuple #[u,.int .i64 (cE p f x)])∧(cE p f x=0→KO w' p f x u))∧Below w.heap.size w w':=by
 have hx1:x.1=op:=by rw [hx]
 have hxa:x.2.2.2.2.1=ar:=by rw [hx]
 have hxt:x.2.2.2.1=ty:=by rw [hx]
 have hxm:x.2.2.2.2.2.2.1=xm:=by rw [hx]
 have hcnt:=nD hck;rw [hx1,hxa] at hcnt;obtain⟨b0,h0,h1⟩:=kK w (.cells #[.slice po pn pc,.string nm,.slice ap an cp,.int .i64 rt,.slice ab bn cb,.int .i64 pl,.bool src,.slice (some ⟨qb,qo,none⟩) qn qc,.pointer (some ⟨tr,0,none⟩),.map (some tb),.map (some mb)] 111) (.cells #[.int .i64 op,.int .i64 id,.int .i64 nn,.int .i64 ty,.slice ao ar.length ca,.slice to tt.length ct,.string xn,.int .i64 xp] 47);have H0:=ae h0;have H1:=ae h1;have B0:=ae b0;have HP:=ae (hp.below b0);have HT:=ae (hT.below b0);have CP:=ae (fun w' h c hc=>passed11_any po ap ab pn pc an cp bn cb nm rt pl src qb qo qn qc tr tb mb op id nn ty xp ar tt xn ao to ca ct p xm w' h hpn hl hxn c hc);have CA:=ae (fun w' h c hc=>tN po ap ab pn pc an cp bn cb nm rt pl src qb qo qn qc tr tb mb op id nn ty xp ar tt xn ao to ca ct w' h c hc);have CR:=ae (fun(y:Int) (g0:Nat) (w':World) h0 hg hx=>uU y ar.length g0 h0 hlen w' hg hx);have HWi:=ae (fun n (hh:cE p f x=0) (hn:n < x.2.2.2.2.1.length)=>Am (n:=n) hck hh hn);have HXX:Hid (x.1=op∧x.2.2.2.2.1=ar∧x.2.2.2.1=ty∧x.2.2.2.2.2.2.1=xm):=ae ⟨hx1,hxa,hxt,hxm⟩;have HCn:=ae hcnt;clear b0 h0 h1 hp hT hx1 hxa hxt hxm hcnt hck hx;replace hpn:=ae hpn;replace hxn:=ae hxn;replace hrt:=ae hrt;obtain⟨c,hcc⟩:∃c,cE p f x=c:=⟨_,rfl⟩;rw [hcc] at HWi ⊢;have HCc:=ae hcc;clear hcc;obtain⟨la,hla⟩:∃la,ar.length=la:=⟨_,rfl⟩;obtain⟨lt,hlt⟩:∃lt,tt.length=lt:=⟨_,rfl⟩;rw [hla,hlt] at CP CA H0 H1 B0 HP HT;rw [hla] at CR HCn hlen ⊢;rw [hlt];replace hla:=ae hla;replace hlt:=ae hlt;go_enter Tryz.func101,Tryz.ntmps101
 go_upto_region 1 with fail
 show Code.wp _ _ _ _ ((w.alloc (.cells #[.slice po pn pc,.string nm,.slice ap an cp,.int .i64 rt,.slice ab bn cb,.int .i64 pl,.bool src,.slice (some ⟨qb,qo,none⟩) qn qc,.pointer (some ⟨tr,0,none⟩),.map (some tb),.map (some mb)] 111)).alloc (.cells #[.int .i64 op,.int .i64 id,.int .i64 nn,.int .i64 ty,.slice ao la ca,.slice to lt ct,.string xn,.int .i64 xp] 47));generalize (w.alloc (.cells #[.slice po pn pc,.string nm,.slice ap an cp,.int .i64 rt,.slice ab bn cb,.int .i64 pl,.bool src,.slice (some ⟨qb,qo,none⟩) qn qc,.pointer (some ⟨tr,0,none⟩),.map (some tb),.map (some mb)] 111)).alloc (.cells #[.int .i64 op,.int .i64 id,.int .i64 nn,.int .i64 ty,.slice ao la ca,.slice to lt ct,.string xn,.int .i64 xp] 47)=W at *;obtain⟨⟨c0,c1,c2,c3,c4,c5,c6,c7,c8,c9,c10⟩,hz0⟩:=cl _ _ _ _ _ _ _ _ _ _ _ _ _ _ _ _ _ _ _ _ H0.out;obtain⟨⟨x0,x1,x2,x3,x4,x5,x6,x7⟩,hz1⟩:=cH H1.out;by_cases h21:op=21
 ·have HD:Hid (c=match findF p xm with
   |none=>12
   |some g=>if g.2.2.1≠ty then 9 else if g.2.1.length≠la then 13 else 0):=ae (by
    obtain⟨e1,e2,e3,e4⟩:=HXX.out;rw [←HCc.out,CZ (by rw [e1,h21]),e2,e3,e4,hla.out])
  have HWt:Hid (∀n,n < la→x.1=21∧x.2.2.2.2.1.length=la∧dC p f x n=((findF p xm).getD ie).2.1.getD n 0):=ae (fun n _=>by
    obtain⟨e1,e2,e3,e4⟩:=HXX.out;refine⟨by rw [e1,h21],by rw [e2,hla.out],?_⟩;unfold dC;rw [e1,h21,e4];simp)
  have HXl:Hid (x.2.2.2.2.1.length=la):=ae (by rw [HXX.out.2.1,hla.out]);subst h21;clear HXX HCn CA CR HWi;go_wp2_with fail
  refine(CP.out _ HP.out c HD.out).mono ?_;rintro e w1 ⟨⟨u,rfl,hu⟩,b1⟩;have HU:=ae hu;have B1:=ae (af B0.out b1);clear hu b1 CP;go_wp2_with fail
  go_ret2;refine⟨⟨_,rfl,fun h=> ?_⟩,B1.out⟩;obtain⟨so,sc,sl,e1,e2,e3,e4⟩:=HU.out h;refine⟨so,sc,sl,e1,e2,fun n hn=> ?_⟩;rw [HXl.out] at hn;rw [(HWt.out n hn).2.2,←e3,List.getD_eq_getElem?_getD,List.getElem?_eq_getElem (by omega)];rfl
 ·by_cases h28:op=28
  ·have HD:Hid (c=if(decide (rt=0) != decide (la=0))=true then 13 else 0):=ae (by
    obtain⟨e1,e2,e3,e4⟩:=HXX.out;rw [←HCc.out,Eg (by rw [e1,h28]),e2,hla.out,hrt.out])
   have HWt:Hid (∀n,dC p f x n=rt):=ae (fun n=>by
    obtain⟨e1,e2,e3,e4⟩:=HXX.out;unfold dC;rw [e1,h28,hrt.out];simp)
   have HXl:Hid (x.2.2.2.2.1.length=la):=ae (by rw [HXX.out.2.1,hla.out]);have HLa:Hid (la≤1):=ae (by
    have:=HCn.out;rw [h28] at this;simp [eU] at this;omega)
   subst h28;clear HXX HCn CP CR HWi h21;go_wp2_with fail
   refine(CA.out _ HLa.out c HD.out).mono ?_;rintro e w1 ⟨⟨u,rfl,hu⟩,b1⟩;have HU:=ae hu;have B1:=ae (af B0.out b1);clear hu b1 CA;go_wp2_with fail
   go_ret2;refine⟨⟨_,rfl,fun h=> ?_⟩,B1.out⟩;obtain⟨so,sc,sl,e1,e2,e3⟩:=HU.out h;refine⟨so,sc,sl,e1,e2,fun n hn=> ?_⟩;rw [HXl.out] at hn;rw [HWt.out,e3 n hn]
  ·have HD:Hid (c=0):=ae (by
    obtain⟨e1,_⟩:=HXX.out;rw [←HCc.out,CK (by rw [e1];exact h28) (by rw [e1];exact h21)])
   have HXl:Hid (x.2.2.2.2.1.length=la):=ae (by rw [HXX.out.2.1,hla.out]);by_cases h2024:op=20∨op=24
   ·have HWt:Hid (∀n,dC p f x n=ty):=ae (fun n=>by
     obtain⟨e1,e2,e3,e4⟩:=HXX.out;unfold dC;rw [e1,if_pos h2024,e3])
    have hL0:0 < la:=by
     have:=HCn.out;rcases h2024 with h | h
     ·rw [h] at this;simp [eU] at this;omega
     ·rw [h] at this;simp [eU] at this;omega
    have hLI:¬(la:Int)=0:=(by omega);have b2:=ah W (.cells #[.int .i64 ty] 3);obtain⟨t0,ht0⟩:=aV (heap_alloc_new W (.cells #[.int .i64 ty] 3));have HCl:=ae (CR.out ty W.heap.size (W.alloc (.cells #[.int .i64 ty] 3)) hL0 ht0 t0);have B2:=ae (af B0.out b2);clear HXX HCn CP CA CR HWi b2 ht0 t0;rcases h2024 with h20 | h24
    ·subst h20;go_wp2_with fail
     refine HCl.out.mono ?_;rintro e w1 ⟨rfl,hR,b1⟩;have hs1:(W.alloc (.cells #[.int .i64 ty] 3)).heap.size=W.heap.size+1:=(by simp);rw [hs1] at hR;have HR:=ae hR;have B1:=ae (af B2.out b1);clear hR b1 hs1;go_wp2_with fail
     go_ret2;refine⟨⟨_,by rw [HD.out];rfl,fun _=>⟨some ⟨W.heap.size+1,0,none⟩,la,List.replicate la ty,by rw [List.length_replicate];rfl,E9 HR.out,fun n hn=> ?_⟩⟩,B1.out⟩;rw [HXl.out] at hn;rw [HWt.out,List.getElem?_replicate,if_pos hn]
    ·subst h24;go_wp2_with fail
     refine HCl.out.mono ?_;rintro e w1 ⟨rfl,hR,b1⟩;have hs1:(W.alloc (.cells #[.int .i64 ty] 3)).heap.size=W.heap.size+1:=(by simp);rw [hs1] at hR;have HR:=ae hR;have B1:=ae (af B2.out b1);clear hR b1 hs1;go_wp2_with fail
     go_ret2;refine⟨⟨_,by rw [HD.out];rfl,fun _=>⟨some ⟨W.heap.size+1,0,none⟩,la,List.replicate la ty,by rw [List.length_replicate];rfl,E9 HR.out,fun n hn=> ?_⟩⟩,B1.out⟩;rw [HXl.out] at hn;rw [HWt.out,List.getElem?_replicate,if_pos hn]
   ·have h20:¬op=20:=fun h=>h2024 (.inl h);have h24:¬op=24:=fun h=>h2024 (.inr h);have HWt:Hid (∀n,n < la→(L5.takes (L5.num op))[n]? =some (dC p f x n)):=ae (fun n hn=>by
     have hW:=(HWi.out n HD.out (by rw [HXl.out];exact hn)).1.2;obtain⟨e1,e2,e3,e4⟩:=HXX.out;rw [e1] at hW;have hlt:=hW h20 h24 h28 h21;unfold dC;rw [e1,if_neg h2024,if_neg h28,if_neg h21,List.getD_eq_getElem?_getD,List.getElem?_eq_getElem hlt];rfl)
    have HCl:=ae (L5.rZ op W HT.out);clear HXX HCn CP CA CR HWi h2024;go_wp2_with fail
    refine HCl.out.mono ?_;rintro e w1 ⟨to',cap,rfl,hS,b1⟩;have HS:=ae hS;have B1:=ae (af B0.out b1);clear hS b1;go_wp2_with fail
    go_ret2;refine⟨⟨_,by rw [HD.out];rfl,fun _=>⟨to',cap,L5.takes (L5.num op),rfl,Jl HS.out,fun n hn=> ?_⟩⟩,B1.out⟩;rw [HXl.out] at hn;exact HWt.out n hn
theorem xP (po ap ab:Option Addr) (pn pc an cp bn cb:Nat) (nm:ByteArray) (rt pl:Int) (src:Bool) (qb qo qn qc tr tb mb:Nat) (op id nn ty xp:Int) (ar tt:List Int) (xn:ByteArray) (ao to:Option Addr) (ca ct:Nat) (a1 a2:Int) (w:World) (c0:Int) (wn:Nat→Int) (fr:Nat→Int × Int) (tk:Nat→Int) (hla:ar.length≤1000000) (hS:Sl w ao ar)
  (CW:∀w',Below w.heap.size w w'→Calls Tryz.prog 101 #[.agg #[.slice po pn pc,.string nm,.slice ap an cp,.int .i64 rt,.slice ab bn cb,.int .i64 pl,.bool src,.slice (some ⟨qb,qo,none⟩) qn qc,.pointer (some ⟨tr,0,none⟩),.map (some tb),.map (some mb)],.agg #[.int .i64 op,.int .i64 id,.int .i64 nn,.int .i64 ty,.slice ao ar.length ca,.slice to tt.length ct,.string xn,.int .i64 xp]] w' fun e w''=>(∃u,e= .returned (.tuple #[u,.int .i64 c0])∧(c0=0→∃so sc sl,u= .slice so (List.length sl) sc∧Sl w'' so sl∧∀n,n < ar.length→sl[n]? =some (wn n)))∧Below w'.heap.size w' w'')
  (CF:∀n w',n < ar.length→Below w.heap.size w w'→Calls Tryz.prog 103 #[.agg #[.slice po pn pc,.string nm,.slice ap an cp,.int .i64 rt,.slice ab bn cb,.int .i64 pl,.bool src,.slice (some ⟨qb,qo,none⟩) qn qc,.pointer (some ⟨tr,0,none⟩),.map (some tb),.map (some mb)],.agg #[.int .i64 a1,.int .i64 a2],.agg #[.int .i64 op,.int .i64 id,.int .i64 nn,.int .i64 ty,.slice ao ar.length ca,.slice to tt.length ct,.string xn,.int .i64 xp],.int .i64 n] w' fun e w''=>e= .returned (.agg #[.int .i64 (fr n).1,.int .i64 (fr n).2])∧Below w'.heap.size w' w'')
  (CT:∀n w',n < ar.length→Below w.heap.size w w'→Calls Tryz.prog 102 #[.agg #[.slice po pn pc,.string nm,.slice ap an cp,.int .i64 rt,.slice ab bn cb,.int .i64 pl,.bool src,.slice (some ⟨qb,qo,none⟩) qn qc,.pointer (some ⟨tr,0,none⟩),.map (some tb),.map (some mb)],.int .i64 (ar.getD n 0),.int .i64 (wn n),.agg #[.int .i64 (fr n).1,.int .i64 (fr n).2]] w' fun e w''=>e= .returned (.int .i64 (tk n))∧Below w'.heap.size w' w''):
  Calls Tryz.prog 70 #[.agg #[.slice po pn pc,.string nm,.slice ap an cp,.int .i64 rt,.slice ab bn cb,.int .i64 pl,.bool src,.slice (some ⟨qb,qo,none⟩) qn qc,.pointer (some ⟨tr,0,none⟩),.map (some tb),.map (some mb)],.agg #[.int .i64 a1,.int .i64 a2],.agg #[.int .i64 op,.int .i64 id,.int .i64 nn,.int .i64 ty,.slice ao ar.length ca,.slice to tt.length ct,.string xn,.int .i64 xp]] w fun e w'=>e= .returned (.int .i64 (if c0≠0 then c0 else(bw (fun n=>if tk n≠0 then some (tk n)else none) ar.length).getD 0))∧Below w.heap.size w w':=by
 obtain⟨b0,h0,h1,h2⟩:=EI w (.cells #[.slice po pn pc,.string nm,.slice ap an cp,.int .i64 rt,.slice ab bn cb,.int .i64 pl,.bool src,.slice (some ⟨qb,qo,none⟩) qn qc,.pointer (some ⟨tr,0,none⟩),.map (some tb),.map (some mb)] 111) (.cells #[.int .i64 a1,.int .i64 a2] 113) (.cells #[.int .i64 op,.int .i64 id,.int .i64 nn,.int .i64 ty,.slice ao ar.length ca,.slice to tt.length ct,.string xn,.int .i64 xp] 47);have H0:=ae h0;have H1:=ae h1;have H2:=ae h2;have B0:=ae b0;have HW:=ae CW;have HF:=ae CF;have HT:=ae CT;have HS:=ae hS;obtain⟨r,hr⟩:∃r,(if c0≠0 then c0 else(bw (fun n=>if tk n≠0 then some (tk n)else none) ar.length).getD 0)=r:=⟨_,rfl⟩;rw [hr];have HC0:Hid (¬c0=0→r=c0):=ae (fun h=>by rw [←hr,if_pos h]);have HSm:Hid (c0=0→∀K,K < ar.length→(∀n,n < K→tk n=0)→tk K≠0→r=tk K):=ae (fun hc K hK h0 h1=>by
  rw [←hr,if_neg (by simp [hc]),bN (K:=K) (a:=tk K) (fun j hj=>by simp [h0 j hj]) hK (by simp [h1])];rfl)
 have HNo:Hid (c0=0→(∀n,n < ar.length→tk n=0)→r=0):=ae (fun hc h=>by
  rw [←hr,if_neg (by simp [hc]),bh (fun j hj=>by simp [h j hj])];rfl)
 clear hr;clear b0 h0 h1 h2 CW CF CT hS;obtain⟨la,hlae⟩:∃la,ar.length=la:=⟨_,rfl⟩;obtain⟨lt,hlte⟩:∃lt,tt.length=lt:=⟨_,rfl⟩;rw [hlae,hlte] at H0 H1 H2 B0 HW HF;rw [hlae] at HT HSm HNo hla;rw [hlae,hlte];replace hlae:=ae hlae;clear hlte;go_enter Tryz.func70,Tryz.ntmps70
 go_upto_region 1 with fail
 show Code.wp _ _ _ _ (((w.alloc (.cells #[.slice po pn pc,.string nm,.slice ap an cp,.int .i64 rt,.slice ab bn cb,.int .i64 pl,.bool src,.slice (some ⟨qb,qo,none⟩) qn qc,.pointer (some ⟨tr,0,none⟩),.map (some tb),.map (some mb)] 111)).alloc (.cells #[.int .i64 a1,.int .i64 a2] 113)).alloc (.cells #[.int .i64 op,.int .i64 id,.int .i64 nn,.int .i64 ty,.slice ao la ca,.slice to lt ct,.string xn,.int .i64 xp] 47));generalize ((w.alloc (.cells #[.slice po pn pc,.string nm,.slice ap an cp,.int .i64 rt,.slice ab bn cb,.int .i64 pl,.bool src,.slice (some ⟨qb,qo,none⟩) qn qc,.pointer (some ⟨tr,0,none⟩),.map (some tb),.map (some mb)] 111)).alloc (.cells #[.int .i64 a1,.int .i64 a2] 113)).alloc (.cells #[.int .i64 op,.int .i64 id,.int .i64 nn,.int .i64 ty,.slice ao la ca,.slice to lt ct,.string xn,.int .i64 xp] 47)=W at *;obtain⟨⟨c0',c1,c2,c3,c4,c5,c6,c7,c8,c9,c10⟩,hz0⟩:=cl _ _ _ _ _ _ _ _ _ _ _ _ _ _ _ _ _ _ _ _ H0.out;obtain⟨⟨y0,y1⟩,_,hz1⟩:=aP H1.out;obtain⟨⟨x0,x1,x2,x3,x4,x5,x6,x7⟩,hz2⟩:=cH H2.out;go_wp2_with fail
 refine(HW.out _ B0.out).mono ?_;rintro e w1 ⟨⟨u,rfl,hu⟩,b1⟩;have HU:=ae hu;have B1:=ae (af B0.out b1);have K0:=ae ((b1.block _ hz0).trans H0.out);have K1:=ae ((b1.block _ hz1).trans H1.out);have K2:=ae ((b1.block _ hz2).trans H2.out);clear hu b1 c0' c1 c2 c3 c4 c5 c6 c7 c8 c9 c10 y0 y1 x0 x1 x2 x3 x4 x5 x6 x7 H0 H1 H2 HW;by_cases hc:c0=0
 ·obtain⟨so,sc,sl,rfl,hss,hsw⟩:=HU.out hc;have HSs:=ae hss;have HSw:=ae hsw;replace HSm:=ae (HSm.out hc);replace HNo:=ae (HNo.out hc);subst hc;clear HU hss hsw HC0;obtain⟨⟨x0,x1,x2,x3,x4,x5,x6,x7⟩,hz2⟩:=cH K2.out;obtain⟨sln,hsln⟩:∃sln,sl.length=sln:=⟨_,rfl⟩;rw [hsln];replace hsln:=ae hsln;go_wp2_with fail
  clear x0 x1 x2 x3 x4 x5 x6 x7;go_loopw [24] (fun nv wr=>∃n:Nat,n≤la∧nv= .int .i64 n∧Hid (∀j,j < n→tk j=0)∧Hid (Below w1.heap.size w1 wr)) (fun nv _=>la - (intOf nv).toNat)
  case atStart=>exact⟨0,Nat.zero_le _,rfl,ae (fun j h=>absurd h (Nat.not_lt_zero _)),ae (Below.refl _ _)⟩
  case round=>
   obtain⟨n,hn,rfl,HG,HB⟩:=hrel;by_cases hlt:n < la
   ·have hltI:(n:Int) < la:=(by omega);obtain⟨ag,aof,rfl,hag,hac⟩:=oq HS.out (n:=n) (by rw [hlae.out];exact hlt);have hwn:=HSw.out n hlt;obtain⟨sg,sof,rfl,hsg,hsc⟩:=oq HSs.out (n:=n) (List.getElem?_eq_some_iff.1 hwn).1;have hsn:(n:Int) < sln:=(by have:=(List.getElem?_eq_some_iff.1 hwn).1;rw [hsln.out] at this;omega);rw [List.getD_eq_getElem?_getD,hwn] at hsc;have Bw:=ae (af B1.out HB.out);have e1:=(Bw.out.cell (p:=⟨ag,aof+n,none⟩) hag).trans hac;have hBx:=fun x=>af HB.out (L5.ax wr x);have HBx:=ae hBx;have HBw:=ae (fun x=>af Bw.out (L5.ax wr x));have e2:∀x,(L5.aZ wr x).cell? ⟨sg,sof+n,none⟩=some (.int .i64 (wn n)):=fun x=>((hBx x).cell (p:=⟨sg,sof+n,none⟩) hsg).trans hsc;have L:=fun x=>(cl _ _ _ _ _ _ _ _ _ _ _ _ _ _ _ _ _ _ _ _ (((hBx x).block _ (Array.getElem?_eq_some_iff.1 K0.out).1).trans K0.out)).1;have l0:=fun x=>(L x).1;have l1:=fun x=>(L x).2.1;have l2:=fun x=>(L x).2.2.1;have l3:=fun x=>(L x).2.2.2.1;have l4:=fun x=>(L x).2.2.2.2.1;have l5:=fun x=>(L x).2.2.2.2.2.1;have l6:=fun x=>(L x).2.2.2.2.2.2.1;have l7:=fun x=>(L x).2.2.2.2.2.2.2.1;have l8:=fun x=>(L x).2.2.2.2.2.2.2.2.1;have l9:=fun x=>(L x).2.2.2.2.2.2.2.2.2.1;have l10:=fun x=>(L x).2.2.2.2.2.2.2.2.2.2;have Y:=fun x=>(aP (((hBx x).block _ (Array.getElem?_eq_some_iff.1 K1.out).1).trans K1.out)).1;have y0:=fun x=>(Y x).1;have y1:=fun x=>(Y x).2;have X:=fun x=>(cH (((hBx x).block _ (Array.getElem?_eq_some_iff.1 K2.out).1).trans K2.out)).1;have x0:=fun x=>(X x).1;have x1:=fun x=>(X x).2.1;have x2:=fun x=>(X x).2.2.1;have x3:=fun x=>(X x).2.2.2.1;have x4:=fun x=>(X x).2.2.2.2.1;have x5:=fun x=>(X x).2.2.2.2.2.1;have x6:=fun x=>(X x).2.2.2.2.2.2.1;have x7:=fun x=>(X x).2.2.2.2.2.2.2;have HFn:=ae (fun w' b=>HF.out n w' hlt b);have HTn:=ae (fun w' b=>HT.out n w' hlt b);obtain⟨av,hav⟩:∃av,ar.getD n 0=av:=⟨_,rfl⟩;rw [hav] at e1 HTn;obtain⟨wv,hwv⟩:∃wv,wn n=wv:=⟨_,rfl⟩;simp only [hwv] at e2 HTn;obtain⟨⟨f1,f2⟩,hfv⟩:∃fv,fr n=fv:=⟨_,rfl⟩;rw [hfv] at HFn HTn;obtain⟨tv,htv⟩:∃tv,tk n=tv:=⟨_,rfl⟩;rw [htv] at HTn;have HTv:=ae htv;have HSm2:=ae (HSm.out n hlt HG.out);clear hav hwv hfv htv hwn hsc hac L Y X hBx HF HT HSm hag hsg;go_wp2_with fail
    refine L5.aE (by kernel_rfl) (by kernel_rfl) ?_;repeat (go_big_quiet_step (first | (go_at_call 103;exact L5.bC (HFn.out _ (HBw.out _))) | (go_at_call 102;exact L5.bC (HTn.out _ (HBw.out _)))))
    refine wpQuiet_nil ?_;rintro _ ⟨x,rfl⟩;clear e2 l0 l1 l2 l3 l4 l5 l6 l7 l8 l9 l10 y0 y1 x0 x1 x2 x3 x4 x5 x6 x7;by_cases ht0:tv=0
    ·subst ht0;have HG2:Hid (∀j,j < n+1→tk j=0):=ae (fun j hj=>by
      by_cases e:j=n
      ·subst e;exact HTv.out
      ·exact HG.out j (by omega))
     go_wp2_with fail
     go_roundw
     case rel=>exact⟨n+1,by omega,by go_num,HG2,ae (HBx.out x)⟩
     case measure=>simp [intOf];omega
    ·have HR:Hid (r=tv):=ae (by rw [HSm2.out (by rw [HTv.out];exact ht0),HTv.out]);go_wp2_with fail
     go_ret;exact⟨by rw [HR.out];rfl,HBw.out x⟩
   ·obtain rfl:n=la:=(by omega);have HR:=ae (HNo.out HG.out);have HE:=ae (af B1.out HB.out);go_wp2_with fail
    go_ret;exact⟨by rw [HR.out];rfl,HE.out⟩
 ·have HR:=ae (HC0.out hc);clear HU HC0 HSm HNo;go_wp2_with fail
  go_ret;exact⟨by rw [HR.out];rfl,B1.out⟩
open Go Go.RowKit Go.Maps
theorem vm (op id nn ty xp:Int) (ar tt:List Int) (xn:ByteArray) (ao to:Option Addr) (ca ct:Nat) (w:World):
  Calls Tryz.prog 100 #[.agg #[.int .i64 op,.int .i64 id,.int .i64 nn,.int .i64 ty,.slice ao ar.length ca,.slice to tt.length ct,.string xn,.int .i64 xp]] w fun e w'=>e= .returned (.bool (decide (op=23) || decide (op=24) || decide (op=25) || (decide (op=21) && decide (nn≠0))))∧Below w.heap.size w w':=by
 have b0:=ah w (.cells #[.int .i64 op,.int .i64 id,.int .i64 nn,.int .i64 ty,.slice ao ar.length ca,.slice to tt.length ct,.string xn,.int .i64 xp] 47);have H0:=ae (heap_alloc_new w (.cells #[.int .i64 op,.int .i64 id,.int .i64 nn,.int .i64 ty,.slice ao ar.length ca,.slice to tt.length ct,.string xn,.int .i64 xp] 47));have B0:=ae b0;clear b0;obtain⟨r,hr⟩:∃r,(decide (op=23) || decide (op=24) || decide (op=25) || (decide (op=21) && decide (nn≠0)))=r:=⟨_,rfl⟩;have HR:=ae hr;rw [hr];clear hr;generalize ar.length=la at *;generalize tt.length=lt at *;go_enter Tryz.func100,Tryz.ntmps100
 go_upto_region 1 with fail
 show Code.wp _ _ _ _ (w.alloc (.cells #[.int .i64 op,.int .i64 id,.int .i64 nn,.int .i64 ty,.slice ao la ca,.slice to lt ct,.string xn,.int .i64 xp] 47));generalize w.alloc (.cells #[.int .i64 op,.int .i64 id,.int .i64 nn,.int .i64 ty,.slice ao la ca,.slice to lt ct,.string xn,.int .i64 xp] 47)=W at *;obtain⟨⟨x0,x1,x2,x3,x4,x5,x6,x7⟩,_⟩:=cH H0.out;by_cases h23:op=23
 ·have HD:Hid (r=true):=ae (by rw [←HR.out];simp [h23]);subst h23;go_wp2_with fail
  go_ret;exact⟨by rw [HD.out];rfl,B0.out⟩
 by_cases h24:op=24
 ·have HD:Hid (r=true):=ae (by rw [←HR.out];simp [h24]);subst h24;go_wp2_with fail
  go_ret;exact⟨by rw [HD.out];rfl,B0.out⟩
 by_cases h25:op=25
 ·have HD:Hid (r=true):=ae (by rw [←HR.out];simp [h25]);subst h25;go_wp2_with fail
  go_ret;exact⟨by rw [HD.out];rfl,B0.out⟩
 by_cases h21:op=21
 ·by_cases hn:nn=0
  ·have HD:Hid (r=false):=ae (by rw [←HR.out];simp [h21,hn]);subst h21 hn;go_wp2_with fail
   go_ret;exact⟨by rw [HD.out];rfl,B0.out⟩
  ·have HD:Hid (r=true):=ae (by rw [←HR.out];simp [h21,hn]);have hb:=ae (show(nn != 0)=true by simp [hn]);subst h21;go_wp2_with fail
   go_ret;exact⟨by rw [HD.out,←hb.out];rfl,B0.out⟩
 ·have HD:Hid (r=false):=ae (by rw [←HR.out];simp [h23,h24,h25,h21]);go_wp2_with fail
  go_ret;exact⟨by rw [HD.out];rfl,B0.out⟩
theorem Dj {ps tt:List Int} {j:Nat} (hj:j < tt.length) (a:Int):(!decide (a=tt.getD j 0) && (az ps a && !az (tt.take j) a))=(az ps a && !az (tt.take (j+1)) a):=by
 have e:tt.take (j+1)=tt.take j ++ [tt.getD j 0]:=by
  rw [List.take_add_one,List.getD_eq_getElem?_getD,List.getElem?_eq_getElem hj];rfl
 rw [e,en];generalize tt.getD j 0=v;by_cases h:a=v
 ·subst h;simp
 ·have h2:¬v=a:=fun e=>h e.symm;simp [h,h2]
theorem C9 {ps:List Int} {j:Nat} (hj:j < ps.length) (a:Int):(decide (a=ps.getD j 0) || az (ps.take j) a)=az (ps.take (j+1)) a:=by
 have e:ps.take (j+1)=ps.take j ++ [ps.getD j 0]:=by
  rw [List.take_add_one,List.getD_eq_getElem?_getD,List.getElem?_eq_getElem hj];rfl
 rw [e,en,Bool.or_comm];generalize ps.getD j 0=v;by_cases h:a=v
 ·subst h;simp
 ·have h2:¬v=a:=fun e=>h e.symm;simp [h,h2]
theorem ki.congr {w:World} {b n N:Nat} {s s':Int→Bool} (h:ki w b n N s) (e:∀a,s a=s' a):ki w b n N s':=by
 have:s=s':=funext e;subst this;exact h
theorem Bz (po ap ab:Option Addr) (pn pc an cp bn cb:Nat) (nm:ByteArray) (rt pl:Int) (src:Bool) (qb qo qn qc tr tb mb:Nat) (k:Nat) (iv:Int) (ps tt:List Int) (to qa:Option Addr) (ct qac:Nat) (w:World) (first:Bool) (hps:ps.Nodup) (hpl:ps.length≤1000000) (htl:tt.length≤1000000) (hpw:∀a∈ps,Wf6 a) (htw:∀a∈tt,Wf6 a) (hqn:k < qn)
  (hT:Sl w to tt) (hqb:qb < w.heap.size) (hq:w.cell? ⟨qb,qo+k,none⟩=some (.slice qa ps.length qac)) (hP:Sl w qa ps)
  (hbk:iv=0∧first=true∨∃(I g o g2 o2 lb ac:Nat) (pop:Int),iv=I+1∧ab=some ⟨g,o,none⟩∧g < w.heap.size∧k < bn∧w.cell? ⟨g,o+k,none⟩=some (.slice (some ⟨g2,o2,none⟩) lb ac)∧I < lb∧lb≤1000000∧g2 < w.heap.size∧w.cell? ⟨g2,o2+I * 8,none⟩=some (.int .i64 pop)∧first=decide (pop=20)):
  Calls Tryz.prog 99 #[.agg #[.slice po pn pc,.string nm,.slice ap an cp,.int .i64 rt,.slice ab bn cb,.int .i64 pl,.bool src,.slice (some ⟨qb,qo,none⟩) qn qc,.pointer (some ⟨tr,0,none⟩),.map (some tb),.map (some mb)],.agg #[.int .i64 k,.int .i64 iv],.slice to tt.length ct] w fun e w'=>e= .returned (.bool (first && kU ps tt))∧Below w.heap.size w w':=by
 obtain⟨b0,h0,h1⟩:=kK w (.cells #[.slice po pn pc,.string nm,.slice ap an cp,.int .i64 rt,.slice ab bn cb,.int .i64 pl,.bool src,.slice (some ⟨qb,qo,none⟩) qn qc,.pointer (some ⟨tr,0,none⟩),.map (some tb),.map (some mb)] 111) (.cells #[.int .i64 k,.int .i64 iv] 113);have H0:=ae h0;have H1:=ae h1;have B0:=ae b0;have HT:=ae hT;have HP:=ae hP;have HQ:=ae hq;replace hps:=ae hps;replace hpw:=ae hpw;replace htw:=ae htw;clear b0 h0 h1 hT hP hq;obtain⟨r,hr⟩:∃r,(first && kU ps tt)=r:=⟨_,rfl⟩;rw [hr];have HR:=ae hr;clear hr;obtain⟨pn',hpne⟩:∃n,ps.length=n:=⟨_,rfl⟩;obtain⟨tn,htne⟩:∃n,tt.length=n:=⟨_,rfl⟩;rw [hpne] at hpl HQ;rw [htne] at htl ⊢;replace hpne:=ae hpne;replace htne:=ae htne;have hqI:(k:Int) < qn:=by omega
 go_enter Tryz.func99,Tryz.ntmps99
 go_upto_region 1 with fail
 show Code.wp _ _ _ _ ((w.alloc (.cells #[.slice po pn pc,.string nm,.slice ap an cp,.int .i64 rt,.slice ab bn cb,.int .i64 pl,.bool src,.slice (some ⟨qb,qo,none⟩) qn qc,.pointer (some ⟨tr,0,none⟩),.map (some tb),.map (some mb)] 111)).alloc (.cells #[.int .i64 k,.int .i64 iv] 113));generalize (w.alloc (.cells #[.slice po pn pc,.string nm,.slice ap an cp,.int .i64 rt,.slice ab bn cb,.int .i64 pl,.bool src,.slice (some ⟨qb,qo,none⟩) qn qc,.pointer (some ⟨tr,0,none⟩),.map (some tb),.map (some mb)] 111)).alloc (.cells #[.int .i64 k,.int .i64 iv] 113)=W at *;have hz0:=(Array.getElem?_eq_some_iff.1 H0.out).1;have hz1:=(Array.getElem?_eq_some_iff.1 H1.out).1;have l4:=fun x=>(cl _ _ _ _ _ _ _ _ _ _ _ _ _ _ _ _ _ _ _ _ (((L5.ax W x).block _ hz0).trans H0.out)).1.2.2.2.2.1;have y0:=fun x=>(aP (((L5.ax W x).block _ hz1).trans H1.out)).1.1;have y1:=fun x=>(aP (((L5.ax W x).block _ hz1).trans H1.out)).1.2;refine hbk.elim (fun hbk=> ?one) (fun hbk=> ?two)
 case' one=>
  obtain⟨rfl,hf⟩:=hbk;have HFi:=ae hf;clear hf;refine L5.aE (by kernel_rfl) (by kernel_rfl) ?_;repeat (go_big_quiet_step (fail))
  refine wpQuiet_nil ?_;rintro _ ⟨x,rfl⟩;clear l4 y0 y1
 case' two=>
  obtain⟨I,g,o,g2,o2,lb,ac,pop,hiv,rfl,hg,hkb,hc1,hIl,hlb,hg2,hc2,hf⟩:=hbk;have d1:=fun x=>((af B0.out (L5.ax W x)).cell (p:=⟨g,o+k,none⟩) hg).trans hc1;have d2:=fun x=>((af B0.out (L5.ax W x)).cell (p:=⟨g2,o2+I * 8,none⟩) hg2).trans hc2;have hpos:(0:Int) < iv:=by omega
  have hwr:IntKind.i64.wrap (iv - 1)=(I:Int):=by
   rw [hiv,show(I:Int)+1 - 1=I by omega];exact IntWalk.i64_in _ ⟨by omega,by omega⟩
  have hkbI:(k:Int) < bn:=by omega
  have hIlI:(I:Int) < lb:=by omega
  replace hiv:=ae hiv;clear hc1 hc2;by_cases hpop:pop=20
  case neg=>
   have HD:Hid (r=false):=ae (by rw [←HR.out,hf];simp [hpop]);clear hf;refine L5.aE (by kernel_rfl) (by kernel_rfl) ?_;repeat (go_big_quiet_step (fail))
   refine wpQuiet_nil ?_;rintro _ ⟨x,rfl⟩;have HX:=ae (af B0.out (L5.ax W x));clear l4 y0 y1 d1 d2;go_wp2_with fail
   go_ret;exact⟨by rw [HD.out];rfl,HX.out⟩
  have HFi:Hid (first=true):=ae (by rw [hf];simp [hpop]);subst hpop;clear hf;refine L5.aE (by kernel_rfl) (by kernel_rfl) ?_;repeat (go_big_quiet_step (fail))
  refine wpQuiet_nil ?_;rintro _ ⟨x,rfl⟩;clear d1 d2;clear l4 y0 y1
 all_goals
  have HX:=ae (af B0.out (L5.ax W x));have N0:=ae (((L5.ax W x).block _ hz0).trans H0.out);have N1:=ae (((L5.ax W x).block _ hz1).trans H1.out);clear B0 H0 H1 hz0 hz1;obtain⟨w8,hw8⟩:∃w8:World,w8=L5.aZ W x:=⟨_,rfl⟩;rw [←hw8] at HX N0 N1 ⊢;clear hw8;have b9:=ah w8 (.map #[] 0);have HU:=ae (ki.made w8);have B9:=ae (af HX.out b9);have HM0:Hid (w.heap.size≤w8.heap.size):=ae HX.out.size;have O0:=ae ((b9.block _ (Array.getElem?_eq_some_iff.1 N0.out).1).trans N0.out);have O1:=ae ((b9.block _ (Array.getElem?_eq_some_iff.1 N1.out).1).trans N1.out);have hmm:= @run_makeMap Tryz.prog;go_upto_region 4 with fail
  show Code.wp _ _ _ _ (w8.alloc (.map #[] 0));generalize w8.alloc (.map #[] 0)=W9 at *;generalize w8.heap.size=m9 at *;clear hmm N0 N1 HX b9;obtain⟨⟨_,_,_,_,_,_,_,c7,_,_,_⟩,_⟩:=cl _ _ _ _ _ _ _ _ _ _ _ _ _ _ _ _ _ _ _ _ O0.out;obtain⟨⟨z0,z1⟩,_,_⟩:=aP O1.out;have q1:=(B9.out.cell (p:=⟨qb,qo+k,none⟩) hqb).trans HQ.out;go_wp2_with fail
  clear c7 z0 z1 q1 O0 O1;go_loopw [41] (fun jv wr=>∃j:Nat,j≤pn'∧jv= .int .i64 j∧Hid (ki wr m9 j j (fun a=>az (ps.take j) a))∧Hid (Below w.heap.size w wr)) (fun jv _=>pn' - (intOf jv).toNat)
  case atStart=>exact⟨0,Nat.zero_le _,rfl,ae (HU.out.congr fun _=>by simp [az]),B9⟩
  case round=>
   clear HU B9;obtain⟨j,hj,rfl,HU,HB⟩:=hrel;by_cases hjt:j < pn'
   ·have hjI:(j:Int) < pn':=(by omega);have hjp:j < ps.length:=(by rw [hpne.out];exact hjt);obtain⟨pg,pof,rfl,hpg,hpc⟩:=oq HP.out hjp;have hc1:=(HB.out.cell (p:=⟨pg,pof+j,none⟩) hpg).trans hpc;have HWf:=ae (hpw.out (ps.getD j 0) (by rw [List.getD_eq_getElem?_getD,List.getElem?_eq_getElem hjp];exact List.getElem_mem hjp));have HFr:=ae (il hps.out (j:=j) (m:=ps.getD j 0) (by rw [List.getD_eq_getElem?_getD,List.getElem?_eq_getElem hjp];rfl));have HCs:=ae (C9 hjp);obtain⟨pv,hpv⟩:∃pv,ps.getD j 0=pv:=⟨_,rfl⟩;simp only [hpv] at hc1 HWf HFr HCs;have hjm:j < maxLen:=(by unfold maxLen;omega);clear hpc hpv;go_wp2_with (first | (at_mapUpdate;refine vP _ rfl _ _ _ rfl m9 j j _ rfl HU.out hjm pv HWf.out HFr.out rfl rfl ?_;intro w1 own1 grow1) | fail)
    go_roundw
    case rel=>exact⟨j+1,by omega,by go_num,ae (own1.congr HCs.out),ae (HB.out.trans (cx grow1 HB.out.size HM0.out))⟩
    case measure=>simp [intOf];omega
   ·obtain rfl:j=pn':=(by omega);have HU2:Hid (ki wr m9 j j (fun a=>az ps a && !az (tt.take 0) a)):=ae (HU.out.congr fun a=>by rw [←hpne.out,List.take_length];simp [az]);go_wp2_with fail
    go_loopw [51] (fun nv wr2=>∃n Z:Nat,n≤tn∧nv= .int .i64 n∧Z+n=j∧Hid (ki wr2 m9 j Z (fun a=>az ps a && !az (tt.take n) a))∧Hid (Below w.heap.size w wr2)∧Hid (∀l,l < n→oI ps tt l=true)) (fun nv _=>tn - (intOf nv).toNat)
    case atStart=>exact⟨0,j,Nat.zero_le _,rfl,rfl,HU2,HB,ae (fun l h=>absurd h (Nat.not_lt_zero _))⟩
    case round=>
     clear HU HU2 HB;obtain⟨n,Z,hn,rfl,hZ,HU,HB,HL⟩:=hrel;replace hZ:=ae hZ;by_cases hnt:n < tn
     ·have hnI:(n:Int) < tn:=(by omega);have hnp:n < tt.length:=(by rw [htne.out];exact hnt);obtain⟨tg,tof,rfl,htg,htc⟩:=oq HT.out hnp;have hc1:=(HB.out.cell (p:=⟨tg,tof+n,none⟩) htg).trans htc;have HWf:=ae (htw.out (tt.getD n 0) (by rw [List.getD_eq_getElem?_getD,List.getElem?_eq_getElem hnp];exact List.getElem_mem hnp));have HLs:=ae (fun ps=>Dj (ps:=ps) hnp);have HLf:Hid (oI ps tt n=(az ps (tt.getD n 0) && !az (tt.take n) (tt.getD n 0))):=ae rfl;obtain⟨tv,htv⟩:∃tv,tt.getD n 0=tv:=⟨_,rfl⟩;simp only [htv] at hc1 HWf HLs HLf;clear htc htv;have bE:=ae (ah wr (.cells #[] 159));have HUe:=ae (HU.out.kept (bY bE.out none) (by simp));have HBe:=ae (af HB.out bE.out)
      cases hlf:oI ps tt n with
      |true=>
       have HSx:Hid ((az ps tv && !az (tt.take n) tv)=true):=ae (by rw [←HLf.out,hlf]);have HL2:Hid (∀l,l < n+1→oI ps tt l=true):=ae (fun l hl=>by
        by_cases e:l=n
        ·subst e;exact hlf
        ·exact HL.out l (by omega))
       clear hlf bE;go_wp2_with (first | (at_lookup;refine nk _ rfl _ _ rfl m9 j Z _ rfl HU.out tv HWf.out rfl true HSx.out ?_) | (at_delete;refine wH _ rfl _ _ rfl m9 j Z _ rfl HUe.out tv HWf.out HSx.out rfl ?_;intro w1 Z1 hZ1 own1 grow1) | fail)
       go_roundw
       case rel=>exact⟨n+1,Z1,by omega,by go_num,by have:=hZ.out;omega,ae (own1.congr (HLs.out ps)),ae (HBe.out.trans (cx grow1 HBe.out.size HM0.out)),HL2⟩
       case measure=>simp [intOf];omega
      |false=>
       have HSx:Hid ((az ps tv && !az (tt.take n) tv)=false):=ae (by rw [←HLf.out,hlf]);have HD:Hid (r=false):=ae (by
        rw [←HR.out];have:kU ps tt=false:=by
         unfold kU;rw [Bool.and_eq_false_iff];left;rw [List.all_eq_false];exact⟨n,List.mem_range.2 hnp,by rw [hlf];simp⟩
        rw [this,Bool.and_false])
       clear hlf bE;go_wp2_with (first | (at_lookup;refine nk _ rfl _ _ rfl m9 j Z _ rfl HU.out tv HWf.out rfl false HSx.out ?_) | fail)
       go_ret;exact⟨by rw [HD.out];rfl,HBe.out⟩
     ·obtain rfl:n=tn:=(by omega);have HAl:Hid ((List.range tt.length).all (oI ps tt)=true):=ae (by
       rw [List.all_eq_true];intro l hl;rw [List.mem_range,htne.out] at hl;exact HL.out l hl)
      by_cases hZ0:Z=0
      ·have HD:Hid (r=true):=ae (by
        rw [←HR.out,HFi.out,kU,HAl.out,htne.out,hpne.out];have:=hZ.out;simp;omega)
       have HUz:=ae HU.out;subst hZ0;go_wp2_with (first | (at_len;refine oH _ rfl _ rfl m9 j 0 _ rfl HU.out ?_) | fail)
       go_ret;exact⟨by rw [HD.out];rfl,HB.out⟩
      ·have HD:Hid (r=false):=ae (by
        rw [←HR.out,HFi.out,kU,HAl.out,htne.out,hpne.out];have:=hZ.out;simp;omega)
       have hb:=ae (show((Z:Int) == 0)=false by simpa using hZ0);have hZI:¬(Z:Int)=0:=(by omega);go_wp2_with (first | (at_len;refine oH _ rfl _ rfl m9 j Z _ rfl HU.out ?_) | fail)
       go_ret;exact⟨by rw [HD.out,←hb.out];rfl,HB.out⟩
end Go.Proofs.YtljkgcfnoegibaaGreatDoor
