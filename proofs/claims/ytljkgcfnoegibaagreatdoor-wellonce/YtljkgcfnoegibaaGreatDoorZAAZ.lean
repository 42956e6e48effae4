/- Texts of one chain, joined. -/
import Derived.Test.YtljkgcfnoegibaaGreatDoorZAAY
set_option maxHeartbeats 2000000
set_option maxRecDepth 20000
namespace Go.Proofs.YtljkgcfnoegibaaGreatDoor
open Go Go.RowKit
open G (Tok Er Ins Fun)
theorem Chg.set {B:Nat} {w w1:World} (h:Chg B w w1) {a:Addr} (ha:w.heap.size≤a.block) (hB:B≤a.block) (u:Value):Chg B w (w1.setCell a u):=
 ⟨h.1.setCell (p:=a) hB u,fun i x t z hi=>by
  have hlt:=(Array.getElem?_eq_some_iff.1 hi).1;rw [Below.heap_setCell w1 a u i (by omega)];exact h.2 i x t z hi⟩
theorem pG (F:Nat) (ek:∀args w,(callFunc F args).run Tryz.prog w= .ok (.enter F args) w) (po ap ab:Option Addr) (pn pc an cp bn cb:Nat) (nm:ByteArray) (rt pl:Int) (src:Bool) (qb qo qn qc tr tb mb:Nat) (f:Fun) (w0 w:World) (hbk:dy w0 f.2.2.2.1 (.slice ab bn cb)) (hbn:bn=f.2.2.2.1.length) (hM:Mod f) (c:Nat→Nat→Int) (S:Nat→Nat→World→Prop)
  (hSb:∀k i w',S k i w'→Below w0.heap.size w0 w'∧w0.heap.size≤w'.heap.size)
  (M:Nat) (hMw:M≤w.heap.size) (hSg:∀k i w' w'' r,S k i w'→w'.grownBy w'' (some r)→M≤r→S k i w'')
  (hSr:∀k w',k < bn→S k (aG f k).length w'→S (k+1) 0 w')
  (hst:∀k i xv w',k < bn→i < (aG f k).length→S k i w'→lT w' (au f k i) xv→Calls Tryz.prog F #[.agg #[.slice po pn pc,.string nm,.slice ap an cp,.int .i64 rt,.slice ab bn cb,.int .i64 pl,.bool src,.slice (some ⟨qb,qo,none⟩) qn qc,.pointer (some ⟨tr,0,none⟩),.map (some tb),.map (some mb)],.agg #[.int .i64 k,.int .i64 i],xv] w' fun e w''=>e= .returned (.int .i64 (c k i))∧(c k i=0→S k (i+1) w'')∧Chg w0.heap.size w' w'')
  (hS:S 0 0 w):
  Calls Tryz.prog 68 #[.agg #[.slice po pn pc,.string nm,.slice ap an cp,.int .i64 rt,.slice ab bn cb,.int .i64 pl,.bool src,.slice (some ⟨qb,qo,none⟩) qn qc,.pointer (some ⟨tr,0,none⟩),.map (some tb),.map (some mb)],.func (Fn.func F) #[.agg #[.slice po pn pc,.string nm,.slice ap an cp,.int .i64 rt,.slice ab bn cb,.int .i64 pl,.bool src,.slice (some ⟨qb,qo,none⟩) qn qc,.pointer (some ⟨tr,0,none⟩),.map (some tb),.map (some mb)]] #[]] w fun e w'=>e= .returned (.agg #[.int .i64 (ft f c).1,.int .i64 (ft f c).2])∧((ft f c).1=0→S bn 0 w')∧Below w0.heap.size w0 w'∧Chg w0.heap.size w w':=by
 have HRd2:Hid (∀k,k < bn→∃g o ao ac,ab=some ⟨g,o,none⟩∧(∀w',Below w0.heap.size w0 w'→w'.cell? ⟨g,o+k,none⟩=some (.slice ao (aG f k).length ac))∧∀w',Below w0.heap.size w0 w'→∀i,i < (aG f k).length→∃g2 o2,ao=some ⟨g2,o2,none⟩∧my w' (au f k i) g2 (o2+i * 8)):=ae (fun k hk=>by
  obtain⟨g,o,ao,ac,h1,h2,h3,h4⟩:=eD (k:=k) hbk (by omega);refine⟨g,o,ao,ac,h1,fun w' b=>(b.cell (p:=⟨g,o+k,none⟩) h2).trans h3,fun w' b i hi=>eR (h4.below b) hi⟩)
 have HNo:Hid ((∀k,k < bn→∀i,i < (aG f k).length→c k i=0)→ft f c=(0,0)):=ae (fun h=>A7 (by rw [←hbn];exact h));have HYes:Hid (∀K I,(∀k,k < K→∀i,i < (aG f k).length→c k i=0)→(∀i,i < I→c K i=0)→K < bn→I < (aG f K).length→c K I≠0→ft f c=(c K I,(au f K I).2.2.2.2.2.2.2)):=ae (fun K I h1 h2 h3 h4 h5=>BK h1 h2 (by omega) h4 h5);have hN:bn≤1000000:=by rw [hbn];exact hM.1
 have HMb:=ae (fun k=>hM.blk k);clear hbk hM;replace hbn:=ae hbn;obtain⟨r,hr⟩:∃r,ft f c=r:=⟨_,rfl⟩;rw [hr] at HNo HYes ⊢;clear hr;have HSb:=ae hSb;have HSg:=ae hSg;have HSr:=ae hSr;have HSt:=ae hst;clear hSb hSg hSr hst;have hq0:=(HSb.out _ _ _ hS).2;obtain⟨b0,h0,h1⟩:=kK w (.cells #[.slice po pn pc,.string nm,.slice ap an cp,.int .i64 rt,.slice ab bn cb,.int .i64 pl,.bool src,.slice (some ⟨qb,qo,none⟩) qn qc,.pointer (some ⟨tr,0,none⟩),.map (some tb),.map (some mb)] 111) (.cells #[.int .i64 0,.int .i64 0] 29);have HS:=ae (HSg.out 0 0 _ _ M hS (bY b0 _) (Nat.le_refl _));have H0:=ae h0;have H1:=ae h1;have HCg:=ae (Chg.bJ b0 hq0);clear b0 h0 h1 hS;obtain⟨q,hq⟩:∃q,w.heap.size=q:=⟨_,rfl⟩;have hqw:w.heap.size≤q+1:=by omega
 rw [hq] at H0 H1;rw [hq] at hq0 hMw;go_enter Tryz.func68,Tryz.ntmps68
 go_upto_region 1 with fail
 show Code.wp _ _ _ _ ((w.alloc (.cells #[.slice po pn pc,.string nm,.slice ap an cp,.int .i64 rt,.slice ab bn cb,.int .i64 pl,.bool src,.slice (some ⟨qb,qo,none⟩) qn qc,.pointer (some ⟨tr,0,none⟩),.map (some tb),.map (some mb)] 111)).alloc (.cells #[.int .i64 0,.int .i64 0] 29));generalize (w.alloc (.cells #[.slice po pn pc,.string nm,.slice ap an cp,.int .i64 rt,.slice ab bn cb,.int .i64 pl,.bool src,.slice (some ⟨qb,qo,none⟩) qn qc,.pointer (some ⟨tr,0,none⟩),.map (some tb),.map (some mb)] 111)).alloc (.cells #[.int .i64 0,.int .i64 0] 29)=W at *;replace hqw:=ae hqw;clear hq;obtain⟨⟨c0,c1,c2,c3,c4,c5,c6,c7,c8,c9,c10⟩,_⟩:=cl _ _ _ _ _ _ _ _ _ _ _ _ _ _ _ _ _ _ _ _ H0.out;go_wp2_with fail
 clear c0 c1 c2 c3 c4 c5 c6 c7 c8 c9 c10;go_loopw [14] (fun kv wr=>∃K:Nat,K≤bn∧kv= .int .i64 K∧Hid (∀k,k < K→∀i,i < (aG f k).length→c k i=0)∧Hid (S K 0 wr)∧Hid (wr.heap[q]? =some (.cells #[.slice po pn pc,.string nm,.slice ap an cp,.int .i64 rt,.slice ab bn cb,.int .i64 pl,.bool src,.slice (some ⟨qb,qo,none⟩) qn qc,.pointer (some ⟨tr,0,none⟩),.map (some tb),.map (some mb)] 111 (0,0)))∧Hid (wr.heap[q+1]? =some (.cells #[.int .i64 0,.int .i64 0] 29 (0,0)))∧Hid (Chg w0.heap.size w wr)) (fun kv _=>bn - (intOf kv).toNat)
 case atStart=>exact⟨0,Nat.zero_le _,rfl,ae (fun k h=>absurd h (Nat.not_lt_zero _)),HS,H0,H1,HCg⟩
 case round=>
  clear HS H0 H1 HCg;obtain⟨K,hK,rfl,HF,HS,H0,H1,HCg⟩:=hrel;by_cases hkt:K < bn
  ·have hkI:(K:Int) < bn:=(by omega);obtain⟨g,o,ao,ac,rfl,cu,hins2⟩:=HRd2.out K hkt;replace cu:=cu wr (HSb.out _ _ _ HS.out).1;replace hins2:=ae hins2;have hlb:=HMb.out K;obtain⟨lb,hlbe⟩:∃lb,(aG f K).length=lb:=⟨_,rfl⟩;rw [hlbe] at cu hlb;replace hlbe:=ae hlbe;go_wp2_with fail
   clear cu;go_loopw [21] (fun iv wr2=>∃I:Nat,I≤lb∧iv= .int .i64 I∧Hid (∀i,i < I→c K i=0)∧Hid (S K I wr2)∧Hid (wr2.heap[q]? =some (.cells #[.slice po pn pc,.string nm,.slice ap an cp,.int .i64 rt,.slice (some ⟨g,o,none⟩) bn cb,.int .i64 pl,.bool src,.slice (some ⟨qb,qo,none⟩) qn qc,.pointer (some ⟨tr,0,none⟩),.map (some tb),.map (some mb)] 111 (0,0)))∧Hid (wr2.heap[q+1]? =some (.cells #[.int .i64 0,.int .i64 0] 29 (0,0)))∧Hid (Chg w0.heap.size w wr2)) (fun iv _=>lb - (intOf iv).toNat)
   case atStart=>exact⟨0,Nat.zero_le _,rfl,ae (fun i h=>absurd h (Nat.not_lt_zero _)),HS,H0,H1,HCg⟩
   case round=>
    clear HS H0 H1 HCg;obtain⟨I,hI,rfl,HG,HS,H0,H1,HCg⟩:=hrel;by_cases hit:I < lb
    ·have hiI:(I:Int) < lb:=(by omega);obtain⟨g2,o2,e2,hxr⟩:=hins2.out wr (HSb.out _ _ _ HS.out).1 I (by rw [hlbe.out];exact hit);subst e2;obtain⟨xo,zo,xc,zc,hxv,e0,e1,e2,e3,e4,e5,e6,e7⟩:=hxr.val;have HXv:=ae hxv;have HCl:=ae (HSt.out K I);obtain⟨x,hx⟩:∃x,au f K I=x:=⟨_,rfl⟩;rw [hx] at e0 e1 e2 e3 e4 e5 e6 e7 HXv HCl;have HY2:=ae (HYes.out K I HF.out HG.out hkt (by rw [hlbe.out];exact hit));rw [hx] at HY2;clear hx hxv hxr;have b3:=ah wr (.cells #[.int .i64 x.1,.int .i64 x.2.1,.int .i64 x.2.2.1,.int .i64 x.2.2.2.1,.slice xo x.2.2.2.2.1.length xc,.slice zo x.2.2.2.2.2.1.length zc,.string (bs x.2.2.2.2.2.2.1),.int .i64 x.2.2.2.2.2.2.2] 47);have Y3:=ae (heap_alloc_new wr (.cells #[.int .i64 x.1,.int .i64 x.2.1,.int .i64 x.2.2.1,.int .i64 x.2.2.2.1,.slice xo x.2.2.2.2.1.length xc,.slice zo x.2.2.2.2.2.1.length zc,.string (bs x.2.2.2.2.2.2.1),.int .i64 x.2.2.2.2.2.2.2] 47));have HXv3:=ae (HXv.out.below b3);have HS3:=ae (HSg.out K I _ _ M HS.out (bY b3 _) (Nat.le_refl _));have K0:=ae ((b3.block q (Array.getElem?_eq_some_iff.1 H0.out).1).trans H0.out);have K1:=ae ((b3.block (q+1) (Array.getElem?_eq_some_iff.1 H1.out).1).trans H1.out);have HCg3:=ae (HCg.out.trans (Chg.bJ b3 (HSb.out _ _ _ HS.out).2));clear b3;generalize x.2.2.2.2.1.length=xl at *;generalize x.2.2.2.2.2.1.length=zl at *;go_upto_region 7 with fail
     show Code.wp _ _ _ _ (wr.alloc (.cells #[.int .i64 x.1,.int .i64 x.2.1,.int .i64 x.2.2.1,.int .i64 x.2.2.2.1,.slice xo xl xc,.slice zo zl zc,.string (bs x.2.2.2.2.2.2.1),.int .i64 x.2.2.2.2.2.2.2] 47));generalize wr.alloc (.cells #[.int .i64 x.1,.int .i64 x.2.1,.int .i64 x.2.2.1,.int .i64 x.2.2.2.1,.slice xo xl xc,.slice zo zl zc,.string (bs x.2.2.2.2.2.2.1),.int .i64 x.2.2.2.2.2.2.2] 47)=w3 at *;generalize wr.heap.size=q3 at *;clear e0 e1 e2 e3 e4 e5 e6 e7;obtain⟨⟨y0,y1,y2,y3,y4,y5,y6,y7⟩,_⟩:=cH Y3.out;go_wp2_with fail
     refine(HCl.out _ w3 hkt (by rw [hlbe.out];exact hit) HS3.out HXv3.out).mono ?_;rintro e w4 ⟨rfl,hS4,hC4⟩;have HS4:=ae hS4;have Q0:=ae (hC4.2 _ _ _ _ K0.out);have Q1:=ae (hC4.2 _ _ _ _ K1.out);have Y4:=ae (hC4.2 _ _ _ _ Y3.out);have HB4:=ae ((HSb.out _ _ _ HS3.out).1.trans hC4.1);have HCg4:=ae (HCg3.out.trans hC4);clear y0 y1 y2 y3 y4 y5 y6 y7 hC4 hS4;obtain⟨⟨y0,y1,y2,y3,y4,y5,y6,y7⟩,_⟩:=cH Y4.out;obtain⟨cc,hcc⟩:∃cc,c K I=cc:=⟨_,rfl⟩;have HCc:=ae hcc;rw [hcc] at HY2 HS4 ⊢;clear hcc;by_cases hc0:cc=0
     ·subst hc0;have HS5:=ae (HS4.out rfl);have HG2:Hid (∀i,i < I+1→c K i=0):=ae (fun i hi=>by
       by_cases e:i=I
       ·subst e;exact HCc.out
       ·exact HG.out i (by omega))
      go_wp2_with fail
      go_roundw
      case rel=>exact⟨I+1,by omega,by go_num,HG2,HS5,Q0,Q1,HCg4⟩
      case measure=>simp [intOf];omega
     ·have HR:Hid (r=(cc,x.2.2.2.2.2.2.2)):=ae (HY2.out hc0);obtain⟨⟨z0,z1⟩,⟨f0,f1⟩,_⟩:=aP Q1.out;have hqB:w0.heap.size≤q+1:=(by have:=hq0;omega);have HE:Hid (Below w0.heap.size w0 ((w4.setCell ⟨q+1,0,none⟩ (.int .i64 cc)).setCell ⟨q+1,1,none⟩ (.int .i64 x.2.2.2.2.2.2.2))):=ae (((HB4.out.setCell (p:=⟨q+1,0,none⟩) hqB _).setCell (p:=⟨q+1,1,none⟩) hqB _));have HCe:=ae ((HCg4.out.set (a:=⟨q+1,0,none⟩) hqw.out hqB (.int .i64 cc)).set (a:=⟨q+1,1,none⟩) hqw.out hqB (.int .i64 x.2.2.2.2.2.2.2));go_wp2_with fail
      exact bodyPost_ret (v:= .agg #[.int .i64 cc,.int .i64 x.2.2.2.2.2.2.2]) (by simp [results,Tryz.results68,go_sem,z0,z1]) rfl ⟨by rw [HR.out],fun h=>by rw [HR.out] at h;exact absurd h hc0,HE.out,HCe.out⟩
    ·obtain rfl:I=lb:=(by omega);have HF2:Hid (∀k,k < K+1→∀i,i < (aG f k).length→c k i=0):=ae (fun k hk i hi=>by
      by_cases e:k=K
      ·subst e;exact HG.out i (by rw [←hlbe.out];exact hi)
      ·exact HF.out k (by omega) i hi)
     have HS2:=ae (HSr.out K wr hkt (by rw [hlbe.out];exact HS.out));go_wp2_with fail
     go_roundw
     case rel=>exact⟨K+1,by omega,by go_num,HF2,HS2,H0,H1,HCg⟩
     case measure=>simp [intOf];omega
  ·obtain rfl:K=bn:=(by omega);have HR:=ae (HNo.out HF.out);obtain⟨⟨z0,z1⟩,⟨f0,f1⟩,_⟩:=aP H1.out;have hqB:w0.heap.size≤q+1:=(by omega);have HE:Hid (Below w0.heap.size w0 ((wr.setCell ⟨q+1,0,none⟩ (.int .i64 0)).setCell ⟨q+1,1,none⟩ (.int .i64 0))):=ae ((((HSb.out _ _ _ HS.out).1.setCell (p:=⟨q+1,0,none⟩) hqB _).setCell (p:=⟨q+1,1,none⟩) hqB _));have HSe:Hid (S K 0 ((wr.setCell ⟨q+1,0,none⟩ (.int .i64 0)).setCell ⟨q+1,1,none⟩ (.int .i64 0))):=ae (HSg.out _ _ _ _ (q+1) (HSg.out _ _ _ _ (q+1) HS.out (cJ wr ⟨q+1,0,none⟩ (.int .i64 0)) (by omega)) (cJ (wr.setCell ⟨q+1,0,none⟩ (.int .i64 0)) ⟨q+1,1,none⟩ (.int .i64 0)) (by omega));have HCe:=ae ((HCg.out.set (a:=⟨q+1,0,none⟩) hqw.out hqB (.int .i64 0)).set (a:=⟨q+1,1,none⟩) hqw.out hqB (.int .i64 0));go_wp2_with fail
   exact bodyPost_ret (v:= .agg #[.int .i64 0,.int .i64 0]) (by simp [results,Tryz.results68,go_sem,z0,z1]) rfl ⟨by rw [HR.out],fun _=>HSe.out,HE.out,HCe.out⟩
open Mix (Up)
def Off (w:World) (b:Nat):Prop:=b < w.heap.size∧∀(cur:Array Value) (z:Nat × Nat),w.heap[b]? ≠some (Obj.cells cur 111 z)
theorem Off.below {w w':World} {b:Nat} (h:Off w b) (k:Below w.heap.size w w'):Off w' b:=⟨Nat.lt_of_lt_of_le h.1 k.size,fun cur z=>by rw [k.block b h.1];exact h.2 cur z⟩
theorem ux {w:World} {b t:Nat} {cur:Array Value} {z:Nat × Nat} (h:w.heap[b]? =some (Obj.cells cur t z)) (ht:t≠111):Off w b:=⟨(Array.getElem?_eq_some_iff.1 h).1,fun cur' z' e=>by
 rw [h] at e;injection e with e;injection e with _ e;exact ht e⟩
def SlG (w:World) (ao:Option Addr) (l:List Int):Prop:=l= []∨∃b o,ao=some ⟨b,o,none⟩∧Off w b∧∀i n,l[i]? =some n→w.cell? ⟨b,o+i,none⟩=some (.int .i64 n)
theorem SlG.sl {w:World} {ao:Option Addr} {l:List Int} (h:SlG w ao l):Sl w ao l:=by
 rcases h with h | ⟨b,o,e,hb,hc⟩
 ·exact .inl h
 ·exact .inr ⟨b,o,e,hb.1,hc⟩
theorem SlG.below {w w':World} {ao:Option Addr} {l:List Int} (h:SlG w ao l) (k:Below w.heap.size w w'):SlG w' ao l:=by
 rcases h with h | ⟨b,o,e,hb,hc⟩
 ·exact .inl h
 ·exact .inr ⟨b,o,e,hb.below k,fun i n hi=>(k.cell (p:=⟨b,o+i,none⟩) hb.1).trans (hc i n hi)⟩
def lY (w:World) (l:List Int) (v:Value):Prop:=∃ao c,v= .slice ao l.length c∧SlG w ao l
theorem lY.below {w w':World} {l:List Int} {v:Value} (h:lY w l v) (k:Below w.heap.size w w'):lY w' l v:=by
 obtain⟨ao,c,e,h⟩:=h;exact⟨ao,c,e,h.below k⟩
def Up.Lo (l:List Int):Up:=⟨fun v w=>lY w l v,fun _ _ _ b h=>h.below b⟩
theorem A5 {B:Nat} {w:World} {l:List Int} {v:Value} (h:w.ownsRow B 3 1 v l.length (ints l)):lY w l v:=by
 have h2:=h;rcases h2.2 with ⟨hn,hx⟩ | ⟨g,cap,cur,e1,h1,h2,h3,h4,h5,h6⟩
 ·have hl:l= []:=by
   have:=h.1
   cases l with
   |nil=>rfl
   |cons a t=>rw [hx] at this;simp at this
  subst hl;exact⟨none,0,hn,.inl rfl⟩
 ·refine⟨some ⟨g,0,none⟩,cap,e1,?_⟩;by_cases hl:l= []
  ·exact .inl hl
  ·refine .inr ⟨g,0,rfl,ux h2 (by decide),fun i n hi=> ?_⟩;obtain⟨ao,c,e,hs,_⟩:=dG h;rw [e1] at e;injection e with e2 e3 e4;rcases hs with hs | ⟨b,o,e5,hb,hc⟩
   ·exact absurd hs hl
   ·rw [←e2] at e5;injection e5 with e5;injection e5 with e6 e7;subst e6 e7;exact hc i n hi
theorem E2 {B:Nat} {w:World} {l:List Int} {v:Value} (h:w.ownsRow B 3 1 v l.length (ints l)):lY w l v:=A5 h
theorem Gu {B g n:Nat} {w:World} {l:List Int} (h:aS w B 3 g n (ints l)):SlG w (some ⟨g,0,none⟩) l:=by
 by_cases hl:l= []
 ·exact .inl hl
 ·rcases Sl.sY h with hs | ⟨b,o,e5,hb,hc⟩
  ·exact absurd hs hl
  ·injection e5 with e5;injection e5 with e6 e7;subst e6 e7;exact .inr ⟨g,0,rfl,ux (fX h) (by decide),hc⟩
def nw (w:World) (f:Fun) (v:Value):Prop:=∃(t:Nat) (uo dd:Option Addr) (uc dc:Nat),v= .pointer (some ⟨t,0,none⟩)∧L5.Box w t [.slice uo f.2.2.2.1.length uc,.slice dd f.2.2.2.1.length dc]∧Off w t∧SlG w uo (iU (aD f))∧SlG w dd (rm (aD f))
theorem nw.below {w w':World} {f:Fun} {v:Value} (h:nw w f v) (b:Below w.heap.size w w'):nw w' f v:=by
 obtain⟨t,uo,dd,uc,dc,e,h1,h2,h3,h4⟩:=h;exact⟨t,uo,dd,uc,dc,e,h1.below b,h2.below b,h3.below b,h4.below b⟩
def oK (w:World) (ll:List (List Int)) (v:Value):Prop:=∃g o c,v= .slice (some ⟨g,o,none⟩) ll.length c∧Off w g∧∀k l,ll[k]? =some l→∃ao ac,w.cell? ⟨g,o+k,none⟩=some (.slice ao l.length ac)∧SlG w ao l
theorem oK.below {w w':World} {ll:List (List Int)} {v:Value} (h:oK w ll v) (b:Below w.heap.size w w'):oK w' ll v:=by
 obtain⟨g,o,c,e,h1,h2⟩:=h;refine⟨g,o,c,e,h1.below b,fun k l hl=> ?_⟩;obtain⟨ao,ac,q1,q2⟩:=h2 k l hl;exact⟨ao,ac,(b.cell (p:=⟨g,o+k,none⟩) h1.1).trans q1,q2.below b⟩
theorem Eo {B:Nat} {w:World} {ll:List (List Int)} {v:Value} (h:cF B w ll v) (h0:0 < ll.length):oK w ll v:=by
 obtain⟨us,h1,h2,h3⟩:=h;have h1':=h1;rcases h1'.2 with ⟨hn,hx⟩ | ⟨g,cap,cur,e1,q1,q2,q3,q4,q5,q6⟩
 ·rw [hx] at h2;simp at h2;omega
 ·subst e1;refine⟨g,0,cap,rfl,ux q2 (by decide),fun k l hl=> ?_⟩;obtain⟨u,hu,ho⟩:=h3 k l hl;obtain⟨ao,c,rfl,hs⟩:=A5 ho;refine⟨ao,c,?_,hs⟩;have:=World.ownsRow.cells h1 (g:=g) rfl k _ hu;rw [Nat.zero_add];rw [Addr.add_lit,Nat.zero_add] at this;exact this
def KG (fv ov:Value) (f:Fun) (t:Tmp):Up:=match t with
 |7=>Up.eq ov
 |8 | 10=>Up.eq fv
 |9=>Up.ints (dD f)
 |11=>Up.rows (aK f)
 |12 | 4=>Up.Lo (iU (aD f))
 |_=>Up.any
theorem zJ (f:Fun) (v:Value) (w:World) (hv:cg w f v) (hF:Ful f) (hT:Tos f) (h0:0 < f.2.2.2.1.length):
  Calls Tryz.prog 67 #[v] w fun e w'=>∃a,e= .returned (.pointer (some a))∧nw w' f (.pointer (some a))∧Below w.heap.size w w':=by
 have hv2:=hv;obtain⟨vp,vb,rfl,_,_⟩:=hv2;have b0:=ah w (.cells #[.string (bs f.1),vp,.int .i64 f.2.2.1,vb,.int .i64 f.2.2.2.2] 36);have X0:=ae (L5.Box.new w [.string (bs f.1),vp,.int .i64 f.2.2.1,vb,.int .i64 f.2.2.2.2] 36);have HV:=ae (hv.below b0);have B0:=ae b0;have HIn:=ae (Gz hF hT h0);have HGr:=ae (fI hT h0);have HOu:=ae (Hu hT h0);have hN:f.2.2.2.1.length≤1000000:=hF.1;have hol:(aC f).length≤1000000:=Nat.le_trans (gj hT h0) hF.1;have HCo:=ae (fun v w hv=>pF f v w hv hF hT h0);have HCp:=ae (fun v w hv=>uO f v w hv hF hT h0);have HCr:=ae (fun v w hv=>nN f v w hv hF hT);have HSl:=ae (bI f);have HPl:=ae (kA f);clear b0 hv hF hT;obtain⟨lp,cp,rfl⟩:∃ao c,vp= .slice ao f.2.1.length c:=by
  obtain⟨vp',vb',e,⟨ao,c,e2,_⟩,_⟩:=HV.out;injection e with e;have e1:=congrArg (fun a=>a[1]?) e;simp at e1;exact⟨ao,c,by rw [e1,e2]⟩
 obtain⟨lb,cb,rfl⟩:∃ao c,vb= .slice ao f.2.2.2.1.length c:=by
  obtain⟨vp',vb',e,_,⟨ao,c,e2,_⟩⟩:=HV.out;injection e with e;have e1:=congrArg (fun a=>a[3]?) e;simp at e1;exact⟨ao,c,by rw [e1,e2]⟩
 generalize bs f.1=nm at *;generalize f.2.1.length=lps at *;generalize f.2.2.1=rt at *;obtain⟨lbs,hlbs⟩:∃n,n=f.2.2.2.1.length:=⟨_,rfl⟩;rw [←hlbs] at X0 HV B0 h0 hN ⊢;have HLB:=ae hlbs;clear hlbs;generalize f.2.2.2.2=pl at *;go_enter Tryz.func67,Tryz.ntmps67
 go_upto_region 1 with fail
 show Code.wp _ _ _ _ (w.alloc (.cells #[.string nm,.slice lp lps cp,.int .i64 rt,.slice lb lbs cb,.int .i64 pl] 36));replace X0:Hid (L5.Box (w.alloc (.cells #[.string nm,.slice lp lps cp,.int .i64 rt,.slice lb lbs cb,.int .i64 pl] 36)) w.heap.size [.string nm,.slice lp lps cp,.int .i64 rt,.slice lb lbs cb,.int .i64 pl]):=X0;generalize w.alloc (.cells #[.string nm,.slice lp lps cp,.int .i64 rt,.slice lb lbs cb,.int .i64 pl] 36)=W at *;generalize hq:w.heap.size=q at *;obtain⟨x0,x1,x2,x3,x4⟩:_∧_∧_∧_∧_:=⟨X0.out.2 0 _ rfl,X0.out.2 1 _ rfl,X0.out.2 2 _ rfl,X0.out.2 3 _ rfl,X0.out.2 4 _ rfl⟩;have HO:=ae (HCo.out _ W HV.out);go_wp2_with fail
 refine HO.out.mono ?_;rintro e w2 ⟨u,rfl,hu,b2⟩;have HOi:=ae (dG hu);obtain⟨oo,oc,rfl⟩:=aL hu;have X2:=ae (X0.out.below b2);have HV2:=ae (HV.out.below b2);have B2:Hid (Below w.heap.size w w2):=ae (by have h:=B0.out;rw [←hq] at h;exact af h b2);clear x0 x1 x2 x3 x4 HO hu b2 X0 HV HCo;have CP:∀w,Below w2.heap.size w2 w→Calls Tryz.prog 97 #[(.agg #[.string nm,.slice lp lps cp,.int .i64 rt,.slice lb lbs cb,.int .i64 pl])] w fun e w'=>∃v,e= .returned v∧Below w.heap.size w w'∧bX w' (dD f) v:=fun w b=>(HCp.out _ w (HV2.out.below b)).mono fun e w' ⟨g,he,h,b'⟩=>⟨_,he,b',wZ h⟩;have CR:∀w,Below w2.heap.size w2 w→Calls Tryz.prog 66 #[(.agg #[.string nm,.slice lp lps cp,.int .i64 rt,.slice lb lbs cb,.int .i64 pl])] w fun e w'=>∃v,e= .returned v∧Below w.heap.size w w'∧fL w' (aK f) v:=fun w b=>(HCr.out _ w (HV2.out.below b)).mono fun e w' ⟨v,he,h,b'⟩=>⟨_,he,b',h.read⟩;have CV:∀w,Below w2.heap.size w2 w→∀(p9 p11:Value),bX w (dD f) p9→fL w (aK f) p11→Calls Tryz.prog 96 #[(.slice oo (aC f).length oc),p9,p11] w fun e w'=>∃v,e= .returned v∧Below w.heap.size w w'∧lY w' (iU (aD f)) v:=by
  rintro w b p9 p11 ⟨po,pc,rfl,hps,_,_⟩ ⟨ro,rc,rfl,hrs,_,_⟩;obtain⟨oo',oc',e,hos,_,_⟩:=HOi.out.below b;injection e with e1 e2 e3;subst e1 e3;refine(Ho (aD f) (atF f) (aC f) (dD f) (aK f) HIn.out oo po ro oc pc rc w hos hps hrs).mono ?_;rintro e w' ⟨g,rfl,hr,hb⟩;refine⟨_,rfl,hb,?_⟩;have h1:(iU (aD f)).length=(aD f).length:=fQ _;unfold aS at hr;rw [←h1] at hr ⊢;exact E2 hr
 have CX:∃v w',Below w2.heap.size w2 w'∧lY w' (iU (aD f)) v:=by
  obtain⟨_,w3,v3,_,b3,h3⟩:=dj (CP w2 (Below.refl _ _));obtain⟨_,w4,v4,_,b4,h4⟩:=dj (CR w3 b3);obtain⟨_,w5,v5,_,b5,h5⟩:=dj (CV w4 (af b3 b4) v3 v4 (h3.below b4) h4);exact⟨v5,w5,af (af b3 b4) b5,h5⟩
 have xs:=fun(w:World) (b:Below w2.heap.size w2 w)=>And.intro ((X2.out.below b).2 0 _ rfl) (And.intro ((X2.out.below b).2 1 _ rfl) (And.intro ((X2.out.below b).2 2 _ rfl) (And.intro ((X2.out.below b).2 3 _ rfl) ((X2.out.below b).2 4 _ rfl))));go_upto_region 2 with fail
 refine Mix.cj (KG (.agg #[.string nm,.slice lp lps cp,.int .i64 rt,.slice lb lbs cb,.int .i64 pl]) (.slice oo (aC f).length oc) f) (by kernel_rfl) (by kernel_rfl) ?_;refine Mix.aj rfl (aq (.slice oo (aC f).length oc) rfl) ?_ ?_
 ·intro w b k;clear k;simp [go_sem];exact⟨Below.refl _ _,fun d hd=>by cases hd;rfl⟩
 rintro v ⟨_,_,h⟩;obtain rfl:v=(.slice oo (aC f).length oc):=h _ rfl;clear h;simp only [Act.put,sU1,sU2,sU3];refine Mix.aj rfl (aq (.agg #[.string nm,.slice lp lps cp,.int .i64 rt,.slice lb lbs cb,.int .i64 pl]) rfl) ?_ ?_
 ·intro w b k;obtain⟨x0,x1,x2,x3,x4⟩:=xs w b;clear k;simp [go_sem,x0,x1,x2,x3,x4];exact⟨Below.refl _ _,fun d hd=>by cases hd;rfl⟩
 rintro v ⟨_,_,h⟩;obtain rfl:v=(.agg #[.string nm,.slice lp lps cp,.int .i64 rt,.slice lb lbs cb,.int .i64 pl]):=h _ rfl;clear h;simp only [Act.put,sU1,sU2,sU3];refine Mix.aj rfl (cD (CP w2 (Below.refl _ _))) ?_ ?_
 ·intro w b k;clear k;simp [go_sem];exact Calls.mono (CP w b) fun e w' ⟨v,he,hb,hf⟩=>⟨v,he,hb,fun d hd=>by cases hd;exact hf⟩
 rintro p9 -;simp only [Act.put,sU1,sU2,sU3];refine Mix.aj rfl (aq (.agg #[.string nm,.slice lp lps cp,.int .i64 rt,.slice lb lbs cb,.int .i64 pl]) rfl) ?_ ?_
 ·intro w b k;obtain⟨x0,x1,x2,x3,x4⟩:=xs w b;clear k;simp [go_sem,x0,x1,x2,x3,x4];exact⟨Below.refl _ _,fun d hd=>by cases hd;rfl⟩
 rintro v ⟨_,_,h⟩;obtain rfl:v=(.agg #[.string nm,.slice lp lps cp,.int .i64 rt,.slice lb lbs cb,.int .i64 pl]):=h _ rfl;clear h;simp only [Act.put,sU1,sU2,sU3];refine Mix.aj rfl (cD (CR w2 (Below.refl _ _))) ?_ ?_
 ·intro w b k;clear k;simp [go_sem];exact Calls.mono (CR w b) fun e w' ⟨v,he,hb,hf⟩=>⟨v,he,hb,fun d hd=>by cases hd;exact hf⟩
 rintro p11 -;simp only [Act.put,sU1,sU2,sU3];refine Mix.aj rfl (by obtain⟨v,w',b,h⟩:=CX;exact⟨v,w',b,fun d hd=>by cases hd;exact h⟩) ?_ ?_
 ·intro w b k;have f1:bX w (dD f) p9:=k 9 (by decide +kernel) (by simp [Mix.add]) p9 rfl;have f2:fL w (aK f) p11:=k 11 (by decide +kernel) (by simp [Mix.add]) p11 rfl;clear k;simp [go_sem];exact Calls.mono (CV w b p9 p11 f1 f2) fun e w' ⟨v,he,hb,hf⟩=>⟨v,he,hb,fun d hd=>by cases hd;exact hf⟩
 rintro p12 -;simp only [Act.put,sU1,sU2,sU3];refine Mix.aj rfl (by obtain⟨v,w',b,h⟩:=CX;exact⟨v,w',b,fun d hd=>by cases hd;exact h⟩) ?_ ?_
 ·intro w b k;have f1:lY w (iU (aD f)) p12:=k 12 (by decide +kernel) (by simp [Mix.add]) p12 rfl;clear k;simp [go_sem];exact⟨Below.refl _ _,fun d hd=>by cases hd;exact f1⟩
 rintro p4 -;simp only [Act.put,sU1,sU2,sU3];refine Mix.ed ?_;intro w4 b4 hk;have f4:lY w4 (iU (aD f)) p4:=hk 4 (by simp [Mix.add]) p4 rfl;clear CP CR CV CX xs hk HCp HCr HIn X2 HV2;obtain⟨uo,uc,rfl,husG⟩:=f4;have hus:=husG.sl;have HUg:=ae husG;clear husG;have e4:(iU (aD f)).length=lbs:=by rw [fQ,HSl.out,HLB.out]
 rw [e4];have HUs:=ae hus;have HD:Hid (Calls Tryz.prog 98 #[.slice oo (aC f).length oc,.slice uo lbs uc] w4 fun e w'=>∃g,e= .returned (.slice (some ⟨g,0,none⟩) lbs lbs)∧aS w' w4.heap.size 3 g lbs (ints (rm (aD f)))∧Below w4.heap.size w4 w'):=ae (by
  obtain⟨oo',oc',e,hos,_,_⟩:=HOi.out.below b4;injection e with e1 e2 e3;subst e1 e3;have e5:(aD f).length=lbs:=by rw [HSl.out,HLB.out]
  have:=zi (aD f) HGr.out (aC f) HOu.out (by rw [e5];exact hN) hol oo uo oc uc w4 hos hus;rw [e5] at this;exact this)
 have B4:Hid (Below w.heap.size w w4):=ae (af B2.out b4);clear hus e4 b4 B2 HOi;go_wp2_with fail
 refine HD.out.mono ?_;rintro e w5 ⟨g,rfl,hr5,b5⟩;have HE:Hid (nw (w5.alloc (.cells #[.slice uo lbs uc,.slice (some ⟨g,0,none⟩) lbs lbs] 136)) f (.pointer (some ⟨w5.heap.size,0,none⟩))∧Below w.heap.size w (w5.alloc (.cells #[.slice uo lbs uc,.slice (some ⟨g,0,none⟩) lbs lbs] 136))):=ae (by
  have b6:=ah w5 (.cells #[.slice uo lbs uc,.slice (some ⟨g,0,none⟩) lbs lbs] 136);refine⟨⟨w5.heap.size,uo,some ⟨g,0,none⟩,uc,lbs,rfl,?_,ux (heap_alloc_new w5 _) (by decide),(HUg.out.below b5).below b6,(Gu hr5).below b6⟩,af (af B4.out b5) b6⟩;rw [←HLB.out];exact L5.Box.new w5 [.slice uo lbs uc,.slice (some ⟨g,0,none⟩) lbs lbs] 136)
 clear HD hr5 b5 HUs B4 HUg;go_wp2_with fail
 go_ret;exact⟨_,rfl,HE.out.1,HE.out.2⟩
open Go Go.RowKit Go.Maps
def TyM (B:Nat) (w:World) (f:Fun) (v:Value):Prop:=∃b,v= .map (some b)∧B≤b∧cI w b 1000000 (fun a=>tyL f a (bB f f.2.2.2.1.length 0))
def Bg (B:Nat) (w:World) (v:Value):Prop:=∃b,v= .map (some b)∧B≤b∧w.heap[b]? =some (.map #[] 0)
def Fl (B:Nat) (w:World) (v:Value):Prop:=∃b,v= .pointer (some ⟨b,0,none⟩)∧B≤b∧w.heap[b]? =some (.cells #[.slice none 0 0,.string ⟨#[]⟩,.slice none 0 0,.int .i64 0,.slice none 0 0,.int .i64 0,.bool false,.slice none 0 0,.pointer none,.map none,.map none] 111 (0,0))
theorem TyM.below {B:Nat} {w w':World} {f:Fun} {v:Value} (h:TyM B w f v) (b:Below w.heap.size w w'):TyM B w' f v:=by
 obtain⟨q,e,h1,h2⟩:=h;exact⟨q,e,h1,bS.below h2 b⟩
theorem Bg.below {B:Nat} {w w':World} {v:Value} (h:Bg B w v) (b:Below w.heap.size w w'):Bg B w' v:=by
 obtain⟨q,e,h1,h2⟩:=h;exact⟨q,e,h1,(b.block q (Array.getElem?_eq_some_iff.1 h2).1).trans h2⟩
theorem Fl.below {B:Nat} {w w':World} {v:Value} (h:Fl B w v) (b:Below w.heap.size w w'):Fl B w' v:=by
 obtain⟨q,e,h1,h2⟩:=h;exact⟨q,e,h1,(b.block q (Array.getElem?_eq_some_iff.1 h2).1).trans h2⟩
def Up.Ly (f:Fun):Up:=⟨fun v w=>nw w f v,fun _ _ _ b h=>h.below b⟩
def Up.Lw (ll:List (List Int)):Up:=⟨fun v w=>oK w ll v,fun _ _ _ b h=>h.below b⟩
def Up.tyM (B:Nat) (f:Fun):Up:=⟨fun v w=>TyM B w f v,fun _ _ _ b h=>h.below b⟩
def Up.LM (B:Nat):Up:=⟨fun v w=>Bg B w v,fun _ _ _ b h=>h.below b⟩
def Up.My (B:Nat):Up:=⟨fun v w=>Fl B w v,fun _ _ _ b h=>h.below b⟩
def sM (B:Nat) (po:Option Addr) (pn pc:Nat) (nm:ByteArray) (lp:Option Addr) (lps cp:Nat) (rt:Int) (lb:Option Addr) (lbs cb:Nat) (pl:Int) (src:Bool) (f:Fun) (w:World) (v:Value):Prop:=
 ∃(qb qo qc tr tb mb:Nat),v= .agg #[.slice po pn pc,.string nm,.slice lp lps cp,.int .i64 rt,.slice lb lbs cb,.int .i64 pl,.bool src,.slice (some ⟨qb,qo,none⟩) lbs qc,.pointer (some ⟨tr,0,none⟩),.map (some tb),.map (some mb)]∧oK w (aK f) (.slice (some ⟨qb,qo,none⟩) lbs qc)∧nw w f (.pointer (some ⟨tr,0,none⟩))∧TyM B w f (.map (some tb))∧Bg B w (.map (some mb))
theorem sM.below {B:Nat} {po:Option Addr} {pn pc:Nat} {nm:ByteArray} {lp:Option Addr} {lps cp:Nat} {rt:Int} {lb:Option Addr} {lbs cb:Nat} {pl:Int} {src:Bool} {f:Fun} {w w':World} {v:Value} (h:sM B po pn pc nm lp lps cp rt lb lbs cb pl src f w v) (b:Below w.heap.size w w'):sM B po pn pc nm lp lps cp rt lb lbs cb pl src f w' v:=by
 obtain⟨qb,qo,qc,tr,tb,mb,e,h1,h2,h3,h4⟩:=h;exact⟨qb,qo,qc,tr,tb,mb,e,h1.below b,h2.below b,h3.below b,h4.below b⟩
def Up.KH (B:Nat) (po:Option Addr) (pn pc:Nat) (nm:ByteArray) (lp:Option Addr) (lps cp:Nat) (rt:Int) (lb:Option Addr) (lbs cb:Nat) (pl:Int) (src:Bool) (f:Fun):Up:=⟨fun v w=>sM B po pn pc nm lp lps cp rt lb lbs cb pl src f w v,fun _ _ _ b h=>h.below b⟩
def Mm (sv fv:Value) (src:Bool) (f:Fun) (B:Nat) (U:Up) (t:Tmp):Up:=match t with
 |19=>Up.eq sv
 |20 | 22 | 24 | 26=>Up.eq fv
 |21=>Up.eq (.bool src)
 |23=>Up.Lw (aK f)
 |25=>Up.Ly f
 |27=>Up.tyM B f
 |28=>Up.LM B
 |29=>U
 |8=>Up.My B
 |_=>Up.any
theorem DR {w:World} {b:Nat} (po:Option Addr) (pn pc:Nat) (nm:ByteArray) (lp:Option Addr) (lps cp:Nat) (rt:Int) (lb:Option Addr) (lbs cb:Nat) (pl:Int) (src:Bool) (qb qo qc tr tb mb:Nat) (h:w.heap[b]? =some (.cells #[.slice none 0 0,.string ⟨#[]⟩,.slice none 0 0,.int .i64 0,.slice none 0 0,.int .i64 0,.bool false,.slice none 0 0,.pointer none,.map none,.map none] 111 (0,0))):
  (((((((((((w.setCell ⟨b,0,none⟩ (.slice po pn pc)).setCell ⟨b,1,none⟩ (.string nm)).setCell ⟨b,2,none⟩ (.slice lp lps cp)).setCell ⟨b,3,none⟩ (.int .i64 rt)).setCell ⟨b,4,none⟩ (.slice lb lbs cb)).setCell ⟨b,5,none⟩ (.int .i64 pl)).setCell ⟨b,6,none⟩ (.bool src)).setCell ⟨b,7,none⟩ (.slice (some ⟨qb,qo,none⟩) lbs qc)).setCell ⟨b,8,none⟩ (.pointer (some ⟨tr,0,none⟩))).setCell ⟨b,9,none⟩ (.map (some tb))).setCell ⟨b,10,none⟩ (.map (some mb))).heap[b]? =some (.cells #[.slice po pn pc,.string nm,.slice lp lps cp,.int .i64 rt,.slice lb lbs cb,.int .i64 pl,.bool src,.slice (some ⟨qb,qo,none⟩) lbs qc,.pointer (some ⟨tr,0,none⟩),.map (some tb),.map (some mb)] 111 (0,0)):=by
 have h1:=(heap_setCell_same w b 0 _ 111 (.slice po pn pc) h).trans (show _=some (Obj.cells #[.slice po pn pc,.string ⟨#[]⟩,.slice none 0 0,.int .i64 0,.slice none 0 0,.int .i64 0,.bool false,.slice none 0 0,.pointer none,.map none,.map none] 111 (0,0)) from rfl);have h2:=(heap_setCell_same (w.setCell ⟨b,0,none⟩ (.slice po pn pc)) b 1 _ 111 (.string nm) h1).trans (show _=some (Obj.cells #[.slice po pn pc,.string nm,.slice none 0 0,.int .i64 0,.slice none 0 0,.int .i64 0,.bool false,.slice none 0 0,.pointer none,.map none,.map none] 111 (0,0)) from rfl);have h3:=(heap_setCell_same ((w.setCell ⟨b,0,none⟩ (.slice po pn pc)).setCell ⟨b,1,none⟩ (.string nm)) b 2 _ 111 (.slice lp lps cp) h2).trans (show _=some (Obj.cells #[.slice po pn pc,.string nm,.slice lp lps cp,.int .i64 0,.slice none 0 0,.int .i64 0,.bool false,.slice none 0 0,.pointer none,.map none,.map none] 111 (0,0)) from rfl);have h4:=(heap_setCell_same (((w.setCell ⟨b,0,none⟩ (.slice po pn pc)).setCell ⟨b,1,none⟩ (.string nm)).setCell ⟨b,2,none⟩ (.slice lp lps cp)) b 3 _ 111 (.int .i64 rt) h3).trans (show _=some (Obj.cells #[.slice po pn pc,.string nm,.slice lp lps cp,.int .i64 rt,.slice none 0 0,.int .i64 0,.bool false,.slice none 0 0,.pointer none,.map none,.map none] 111 (0,0)) from rfl);have h5:=(heap_setCell_same ((((w.setCell ⟨b,0,none⟩ (.slice po pn pc)).setCell ⟨b,1,none⟩ (.string nm)).setCell ⟨b,2,none⟩ (.slice lp lps cp)).setCell ⟨b,3,none⟩ (.int .i64 rt)) b 4 _ 111 (.slice lb lbs cb) h4).trans (show _=some (Obj.cells #[.slice po pn pc,.string nm,.slice lp lps cp,.int .i64 rt,.slice lb lbs cb,.int .i64 0,.bool false,.slice none 0 0,.pointer none,.map none,.map none] 111 (0,0)) from rfl);have h6:=(heap_setCell_same (((((w.setCell ⟨b,0,none⟩ (.slice po pn pc)).setCell ⟨b,1,none⟩ (.string nm)).setCell ⟨b,2,none⟩ (.slice lp lps cp)).setCell ⟨b,3,none⟩ (.int .i64 rt)).setCell ⟨b,4,none⟩ (.slice lb lbs cb)) b 5 _ 111 (.int .i64 pl) h5).trans (show _=some (Obj.cells #[.slice po pn pc,.string nm,.slice lp lps cp,.int .i64 rt,.slice lb lbs cb,.int .i64 pl,.bool false,.slice none 0 0,.pointer none,.map none,.map none] 111 (0,0)) from rfl);have h7:=(heap_setCell_same ((((((w.setCell ⟨b,0,none⟩ (.slice po pn pc)).setCell ⟨b,1,none⟩ (.string nm)).setCell ⟨b,2,none⟩ (.slice lp lps cp)).setCell ⟨b,3,none⟩ (.int .i64 rt)).setCell ⟨b,4,none⟩ (.slice lb lbs cb)).setCell ⟨b,5,none⟩ (.int .i64 pl)) b 6 _ 111 (.bool src) h6).trans (show _=some (Obj.cells #[.slice po pn pc,.string nm,.slice lp lps cp,.int .i64 rt,.slice lb lbs cb,.int .i64 pl,.bool src,.slice none 0 0,.pointer none,.map none,.map none] 111 (0,0)) from rfl);have h8:=(heap_setCell_same (((((((w.setCell ⟨b,0,none⟩ (.slice po pn pc)).setCell ⟨b,1,none⟩ (.string nm)).setCell ⟨b,2,none⟩ (.slice lp lps cp)).setCell ⟨b,3,none⟩ (.int .i64 rt)).setCell ⟨b,4,none⟩ (.slice lb lbs cb)).setCell ⟨b,5,none⟩ (.int .i64 pl)).setCell ⟨b,6,none⟩ (.bool src)) b 7 _ 111 (.slice (some ⟨qb,qo,none⟩) lbs qc) h7).trans (show _=some (Obj.cells #[.slice po pn pc,.string nm,.slice lp lps cp,.int .i64 rt,.slice lb lbs cb,.int .i64 pl,.bool src,.slice (some ⟨qb,qo,none⟩) lbs qc,.pointer none,.map none,.map none] 111 (0,0)) from rfl);have h9:=(heap_setCell_same ((((((((w.setCell ⟨b,0,none⟩ (.slice po pn pc)).setCell ⟨b,1,none⟩ (.string nm)).setCell ⟨b,2,none⟩ (.slice lp lps cp)).setCell ⟨b,3,none⟩ (.int .i64 rt)).setCell ⟨b,4,none⟩ (.slice lb lbs cb)).setCell ⟨b,5,none⟩ (.int .i64 pl)).setCell ⟨b,6,none⟩ (.bool src)).setCell ⟨b,7,none⟩ (.slice (some ⟨qb,qo,none⟩) lbs qc)) b 8 _ 111 (.pointer (some ⟨tr,0,none⟩)) h8).trans (show _=some (Obj.cells #[.slice po pn pc,.string nm,.slice lp lps cp,.int .i64 rt,.slice lb lbs cb,.int .i64 pl,.bool src,.slice (some ⟨qb,qo,none⟩) lbs qc,.pointer (some ⟨tr,0,none⟩),.map none,.map none] 111 (0,0)) from rfl);have h10:=(heap_setCell_same (((((((((w.setCell ⟨b,0,none⟩ (.slice po pn pc)).setCell ⟨b,1,none⟩ (.string nm)).setCell ⟨b,2,none⟩ (.slice lp lps cp)).setCell ⟨b,3,none⟩ (.int .i64 rt)).setCell ⟨b,4,none⟩ (.slice lb lbs cb)).setCell ⟨b,5,none⟩ (.int .i64 pl)).setCell ⟨b,6,none⟩ (.bool src)).setCell ⟨b,7,none⟩ (.slice (some ⟨qb,qo,none⟩) lbs qc)).setCell ⟨b,8,none⟩ (.pointer (some ⟨tr,0,none⟩))) b 9 _ 111 (.map (some tb)) h9).trans (show _=some (Obj.cells #[.slice po pn pc,.string nm,.slice lp lps cp,.int .i64 rt,.slice lb lbs cb,.int .i64 pl,.bool src,.slice (some ⟨qb,qo,none⟩) lbs qc,.pointer (some ⟨tr,0,none⟩),.map (some tb),.map none] 111 (0,0)) from rfl)
 have h11:=(heap_setCell_same ((((((((((w.setCell ⟨b,0,none⟩ (.slice po pn pc)).setCell ⟨b,1,none⟩ (.string nm)).setCell ⟨b,2,none⟩ (.slice lp lps cp)).setCell ⟨b,3,none⟩ (.int .i64 rt)).setCell ⟨b,4,none⟩ (.slice lb lbs cb)).setCell ⟨b,5,none⟩ (.int .i64 pl)).setCell ⟨b,6,none⟩ (.bool src)).setCell ⟨b,7,none⟩ (.slice (some ⟨qb,qo,none⟩) lbs qc)).setCell ⟨b,8,none⟩ (.pointer (some ⟨tr,0,none⟩))).setCell ⟨b,9,none⟩ (.map (some tb))) b 10 _ 111 (.map (some mb)) h10).trans (show _=some (Obj.cells #[.slice po pn pc,.string nm,.slice lp lps cp,.int .i64 rt,.slice lb lbs cb,.int .i64 pl,.bool src,.slice (some ⟨qb,qo,none⟩) lbs qc,.pointer (some ⟨tr,0,none⟩),.map (some tb),.map (some mb)] 111 (0,0)) from rfl);exact h11
theorem Hp {w:World} {b:Nat} (h:w.heap[b]? =some (.cells #[.slice none 0 0,.string ⟨#[]⟩,.slice none 0 0,.int .i64 0,.slice none 0 0,.int .i64 0,.bool false,.slice none 0 0,.pointer none,.map none,.map none] 111 (0,0))):(w.cell? ⟨b,0,none⟩=some (.slice none 0 0)∧w.cell? ⟨b,1,none⟩=some (.string ⟨#[]⟩)∧w.cell? ⟨b,2,none⟩=some (.slice none 0 0)∧w.cell? ⟨b,3,none⟩=some (.int .i64 0)∧w.cell? ⟨b,4,none⟩=some (.slice none 0 0)∧w.cell? ⟨b,5,none⟩=some (.int .i64 0)∧w.cell? ⟨b,6,none⟩=some (.bool false)∧w.cell? ⟨b,7,none⟩=some (.slice none 0 0)∧w.cell? ⟨b,8,none⟩=some (.pointer none)∧w.cell? ⟨b,9,none⟩=some (.map none)∧w.cell? ⟨b,10,none⟩=some (.map none))∧(w.frozen? ⟨b,0,none⟩=false∧w.frozen? ⟨b,1,none⟩=false∧w.frozen? ⟨b,2,none⟩=false∧w.frozen? ⟨b,3,none⟩=false∧w.frozen? ⟨b,4,none⟩=false∧w.frozen? ⟨b,5,none⟩=false∧w.frozen? ⟨b,6,none⟩=false∧w.frozen? ⟨b,7,none⟩=false∧w.frozen? ⟨b,8,none⟩=false∧w.frozen? ⟨b,9,none⟩=false∧w.frozen? ⟨b,10,none⟩=false):=by
 refine⟨⟨?_,?_,?_,?_,?_,?_,?_,?_,?_,?_,?_⟩,⟨?_,?_,?_,?_,?_,?_,?_,?_,?_,?_,?_⟩⟩ <;> simp [World.cell?,World.frozen?,h]
theorem bk {w w1:World} {r:Nat} (h:w.grownBy w1 (some r)) (i:Nat) (u:Value):w.grownBy (w1.setCell ⟨r,i,none⟩ u) (some r):=h.trans (cJ w1 ⟨r,i,none⟩ u)
end Go.Proofs.YtljkgcfnoegibaaGreatDoor
