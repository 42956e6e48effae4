/- Texts of one chain, joined. -/
import Derived.Test.YtljkgcfnoegibaaGreatDoorZAAW
set_option maxHeartbeats 4000000
set_option maxRecDepth 20000
namespace Go.Proofs.YtljkgcfnoegibaaGreatDoor
open Go Go.RowKit Go.Maps
open G (Tok Er Ins Fun)
def Chm (B mb:Nat) (z:Prop) (w w':World):Prop:=Chg B w w'∧w.grownBy w' (some mb)∧(z→Below w.heap.size w w')
theorem Chm.step {B mb:Nat} {z:Prop} {w w1 w2:World} (h:Chm B mb z w w1) (b:Below w1.heap.size w1 w2) (hB:B≤w.heap.size):Chm B mb z w w2:=
 ⟨h.1.trans (Chg.bJ b (Nat.le_trans hB h.1.1.size)),h.2.1.trans (bY b _),fun hz=>af (h.2.2 hz) b⟩
def zy (mk:Int→Option (Int × Int)) (id:Int) (s:Int × Int) (b:Bool):Int→Option (Int × Int):=fun a=>if b=true∧a=id then some s else mk a
theorem uT (po ap ab:Option Addr) (pn pc an cp bn cb:Nat) (nm:ByteArray) (rt pl:Int) (src:Bool) (qb qo qn qc tr tb mb:Nat) (op id nn ty xp:Int) (ar tt:List Int) (xn:ByteArray) (ao to:Option Addr) (ca ct:Nat) (kv iv:Int) (w:World) (B n:Nat) (mk:Int→Option (Int × Int)) (jn:Bool) (hBw:B≤w.heap.size) (hBm:B≤mb) (hn:n < maxLen) (hT:L5.Tab w) (hM:SMap w mb n mk) (hI:L5.bD op ty≠0→Wf6 id)
  (CJ:op=20→∀w',Chg B w w'→Calls Tryz.prog 99 #[.agg #[.slice po pn pc,.string nm,.slice ap an cp,.int .i64 rt,.slice ab bn cb,.int .i64 pl,.bool src,.slice (some ⟨qb,qo,none⟩) qn qc,.pointer (some ⟨tr,0,none⟩),.map (some tb),.map (some mb)],.agg #[.int .i64 kv,.int .i64 iv],.slice to tt.length ct] w' fun e w''=>e= .returned (.bool jn)∧Below w'.heap.size w' w'') (c:Int)
  (hc:c=if(decide (L5.bD op ty≠0) && (mk id).isSome)=true then 5 else if(decide (op=20) && !jn)=true then 11 else if(src && (decide (op=23) || decide (op=24) || decide (op=25) || (decide (op=21) && decide (nn≠0))))=true then 2 else 0):
  Calls Tryz.prog 69 #[.agg #[.slice po pn pc,.string nm,.slice ap an cp,.int .i64 rt,.slice ab bn cb,.int .i64 pl,.bool src,.slice (some ⟨qb,qo,none⟩) qn qc,.pointer (some ⟨tr,0,none⟩),.map (some tb),.map (some mb)],.agg #[.int .i64 kv,.int .i64 iv],.agg #[.int .i64 op,.int .i64 id,.int .i64 nn,.int .i64 ty,.slice ao ar.length ca,.slice to tt.length ct,.string xn,.int .i64 xp]] w fun e w'=>e= .returned (.int .i64 c)∧(c=0→SMap w' mb (n+1) (zy mk id (kv,iv) (decide (L5.bD op ty≠0))))∧Chm B mb (L5.bD op ty=0) w w':=by
 obtain⟨b0,h0,h1,h2⟩:=EI w (.cells #[.slice po pn pc,.string nm,.slice ap an cp,.int .i64 rt,.slice ab bn cb,.int .i64 pl,.bool src,.slice (some ⟨qb,qo,none⟩) qn qc,.pointer (some ⟨tr,0,none⟩),.map (some tb),.map (some mb)] 111) (.cells #[.int .i64 kv,.int .i64 iv] 113) (.cells #[.int .i64 op,.int .i64 id,.int .i64 nn,.int .i64 ty,.slice ao ar.length ca,.slice to tt.length ct,.string xn,.int .i64 xp] 47);have H0:=ae h0;have H1:=ae h1;have H2:=ae h2;have HCg0:Hid (Chm B mb (L5.bD op ty=0) w _):=ae ⟨Chg.bJ b0 hBw,bY b0 _,fun _=>b0⟩;have HM0:=ae (bS.below hM b0);have HT0:=ae (hT.below b0);replace CJ:=ae CJ;have HLt:=ae (fun w'=>vm op id nn ty xp ar tt xn ao to ca ct w');have HI:=ae hI;obtain⟨lt',hlt⟩:∃b,(decide (op=23) || decide (op=24) || decide (op=25) || (decide (op=21) && decide (nn≠0)))=b:=⟨_,rfl⟩;rw [hlt] at HLt hc;have HC:=ae hc;clear b0 h0 h1 h2 hM hT hc hlt hI;obtain⟨la,hlae⟩:∃n,ar.length=n:=⟨_,rfl⟩;obtain⟨lt,hlte⟩:∃n,tt.length=n:=⟨_,rfl⟩;rw [hlae,hlte] at H0 H1 H2 HCg0 HM0 HT0 HLt;rw [hlte] at CJ;rw [hlae,hlte];clear hlae hlte;obtain⟨mt,hmt⟩:∃mt,L5.bD op ty=mt:=⟨_,rfl⟩;have HMk:=ae (fun w' h=>L5.lQ op ty (.int .i64 id) (.int .i64 nn) (.slice ao la ca) (.slice to lt ct) (.string xn) (.int .i64 xp) w' h);rw [hmt] at HC HI HMk HCg0 ⊢;clear hmt;obtain⟨mm,hmm⟩:∃mm,zy mk id (kv,iv) (decide (mt≠0))=mm:=⟨_,rfl⟩;rw [hmm];have HMm:=ae hmm;clear hmm;go_enter Tryz.func69,Tryz.ntmps69
 go_upto_region 1 with fail
 show Code.wp _ _ _ _ (((w.alloc (.cells #[.slice po pn pc,.string nm,.slice ap an cp,.int .i64 rt,.slice ab bn cb,.int .i64 pl,.bool src,.slice (some ⟨qb,qo,none⟩) qn qc,.pointer (some ⟨tr,0,none⟩),.map (some tb),.map (some mb)] 111)).alloc (.cells #[.int .i64 kv,.int .i64 iv] 113)).alloc (.cells #[.int .i64 op,.int .i64 id,.int .i64 nn,.int .i64 ty,.slice ao la ca,.slice to lt ct,.string xn,.int .i64 xp] 47));generalize ((w.alloc (.cells #[.slice po pn pc,.string nm,.slice ap an cp,.int .i64 rt,.slice ab bn cb,.int .i64 pl,.bool src,.slice (some ⟨qb,qo,none⟩) qn qc,.pointer (some ⟨tr,0,none⟩),.map (some tb),.map (some mb)] 111)).alloc (.cells #[.int .i64 kv,.int .i64 iv] 113)).alloc (.cells #[.int .i64 op,.int .i64 id,.int .i64 nn,.int .i64 ty,.slice ao la ca,.slice to lt ct,.string xn,.int .i64 xp] 47)=W at *;obtain⟨⟨x0,x1,x2,x3,x4,x5,x6,x7⟩,_⟩:=cH H2.out;go_wp2_with fail
 refine(HMk.out _ HT0.out).mono ?_;rintro e w1 ⟨rfl,b1⟩;have G0:=ae ((b1.block _ (Array.getElem?_eq_some_iff.1 H0.out).1).trans H0.out);have G1:=ae ((b1.block _ (Array.getElem?_eq_some_iff.1 H1.out).1).trans H1.out);have G2:=ae ((b1.block _ (Array.getElem?_eq_some_iff.1 H2.out).1).trans H2.out);have HCg1:=ae (HCg0.out.step b1 hBw);have HM1:=ae (bS.below HM0.out b1);clear b1 x0 x1 x2 x3 x4 x5 x6 x7 H0 H1 H2 HM0 HT0 HCg0 HMk;by_cases hm0:mt=0
 ·have HC2:Hid (c=if(decide (op=20) && !jn)=true then 11 else if(src && lt')=true then 2 else 0):=ae (by rw [HC.out];simp [hm0]);have HSM:Hid (SMap w1 mb (n+1) mm):=ae (by
   rw [←HMm.out];refine(bS.mono HM1.out (Nat.le_succ n)).congr fun a=> ?_;simp [zy,hm0])
  subst hm0;clear HC HM1;obtain⟨wT,rfl⟩:∃wT,wT=w1:=⟨_,rfl⟩;have T0:=G0;have T1:=G1;have T2:=G2;have HCg:=HCg1;clear G0 G1 G2 HCg1;obtain⟨⟨k0,k1,k2,k3,k4,k5,k6,k7,k8,k9,k10⟩,_⟩:=cl _ _ _ _ _ _ _ _ _ _ _ _ _ _ _ _ _ _ _ _ T0.out;obtain⟨⟨y0,y1⟩,_,_⟩:=aP T1.out;obtain⟨⟨x0,x1,x2,x3,x4,x5,x6,x7⟩,_⟩:=cH T2.out;by_cases h20:op=20
  ·have HJ:=ae (CJ.out h20 wT HCg.out.1);have HC2':Hid (c=if jn=false then 11 else if(src && lt')=true then 2 else 0):=ae (by rw [HC2.out];simp [h20]);subst h20;clear HC2;go_wp2_with fail
   refine HJ.out.mono ?_;rintro e w5 ⟨rfl,b5⟩;have HCg5:=ae (HCg.out.step b5 hBw);have HSM5:=ae (bS.below HSM.out b5);have U0:=ae ((b5.block _ (Array.getElem?_eq_some_iff.1 T0.out).1).trans T0.out);have U2:=ae ((b5.block _ (Array.getElem?_eq_some_iff.1 T2.out).1).trans T2.out);clear b5 HJ k0 k1 k2 k3 k4 k5 k6 k7 k8 k9 k10 y0 y1 x0 x1 x2 x3 x4 x5 x6 x7 T0 T1 T2 HSM HCg
   cases hjn:jn with
   |false=>
    have HD:Hid (c=11):=ae (by rw [HC2'.out,hjn,if_pos rfl]);clear hjn;go_wp2_with fail
    go_ret;exact⟨by rw [HD.out];rfl,fun h=>(by rw [HD.out] at h;cases h),HCg5.out⟩
   |true=>
    have HC3:Hid (c=if(src && lt')=true then 2 else 0):=ae (by rw [HC2'.out,hjn,if_neg (by simp)]);clear hjn HC2';obtain⟨wT,rfl⟩:∃wT,wT=w5:=⟨_,rfl⟩;have T0:=U0;have T2:=U2;have HSM:=HSM5;have HCg:=HCg5;clear U0 U2 HSM5 HCg5;obtain⟨⟨k0,k1,k2,k3,k4,k5,k6,k7,k8,k9,k10⟩,_⟩:=cl _ _ _ _ _ _ _ _ _ _ _ _ _ _ _ _ _ _ _ _ T0.out;obtain⟨⟨x0,x1,x2,x3,x4,x5,x6,x7⟩,_⟩:=cH T2.out
    cases hsrc:src with
    |false=>
     have HD:Hid (c=0):=ae (by rw [HC3.out,hsrc];simp);subst hsrc;clear HC3;go_wp2_with fail
     go_ret;exact⟨by rw [HD.out];rfl,fun _=>HSM.out,HCg.out⟩
    |true=>
     have HC4:Hid (c=if lt'=true then 2 else 0):=ae (by rw [HC3.out,hsrc,Bool.true_and]);subst hsrc;clear HC3;have HLt2:=HLt.out wT;replace HLt2:=ae HLt2;go_wp2_with fail
     refine HLt2.out.mono ?_;rintro e w6 ⟨rfl,b6⟩;have HCg2:=ae (HCg.out.step b6 hBw);have HSM2:=ae (bS.below HSM.out b6);clear b6 HLt2 k0 k1 k2 k3 k4 k5 k6 k7 k8 k9 k10 x0 x1 x2 x3 x4 x5 x6 x7
     cases hlt':lt' with
     |true=>
      have HD:Hid (c=2):=ae (by rw [HC4.out,hlt',if_pos rfl]);clear hlt';go_wp2_with fail
      go_ret;exact⟨by rw [HD.out];rfl,fun h=>(by rw [HD.out] at h;cases h),HCg2.out⟩
     |false=>
      have HD:Hid (c=0):=ae (by rw [HC4.out,hlt'];rfl);clear hlt';go_wp2_with fail
      go_ret;exact⟨by rw [HD.out];rfl,fun _=>HSM2.out,HCg2.out⟩
  ·have HC3:Hid (c=if(src && lt')=true then 2 else 0):=ae (by rw [HC2.out];simp [h20]);clear HC2 k0 k1 k2 k3 k4 k5 k6 k7 k8 k9 k10 x0 x1 x2 x3 x4 x5 x6 x7 y0 y1;obtain⟨⟨k0,k1,k2,k3,k4,k5,k6,k7,k8,k9,k10⟩,_⟩:=cl _ _ _ _ _ _ _ _ _ _ _ _ _ _ _ _ _ _ _ _ T0.out;obtain⟨⟨x0,x1,x2,x3,x4,x5,x6,x7⟩,_⟩:=cH T2.out
   cases hsrc:src with
   |false=>
    have HD:Hid (c=0):=ae (by rw [HC3.out,hsrc];simp);subst hsrc;clear HC3;go_wp2_with fail
    go_ret;exact⟨by rw [HD.out];rfl,fun _=>HSM.out,HCg.out⟩
   |true=>
    have HC4:Hid (c=if lt'=true then 2 else 0):=ae (by rw [HC3.out,hsrc,Bool.true_and]);subst hsrc;clear HC3;have HLt2:=HLt.out wT;replace HLt2:=ae HLt2;go_wp2_with fail
    refine HLt2.out.mono ?_;rintro e w6 ⟨rfl,b6⟩;have HCg2:=ae (HCg.out.step b6 hBw);have HSM2:=ae (bS.below HSM.out b6);clear b6 HLt2 k0 k1 k2 k3 k4 k5 k6 k7 k8 k9 k10 x0 x1 x2 x3 x4 x5 x6 x7
    cases hlt':lt' with
    |true=>
     have HD:Hid (c=2):=ae (by rw [HC4.out,hlt',if_pos rfl]);clear hlt';go_wp2_with fail
     go_ret;exact⟨by rw [HD.out];rfl,fun h=>(by rw [HD.out] at h;cases h),HCg2.out⟩
    |false=>
     have HD:Hid (c=0):=ae (by rw [HC4.out,hlt'];rfl);clear hlt';go_wp2_with fail
     go_ret;exact⟨by rw [HD.out];rfl,fun _=>HSM2.out,HCg2.out⟩
 ·have hId:Wf6 id:=HI.out hm0;obtain⟨⟨k0,k1,k2,k3,k4,k5,k6,k7,k8,k9,k10⟩,_⟩:=cl _ _ _ _ _ _ _ _ _ _ _ _ _ _ _ _ _ _ _ _ G0.out;obtain⟨⟨y0,y1⟩,_,_⟩:=aP G1.out;obtain⟨⟨x0,x1,x2,x3,x4,x5,x6,x7⟩,_⟩:=cH G2.out
  cases hmk:mk id with
  |some s=>
   obtain⟨s1,s2⟩:=s;have HMs:=ae hmk;have HD:Hid (c=5):=ae (by rw [HC.out,hmk];simp [hm0]);have HCgE:=ae (HCg1.out.step (ah w1 (.cells #[.int .i64 s1,.int .i64 s2] 113)) hBw);clear hmk HC;go_wp2_with (first | (at_lookup;refine gP _ rfl _ _ rfl mb n mk rfl HM1.out id hId rfl s1 s2 true (by rw [HMs.out];rfl) (by rw [HMs.out];rfl) ?_) | fail)
   go_ret;exact⟨by rw [HD.out];rfl,fun h=>(by rw [HD.out] at h;cases h),HCgE.out⟩
  |none=>
   have HMs:=ae hmk;have HC2:Hid (c=if(decide (op=20) && !jn)=true then 11 else if(src && lt')=true then 2 else 0):=ae (by rw [HC.out,hmk];simp);clear hmk HC;have bz:=ah w1 (.cells #[.int .i64 0,.int .i64 0] 113);have Z0:=ae ((bz.block _ (Array.getElem?_eq_some_iff.1 G0.out).1).trans G0.out);have Z1:=ae ((bz.block _ (Array.getElem?_eq_some_iff.1 G1.out).1).trans G1.out);have Z2:=ae ((bz.block _ (Array.getElem?_eq_some_iff.1 G2.out).1).trans G2.out);have HCgz:=ae (HCg1.out.step bz hBw);have HMz:=ae (bS.below HM1.out bz);clear bz;go_upto_region 5 with (first | (at_lookup;refine gP _ rfl _ _ rfl mb n mk rfl HM1.out id hId rfl 0 0 false (by rw [HMs.out];rfl) (by rw [HMs.out];rfl) ?_) | fail)
   show Code.wp _ _ _ _ (w1.alloc (.cells #[.int .i64 0,.int .i64 0] 113));generalize w1.alloc (.cells #[.int .i64 0,.int .i64 0] 113)=wz at *;generalize w1.heap.size=qz at *;clear k0 k1 k2 k3 k4 k5 k6 k7 k8 k9 k10 y0 y1 x0 x1 x2 x3 x4 x5 x6 x7 G0 G1 G2 HCg1 HM1;obtain⟨⟨k0,k1,k2,k3,k4,k5,k6,k7,k8,k9,k10⟩,_⟩:=cl _ _ _ _ _ _ _ _ _ _ _ _ _ _ _ _ _ _ _ _ Z0.out;obtain⟨⟨y0,y1⟩,_,_⟩:=aP Z1.out;obtain⟨⟨x0,x1,x2,x3,x4,x5,x6,x7⟩,_⟩:=cH Z2.out;go_upto_region 6 with (first | (at_mapUpdate;refine oJ _ rfl _ _ _ rfl mb n mk rfl HMz.out hn id hId kv iv rfl rfl ?_;intro wT own1 grow1) | fail)
   have hgr:=Chg.vQ (B:=B) grow1 (bS.isMap HMz.out) (Nat.le_trans hBw HCgz.out.1.1.size) hBm;have T0:=ae (hgr.2 _ _ _ _ Z0.out);have T1:=ae (hgr.2 _ _ _ _ Z1.out);have T2:=ae (hgr.2 _ _ _ _ Z2.out);have HCg:Hid (Chm B mb (mt=0) w wT):=ae ⟨HCgz.out.1.trans hgr,HCgz.out.2.1.trans grow1,fun h=>absurd h hm0⟩;have HSM:Hid (SMap wT mb (n+1) mm):=ae (by
    rw [←HMm.out];refine bS.congr own1 fun a=> ?_;by_cases e:a=id
    ·simp [zy,hm0,e]
    ·simp [zy,e])
   clear hgr own1 grow1 k0 k1 k2 k3 k4 k5 k6 k7 k8 k9 k10 y0 y1 x0 x1 x2 x3 x4 x5 x6 x7 Z0 Z1 Z2 HCgz HMz;obtain⟨⟨k0,k1,k2,k3,k4,k5,k6,k7,k8,k9,k10⟩,_⟩:=cl _ _ _ _ _ _ _ _ _ _ _ _ _ _ _ _ _ _ _ _ T0.out;obtain⟨⟨y0,y1⟩,_,_⟩:=aP T1.out;obtain⟨⟨x0,x1,x2,x3,x4,x5,x6,x7⟩,_⟩:=cH T2.out;by_cases h20:op=20
   ·have HJ:=ae (CJ.out h20 wT HCg.out.1);have HC2':Hid (c=if jn=false then 11 else if(src && lt')=true then 2 else 0):=ae (by rw [HC2.out];simp [h20]);subst h20;clear HC2;go_wp2_with fail
    refine HJ.out.mono ?_;rintro e w5 ⟨rfl,b5⟩;have HCg5:=ae (HCg.out.step b5 hBw);have HSM5:=ae (bS.below HSM.out b5);have U0:=ae ((b5.block _ (Array.getElem?_eq_some_iff.1 T0.out).1).trans T0.out);have U2:=ae ((b5.block _ (Array.getElem?_eq_some_iff.1 T2.out).1).trans T2.out);clear b5 HJ k0 k1 k2 k3 k4 k5 k6 k7 k8 k9 k10 y0 y1 x0 x1 x2 x3 x4 x5 x6 x7 T0 T1 T2 HSM HCg
    cases hjn:jn with
    |false=>
     have HD:Hid (c=11):=ae (by rw [HC2'.out,hjn,if_pos rfl]);clear hjn;go_wp2_with fail
     go_ret;exact⟨by rw [HD.out];rfl,fun h=>(by rw [HD.out] at h;cases h),HCg5.out⟩
    |true=>
     have HC3:Hid (c=if(src && lt')=true then 2 else 0):=ae (by rw [HC2'.out,hjn,if_neg (by simp)]);clear hjn HC2';obtain⟨wT,rfl⟩:∃wT,wT=w5:=⟨_,rfl⟩;have T0:=U0;have T2:=U2;have HSM:=HSM5;have HCg:=HCg5;clear U0 U2 HSM5 HCg5;obtain⟨⟨k0,k1,k2,k3,k4,k5,k6,k7,k8,k9,k10⟩,_⟩:=cl _ _ _ _ _ _ _ _ _ _ _ _ _ _ _ _ _ _ _ _ T0.out;obtain⟨⟨x0,x1,x2,x3,x4,x5,x6,x7⟩,_⟩:=cH T2.out
     cases hsrc:src with
     |false=>
      have HD:Hid (c=0):=ae (by rw [HC3.out,hsrc];simp);subst hsrc;clear HC3;go_wp2_with fail
      go_ret;exact⟨by rw [HD.out];rfl,fun _=>HSM.out,HCg.out⟩
     |true=>
      have HC4:Hid (c=if lt'=true then 2 else 0):=ae (by rw [HC3.out,hsrc,Bool.true_and]);subst hsrc;clear HC3;have HLt2:=HLt.out wT;replace HLt2:=ae HLt2;go_wp2_with fail
      refine HLt2.out.mono ?_;rintro e w6 ⟨rfl,b6⟩;have HCg2:=ae (HCg.out.step b6 hBw);have HSM2:=ae (bS.below HSM.out b6);clear b6 HLt2 k0 k1 k2 k3 k4 k5 k6 k7 k8 k9 k10 x0 x1 x2 x3 x4 x5 x6 x7
      cases hlt':lt' with
      |true=>
       have HD:Hid (c=2):=ae (by rw [HC4.out,hlt',if_pos rfl]);clear hlt';go_wp2_with fail
       go_ret;exact⟨by rw [HD.out];rfl,fun h=>(by rw [HD.out] at h;cases h),HCg2.out⟩
      |false=>
       have HD:Hid (c=0):=ae (by rw [HC4.out,hlt'];rfl);clear hlt';go_wp2_with fail
       go_ret;exact⟨by rw [HD.out];rfl,fun _=>HSM2.out,HCg2.out⟩
   ·have HC3:Hid (c=if(src && lt')=true then 2 else 0):=ae (by rw [HC2.out];simp [h20]);clear HC2 k0 k1 k2 k3 k4 k5 k6 k7 k8 k9 k10 x0 x1 x2 x3 x4 x5 x6 x7 y0 y1;obtain⟨⟨k0,k1,k2,k3,k4,k5,k6,k7,k8,k9,k10⟩,_⟩:=cl _ _ _ _ _ _ _ _ _ _ _ _ _ _ _ _ _ _ _ _ T0.out;obtain⟨⟨x0,x1,x2,x3,x4,x5,x6,x7⟩,_⟩:=cH T2.out
    cases hsrc:src with
    |false=>
     have HD:Hid (c=0):=ae (by rw [HC3.out,hsrc];simp);subst hsrc;clear HC3;go_wp2_with fail
     go_ret;exact⟨by rw [HD.out];rfl,fun _=>HSM.out,HCg.out⟩
    |true=>
     have HC4:Hid (c=if lt'=true then 2 else 0):=ae (by rw [HC3.out,hsrc,Bool.true_and]);subst hsrc;clear HC3;have HLt2:=HLt.out wT;replace HLt2:=ae HLt2;go_wp2_with fail
     refine HLt2.out.mono ?_;rintro e w6 ⟨rfl,b6⟩;have HCg2:=ae (HCg.out.step b6 hBw);have HSM2:=ae (bS.below HSM.out b6);clear b6 HLt2 k0 k1 k2 k3 k4 k5 k6 k7 k8 k9 k10 x0 x1 x2 x3 x4 x5 x6 x7
     cases hlt':lt' with
     |true=>
      have HD:Hid (c=2):=ae (by rw [HC4.out,hlt',if_pos rfl]);clear hlt';go_wp2_with fail
      go_ret;exact⟨by rw [HD.out];rfl,fun h=>(by rw [HD.out] at h;cases h),HCg2.out⟩
     |false=>
      have HD:Hid (c=0):=ae (by rw [HC4.out,hlt'];rfl);clear hlt';go_wp2_with fail
      go_ret;exact⟨by rw [HD.out];rfl,fun _=>HSM2.out,HCg2.out⟩
def qs (ps:List Int) (j:Nat):Int→Option Int:=fun id=>if 0≤id∧id < (j:Int)then some (ps.getD id.toNat 0)else none
theorem rX (ps:List Int) (j:Nat) (a:Int):(if a=(j:Int)then some (ps.getD j 0)else qs ps j a)=qs ps (j+1) a:=by
 unfold qs;by_cases h:a=(j:Int)
 ·subst h;rw [if_pos rfl,if_pos (by omega),Int.toNat_natCast]
 ·rw [if_neg h];by_cases h2:0≤a∧a < (j:Int)
  ·rw [if_pos h2,if_pos (by omega)]
  ·rw [if_neg h2,if_neg (by omega)]
theorem vg (f:Fun) (a:Int):qs f.2.1 f.2.1.length a=tyL f a (bB f 0 0):=by
 rw [mj];unfold qs tyL jA;simp only [List.foldl_nil,Bool.and_eq_true,decide_eq_true_eq]
def tM (f:Fun):Prop:=(∀t∈f.2.1,I64 t)∧(∀b∈f.2.2.2.1,∀x∈b,mkX x≠0→I64 x.2.1∧I64 (mkX x))∧f.2.1.length+(bB f f.2.2.2.1.length 0).length≤1000000
theorem Du {f:Fun} {K:Nat} (hK:K < f.2.2.2.1.length):(bB f K (aG f K).length).length≤(bB f f.2.2.2.1.length 0).length:=by
 rw [←jl hK];unfold bB;simp only [List.take_zero,List.append_nil,List.take_length];have h:((f.2.2.2.1.take (K+1)) ++ (f.2.2.2.1.drop (K+1))).flatten=f.2.2.2.1.flatten:=by rw [List.take_append_drop]
 rw [←h,List.flatten_append,List.length_append];omega
theorem th {f:Fun} {K I:Nat} (hK:K < f.2.2.2.1.length) (hI:I≤(aG f K).length):(bB f K I).length≤(bB f f.2.2.2.1.length 0).length:=by
 refine Nat.le_trans ?_ (Du hK);unfold bB;simp only [List.length_append,List.length_take];omega
theorem cI.congr {w:World} {b n:Nat} {ty ty':Int→Option Int} (h:cI w b n ty) (e:∀a,ty a=ty' a):cI w b n ty':=by
 have:ty=ty':=funext e;subst this;exact h
theorem cI.mono {w:World} {b n n':Nat} {ty:Int→Option Int} (h:cI w b n ty) (hn:n≤n'):cI w b n' ty:=bS.mono h hn
theorem cI.below {w w':World} {b n:Nat} {ty:Int→Option Int} (h:cI w b n ty) (hb:Below w.heap.size w w'):cI w' b n ty:=bS.below h hb
theorem wy (f:Fun) (v:Value) (w:World) (hv:cg w f v) (hT:L5.Tab w) (hM:Mod f) (hKey:tM f):
  Calls Tryz.prog 15 #[v] w fun e w'=>∃b,e= .returned (.map (some b))∧w.heap.size≤b∧cI w' b 1000000 (fun a=>tyL f a (bB f f.2.2.2.1.length 0))∧Below w.heap.size w w':=by
 obtain⟨lp,cp,lb,cb,rfl,X,b0⟩:=de hv;have X0:=ae X;have B0:=ae b0;have HPs:Hid (Sl w lp f.2.1):=ae (by
  obtain⟨vp,vb,e,⟨ao',c',e2,hs,_⟩,_⟩:=hv;simp only [Value.agg.injEq,Array.mk.injEq,List.cons.injEq] at e;obtain⟨_,e3,_⟩:=e;rw [e2] at e3;injection e3 with e3;subst e3;exact hs)
 have HRd:Hid (∀k,k < f.2.2.2.1.length→∃g o ao ac,lb=some ⟨g,o,none⟩∧(∀w',Below w.heap.size w w'→w'.cell? ⟨g,o+k,none⟩=some (.slice ao (aG f k).length ac))∧∀w',Below w.heap.size w w'→∀i,i < (aG f k).length→∃g2 o2,ao=some ⟨g2,o2,none⟩∧my w' (au f k i) g2 (o2+i * 8)):=ae (fun k hk=>by
  obtain⟨g,o,ao,ac,h1,h2,h3,h4⟩:=eD (fN hv) hk;exact⟨g,o,ao,ac,h1,fun w' b=>(b.cell (p:=⟨g,o+k,none⟩) h2).trans h3,fun w' b i hi=>eR (h4.below b) hi⟩)
 have HTb:=ae (fun w' (b:Below w.heap.size w w')=>hT.below b);have HMb:=ae (fun k=>hM.blk k);have HKx:Hid (∀k i,k < f.2.2.2.1.length→i < (aG f k).length→mkX (au f k i)≠0→Wf6 (au f k i).2.1∧Wf6 (mkX (au f k i))):=ae (fun k i hk hi h0=>by
  have hb:aG f k∈f.2.2.2.1:=List.mem_of_getElem? (eS hk);have hx:au f k i∈aG f k:=List.mem_of_getElem? (gR hi);have:=hKey.2.1 _ hb _ hx h0;exact⟨fJ this.1,fJ this.2⟩)
 have HKp:Hid (∀j,j < f.2.1.length→Wf6 (f.2.1.getD j 0)):=ae (fun j hj=>fJ (hKey.1 _ (by
  rw [List.getD_eq_getElem?_getD,List.getElem?_eq_getElem hj];exact List.getElem_mem hj)))
 have HLe:Hid (∀K I,K < f.2.2.2.1.length→I≤(aG f K).length→f.2.1.length+(bB f K I).length≤1000000):=ae (fun K I hK hI=>by
  have:=th hK hI;have:=hKey.2.2;omega)
 have hPl:f.2.1.length≤1000000:=by have:=hKey.2.2;omega
 have HEnd:Hid (f.2.1.length+(bB f f.2.2.2.1.length 0).length≤1000000):=ae hKey.2.2;have hN:=hM.1;clear hv X b0 hT hM hKey;generalize hnm:bs f.1=nm at *;obtain⟨lps,hlps⟩:∃n,f.2.1.length=n:=⟨_,rfl⟩;obtain⟨lbs,hlbs⟩:∃n,f.2.2.2.1.length=n:=⟨_,rfl⟩;rw [hlps,hlbs] at X0 B0 ⊢;rw [hlps] at HKp hPl HLe HEnd;rw [hlbs] at HRd HKx HLe HEnd hN;generalize f.2.2.1=rt at *;generalize f.2.2.2.2=pl at *;clear hnm;replace hlps:=ae hlps;replace hlbs:=ae hlbs;have b1:=ah (w.alloc (.cells #[.string nm,.slice lp lps cp,.int .i64 rt,.slice lb lbs cb,.int .i64 pl] 36)) (.map #[] 0);have HM1:Hid (cI ((w.alloc (.cells #[.string nm,.slice lp lps cp,.int .i64 rt,.slice lb lbs cb,.int .i64 pl] 36)).alloc (.map #[] 0)) (w.alloc (.cells #[.string nm,.slice lp lps cp,.int .i64 rt,.slice lb lbs cb,.int .i64 pl] 36)).heap.size 0 (qs f.2.1 0)):=ae ((bS.made _ _).congr fun a=>by
  unfold qs;rw [if_neg (by omega)];rfl)
 have X1:=ae (X0.out.below b1);have B1:=ae (af B0.out b1);have hmm:= @run_makeMap Tryz.prog;have hs1:(w.alloc (.cells #[.string nm,.slice lp lps cp,.int .i64 rt,.slice lb lbs cb,.int .i64 pl] 36)).heap.size=w.heap.size+1:=by simp
 rw [hs1] at HM1;go_enter Tryz.func15,Tryz.ntmps15
 go_upto_region 2 with fail
 show Code.wp _ _ _ _ ((w.alloc (.cells #[.string nm,.slice lp lps cp,.int .i64 rt,.slice lb lbs cb,.int .i64 pl] 36)).alloc (.map #[] 0));generalize (w.alloc (.cells #[.string nm,.slice lp lps cp,.int .i64 rt,.slice lb lbs cb,.int .i64 pl] 36)).alloc (.map #[] 0)=W at *;clear hmm hs1 b1 B0 X0;obtain⟨x0,x1,x2,x3,x4⟩:_∧_∧_∧_∧_:=⟨X1.out.2 0 _ rfl,X1.out.2 1 _ rfl,X1.out.2 2 _ rfl,X1.out.2 3 _ rfl,X1.out.2 4 _ rfl⟩;go_wp2_with fail
 clear x0 x1 x2 x3 x4;go_loopw [15] (fun jv wr=>∃j:Nat,j≤lps∧jv= .int .i64 j∧Hid (cI wr (w.heap.size+1) j (qs f.2.1 j))∧Hid (Below w.heap.size w wr)∧Hid (L5.Box wr w.heap.size [.string nm,.slice lp lps cp,.int .i64 rt,.slice lb lbs cb,.int .i64 pl])) (fun jv _=>lps - (intOf jv).toNat)
 case atStart=>exact⟨0,Nat.zero_le _,rfl,HM1,B1,X1⟩
 case round=>
  clear HM1 B1 X1;obtain⟨j,hj,rfl,HM,HB,HX⟩:=hrel;by_cases hjt:j < lps
  ·have hjI:(j:Int) < lps:=(by omega);obtain⟨g,o,rfl,hg,hc⟩:=oq HPs.out (n:=j) (by rw [hlps.out];exact hjt);have hc1:=(HB.out.cell (p:=⟨g,o+j,none⟩) hg).trans hc;have HWt:=ae (HKp.out j hjt);have hWj:Wf6 (j:Int):=fJ ⟨by omega,by omega⟩;have HSt:=ae (rX f.2.1 j);obtain⟨tv,htv⟩:∃tv,f.2.1.getD j 0=tv:=⟨_,rfl⟩;simp only [htv] at hc1 HWt HSt;have hjm:j < maxLen:=(by unfold maxLen;omega);have HMap:=ae (bS.isMap HM.out);clear hc htv;go_wp2_with (first | (at_mapUpdate;refine iK _ rfl _ _ _ rfl (w.heap.size+1) j _ rfl HM.out hjm (j:Int) hWj tv HWt.out rfl rfl ?_;intro w1 own1 grow1) | fail)
   go_roundw
   case rel=>exact⟨j+1,by omega,by go_num,ae (cI.congr own1 HSt.out),ae (HB.out.trans (cx grow1 HB.out.size (Nat.le_succ _))),ae ⟨Nat.lt_of_lt_of_le HX.out.1 grow1.size,fun i v hi=>vw grow1 HMap.out (HX.out.2 i v hi)⟩⟩
   case measure=>simp [intOf];omega
  ·obtain rfl:j=lps:=(by omega);obtain⟨x0,x1,x2,x3,x4⟩:_∧_∧_∧_∧_:=⟨HX.out.2 0 _ rfl,HX.out.2 1 _ rfl,HX.out.2 2 _ rfl,HX.out.2 3 _ rfl,HX.out.2 4 _ rfl⟩;have HM2:Hid (cI wr (w.heap.size+1) (j+(bB f 0 0).length) (fun a=>tyL f a (bB f 0 0))):=ae (cI.congr (cI.mono HM.out (Nat.le_add_right _ _)) fun a=>by rw [←vg,hlps.out]);go_wp2_with fail
   clear x0 x1 x2 x3 x4;go_loopw [27] (fun kv wr2=>∃K:Nat,K≤lbs∧kv= .int .i64 K∧Hid (cI wr2 (w.heap.size+1) (j+(bB f K 0).length) (fun a=>tyL f a (bB f K 0)))∧Hid (Below w.heap.size w wr2)) (fun kv _=>lbs - (intOf kv).toNat)
   case atStart=>exact⟨0,Nat.zero_le _,rfl,HM2,HB⟩
   case round=>
    clear HM2 HM HB HX;obtain⟨K,hK,rfl,HM,HB⟩:=hrel;by_cases hkt:K < lbs
    ·have hkI:(K:Int) < lbs:=(by omega);obtain⟨g,o,ao,ac,rfl,cu,hins⟩:=HRd.out K hkt;replace cu:=cu wr HB.out;replace hins:=ae hins;have hlb:=HMb.out K;obtain⟨bl,hble⟩:∃bl,(aG f K).length=bl:=⟨_,rfl⟩;rw [hble] at cu hlb;replace hble:=ae hble;go_wp2_with fail
     clear cu;go_loopw [33] (fun iv wr3=>∃I:Nat,I≤bl∧iv= .int .i64 I∧Hid (cI wr3 (w.heap.size+1) (j+(bB f K I).length) (fun a=>tyL f a (bB f K I)))∧Hid (Below w.heap.size w wr3)) (fun iv _=>bl - (intOf iv).toNat)
     case atStart=>exact⟨0,Nat.zero_le _,rfl,HM,HB⟩
     case round=>
      clear HM HB;obtain⟨I,hI,rfl,HM,HB⟩:=hrel;by_cases hit:I < bl
      ·have hiI:(I:Int) < bl:=(by omega);have hiB:I < (aG f K).length:=(by rw [hble.out];exact hit);obtain⟨g2,o2,e2,hxr⟩:=hins.out wr HB.out I hiB;subst e2;obtain⟨xo,zo,xc,zc,hxv,e0,e1,e2,e3,e4,e5,e6,e7⟩:=hxr.val;have HKy:=ae (HKx.out K I hkt hiB);have HBg:=ae (lB hiB);have HLl:=ae (HLe.out K I hkt (Nat.le_of_lt hiB));obtain⟨x,hx⟩:∃x,au f K I=x:=⟨_,rfl⟩;rw [hx] at e0 e1 e2 e3 e4 e5 e6 e7 HKy HBg;clear hx hxv hxr;have HMx:Hid (mkX x=L5.bD x.1 x.2.2.2.1):=ae rfl;generalize x.2.2.2.2.1.length=xl at *;generalize x.2.2.2.2.2.1.length=zl at *;have b3:=ah wr (.cells #[.int .i64 x.1,.int .i64 x.2.1,.int .i64 x.2.2.1,.int .i64 x.2.2.2.1,.slice xo xl xc,.slice zo zl zc,.string (bs x.2.2.2.2.2.2.1),.int .i64 x.2.2.2.2.2.2.2] 47);have Y3:=ae (heap_alloc_new wr (.cells #[.int .i64 x.1,.int .i64 x.2.1,.int .i64 x.2.2.1,.int .i64 x.2.2.2.1,.slice xo xl xc,.slice zo zl zc,.string (bs x.2.2.2.2.2.2.1),.int .i64 x.2.2.2.2.2.2.2] 47));have HM3:=ae (cI.below HM.out b3);have HB3:=ae (af HB.out b3);clear b3;go_upto_region 13 with fail
       show Code.wp _ _ _ _ (wr.alloc (.cells #[.int .i64 x.1,.int .i64 x.2.1,.int .i64 x.2.2.1,.int .i64 x.2.2.2.1,.slice xo xl xc,.slice zo zl zc,.string (bs x.2.2.2.2.2.2.1),.int .i64 x.2.2.2.2.2.2.2] 47));generalize wr.alloc (.cells #[.int .i64 x.1,.int .i64 x.2.1,.int .i64 x.2.2.1,.int .i64 x.2.2.2.1,.slice xo xl xc,.slice zo zl zc,.string (bs x.2.2.2.2.2.2.1),.int .i64 x.2.2.2.2.2.2.2] 47)=w3 at *;generalize wr.heap.size=q3 at *;clear e0 e1 e2 e3 e4 e5 e6 e7;obtain⟨⟨y0,y1,y2,y3,y4,y5,y6,y7⟩,_⟩:=cH Y3.out;have HCm:=ae (L5.lQ x.1 x.2.2.2.1 (.int .i64 x.2.1) (.int .i64 x.2.2.1) (.slice xo xl xc) (.slice zo zl zc) (.string (bs x.2.2.2.2.2.2.1)) (.int .i64 x.2.2.2.2.2.2.2) w3 (HTb.out w3 HB3.out));rw [←HMx.out] at HCm;go_wp2_with fail
       refine HCm.out.mono ?_;rintro e w4 ⟨rfl,b4⟩;have HM4:=ae (cI.below HM3.out b4);have HB4:=ae (af HB3.out b4);have Y4:=ae ((b4.block _ (Array.getElem?_eq_some_iff.1 Y3.out).1).trans Y3.out);clear b4 y0 y1 y2 y3 y4 y5 y6 y7 HCm HM3 HB3 Y3;obtain⟨⟨y0,y1,y2,y3,y4,y5,y6,y7⟩,_⟩:=cH Y4.out;have HSn:=ae (fun a=>qQ f a (bB f K I) x);have HHit:=ae (fun a=>iL (id:=a) (x:=x));obtain⟨mt,hmt⟩:∃mt,mkX x=mt:=⟨_,rfl⟩;simp only [hmt] at HKy HSn HHit ⊢;clear hmt HMx;by_cases hm0:mt=0
       ·have HM5:Hid (cI w4 (w.heap.size+1) (j+(bB f K (I+1)).length) (fun a=>tyL f a (bB f K (I+1)))):=ae (cI.congr (cI.mono HM4.out (by rw [HBg.out,List.length_append];omega)) fun a=>by
         rw [HBg.out,HSn.out,if_neg (fun h=>((HHit.out a).1 h).2 hm0)])
        subst hm0;go_wp2_with fail
        go_roundw
        case rel=>exact⟨I+1,by omega,by go_num,HM5,HB4⟩
        case measure=>simp [intOf];omega
       ·obtain⟨hk1,hk2⟩:=HKy.out hm0;have hnm:j+(bB f K I).length < maxLen:=(by have:=HLl.out;unfold maxLen;omega);go_wp2_with (first | (at_mapUpdate;refine iK _ rfl _ _ _ rfl (w.heap.size+1) (j+(bB f K I).length) _ rfl HM4.out hnm x.2.1 hk1 mt hk2 rfl rfl ?_;intro w1 own1 grow1) | fail)
        go_roundw
        case rel=>
         refine⟨I+1,by omega,by go_num,ae (cI.congr (cI.mono own1 (by rw [HBg.out,List.length_append];simp;omega)) fun a=> ?_),ae (HB4.out.trans (cx grow1 HB4.out.size (Nat.le_succ _)))⟩;rw [HBg.out,HSn.out];by_cases e:a=x.2.1
         ·rw [if_pos e,if_pos ((HHit.out a).2 ⟨e.symm,hm0⟩)]
         ·rw [if_neg e,if_neg (fun h=>e ((HHit.out a).1 h).1.symm)]
        case measure=>simp [intOf];omega
      ·obtain rfl:I=bl:=(by omega);have HM5:Hid (cI wr (w.heap.size+1) (j+(bB f (K+1) 0).length) (fun a=>tyL f a (bB f (K+1) 0))):=ae (by
        rw [jl (by rw [hlbs.out];exact hkt),hble.out];exact HM.out)
       go_wp2_with fail
       go_roundw
       case rel=>exact⟨K+1,by omega,by go_num,HM5,HB⟩
       case measure=>simp [intOf];omega
    ·obtain rfl:K=lbs:=(by omega);have HM5:=ae (cI.mono HM.out HEnd.out);go_wp2_with fail
     go_ret;exact⟨w.heap.size+1,rfl,Nat.le_succ _,HM5.out,HB.out⟩
open Go Go.RowKit
theorem xM (l:List Int) (v:Int) (ao:Option Addr) (c:Nat) (w:World) (hl:l.length≤1000000) (hs:Sl w ao l):
  Calls Tryz.prog 92 #[.slice ao l.length c,.int .i64 v] w fun e w'=>∃r:Int,e= .returned (.int .i64 r)∧az l v=decide (0≤r)∧w'=w:=by
 have HS:=ae hs;clear hs;have HNo:Hid ((∀j,j < l.length→l[j]? ≠some v)→az l v=false):=ae (fun h=>by
  rw [eO];intro hm;obtain⟨j,hj,e⟩:=List.mem_iff_getElem.1 hm;exact h j hj (by rw [List.getElem?_eq_getElem hj,e]))
 have HYes:Hid (∀j,l[j]? =some v→az l v=true):=ae (fun j h=>A3 h);have HGd:Hid (∀j,j < l.length→l[j]? =some (l.getD j 0)):=ae (fun j hj=>by rw [List.getD_eq_getElem?_getD,List.getElem?_eq_getElem hj];rfl);obtain⟨n,hn⟩:∃n,l.length=n:=⟨_,rfl⟩;rw [hn] at HNo hl HGd ⊢;replace hn:=ae hn;go_enter Tryz.func92,Tryz.ntmps92
 go_wp2_with fail
 go_loopw [8] (fun i wr=>∃k:Nat,i= .int .i64 k∧k≤n∧wr=w∧Hid (∀j,j < k→l[j]? ≠some v)) (fun i _=>n - (intOf i).toNat)
 case atStart=>exact⟨0,rfl,Nat.zero_le _,rfl,ae (fun j h=>absurd h (Nat.not_lt_zero _))⟩
 case round=>
  obtain⟨k,rfl,hk,rfl,HF⟩:=hrel;by_cases hlt:k < n
  ·have hlt':(k:Int) < n:=(by omega);obtain⟨g,o,rfl,hg,hc⟩:=oq HS.out (n:=k) (by rw [hn.out];exact hlt);have HG:=ae (HGd.out k hlt);obtain⟨t,ht⟩:∃t,l.getD k 0=t:=⟨_,rfl⟩;rw [ht] at hc HG;clear ht;by_cases hvt:v=t
   ·have HY:=ae (HYes.out k (by rw [HG.out,hvt]));subst hvt;go_wp2_with fail
    go_ret;exact⟨k,rfl,by rw [HY.out];simp,rfl⟩
   ·have HF2:Hid (∀j,j < k+1→l[j]? ≠some v):=ae (fun j hj=>by
     by_cases e:j=k
     ·subst e;rw [HG.out];intro h;injection h with h;exact hvt h.symm
     ·exact HF.out j (by omega))
    go_wp2_with fail
    go_roundw
    case rel=>exact⟨k+1,by go_num,by omega,trivial,HF2⟩
    case measure=>simp [intOf];omega
  ·obtain rfl:k=n:=(by omega);have HN:=ae (HNo.out HF.out);go_wp2_with fail
   go_ret;exact⟨-1,rfl,by rw [HN.out];simp,rfl⟩
theorem pr (l:List Int) (v:Int) (ao:Option Addr) (c:Nat) (w:World) (hl:l.length≤1000000) (hs:Sl w ao l):
  Calls Tryz.prog 64 #[.slice ao l.length c,.int .i64 v] w fun e w'=>e= .returned (.bool (az l v))∧w'=w:=by
 have HC:=ae (xM l v ao c w hl hs);generalize l.length=n at *;go_enter Tryz.func64,Tryz.ntmps64
 go_wp2_with fail
 refine HC.out.mono ?_;rintro e w1 ⟨r,rfl,hr,rfl⟩;have HR:=ae hr;clear hr;go_wp2_with fail
 go_ret;exact⟨by rw [HR.out];rfl,rfl⟩
theorem Cb {w:World} {p:List Fun} {po:Option Addr} {n pc:Nat} (h:bK w p (.slice po n pc)) {k:Nat} (hk:k≤p.length):bK w (p.take k) (.slice po (p.take k).length pc):=by
 obtain⟨po',pc',e,h1,h2,h3⟩:=h;injection e with e1 e2 e3;subst e1 e3;refine⟨po,pc,rfl,by rw [List.length_take];omega,h2,?_⟩;rcases h3 with h3 | ⟨g,o,e4,h4⟩
 ·left;rw [h3];simp
 ·right;refine⟨g,o,e4,fun i x hx=>h4 i x ?_⟩;rw [List.getElem?_take] at hx;split at hx
  ·exact hx
  ·cases hx
theorem uZ {w:World} {p:List Fun} {po:Option Addr} {n pc:Nat} (h:bK w p (.slice po n pc)):p.length≤pc∧pc≤maxLen:=by
 obtain⟨po',pc',e,h1,h2,h3⟩:=h;injection e with e1 e2 e3;subst e1 e3;exact⟨h1,h2⟩
theorem BF {p:List Fun} {i k:Nat} (h:i < k):aF (p.take k) i=aF p i:=by
 unfold aF;rw [List.getD_eq_getElem?_getD,List.getD_eq_getElem?_getD,List.getElem?_take,if_pos h]
theorem wU {p:List Fun} {k:Nat} (hk:k≤p.length) (nm:List UInt8):kj (p.take k) nm=bw (fun i=>if(aF p i).1=nm then some i else none) k:=by
 unfold kj;rw [List.length_take,Nat.min_eq_left hk];exact mD fun i hi=>by rw [BF hi]
theorem Ks {p:List Fun} {k:Nat} (hk:k < p.length) (h:stdI (p.take k) (aF p k).1= -1):bw (fun j=>if lU p k j then some ((5:Int),(aF p k).2.2.2.2)else none) k=none:=by
 have h1:kj (p.take k) (aF p k).1=none:=by
  unfold stdI at h
  cases hs:kj (p.take k) (aF p k).1 with
  |none=>rfl
  |some i=>rw [hs] at h;simp at h
 rw [wU (by omega)] at h1;apply bh;intro j hj;have:=fe h1 j hj;split at this
 ·cases this
 ·rename_i hne;rw [if_neg];simp only [lU,decide_eq_true_eq];exact fun e=>hne e.symm
theorem Ij {p:List Fun} {k:Nat} (hk:k < p.length) (h:¬stdI (p.take k) (aF p k).1= -1):bw (fun j=>if lU p k j then some ((5:Int),(aF p k).2.2.2.2)else none) k=some (5,(aF p k).2.2.2.2):=by
 cases hs:kj (p.take k) (aF p k).1 with
 |none=>unfold stdI at h;rw [hs] at h;simp at h
 |some i=>
  rw [wU (by omega)] at hs;obtain⟨K,hK,h1,h2⟩:=da hs;split at h1
  ·rename_i he;refine bN (K:=K) (fun j hj=> ?_) hK (by rw [if_pos];simp only [lU,decide_eq_true_eq];exact he.symm);have:=h2 j hj;split at this
   ·cases this
   ·rename_i hne;rw [if_neg];simp only [lU,decide_eq_true_eq];exact fun e=>hne e.symm
  ·cases h1
theorem names11_any (p:List Fun) (po:Option Addr) (pc:Nat) (w:World) (hp:bK w p (.slice po p.length pc)) (hl:p.length≤1000000) (hpl:∀f∈p,f.2.1.length≤1000000):
  Calls Tryz.prog 38 #[.slice po p.length pc] w fun e w'=>e= .returned (.agg #[.int .i64 (namesF p).1,.int .i64 (namesF p).2])∧Below w.heap.size w w':=by
 have HRd:Hid (∀w' i,Below w.heap.size w w'→i < p.length→∃g o,po=some ⟨g,o,none⟩∧lS w' (aF p i) g (o+i * 5)):=ae (fun w' i b hi=>eh (hp.below b) hi);have CS:Hid (∀w' k,Below w.heap.size w w'→k < p.length→Calls Tryz.prog 27 #[.slice po k pc,.string (bs (aF p k).1)] w' fun e w''=>e= .returned (.int .i64 (stdI (p.take k) (aF p k).1))∧Below w'.heap.size w' w''):=ae (fun w' k b hk=>by
  have h:=gN (p.take k) (aF p k).1 po pc w' (Cb (hp.below b) (by omega)) (by rw [List.length_take];omega);rw [List.length_take,Nat.min_eq_left (by omega)] at h;exact h)
 have CM:Hid (∀w',Below w.heap.size w w'→Calls Tryz.prog 27 #[.slice po p.length pc,.string ⟨#[109,97,105,110]⟩] w' fun e w''=>e= .returned (.int .i64 (stdI p dP))∧Below w'.heap.size w' w''):=ae (fun w' b=>gN p dP po pc w' (hp.below b) hl);have HFm:=ae (pN p dP);have HNo:Hid (∀k,k < p.length→stdI (p.take k) (aF p k).1= -1→bw (fun j=>if lU p k j then some ((5:Int),(aF p k).2.2.2.2)else none) k=none):=ae (fun k hk h=>Ks hk h);have HYe:Hid (∀k,k < p.length→¬stdI (p.take k) (aF p k).1= -1→bw (fun j=>if lU p k j then some ((5:Int),(aF p k).2.2.2.2)else none) k=some (5,(aF p k).2.2.2.2)):=ae (fun k hk h=>Ij hk h);have HDu:Hid (ur p=bw (fun i=>(bw (fun k=>if lU p i k then some ((5:Int),(aF p i).2.2.2.2)else none) i)) p.length):=ae rfl;have HNs:Hid (namesF p=match ur p with
  |some e=>e
  |none=>match findF p dP with
   |none=>(12,0)
   |some m=>if az m.2.1 2 then(13,m.2.2.2.2)else(0,0)):=ae rfl
 have HPl:Hid (∀i,i < p.length→(aF p i).2.1.length≤1000000):=ae (fun i hi=>hpl _ (List.mem_of_getElem? (eQ hi)));have hcap:=(uZ hp).1;have hcap2:=(uZ hp).2;unfold maxLen at hcap2;clear hp hpl;obtain⟨r,hr⟩:∃r,namesF p=r:=⟨_,rfl⟩;rw [hr] at HNs ⊢;clear hr;have HSl:Hid (∀k,kj p dP=some k→k < p.length):=ae (fun k h=>zw h);obtain⟨n,hn⟩:∃n,p.length=n:=⟨_,rfl⟩;rw [hn] at HRd CS CM HNo HYe HDu HPl hcap hl HSl ⊢;clear hn;have b0:=ah w (.cells #[.int .i64 0,.int .i64 0] 29);have H0:=ae (heap_alloc_new w (.cells #[.int .i64 0,.int .i64 0] 29));have B0:=ae b0;clear b0;go_enter Tryz.func38,Tryz.ntmps38
 go_upto_region 1 with fail
 show Code.wp _ _ _ _ (w.alloc (.cells #[.int .i64 0,.int .i64 0] 29));generalize w.alloc (.cells #[.int .i64 0,.int .i64 0] 29)=W at *;go_wp2_with fail
 go_loopw [8] (fun kv wr=>∃K:Nat,K≤n∧kv= .int .i64 K∧Hid (∀j,j < K→stdI (p.take j) (aF p j).1= -1)∧Hid (Below w.heap.size w wr)∧Hid (wr.heap[w.heap.size]? =some (.cells #[.int .i64 0,.int .i64 0] 29 (0,0)))) (fun kv _=>n - (intOf kv).toNat)
 case atStart=>exact⟨0,Nat.zero_le _,rfl,ae (fun j h=>absurd h (Nat.not_lt_zero _)),B0,H0⟩
 case round=>
  clear B0 H0;obtain⟨K,hK,rfl,HF,HB,HZ⟩:=hrel;by_cases hkt:K < n
  ·have hkI:(K:Int) < n:=(by omega);have hkc:(K:Int)≤pc:=(by omega);obtain⟨g,o,rfl,hfr⟩:=HRd.out wr K HB.out hkt;obtain⟨ao,bo,c,cb,_,d0,d1,d2,d3,d4⟩:=hfr.val;have HCs:=ae (fun w' b=>CS.out w' K b hkt);have HN1:=ae (HNo.out K hkt);have HY1:=ae (HYe.out K hkt);have HAll:Hid (∀j,j < K→bw (fun k=>if lU p j k then some ((5:Int),(aF p j).2.2.2.2)else none) j=none):=ae (fun j hj=>HNo.out j (by omega) (HF.out j hj));obtain⟨sv,hsv⟩:∃sv,stdI (p.take K) (aF p K).1=sv:=⟨_,rfl⟩;rw [hsv] at HCs HN1 HY1;have HSv:=ae hsv;clear hsv;obtain⟨f,hf⟩:∃f,aF p K=f:=⟨_,rfl⟩;rw [hf] at d0 d1 d2 d3 d4 HCs;have HfE:=ae hf;clear hf hfr;generalize f.2.1.length=fl at *;generalize f.2.2.2.1.length=fbl at *;generalize hfn:bs f.1=fnm at *;clear hfn;have b3:=ah wr (.cells #[.string fnm,.slice ao fl c,.int .i64 f.2.2.1,.slice bo fbl cb,.int .i64 f.2.2.2.2] 36);have Y3:=ae (heap_alloc_new wr (.cells #[.string fnm,.slice ao fl c,.int .i64 f.2.2.1,.slice bo fbl cb,.int .i64 f.2.2.2.2] 36));have HB3:=ae (af HB.out b3);have HZ3:=ae ((b3.block _ (Array.getElem?_eq_some_iff.1 HZ.out).1).trans HZ.out);clear b3;go_upto_region 4 with fail
   show Code.wp _ _ _ _ (wr.alloc (.cells #[.string fnm,.slice ao fl c,.int .i64 f.2.2.1,.slice bo fbl cb,.int .i64 f.2.2.2.2] 36));generalize wr.alloc (.cells #[.string fnm,.slice ao fl c,.int .i64 f.2.2.1,.slice bo fbl cb,.int .i64 f.2.2.2.2] 36)=w3 at *;generalize wr.heap.size=q3 at *;clear d0 d1 d2 d3 d4;have hq3:=(Array.getElem?_eq_some_iff.1 Y3.out).1;have y0:=fun x=>(bP (((L5.ax w3 x).block _ hq3).trans Y3.out)).1.1;have HBx:=ae (fun x=>af HB3.out (L5.ax w3 x));refine L5.aE (by kernel_rfl) (by kernel_rfl) ?_;repeat (go_big_quiet_step ((go_at_call 27;exact L5.bC (HCs.out _ (HBx.out _)))))
   refine wpQuiet_nil ?_;rintro _ ⟨x,rfl⟩;have HX:=ae (HBx.out x);have Z8:=ae (((L5.ax w3 x).block _ (Array.getElem?_eq_some_iff.1 HZ3.out).1).trans HZ3.out);have Y8:=ae (((L5.ax w3 x).block _ hq3).trans Y3.out);clear y0 HBx Y3 HZ3 HB3;obtain⟨w8,hw8⟩:∃w8:World,w8=L5.aZ w3 x:=⟨_,rfl⟩;rw [←hw8] at HX Z8 Y8 ⊢;clear hw8 hq3;by_cases hsm:sv= -1
   ·have HF2:Hid (∀j,j < K+1→stdI (p.take j) (aF p j).1= -1):=ae (fun j hj=>by
     by_cases e:j=K
     ·subst e;rw [HSv.out];exact hsm
     ·exact HF.out j (by omega))
    subst hsm;go_wp2_with fail
    go_roundw
    case rel=>exact⟨K+1,by omega,by go_num,HF2,HX,Z8⟩
    case measure=>simp [intOf];omega
   ·have HR:Hid (r=(5,f.2.2.2.2)):=ae (by
     rw [HNs.out,HDu.out,bN (K:=K) HAll.out hkt (HY1.out hsm),HfE.out])
    obtain⟨⟨z0,z1⟩,⟨f0,f1⟩,_⟩:=aP Z8.out;obtain⟨⟨y0,y1,y2,y3,y4⟩,_,_⟩:=bP Y8.out;have hle:w.heap.size≤w.heap.size:=Nat.le_refl _;have HE:Hid (Below w.heap.size w ((w8.setCell ⟨w.heap.size,0,none⟩ (.int .i64 5)).setCell ⟨w.heap.size,1,none⟩ (.int .i64 f.2.2.2.2))):=ae ((HX.out.setCell (p:=⟨w.heap.size,0,none⟩) hle _).setCell (p:=⟨w.heap.size,1,none⟩) hle _);go_wp2_with fail
    exact bodyPost_ret (v:= .agg #[.int .i64 5,.int .i64 f.2.2.2.2]) (by simp [results,Tryz.results38,go_sem,z0,z1]) rfl ⟨by rw [HR.out],HE.out⟩
  ·obtain rfl:K=n:=(by omega);have HDn:Hid (ur p=none):=ae (by rw [HDu.out];exact bh (fun j hj=>HNo.out j hj (HF.out j hj)));have HCm:=ae (CM.out wr HB.out);have HN2:Hid (r=match findF p dP with
    |none=>(12,0)
    |some m=>if az m.2.1 2 then(13,m.2.2.2.2)else(0,0)):=ae (by rw [HNs.out,HDn.out])
   have HStd:Hid (stdI p dP=match kj p dP with
    |none=> -1
    |some i=>i):=ae rfl
   obtain⟨sv,hsv⟩:∃sv,stdI p dP=sv:=⟨_,rfl⟩;rw [hsv] at HCm HStd;clear hsv HNs HNo HYe HDu CS CM;go_wp2_with fail
   refine HCm.out.mono ?_;rintro e w4 ⟨rfl,b4⟩;have HB4:=ae (af HB.out b4);have Z4:=ae ((b4.block _ (Array.getElem?_eq_some_iff.1 HZ.out).1).trans HZ.out);clear b4 HCm HB HZ;have hle:w.heap.size≤w.heap.size:=Nat.le_refl _;obtain⟨⟨z0,z1⟩,⟨f0,f1⟩,_⟩:=aP Z4.out
   cases hso:kj p dP with
   |none=>
    have hsv:sv= -1:=(by rw [HStd.out,hso]);have HR:Hid (r=(12,0)):=ae (by rw [HN2.out,HFm.out,hso];rfl);have HE:Hid (Below w.heap.size w ((w4.setCell ⟨w.heap.size,0,none⟩ (.int .i64 12)).setCell ⟨w.heap.size,1,none⟩ (.int .i64 0))):=ae ((HB4.out.setCell (p:=⟨w.heap.size,0,none⟩) hle _).setCell (p:=⟨w.heap.size,1,none⟩) hle _);subst hsv;clear HStd hso;go_wp2_with fail
    exact bodyPost_ret (v:= .agg #[.int .i64 12,.int .i64 0]) (by simp [results,Tryz.results38,go_sem,z0,z1]) rfl ⟨by rw [HR.out],HE.out⟩
   |some m=>
    have hsv:sv=(m:Int):=(by rw [HStd.out,hso]);have hm:=HSl.out m hso;have HR:Hid (r=if az (aF p m).2.1 2 then(13,(aF p m).2.2.2.2)else(0,0)):=ae (by rw [HN2.out,HFm.out,hso];rfl);subst hsv;clear HStd hso HN2 HFm;have hmI:(m:Int) < K:=(by omega);have hmm:¬(m:Int)= -1:=(by omega);obtain⟨g,o,rfl,hfr⟩:=HRd.out w4 m HB4.out hm;obtain⟨ao,bo,c,cb,hfv,d0,d1,d2,d3,d4⟩:=hfr.val;have hpm:=HPl.out m hm;obtain⟨f,hf⟩:∃f,aF p m=f:=⟨_,rfl⟩;rw [hf] at d0 d1 d2 d3 d4 HR hpm hfv;have HSs:Hid (Sl w4 ao f.2.1):=ae (by
     obtain⟨vp,vb,e,⟨ao',c',e2,hs,_⟩,_⟩:=hfv;simp only [Value.agg.injEq,Array.mk.injEq,List.cons.injEq] at e;obtain⟨_,e3,_⟩:=e;rw [e2] at e3;injection e3 with e3;subst e3;exact hs)
    have HCn:=ae (pr f.2.1 2 ao c w4 hpm HSs.out);clear hf hfr hfv;obtain⟨fl,hfl⟩:∃fl,f.2.1.length=fl:=⟨_,rfl⟩;rw [hfl] at d1 HCn hpm;clear hfl;go_wp2_with fail
    refine HCn.out.mono ?_;rintro e w5 ⟨rfl,rfl⟩
    cases hh:az f.2.1 2 with
    |true=>
     have HR2:Hid (r=(13,f.2.2.2.2)):=ae (by rw [HR.out,hh,if_pos rfl]);have HE:Hid (Below w.heap.size w ((w5.setCell ⟨w.heap.size,0,none⟩ (.int .i64 13)).setCell ⟨w.heap.size,1,none⟩ (.int .i64 f.2.2.2.2))):=ae ((HB4.out.setCell (p:=⟨w.heap.size,0,none⟩) hle _).setCell (p:=⟨w.heap.size,1,none⟩) hle _);clear hh;go_wp2_with fail
     exact bodyPost_ret (v:= .agg #[.int .i64 13,.int .i64 f.2.2.2.2]) (by simp [results,Tryz.results38,go_sem,z0,z1]) rfl ⟨by rw [HR2.out],HE.out⟩
    |false=>
     have HR2:Hid (r=(0,0)):=ae (by rw [HR.out,hh,if_neg (by simp)]);have HE:Hid (Below w.heap.size w ((w5.setCell ⟨w.heap.size,0,none⟩ (.int .i64 0)).setCell ⟨w.heap.size,1,none⟩ (.int .i64 0))):=ae ((HB4.out.setCell (p:=⟨w.heap.size,0,none⟩) hle _).setCell (p:=⟨w.heap.size,1,none⟩) hle _);clear hh;go_wp2_with fail
     exact bodyPost_ret (v:= .agg #[.int .i64 0,.int .i64 0]) (by simp [results,Tryz.results38,go_sem,z0,z1]) rfl ⟨by rw [HR2.out],HE.out⟩
end Go.Proofs.YtljkgcfnoegibaaGreatDoor
