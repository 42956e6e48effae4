/- Texts of one chain, joined. -/
import Derived.Test.YtljkgcfnoegibaaGreatDoorWcBL
set_option maxHeartbeats 4000000
set_option maxRecDepth 20000
namespace Go.Proofs.YtljkgcfnoegibaaGreatDoor
open Go Go.RowKit Go.Maps
open G (Tok Er Ins Fun)
def Chm (B mb:Nat) (z:Prop) (w w':World):Prop:=Chg B w w'∧w.grownBy w' (some mb)∧(z→Below w.heap.size w w')
theorem Chm.step {B mb:Nat} {z:Prop} {w w1 w2:World} (h:Chm B mb z w w1) (b:Below w1.heap.size w1 w2) (hB:B≤w.heap.size):Chm B mb z w w2:=
 ⟨h.1.trans (Chg.of_below b (Nat.le_trans hB h.1.1.size)),h.2.1.trans (below_grown b _),fun hz=>below_step (h.2.2 hz) b⟩
def putM (mk:Int→Option (Int × Int)) (id:Int) (s:Int × Int) (b:Bool):Int→Option (Int × Int):=fun a=>if b=true∧a=id then some s else mk a
theorem makes11_try (po ap ab:Option Addr) (pn pc an cp bn cb:Nat) (nm:ByteArray) (rt pl:Int) (src:Bool) (qb qo qn qc tr tb mb:Nat) (op id nn ty xp:Int) (ar tt:List Int) (xn:ByteArray) (ao to:Option Addr) (ca ct:Nat) (kv iv:Int) (w:World) (B n:Nat) (mk:Int→Option (Int × Int)) (jn:Bool) (hBw:B≤w.heap.size) (hBm:B≤mb) (hn:n < maxLen) (hT:L5.Tab w) (hM:SMap w mb n mk) (hI:L5.imakes op ty≠0→Wf6 id)
  (CJ:op=20→∀w',Chg B w w'→Calls Tryz.prog 99 #[.agg #[.slice po pn pc,.string nm,.slice ap an cp,.int .i64 rt,.slice ab bn cb,.int .i64 pl,.bool src,.slice (some ⟨qb,qo,none⟩) qn qc,.pointer (some ⟨tr,0,none⟩),.map (some tb),.map (some mb)],.agg #[.int .i64 kv,.int .i64 iv],.slice to tt.length ct] w' fun e w''=>e= .returned (.bool jn)∧Below w'.heap.size w' w'') (c:Int)
  (hc:c=if(decide (L5.imakes op ty≠0) && (mk id).isSome)=true then 5 else if(decide (op=20) && !jn)=true then 11 else if(src && (decide (op=23) || decide (op=24) || decide (op=25) || (decide (op=21) && decide (nn≠0))))=true then 2 else 0):
  Calls Tryz.prog 69 #[.agg #[.slice po pn pc,.string nm,.slice ap an cp,.int .i64 rt,.slice ab bn cb,.int .i64 pl,.bool src,.slice (some ⟨qb,qo,none⟩) qn qc,.pointer (some ⟨tr,0,none⟩),.map (some tb),.map (some mb)],.agg #[.int .i64 kv,.int .i64 iv],.agg #[.int .i64 op,.int .i64 id,.int .i64 nn,.int .i64 ty,.slice ao ar.length ca,.slice to tt.length ct,.string xn,.int .i64 xp]] w fun e w'=>e= .returned (.int .i64 c)∧(c=0→SMap w' mb (n+1) (putM mk id (kv,iv) (decide (L5.imakes op ty≠0))))∧Chm B mb (L5.imakes op ty=0) w w':=by
 obtain⟨b0,h0,h1,h2⟩:=box3 w (.cells #[.slice po pn pc,.string nm,.slice ap an cp,.int .i64 rt,.slice ab bn cb,.int .i64 pl,.bool src,.slice (some ⟨qb,qo,none⟩) qn qc,.pointer (some ⟨tr,0,none⟩),.map (some tb),.map (some mb)] 111) (.cells #[.int .i64 kv,.int .i64 iv] 113) (.cells #[.int .i64 op,.int .i64 id,.int .i64 nn,.int .i64 ty,.slice ao ar.length ca,.slice to tt.length ct,.string xn,.int .i64 xp] 47)
 have H0:=hide h0
 have H1:=hide h1
 have H2:=hide h2
 have HCg0:Hid (Chm B mb (L5.imakes op ty=0) w _):=hide ⟨Chg.of_below b0 hBw,below_grown b0 _,fun _=>b0⟩
 have HM0:=hide (NMap.below hM b0)
 have HT0:=hide (hT.below b0)
 replace CJ:=hide CJ
 have HLt:=hide (fun w'=>later11_any op id nn ty xp ar tt xn ao to ca ct w')
 have HI:=hide hI
 obtain⟨lt',hlt⟩:∃b,(decide (op=23) || decide (op=24) || decide (op=25) || (decide (op=21) && decide (nn≠0)))=b:=⟨_,rfl⟩
 rw [hlt] at HLt hc
 have HC:=hide hc
 clear b0 h0 h1 h2 hM hT hc hlt hI
 obtain⟨la,hlae⟩:∃n,ar.length=n:=⟨_,rfl⟩
 obtain⟨lt,hlte⟩:∃n,tt.length=n:=⟨_,rfl⟩
 rw [hlae,hlte] at H0 H1 H2 HCg0 HM0 HT0 HLt
 rw [hlte] at CJ
 rw [hlae,hlte]
 clear hlae hlte
 obtain⟨mt,hmt⟩:∃mt,L5.imakes op ty=mt:=⟨_,rfl⟩
 have HMk:=hide (fun w' h=>L5.makes_any op ty (.int .i64 id) (.int .i64 nn) (.slice ao la ca) (.slice to lt ct) (.string xn) (.int .i64 xp) w' h)
 rw [hmt] at HC HI HMk HCg0 ⊢
 clear hmt
 obtain⟨mm,hmm⟩:∃mm,putM mk id (kv,iv) (decide (mt≠0))=mm:=⟨_,rfl⟩
 rw [hmm]
 have HMm:=hide hmm
 clear hmm
 go_enter Tryz.func69,Tryz.ntmps69
 go_upto_region 1 with fail
 show Code.wp _ _ _ _ (((w.alloc (.cells #[.slice po pn pc,.string nm,.slice ap an cp,.int .i64 rt,.slice ab bn cb,.int .i64 pl,.bool src,.slice (some ⟨qb,qo,none⟩) qn qc,.pointer (some ⟨tr,0,none⟩),.map (some tb),.map (some mb)] 111)).alloc (.cells #[.int .i64 kv,.int .i64 iv] 113)).alloc (.cells #[.int .i64 op,.int .i64 id,.int .i64 nn,.int .i64 ty,.slice ao la ca,.slice to lt ct,.string xn,.int .i64 xp] 47))
 generalize ((w.alloc (.cells #[.slice po pn pc,.string nm,.slice ap an cp,.int .i64 rt,.slice ab bn cb,.int .i64 pl,.bool src,.slice (some ⟨qb,qo,none⟩) qn qc,.pointer (some ⟨tr,0,none⟩),.map (some tb),.map (some mb)] 111)).alloc (.cells #[.int .i64 kv,.int .i64 iv] 113)).alloc (.cells #[.int .i64 op,.int .i64 id,.int .i64 nn,.int .i64 ty,.slice ao la ca,.slice to lt ct,.string xn,.int .i64 xp] 47)=W at *
 obtain⟨⟨x0,x1,x2,x3,x4,x5,x6,x7⟩,_⟩:=ins_at H2.out
 go_wp2_with fail
 refine(HMk.out _ HT0.out).mono ?_;rintro e w1 ⟨rfl,b1⟩
 have G0:=hide ((b1.block _ (Array.getElem?_eq_some_iff.1 H0.out).1).trans H0.out)
 have G1:=hide ((b1.block _ (Array.getElem?_eq_some_iff.1 H1.out).1).trans H1.out)
 have G2:=hide ((b1.block _ (Array.getElem?_eq_some_iff.1 H2.out).1).trans H2.out)
 have HCg1:=hide (HCg0.out.step b1 hBw)
 have HM1:=hide (NMap.below HM0.out b1)
 clear b1 x0 x1 x2 x3 x4 x5 x6 x7 H0 H1 H2 HM0 HT0 HCg0 HMk
 by_cases hm0:mt=0
 ·have HC2:Hid (c=if(decide (op=20) && !jn)=true then 11 else if(src && lt')=true then 2 else 0):=hide (by rw [HC.out];simp [hm0])
  have HSM:Hid (SMap w1 mb (n+1) mm):=hide (by
   rw [←HMm.out]
   refine(NMap.mono HM1.out (Nat.le_succ n)).congr fun a=> ?_
   simp [putM,hm0])
  subst hm0
  clear HC HM1
  obtain⟨wT,rfl⟩:∃wT,wT=w1:=⟨_,rfl⟩
  have T0:=G0
  have T1:=G1
  have T2:=G2
  have HCg:=HCg1
  clear G0 G1 G2 HCg1
  obtain⟨⟨k0,k1,k2,k3,k4,k5,k6,k7,k8,k9,k10⟩,_⟩:=look_at _ _ _ _ _ _ _ _ _ _ _ _ _ _ _ _ _ _ _ _ T0.out
  obtain⟨⟨y0,y1⟩,_,_⟩:=two_at T1.out
  obtain⟨⟨x0,x1,x2,x3,x4,x5,x6,x7⟩,_⟩:=ins_at T2.out
  by_cases h20:op=20
  ·have HJ:=hide (CJ.out h20 wT HCg.out.1)
   have HC2':Hid (c=if jn=false then 11 else if(src && lt')=true then 2 else 0):=hide (by rw [HC2.out];simp [h20])
   subst h20
   clear HC2
   go_wp2_with fail
   refine HJ.out.mono ?_;rintro e w5 ⟨rfl,b5⟩
   have HCg5:=hide (HCg.out.step b5 hBw)
   have HSM5:=hide (NMap.below HSM.out b5)
   have U0:=hide ((b5.block _ (Array.getElem?_eq_some_iff.1 T0.out).1).trans T0.out)
   have U2:=hide ((b5.block _ (Array.getElem?_eq_some_iff.1 T2.out).1).trans T2.out)
   clear b5 HJ k0 k1 k2 k3 k4 k5 k6 k7 k8 k9 k10 y0 y1 x0 x1 x2 x3 x4 x5 x6 x7 T0 T1 T2 HSM HCg
   cases hjn:jn with
   |false=>
    have HD:Hid (c=11):=hide (by rw [HC2'.out,hjn,if_pos rfl])
    clear hjn
    go_wp2_with fail
    go_ret
    exact⟨by rw [HD.out];rfl,fun h=>(by rw [HD.out] at h;cases h),HCg5.out⟩
   |true=>
    have HC3:Hid (c=if(src && lt')=true then 2 else 0):=hide (by rw [HC2'.out,hjn,if_neg (by simp)])
    clear hjn HC2'
    obtain⟨wT,rfl⟩:∃wT,wT=w5:=⟨_,rfl⟩
    have T0:=U0
    have T2:=U2
    have HSM:=HSM5
    have HCg:=HCg5
    clear U0 U2 HSM5 HCg5
    obtain⟨⟨k0,k1,k2,k3,k4,k5,k6,k7,k8,k9,k10⟩,_⟩:=look_at _ _ _ _ _ _ _ _ _ _ _ _ _ _ _ _ _ _ _ _ T0.out
    obtain⟨⟨x0,x1,x2,x3,x4,x5,x6,x7⟩,_⟩:=ins_at T2.out
    cases hsrc:src with
    |false=>
     have HD:Hid (c=0):=hide (by rw [HC3.out,hsrc];simp)
     subst hsrc
     clear HC3
     go_wp2_with fail
     go_ret
     exact⟨by rw [HD.out];rfl,fun _=>HSM.out,HCg.out⟩
    |true=>
     have HC4:Hid (c=if lt'=true then 2 else 0):=hide (by rw [HC3.out,hsrc,Bool.true_and])
     subst hsrc
     clear HC3
     have HLt2:=HLt.out wT
     replace HLt2:=hide HLt2
     go_wp2_with fail
     refine HLt2.out.mono ?_;rintro e w6 ⟨rfl,b6⟩
     have HCg2:=hide (HCg.out.step b6 hBw)
     have HSM2:=hide (NMap.below HSM.out b6)
     clear b6 HLt2 k0 k1 k2 k3 k4 k5 k6 k7 k8 k9 k10 x0 x1 x2 x3 x4 x5 x6 x7
     cases hlt':lt' with
     |true=>
      have HD:Hid (c=2):=hide (by rw [HC4.out,hlt',if_pos rfl])
      clear hlt'
      go_wp2_with fail
      go_ret
      exact⟨by rw [HD.out];rfl,fun h=>(by rw [HD.out] at h;cases h),HCg2.out⟩
     |false=>
      have HD:Hid (c=0):=hide (by rw [HC4.out,hlt'];rfl)
      clear hlt'
      go_wp2_with fail
      go_ret
      exact⟨by rw [HD.out];rfl,fun _=>HSM2.out,HCg2.out⟩
  ·have HC3:Hid (c=if(src && lt')=true then 2 else 0):=hide (by rw [HC2.out];simp [h20])
   clear HC2 k0 k1 k2 k3 k4 k5 k6 k7 k8 k9 k10 x0 x1 x2 x3 x4 x5 x6 x7 y0 y1
   obtain⟨⟨k0,k1,k2,k3,k4,k5,k6,k7,k8,k9,k10⟩,_⟩:=look_at _ _ _ _ _ _ _ _ _ _ _ _ _ _ _ _ _ _ _ _ T0.out
   obtain⟨⟨x0,x1,x2,x3,x4,x5,x6,x7⟩,_⟩:=ins_at T2.out
   cases hsrc:src with
   |false=>
    have HD:Hid (c=0):=hide (by rw [HC3.out,hsrc];simp)
    subst hsrc
    clear HC3
    go_wp2_with fail
    go_ret
    exact⟨by rw [HD.out];rfl,fun _=>HSM.out,HCg.out⟩
   |true=>
    have HC4:Hid (c=if lt'=true then 2 else 0):=hide (by rw [HC3.out,hsrc,Bool.true_and])
    subst hsrc
    clear HC3
    have HLt2:=HLt.out wT
    replace HLt2:=hide HLt2
    go_wp2_with fail
    refine HLt2.out.mono ?_;rintro e w6 ⟨rfl,b6⟩
    have HCg2:=hide (HCg.out.step b6 hBw)
    have HSM2:=hide (NMap.below HSM.out b6)
    clear b6 HLt2 k0 k1 k2 k3 k4 k5 k6 k7 k8 k9 k10 x0 x1 x2 x3 x4 x5 x6 x7
    cases hlt':lt' with
    |true=>
     have HD:Hid (c=2):=hide (by rw [HC4.out,hlt',if_pos rfl])
     clear hlt'
     go_wp2_with fail
     go_ret
     exact⟨by rw [HD.out];rfl,fun h=>(by rw [HD.out] at h;cases h),HCg2.out⟩
    |false=>
     have HD:Hid (c=0):=hide (by rw [HC4.out,hlt'];rfl)
     clear hlt'
     go_wp2_with fail
     go_ret
     exact⟨by rw [HD.out];rfl,fun _=>HSM2.out,HCg2.out⟩
 ·have hId:Wf6 id:=HI.out hm0
  obtain⟨⟨k0,k1,k2,k3,k4,k5,k6,k7,k8,k9,k10⟩,_⟩:=look_at _ _ _ _ _ _ _ _ _ _ _ _ _ _ _ _ _ _ _ _ G0.out
  obtain⟨⟨y0,y1⟩,_,_⟩:=two_at G1.out
  obtain⟨⟨x0,x1,x2,x3,x4,x5,x6,x7⟩,_⟩:=ins_at G2.out
  cases hmk:mk id with
  |some s=>
   obtain⟨s1,s2⟩:=s
   have HMs:=hide hmk
   have HD:Hid (c=5):=hide (by rw [HC.out,hmk];simp [hm0])
   have HCgE:=hide (HCg1.out.step (below_box w1 (.cells #[.int .i64 s1,.int .i64 s2] 113)) hBw)
   clear hmk HC
   go_wp2_with (first | (at_lookup;refine wpList_slook _ rfl _ _ rfl mb n mk rfl HM1.out id hId rfl s1 s2 true (by rw [HMs.out];rfl) (by rw [HMs.out];rfl) ?_) | fail)
   go_ret
   exact⟨by rw [HD.out];rfl,fun h=>(by rw [HD.out] at h;cases h),HCgE.out⟩
  |none=>
   have HMs:=hide hmk
   have HC2:Hid (c=if(decide (op=20) && !jn)=true then 11 else if(src && lt')=true then 2 else 0):=hide (by rw [HC.out,hmk];simp)
   clear hmk HC
   have bz:=below_box w1 (.cells #[.int .i64 0,.int .i64 0] 113)
   have Z0:=hide ((bz.block _ (Array.getElem?_eq_some_iff.1 G0.out).1).trans G0.out)
   have Z1:=hide ((bz.block _ (Array.getElem?_eq_some_iff.1 G1.out).1).trans G1.out)
   have Z2:=hide ((bz.block _ (Array.getElem?_eq_some_iff.1 G2.out).1).trans G2.out)
   have HCgz:=hide (HCg1.out.step bz hBw)
   have HMz:=hide (NMap.below HM1.out bz)
   clear bz
   go_upto_region 5 with (first | (at_lookup;refine wpList_slook _ rfl _ _ rfl mb n mk rfl HM1.out id hId rfl 0 0 false (by rw [HMs.out];rfl) (by rw [HMs.out];rfl) ?_) | fail)
   show Code.wp _ _ _ _ (w1.alloc (.cells #[.int .i64 0,.int .i64 0] 113))
   generalize w1.alloc (.cells #[.int .i64 0,.int .i64 0] 113)=wz at *
   generalize w1.heap.size=qz at *
   clear k0 k1 k2 k3 k4 k5 k6 k7 k8 k9 k10 y0 y1 x0 x1 x2 x3 x4 x5 x6 x7 G0 G1 G2 HCg1 HM1
   obtain⟨⟨k0,k1,k2,k3,k4,k5,k6,k7,k8,k9,k10⟩,_⟩:=look_at _ _ _ _ _ _ _ _ _ _ _ _ _ _ _ _ _ _ _ _ Z0.out
   obtain⟨⟨y0,y1⟩,_,_⟩:=two_at Z1.out
   obtain⟨⟨x0,x1,x2,x3,x4,x5,x6,x7⟩,_⟩:=ins_at Z2.out
   go_upto_region 6 with (first | (at_mapUpdate;refine wpList_sput _ rfl _ _ _ rfl mb n mk rfl HMz.out hn id hId kv iv rfl rfl ?_;intro wT own1 grow1) | fail)
   have hgr:=Chg.of_grown (B:=B) grow1 (NMap.isMap HMz.out) (Nat.le_trans hBw HCgz.out.1.1.size) hBm
   have T0:=hide (hgr.2 _ _ _ _ Z0.out)
   have T1:=hide (hgr.2 _ _ _ _ Z1.out)
   have T2:=hide (hgr.2 _ _ _ _ Z2.out)
   have HCg:Hid (Chm B mb (mt=0) w wT):=hide ⟨HCgz.out.1.trans hgr,HCgz.out.2.1.trans grow1,fun h=>absurd h hm0⟩
   have HSM:Hid (SMap wT mb (n+1) mm):=hide (by
    rw [←HMm.out]
    refine NMap.congr own1 fun a=> ?_
    by_cases e:a=id
    ·simp [putM,hm0,e]
    ·simp [putM,e])
   clear hgr own1 grow1 k0 k1 k2 k3 k4 k5 k6 k7 k8 k9 k10 y0 y1 x0 x1 x2 x3 x4 x5 x6 x7 Z0 Z1 Z2 HCgz HMz
   obtain⟨⟨k0,k1,k2,k3,k4,k5,k6,k7,k8,k9,k10⟩,_⟩:=look_at _ _ _ _ _ _ _ _ _ _ _ _ _ _ _ _ _ _ _ _ T0.out
   obtain⟨⟨y0,y1⟩,_,_⟩:=two_at T1.out
   obtain⟨⟨x0,x1,x2,x3,x4,x5,x6,x7⟩,_⟩:=ins_at T2.out
   by_cases h20:op=20
   ·have HJ:=hide (CJ.out h20 wT HCg.out.1)
    have HC2':Hid (c=if jn=false then 11 else if(src && lt')=true then 2 else 0):=hide (by rw [HC2.out];simp [h20])
    subst h20
    clear HC2
    go_wp2_with fail
    refine HJ.out.mono ?_;rintro e w5 ⟨rfl,b5⟩
    have HCg5:=hide (HCg.out.step b5 hBw)
    have HSM5:=hide (NMap.below HSM.out b5)
    have U0:=hide ((b5.block _ (Array.getElem?_eq_some_iff.1 T0.out).1).trans T0.out)
    have U2:=hide ((b5.block _ (Array.getElem?_eq_some_iff.1 T2.out).1).trans T2.out)
    clear b5 HJ k0 k1 k2 k3 k4 k5 k6 k7 k8 k9 k10 y0 y1 x0 x1 x2 x3 x4 x5 x6 x7 T0 T1 T2 HSM HCg
    cases hjn:jn with
    |false=>
     have HD:Hid (c=11):=hide (by rw [HC2'.out,hjn,if_pos rfl])
     clear hjn
     go_wp2_with fail
     go_ret
     exact⟨by rw [HD.out];rfl,fun h=>(by rw [HD.out] at h;cases h),HCg5.out⟩
    |true=>
     have HC3:Hid (c=if(src && lt')=true then 2 else 0):=hide (by rw [HC2'.out,hjn,if_neg (by simp)])
     clear hjn HC2'
     obtain⟨wT,rfl⟩:∃wT,wT=w5:=⟨_,rfl⟩
     have T0:=U0
     have T2:=U2
     have HSM:=HSM5
     have HCg:=HCg5
     clear U0 U2 HSM5 HCg5
     obtain⟨⟨k0,k1,k2,k3,k4,k5,k6,k7,k8,k9,k10⟩,_⟩:=look_at _ _ _ _ _ _ _ _ _ _ _ _ _ _ _ _ _ _ _ _ T0.out
     obtain⟨⟨x0,x1,x2,x3,x4,x5,x6,x7⟩,_⟩:=ins_at T2.out
     cases hsrc:src with
     |false=>
      have HD:Hid (c=0):=hide (by rw [HC3.out,hsrc];simp)
      subst hsrc
      clear HC3
      go_wp2_with fail
      go_ret
      exact⟨by rw [HD.out];rfl,fun _=>HSM.out,HCg.out⟩
     |true=>
      have HC4:Hid (c=if lt'=true then 2 else 0):=hide (by rw [HC3.out,hsrc,Bool.true_and])
      subst hsrc
      clear HC3
      have HLt2:=HLt.out wT
      replace HLt2:=hide HLt2
      go_wp2_with fail
      refine HLt2.out.mono ?_;rintro e w6 ⟨rfl,b6⟩
      have HCg2:=hide (HCg.out.step b6 hBw)
      have HSM2:=hide (NMap.below HSM.out b6)
      clear b6 HLt2 k0 k1 k2 k3 k4 k5 k6 k7 k8 k9 k10 x0 x1 x2 x3 x4 x5 x6 x7
      cases hlt':lt' with
      |true=>
       have HD:Hid (c=2):=hide (by rw [HC4.out,hlt',if_pos rfl])
       clear hlt'
       go_wp2_with fail
       go_ret
       exact⟨by rw [HD.out];rfl,fun h=>(by rw [HD.out] at h;cases h),HCg2.out⟩
      |false=>
       have HD:Hid (c=0):=hide (by rw [HC4.out,hlt'];rfl)
       clear hlt'
       go_wp2_with fail
       go_ret
       exact⟨by rw [HD.out];rfl,fun _=>HSM2.out,HCg2.out⟩
   ·have HC3:Hid (c=if(src && lt')=true then 2 else 0):=hide (by rw [HC2.out];simp [h20])
    clear HC2 k0 k1 k2 k3 k4 k5 k6 k7 k8 k9 k10 x0 x1 x2 x3 x4 x5 x6 x7 y0 y1
    obtain⟨⟨k0,k1,k2,k3,k4,k5,k6,k7,k8,k9,k10⟩,_⟩:=look_at _ _ _ _ _ _ _ _ _ _ _ _ _ _ _ _ _ _ _ _ T0.out
    obtain⟨⟨x0,x1,x2,x3,x4,x5,x6,x7⟩,_⟩:=ins_at T2.out
    cases hsrc:src with
    |false=>
     have HD:Hid (c=0):=hide (by rw [HC3.out,hsrc];simp)
     subst hsrc
     clear HC3
     go_wp2_with fail
     go_ret
     exact⟨by rw [HD.out];rfl,fun _=>HSM.out,HCg.out⟩
    |true=>
     have HC4:Hid (c=if lt'=true then 2 else 0):=hide (by rw [HC3.out,hsrc,Bool.true_and])
     subst hsrc
     clear HC3
     have HLt2:=HLt.out wT
     replace HLt2:=hide HLt2
     go_wp2_with fail
     refine HLt2.out.mono ?_;rintro e w6 ⟨rfl,b6⟩
     have HCg2:=hide (HCg.out.step b6 hBw)
     have HSM2:=hide (NMap.below HSM.out b6)
     clear b6 HLt2 k0 k1 k2 k3 k4 k5 k6 k7 k8 k9 k10 x0 x1 x2 x3 x4 x5 x6 x7
     cases hlt':lt' with
     |true=>
      have HD:Hid (c=2):=hide (by rw [HC4.out,hlt',if_pos rfl])
      clear hlt'
      go_wp2_with fail
      go_ret
      exact⟨by rw [HD.out];rfl,fun h=>(by rw [HD.out] at h;cases h),HCg2.out⟩
     |false=>
      have HD:Hid (c=0):=hide (by rw [HC4.out,hlt'];rfl)
      clear hlt'
      go_wp2_with fail
      go_ret
      exact⟨by rw [HD.out];rfl,fun _=>HSM2.out,HCg2.out⟩
def parM (ps:List Int) (j:Nat):Int→Option Int:=fun id=>if 0≤id∧id < (j:Int)then some (ps.getD id.toNat 0)else none
theorem parM_step (ps:List Int) (j:Nat) (a:Int):(if a=(j:Int)then some (ps.getD j 0)else parM ps j a)=parM ps (j+1) a:=by
 unfold parM
 by_cases h:a=(j:Int)
 ·subst h
  rw [if_pos rfl,if_pos (by omega),Int.toNat_natCast]
 ·rw [if_neg h]
  by_cases h2:0≤a∧a < (j:Int)
  ·rw [if_pos h2,if_pos (by omega)]
  ·rw [if_neg h2,if_neg (by omega)]
theorem parM_all (f:Fun) (a:Int):parM f.2.1 f.2.1.length a=tyL f a (bigL f 0 0):=by
 rw [bigL_first]
 unfold parM tyL isPar
 simp only [List.foldl_nil,Bool.and_eq_true,decide_eq_true_eq]
def KeyF (f:Fun):Prop:=(∀t∈f.2.1,I64 t)∧(∀b∈f.2.2.2.1,∀x∈b,mkX x≠0→I64 x.2.1∧I64 (mkX x))∧f.2.1.length+(bigL f f.2.2.2.1.length 0).length≤1000000
theorem bigL_len {f:Fun} {K:Nat} (hK:K < f.2.2.2.1.length):(bigL f K (blkN f K).length).length≤(bigL f f.2.2.2.1.length 0).length:=by
 rw [←bigL_next hK]
 unfold bigL
 simp only [List.take_zero,List.append_nil,List.take_length]
 have h:((f.2.2.2.1.take (K+1)) ++ (f.2.2.2.1.drop (K+1))).flatten=f.2.2.2.1.flatten:=by rw [List.take_append_drop]
 rw [←h,List.flatten_append,List.length_append]
 omega
theorem bigL_le {f:Fun} {K I:Nat} (hK:K < f.2.2.2.1.length) (hI:I≤(blkN f K).length):(bigL f K I).length≤(bigL f f.2.2.2.1.length 0).length:=by
 refine Nat.le_trans ?_ (bigL_len hK)
 unfold bigL
 simp only [List.length_append,List.length_take]
 omega
theorem IMap.congr {w:World} {b n:Nat} {ty ty':Int→Option Int} (h:IMap w b n ty) (e:∀a,ty a=ty' a):IMap w b n ty':=by
 have:ty=ty':=funext e
 subst this
 exact h
theorem IMap.mono {w:World} {b n n':Nat} {ty:Int→Option Int} (h:IMap w b n ty) (hn:n≤n'):IMap w b n' ty:=NMap.mono h hn
theorem IMap.below {w w':World} {b n:Nat} {ty:Int→Option Int} (h:IMap w b n ty) (hb:Below w.heap.size w w'):IMap w' b n ty:=NMap.below h hb
theorem types11_any (f:Fun) (v:Value) (w:World) (hv:FunV w f v) (hT:L5.Tab w) (hM:Mod f) (hKey:KeyF f):
  Calls Tryz.prog 15 #[v] w fun e w'=>∃b,e= .returned (.map (some b))∧w.heap.size≤b∧IMap w' b 1000000 (fun a=>tyL f a (bigL f f.2.2.2.1.length 0))∧Below w.heap.size w w':=by
 obtain⟨lp,cp,lb,cb,rfl,X,b0⟩:=fun_box hv
 have X0:=hide X
 have B0:=hide b0
 have HPs:Hid (Sl w lp f.2.1):=hide (by
  obtain⟨vp,vb,e,⟨ao',c',e2,hs,_⟩,_⟩:=hv
  simp only [Value.agg.injEq,Array.mk.injEq,List.cons.injEq] at e
  obtain⟨_,e3,_⟩:=e
  rw [e2] at e3
  injection e3 with e3
  subst e3
  exact hs)
 have HRd:Hid (∀k,k < f.2.2.2.1.length→∃g o ao ac,lb=some ⟨g,o,none⟩∧(∀w',Below w.heap.size w w'→w'.cell? ⟨g,o+k,none⟩=some (.slice ao (blkN f k).length ac))∧∀w',Below w.heap.size w w'→∀i,i < (blkN f k).length→∃g2 o2,ao=some ⟨g2,o2,none⟩∧InsR w' (insN f k i) g2 (o2+i * 8)):=hide (fun k hk=>by
  obtain⟨g,o,ao,ac,h1,h2,h3,h4⟩:=blks_row (fun_blks hv) hk
  exact⟨g,o,ao,ac,h1,fun w' b=>(b.cell (p:=⟨g,o+k,none⟩) h2).trans h3,fun w' b i hi=>blk_ins (h4.below b) hi⟩)
 have HTb:=hide (fun w' (b:Below w.heap.size w w')=>hT.below b)
 have HMb:=hide (fun k=>hM.blk k)
 have HKx:Hid (∀k i,k < f.2.2.2.1.length→i < (blkN f k).length→mkX (insN f k i)≠0→Wf6 (insN f k i).2.1∧Wf6 (mkX (insN f k i))):=hide (fun k i hk hi h0=>by
  have hb:blkN f k∈f.2.2.2.1:=List.mem_of_getElem? (blkN_at hk)
  have hx:insN f k i∈blkN f k:=List.mem_of_getElem? (insN_at hi)
  have:=hKey.2.1 _ hb _ hx h0
  exact⟨wf_of this.1,wf_of this.2⟩)
 have HKp:Hid (∀j,j < f.2.1.length→Wf6 (f.2.1.getD j 0)):=hide (fun j hj=>wf_of (hKey.1 _ (by
  rw [List.getD_eq_getElem?_getD,List.getElem?_eq_getElem hj];exact List.getElem_mem hj)))
 have HLe:Hid (∀K I,K < f.2.2.2.1.length→I≤(blkN f K).length→f.2.1.length+(bigL f K I).length≤1000000):=hide (fun K I hK hI=>by
  have:=bigL_le hK hI
  have:=hKey.2.2
  omega)
 have hPl:f.2.1.length≤1000000:=by have:=hKey.2.2;omega
 have HEnd:Hid (f.2.1.length+(bigL f f.2.2.2.1.length 0).length≤1000000):=hide hKey.2.2
 have hN:=hM.1
 clear hv X b0 hT hM hKey
 generalize hnm:bs f.1=nm at *
 obtain⟨lps,hlps⟩:∃n,f.2.1.length=n:=⟨_,rfl⟩
 obtain⟨lbs,hlbs⟩:∃n,f.2.2.2.1.length=n:=⟨_,rfl⟩
 rw [hlps,hlbs] at X0 B0 ⊢
 rw [hlps] at HKp hPl HLe HEnd
 rw [hlbs] at HRd HKx HLe HEnd hN
 generalize f.2.2.1=rt at *
 generalize f.2.2.2.2=pl at *
 clear hnm
 replace hlps:=hide hlps
 replace hlbs:=hide hlbs
 have b1:=below_box (w.alloc (.cells #[.string nm,.slice lp lps cp,.int .i64 rt,.slice lb lbs cb,.int .i64 pl] 36)) (.map #[] 0)
 have HM1:Hid (IMap ((w.alloc (.cells #[.string nm,.slice lp lps cp,.int .i64 rt,.slice lb lbs cb,.int .i64 pl] 36)).alloc (.map #[] 0)) (w.alloc (.cells #[.string nm,.slice lp lps cp,.int .i64 rt,.slice lb lbs cb,.int .i64 pl] 36)).heap.size 0 (parM f.2.1 0)):=hide ((NMap.made _ _).congr fun a=>by
  unfold parM
  rw [if_neg (by omega)]
  rfl)
 have X1:=hide (X0.out.below b1)
 have B1:=hide (below_step B0.out b1)
 have hmm:= @run_makeMap Tryz.prog
 have hs1:(w.alloc (.cells #[.string nm,.slice lp lps cp,.int .i64 rt,.slice lb lbs cb,.int .i64 pl] 36)).heap.size=w.heap.size+1:=by simp
 rw [hs1] at HM1
 go_enter Tryz.func15,Tryz.ntmps15
 go_upto_region 2 with fail
 show Code.wp _ _ _ _ ((w.alloc (.cells #[.string nm,.slice lp lps cp,.int .i64 rt,.slice lb lbs cb,.int .i64 pl] 36)).alloc (.map #[] 0))
 generalize (w.alloc (.cells #[.string nm,.slice lp lps cp,.int .i64 rt,.slice lb lbs cb,.int .i64 pl] 36)).alloc (.map #[] 0)=W at *
 clear hmm hs1 b1 B0 X0
 obtain⟨x0,x1,x2,x3,x4⟩:_∧_∧_∧_∧_:=⟨X1.out.2 0 _ rfl,X1.out.2 1 _ rfl,X1.out.2 2 _ rfl,X1.out.2 3 _ rfl,X1.out.2 4 _ rfl⟩
 go_wp2_with fail
 clear x0 x1 x2 x3 x4
 go_loopw [15] (fun jv wr=>∃j:Nat,j≤lps∧jv= .int .i64 j∧Hid (IMap wr (w.heap.size+1) j (parM f.2.1 j))∧Hid (Below w.heap.size w wr)∧Hid (L5.Box wr w.heap.size [.string nm,.slice lp lps cp,.int .i64 rt,.slice lb lbs cb,.int .i64 pl])) (fun jv _=>lps - (intOf jv).toNat)
 case atStart=>exact⟨0,Nat.zero_le _,rfl,HM1,B1,X1⟩
 case round=>
  clear HM1 B1 X1
  obtain⟨j,hj,rfl,HM,HB,HX⟩:=hrel
  by_cases hjt:j < lps
  ·have hjI:(j:Int) < lps:=by omega
   obtain⟨g,o,rfl,hg,hc⟩:=sl_at HPs.out (n:=j) (by rw [hlps.out];exact hjt)
   have hc1:=(HB.out.cell (p:=⟨g,o+j,none⟩) hg).trans hc
   have HWt:=hide (HKp.out j hjt)
   have hWj:Wf6 (j:Int):=wf_of ⟨by omega,by omega⟩
   have HSt:=hide (parM_step f.2.1 j)
   obtain⟨tv,htv⟩:∃tv,f.2.1.getD j 0=tv:=⟨_,rfl⟩
   simp only [htv] at hc1 HWt HSt
   have hjm:j < maxLen:=by unfold maxLen;omega
   have HMap:=hide (NMap.isMap HM.out)
   clear hc htv
   go_wp2_with (first | (at_mapUpdate;refine wpList_iput _ rfl _ _ _ rfl (w.heap.size+1) j _ rfl HM.out hjm (j:Int) hWj tv HWt.out rfl rfl ?_;intro w1 own1 grow1) | fail)
   go_roundw
   case rel=>exact⟨j+1,by omega,by go_num,hide (IMap.congr own1 HSt.out),hide (HB.out.trans (grown_below grow1 HB.out.size (Nat.le_succ _))),hide ⟨Nat.lt_of_lt_of_le HX.out.1 grow1.size,fun i v hi=>cell_but grow1 HMap.out (HX.out.2 i v hi)⟩⟩
   case measure=>simp [intOf];omega
  ·obtain rfl:j=lps:=by omega
   obtain⟨x0,x1,x2,x3,x4⟩:_∧_∧_∧_∧_:=⟨HX.out.2 0 _ rfl,HX.out.2 1 _ rfl,HX.out.2 2 _ rfl,HX.out.2 3 _ rfl,HX.out.2 4 _ rfl⟩
   have HM2:Hid (IMap wr (w.heap.size+1) (j+(bigL f 0 0).length) (fun a=>tyL f a (bigL f 0 0))):=hide (IMap.congr (IMap.mono HM.out (Nat.le_add_right _ _)) fun a=>by rw [←parM_all,hlps.out])
   go_wp2_with fail
   clear x0 x1 x2 x3 x4
   go_loopw [27] (fun kv wr2=>∃K:Nat,K≤lbs∧kv= .int .i64 K∧Hid (IMap wr2 (w.heap.size+1) (j+(bigL f K 0).length) (fun a=>tyL f a (bigL f K 0)))∧Hid (Below w.heap.size w wr2)) (fun kv _=>lbs - (intOf kv).toNat)
   case atStart=>exact⟨0,Nat.zero_le _,rfl,HM2,HB⟩
   case round=>
    clear HM2 HM HB HX
    obtain⟨K,hK,rfl,HM,HB⟩:=hrel
    by_cases hkt:K < lbs
    ·have hkI:(K:Int) < lbs:=by omega
     obtain⟨g,o,ao,ac,rfl,cu,hins⟩:=HRd.out K hkt
     replace cu:=cu wr HB.out
     replace hins:=hide hins
     have hlb:=HMb.out K
     obtain⟨bl,hble⟩:∃bl,(blkN f K).length=bl:=⟨_,rfl⟩
     rw [hble] at cu hlb
     replace hble:=hide hble
     go_wp2_with fail
     clear cu
     go_loopw [33] (fun iv wr3=>∃I:Nat,I≤bl∧iv= .int .i64 I∧Hid (IMap wr3 (w.heap.size+1) (j+(bigL f K I).length) (fun a=>tyL f a (bigL f K I)))∧Hid (Below w.heap.size w wr3)) (fun iv _=>bl - (intOf iv).toNat)
     case atStart=>exact⟨0,Nat.zero_le _,rfl,HM,HB⟩
     case round=>
      clear HM HB
      obtain⟨I,hI,rfl,HM,HB⟩:=hrel
      by_cases hit:I < bl
      ·have hiI:(I:Int) < bl:=by omega
       have hiB:I < (blkN f K).length:=by rw [hble.out];exact hit
       obtain⟨g2,o2,e2,hxr⟩:=hins.out wr HB.out I hiB
       subst e2
       obtain⟨xo,zo,xc,zc,hxv,e0,e1,e2,e3,e4,e5,e6,e7⟩:=hxr.val
       have HKy:=hide (HKx.out K I hkt hiB)
       have HBg:=hide (bigL_step hiB)
       have HLl:=hide (HLe.out K I hkt (Nat.le_of_lt hiB))
       obtain⟨x,hx⟩:∃x,insN f K I=x:=⟨_,rfl⟩
       rw [hx] at e0 e1 e2 e3 e4 e5 e6 e7 HKy HBg
       clear hx hxv hxr
       have HMx:Hid (mkX x=L5.imakes x.1 x.2.2.2.1):=hide rfl
       generalize x.2.2.2.2.1.length=xl at *
       generalize x.2.2.2.2.2.1.length=zl at *
       have b3:=below_box wr (.cells #[.int .i64 x.1,.int .i64 x.2.1,.int .i64 x.2.2.1,.int .i64 x.2.2.2.1,.slice xo xl xc,.slice zo zl zc,.string (bs x.2.2.2.2.2.2.1),.int .i64 x.2.2.2.2.2.2.2] 47)
       have Y3:=hide (heap_alloc_new wr (.cells #[.int .i64 x.1,.int .i64 x.2.1,.int .i64 x.2.2.1,.int .i64 x.2.2.2.1,.slice xo xl xc,.slice zo zl zc,.string (bs x.2.2.2.2.2.2.1),.int .i64 x.2.2.2.2.2.2.2] 47))
       have HM3:=hide (IMap.below HM.out b3)
       have HB3:=hide (below_step HB.out b3)
       clear b3
       go_upto_region 13 with fail
       show Code.wp _ _ _ _ (wr.alloc (.cells #[.int .i64 x.1,.int .i64 x.2.1,.int .i64 x.2.2.1,.int .i64 x.2.2.2.1,.slice xo xl xc,.slice zo zl zc,.string (bs x.2.2.2.2.2.2.1),.int .i64 x.2.2.2.2.2.2.2] 47))
       generalize wr.alloc (.cells #[.int .i64 x.1,.int .i64 x.2.1,.int .i64 x.2.2.1,.int .i64 x.2.2.2.1,.slice xo xl xc,.slice zo zl zc,.string (bs x.2.2.2.2.2.2.1),.int .i64 x.2.2.2.2.2.2.2] 47)=w3 at *
       generalize wr.heap.size=q3 at *
       clear e0 e1 e2 e3 e4 e5 e6 e7
       obtain⟨⟨y0,y1,y2,y3,y4,y5,y6,y7⟩,_⟩:=ins_at Y3.out
       have HCm:=hide (L5.makes_any x.1 x.2.2.2.1 (.int .i64 x.2.1) (.int .i64 x.2.2.1) (.slice xo xl xc) (.slice zo zl zc) (.string (bs x.2.2.2.2.2.2.1)) (.int .i64 x.2.2.2.2.2.2.2) w3 (HTb.out w3 HB3.out))
       rw [←HMx.out] at HCm
       go_wp2_with fail
       refine HCm.out.mono ?_;rintro e w4 ⟨rfl,b4⟩
       have HM4:=hide (IMap.below HM3.out b4)
       have HB4:=hide (below_step HB3.out b4)
       have Y4:=hide ((b4.block _ (Array.getElem?_eq_some_iff.1 Y3.out).1).trans Y3.out)
       clear b4 y0 y1 y2 y3 y4 y5 y6 y7 HCm HM3 HB3 Y3
       obtain⟨⟨y0,y1,y2,y3,y4,y5,y6,y7⟩,_⟩:=ins_at Y4.out
       have HSn:=hide (fun a=>tyL_snoc f a (bigL f K I) x)
       have HHit:=hide (fun a=>hit_iff (id:=a) (x:=x))
       obtain⟨mt,hmt⟩:∃mt,mkX x=mt:=⟨_,rfl⟩
       simp only [hmt] at HKy HSn HHit ⊢
       clear hmt HMx
       by_cases hm0:mt=0
       ·have HM5:Hid (IMap w4 (w.heap.size+1) (j+(bigL f K (I+1)).length) (fun a=>tyL f a (bigL f K (I+1)))):=hide (IMap.congr (IMap.mono HM4.out (by rw [HBg.out,List.length_append];omega)) fun a=>by
         rw [HBg.out,HSn.out,if_neg (fun h=>((HHit.out a).1 h).2 hm0)])
        subst hm0
        go_wp2_with fail
        go_roundw
        case rel=>exact⟨I+1,by omega,by go_num,HM5,HB4⟩
        case measure=>simp [intOf];omega
       ·obtain⟨hk1,hk2⟩:=HKy.out hm0
        have hnm:j+(bigL f K I).length < maxLen:=by have:=HLl.out;unfold maxLen;omega
        go_wp2_with (first | (at_mapUpdate;refine wpList_iput _ rfl _ _ _ rfl (w.heap.size+1) (j+(bigL f K I).length) _ rfl HM4.out hnm x.2.1 hk1 mt hk2 rfl rfl ?_;intro w1 own1 grow1) | fail)
        go_roundw
        case rel=>
         refine⟨I+1,by omega,by go_num,hide (IMap.congr (IMap.mono own1 (by rw [HBg.out,List.length_append];simp;omega)) fun a=> ?_),hide (HB4.out.trans (grown_below grow1 HB4.out.size (Nat.le_succ _)))⟩
         rw [HBg.out,HSn.out]
         by_cases e:a=x.2.1
         ·rw [if_pos e,if_pos ((HHit.out a).2 ⟨e.symm,hm0⟩)]
         ·rw [if_neg e,if_neg (fun h=>e ((HHit.out a).1 h).1.symm)]
        case measure=>simp [intOf];omega
      ·obtain rfl:I=bl:=by omega
       have HM5:Hid (IMap wr (w.heap.size+1) (j+(bigL f (K+1) 0).length) (fun a=>tyL f a (bigL f (K+1) 0))):=hide (by
        rw [bigL_next (by rw [hlbs.out];exact hkt),hble.out]
        exact HM.out)
       go_wp2_with fail
       go_roundw
       case rel=>exact⟨K+1,by omega,by go_num,HM5,HB⟩
       case measure=>simp [intOf];omega
    ·obtain rfl:K=lbs:=by omega
     have HM5:=hide (IMap.mono HM.out HEnd.out)
     go_wp2_with fail
     go_ret
     exact⟨w.heap.size+1,rfl,Nat.le_succ _,HM5.out,HB.out⟩
end Go.Proofs.YtljkgcfnoegibaaGreatDoor
