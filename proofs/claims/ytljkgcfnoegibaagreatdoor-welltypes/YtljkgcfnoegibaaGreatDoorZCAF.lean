/- Texts of one chain, joined. -/
import Derived.Test.YtljkgcfnoegibaaGreatDoorZCAE
set_option maxHeartbeats 2000000
set_option maxRecDepth 20000
namespace Go.Proofs.YtljkgcfnoegibaaGreatDoor
open Go Go.RowKit
open G (Tok Er Ins Fun)
theorem xX (f:Fun) (k i:Nat) (src:Bool) (v:Value) (w:World) (hv:cg w f v) (hF:Ful f) (hM:Mod f) (hk:k < f.2.2.2.1.length) (hi:i < (aG f k).length):
  Calls Tryz.prog 44 #[v,.int .i64 k,.int .i64 i,.bool src] w fun e w'=>e= .returned (.int .i64 (cR f k i src))∧Below w.heap.size w w':=by
 have hfl:∀(a b c d:Value) (w:World),(Instr.field 62 (.agg #[a,b,c,d]) 3).run Tryz.prog w= .ok d w:=fun _ _ _ _ _=>rfl;have HVc:Hid (cR f k i src=if(decide (mkX (au f k i)≠0) && (eA f (au f k i).2.1 k i).2.2.2)=true then 5 else if(decide ((au f k i).1=20) && !iI f k i)=true then 11 else if(src && du (au f k i))=true then 2 else 0):=ae rfl;have HMk:Hid (mkX (au f k i)=L5.bD (au f k i).1 (au f k i).2.2.2.1):=ae rfl;obtain⟨lp,cp,lb,cb,rfl,X,b0⟩:=de hv;have HV:=ae (hv.below b0);have X0:=ae X;have B0:=ae b0;have HRd:Hid (∀w',Below w.heap.size w w'→∃g o ao c g2 o2,lb=some ⟨g,o,none⟩∧w'.cell? ⟨g,o+k,none⟩=some (.slice ao (aG f k).length c)∧ao=some ⟨g2,o2,none⟩∧∀j,j < (aG f k).length→my w' (au f k j) g2 (o2+j * 8)):=ae (fun w' b=>by
  obtain⟨g,o,ao,c,h1,_,h3,h4⟩:=eD (fN (hv.below b)) hk;obtain⟨g2,o2,h5,_⟩:=eR h4 hi;refine⟨g,o,ao,c,g2,o2,h1,h3,h5,fun j hj=> ?_⟩;obtain⟨g3,o3,h6,h7⟩:=eR h4 hj;rw [h5] at h6;injection h6 with h6;injection h6 with e1 e2;subst e1 e2;exact h7)
 have hkI:(k:Int) < f.2.2.2.1.length:=by omega
 have hiI:(i:Int) < (aG f k).length:=by omega
 have hbn:=hM.blk k;have hN:=hM.1;clear hv X b0;generalize bs f.1=nm at *;generalize f.2.1.length=lps at *;generalize f.2.2.1=rt at *;generalize hlbs:f.2.2.2.1.length=lbs at *;generalize f.2.2.2.2=pl at *;replace hlbs:=ae hlbs;go_enter Tryz.func44,Tryz.ntmps44
 go_upto_region 1 with fail
 show Code.wp _ _ _ _ (w.alloc (.cells #[.string nm,.slice lp lps cp,.int .i64 rt,.slice lb lbs cb,.int .i64 pl] 36));generalize w.alloc (.cells #[.string nm,.slice lp lps cp,.int .i64 rt,.slice lb lbs cb,.int .i64 pl] 36)=W at *;obtain⟨x0,x1,x2,x3,x4⟩:_∧_∧_∧_∧_:=⟨X0.out.2 0 _ rfl,X0.out.2 1 _ rfl,X0.out.2 2 _ rfl,X0.out.2 3 _ rfl,X0.out.2 4 _ rfl⟩;obtain⟨g,o,ao,c,g2,o2,rfl,cu,rfl,hins⟩:=HRd.out W B0.out;obtain⟨xo,zo,xc,zc,hxv,e0,e1,e2,e3,e4,e5,e6,e7⟩:=(hins i hi).val;have HXv:=ae hxv;obtain⟨x,hx⟩:∃x,au f k i=x:=⟨_,rfl⟩;rw [hx] at e0 e1 e2 e3 e4 e5 e6 e7 HXv;rw [hx] at HVc HMk;clear hx;go_upto_region 2 with fail
 show Code.wp _ _ _ _ (W.alloc (.cells #[.int .i64 x.1,.int .i64 x.2.1,.int .i64 x.2.2.1,.int .i64 x.2.2.2.1,.slice xo x.2.2.2.2.1.length xc,.slice zo x.2.2.2.2.2.1.length zc,.string (bs x.2.2.2.2.2.2.1),.int .i64 x.2.2.2.2.2.2.2] 47));have b3:=ah W (.cells #[.int .i64 x.1,.int .i64 x.2.1,.int .i64 x.2.2.1,.int .i64 x.2.2.2.1,.slice xo x.2.2.2.2.1.length xc,.slice zo x.2.2.2.2.2.1.length zc,.string (bs x.2.2.2.2.2.2.1),.int .i64 x.2.2.2.2.2.2.2] 47);have Y0:=ae (L5.Box.new W [.int .i64 x.1,.int .i64 x.2.1,.int .i64 x.2.2.1,.int .i64 x.2.2.2.1,.slice xo x.2.2.2.2.1.length xc,.slice zo x.2.2.2.2.2.1.length zc,.string (bs x.2.2.2.2.2.2.1),.int .i64 x.2.2.2.2.2.2.2] 47);replace Y0:Hid (L5.Box (W.alloc (.cells #[.int .i64 x.1,.int .i64 x.2.1,.int .i64 x.2.2.1,.int .i64 x.2.2.2.1,.slice xo x.2.2.2.2.1.length xc,.slice zo x.2.2.2.2.2.1.length zc,.string (bs x.2.2.2.2.2.2.1),.int .i64 x.2.2.2.2.2.2.2] 47)) W.heap.size [.int .i64 x.1,.int .i64 x.2.1,.int .i64 x.2.2.1,.int .i64 x.2.2.2.1,.slice xo x.2.2.2.2.1.length xc,.slice zo x.2.2.2.2.2.1.length zc,.string (bs x.2.2.2.2.2.2.1),.int .i64 x.2.2.2.2.2.2.2]):=Y0;have HV3:=ae (HV.out.below b3);have HXv3:=ae (HXv.out.below b3);have X3:=ae (X0.out.below b3);have B3:=ae (af B0.out b3);clear e0 e1 e2 e3 e4 e5 e6 e7 hins cu x0 x1 x2 x3 x4 b3 HV HXv X0 hxv;generalize W.alloc (.cells #[.int .i64 x.1,.int .i64 x.2.1,.int .i64 x.2.2.1,.int .i64 x.2.2.2.1,.slice xo x.2.2.2.2.1.length xc,.slice zo x.2.2.2.2.2.1.length zc,.string (bs x.2.2.2.2.2.2.1),.int .i64 x.2.2.2.2.2.2.2] 47)=w3 at *;generalize W.heap.size=q3 at *;obtain⟨x0,x1,x2,x3,x4⟩:_∧_∧_∧_∧_:=⟨X3.out.2 0 _ rfl,X3.out.2 1 _ rfl,X3.out.2 2 _ rfl,X3.out.2 3 _ rfl,X3.out.2 4 _ rfl⟩;obtain⟨y0,y1,y2,y3,y4,y5,y6,y7⟩:_∧_∧_∧_∧_∧_∧_∧_:=⟨Y0.out.2 0 _ rfl,Y0.out.2 1 _ rfl,Y0.out.2 2 _ rfl,Y0.out.2 3 _ rfl,Y0.out.2 4 _ rfl,Y0.out.2 5 _ rfl,Y0.out.2 6 _ rfl,Y0.out.2 7 _ rfl⟩;have HM:=ae (L5.dV x.1 x.2.2.2.1 (.int .i64 x.2.1) (.int .i64 x.2.2.1) (.slice xo x.2.2.2.2.1.length xc) (.slice zo x.2.2.2.2.2.1.length zc) (.string (bs x.2.2.2.2.2.2.1)) (.int .i64 x.2.2.2.2.2.2.2) w3);rw [←HMk.out] at HM;by_cases hmz:mkX x=0
 ·have HF1:Hid ((decide (mkX x≠0) && (eA f x.2.1 k i).2.2.2)=false):=ae (by simp [hmz]);rw [hmz] at HM;clear hmz;go_wp2_with fail
  refine HM.out.mono ?_;rintro e w4 ⟨rfl,b4⟩;have B4:=ae b4;clear HM b4 x0 x1 x2 x3 x4 y0 y1 y2 y3 y4 y5 y6 y7;have XX:=ae (X3.out.below B4.out);have YY:=ae (Y0.out.below B4.out);obtain⟨x0,x1,x2,x3,x4⟩:_∧_∧_∧_∧_:=⟨XX.out.2 0 _ rfl,XX.out.2 1 _ rfl,XX.out.2 2 _ rfl,XX.out.2 3 _ rfl,XX.out.2 4 _ rfl⟩;obtain⟨y0,y1,y2,y3,y4,y5,y6,y7⟩:_∧_∧_∧_∧_∧_∧_∧_:=⟨YY.out.2 0 _ rfl,YY.out.2 1 _ rfl,YY.out.2 2 _ rfl,YY.out.2 3 _ rfl,YY.out.2 4 _ rfl,YY.out.2 5 _ rfl,YY.out.2 6 _ rfl,YY.out.2 7 _ rfl⟩;go_upto_region 4 with fail
  by_cases hp:x.1=20
  ·have hpb:(x.1 == 20)=true:=beq_iff_eq.2 hp;have HPh:=ae (vn f k i _ w4 (HV3.out.below B4.out) hF hM (by have:=hlbs.out;omega) hi)
   cases hph:iI f k i with
   |true=>
    rw [hph] at HPh;have HP2:Hid ((decide (x.1=20) && !true)=false):=ae (by simp);clear hp;go_wp2_with fail
    refine HPh.out.mono ?_;rintro e w7 ⟨rfl,b7⟩;have B7:=ae (af B4.out b7);clear HPh b7 x0 x1 x2 x3 x4 y0 y1 y2 y3 y4 y5 y6 y7;have XX:=ae (X3.out.below B7.out);have YY:=ae (Y0.out.below B7.out);obtain⟨x0,x1,x2,x3,x4⟩:_∧_∧_∧_∧_:=⟨XX.out.2 0 _ rfl,XX.out.2 1 _ rfl,XX.out.2 2 _ rfl,XX.out.2 3 _ rfl,XX.out.2 4 _ rfl⟩;obtain⟨y0,y1,y2,y3,y4,y5,y6,y7⟩:_∧_∧_∧_∧_∧_∧_∧_:=⟨YY.out.2 0 _ rfl,YY.out.2 1 _ rfl,YY.out.2 2 _ rfl,YY.out.2 3 _ rfl,YY.out.2 4 _ rfl,YY.out.2 5 _ rfl,YY.out.2 6 _ rfl,YY.out.2 7 _ rfl⟩;go_upto_region 6 with fail
    rw [hph] at HVc
    cases hs:src with
    |false=>
     have HR:Hid (0=cR f k i src):=ae (by rw [HVc.out,HF1.out,HP2.out,hs];simp);have HE:=ae (af B3.out B7.out);go_wp2_with fail
     go_ret;exact⟨bU HR.out,HE.out⟩
    |true=>
     have HLt:=ae (jH x _ w7 (HXv3.out.below B7.out))
     cases hl:du x with
     |true=>
      rw [hl] at HLt;have HR:Hid (2=cR f k i src):=ae (by rw [HVc.out,HF1.out,HP2.out,hs,hl];simp);go_wp2_with fail
      refine HLt.out.mono ?_;rintro e w9 ⟨rfl,b9⟩;have HE:=ae (af B3.out (af B7.out b9));clear HLt b9 x0 x1 x2 x3 x4 y0 y1 y2 y3 y4 y5 y6 y7;go_wp2_with fail
      go_ret;exact⟨bU HR.out,HE.out⟩
     |false=>
      rw [hl] at HLt;have HR:Hid (0=cR f k i src):=ae (by rw [HVc.out,HF1.out,HP2.out,hs,hl];simp);go_wp2_with fail
      refine HLt.out.mono ?_;rintro e w9 ⟨rfl,b9⟩;have HE:=ae (af B3.out (af B7.out b9));clear HLt b9 x0 x1 x2 x3 x4 y0 y1 y2 y3 y4 y5 y6 y7;go_wp2_with fail
      go_ret;exact⟨bU HR.out,HE.out⟩
   |false=>
    rw [hph] at HPh;have HR:Hid (11=cR f k i src):=ae (by rw [HVc.out,HF1.out,hph];simp [hp]);clear hp;go_wp2_with fail
    refine HPh.out.mono ?_;rintro e w7 ⟨rfl,b7⟩;have HE:=ae (af B3.out (af B4.out b7));clear HPh b7 x0 x1 x2 x3 x4 y0 y1 y2 y3 y4 y5 y6 y7;go_wp2_with fail
    go_ret;exact⟨bU HR.out,HE.out⟩
  ·have hpb:(x.1 == 20)=false:=beq_eq_false_iff_ne.2 hp;have HP2:Hid ((decide (x.1=20) && !iI f k i)=false):=ae (by simp [hp]);clear hp;go_upto_region 6 with fail
   cases hs:src with
   |false=>
    have HR:Hid (0=cR f k i src):=ae (by rw [HVc.out,HF1.out,HP2.out,hs];simp);have HE:=ae (af B3.out B4.out);go_wp2_with fail
    go_ret;exact⟨bU HR.out,HE.out⟩
   |true=>
    have HLt:=ae (jH x _ w4 (HXv3.out.below B4.out))
    cases hl:du x with
    |true=>
     rw [hl] at HLt;have HR:Hid (2=cR f k i src):=ae (by rw [HVc.out,HF1.out,HP2.out,hs,hl];simp);go_wp2_with fail
     refine HLt.out.mono ?_;rintro e w9 ⟨rfl,b9⟩;have HE:=ae (af B3.out (af B4.out b9));clear HLt b9 x0 x1 x2 x3 x4 y0 y1 y2 y3 y4 y5 y6 y7;go_wp2_with fail
     go_ret;exact⟨bU HR.out,HE.out⟩
    |false=>
     rw [hl] at HLt;have HR:Hid (0=cR f k i src):=ae (by rw [HVc.out,HF1.out,HP2.out,hs,hl];simp);go_wp2_with fail
     refine HLt.out.mono ?_;rintro e w9 ⟨rfl,b9⟩;have HE:=ae (af B3.out (af B4.out b9));clear HLt b9 x0 x1 x2 x3 x4 y0 y1 y2 y3 y4 y5 y6 y7;go_wp2_with fail
     go_ret;exact⟨bU HR.out,HE.out⟩
 ·have hmb:(mkX x == 0)=false:=beq_eq_false_iff_ne.2 hmz;have HD1:Hid (decide (mkX x≠0)=true):=ae (decide_eq_true hmz);have HMd:=ae (fun w' (b:Below w3.heap.size w3 w')=>nJ f x.2.1 k i _ w' (HV3.out.below b) hM (by have:=hlbs.out;omega) (by omega));obtain⟨m,hm⟩:∃m,eA f x.2.1 k i=m:=⟨_,rfl⟩;rw [hm] at HMd HVc;unfold Gt at HMd;clear hm;generalize mkX x=mk at *;go_wp2_with fail
  refine HM.out.mono ?_;rintro e w4 ⟨rfl,b4⟩;have B4:=ae b4;have HMd4:=ae (HMd.out w4 b4);clear HM HMd b4 x0 x1 x2 x3 x4 y0 y1 y2 y3 y4 y5 y6 y7;have XX:=ae (X3.out.below B4.out);have YY:=ae (Y0.out.below B4.out);obtain⟨x0,x1,x2,x3,x4⟩:_∧_∧_∧_∧_:=⟨XX.out.2 0 _ rfl,XX.out.2 1 _ rfl,XX.out.2 2 _ rfl,XX.out.2 3 _ rfl,XX.out.2 4 _ rfl⟩;obtain⟨y0,y1,y2,y3,y4,y5,y6,y7⟩:_∧_∧_∧_∧_∧_∧_∧_:=⟨YY.out.2 0 _ rfl,YY.out.2 1 _ rfl,YY.out.2 2 _ rfl,YY.out.2 3 _ rfl,YY.out.2 4 _ rfl,YY.out.2 5 _ rfl,YY.out.2 6 _ rfl,YY.out.2 7 _ rfl⟩;go_wp2_with fail
  refine HMd4.out.mono ?_;rintro e w5 ⟨rfl,b5⟩;have B5:=ae (af B4.out b5);clear HMd4 b5 x0 x1 x2 x3 x4 y0 y1 y2 y3 y4 y5 y6 y7;have XZ:=ae (X3.out.below B5.out);have YZ:=ae (Y0.out.below B5.out);obtain⟨x0,x1,x2,x3,x4⟩:_∧_∧_∧_∧_:=⟨XZ.out.2 0 _ rfl,XZ.out.2 1 _ rfl,XZ.out.2 2 _ rfl,XZ.out.2 3 _ rfl,XZ.out.2 4 _ rfl⟩;obtain⟨y0,y1,y2,y3,y4,y5,y6,y7⟩:_∧_∧_∧_∧_∧_∧_∧_:=⟨YZ.out.2 0 _ rfl,YZ.out.2 1 _ rfl,YZ.out.2 2 _ rfl,YZ.out.2 3 _ rfl,YZ.out.2 4 _ rfl,YZ.out.2 5 _ rfl,YZ.out.2 6 _ rfl,YZ.out.2 7 _ rfl⟩
  cases hms:m.2.2.2 with
  |true=>
   have HR:Hid (5=cR f k i src):=ae (by rw [HVc.out,HD1.out,hms];simp);have HE:=ae (af B3.out B5.out);go_wp2_with fail
   go_ret;exact⟨bU HR.out,HE.out⟩
  |false=>
   have HF1:Hid ((decide (mk≠0) && m.2.2.2)=false):=ae (by rw [hms];simp);go_upto_region 4 with fail
   by_cases hp:x.1=20
   ·have hpb:(x.1 == 20)=true:=beq_iff_eq.2 hp;have HPh:=ae (vn f k i _ w5 (HV3.out.below B5.out) hF hM (by have:=hlbs.out;omega) hi)
    cases hph:iI f k i with
    |true=>
     rw [hph] at HPh;have HP2:Hid ((decide (x.1=20) && !true)=false):=ae (by simp);clear hp;go_wp2_with fail
     refine HPh.out.mono ?_;rintro e w7 ⟨rfl,b7⟩;have B7:=ae (af B5.out b7);clear HPh b7 x0 x1 x2 x3 x4 y0 y1 y2 y3 y4 y5 y6 y7;have XX:=ae (X3.out.below B7.out);have YY:=ae (Y0.out.below B7.out);obtain⟨x0,x1,x2,x3,x4⟩:_∧_∧_∧_∧_:=⟨XX.out.2 0 _ rfl,XX.out.2 1 _ rfl,XX.out.2 2 _ rfl,XX.out.2 3 _ rfl,XX.out.2 4 _ rfl⟩;obtain⟨y0,y1,y2,y3,y4,y5,y6,y7⟩:_∧_∧_∧_∧_∧_∧_∧_:=⟨YY.out.2 0 _ rfl,YY.out.2 1 _ rfl,YY.out.2 2 _ rfl,YY.out.2 3 _ rfl,YY.out.2 4 _ rfl,YY.out.2 5 _ rfl,YY.out.2 6 _ rfl,YY.out.2 7 _ rfl⟩;go_upto_region 6 with fail
     rw [hph] at HVc
     cases hs:src with
     |false=>
      have HR:Hid (0=cR f k i src):=ae (by rw [HVc.out,HF1.out,HP2.out,hs];simp);have HE:=ae (af B3.out B7.out);go_wp2_with fail
      go_ret;exact⟨bU HR.out,HE.out⟩
     |true=>
      have HLt:=ae (jH x _ w7 (HXv3.out.below B7.out))
      cases hl:du x with
      |true=>
       rw [hl] at HLt;have HR:Hid (2=cR f k i src):=ae (by rw [HVc.out,HF1.out,HP2.out,hs,hl];simp);go_wp2_with fail
       refine HLt.out.mono ?_;rintro e w9 ⟨rfl,b9⟩;have HE:=ae (af B3.out (af B7.out b9));clear HLt b9 x0 x1 x2 x3 x4 y0 y1 y2 y3 y4 y5 y6 y7;go_wp2_with fail
       go_ret;exact⟨bU HR.out,HE.out⟩
      |false=>
       rw [hl] at HLt;have HR:Hid (0=cR f k i src):=ae (by rw [HVc.out,HF1.out,HP2.out,hs,hl];simp);go_wp2_with fail
       refine HLt.out.mono ?_;rintro e w9 ⟨rfl,b9⟩;have HE:=ae (af B3.out (af B7.out b9));clear HLt b9 x0 x1 x2 x3 x4 y0 y1 y2 y3 y4 y5 y6 y7;go_wp2_with fail
       go_ret;exact⟨bU HR.out,HE.out⟩
    |false=>
     rw [hph] at HPh;have HR:Hid (11=cR f k i src):=ae (by rw [HVc.out,HF1.out,hph];simp [hp]);clear hp;go_wp2_with fail
     refine HPh.out.mono ?_;rintro e w7 ⟨rfl,b7⟩;have HE:=ae (af B3.out (af B5.out b7));clear HPh b7 x0 x1 x2 x3 x4 y0 y1 y2 y3 y4 y5 y6 y7;go_wp2_with fail
     go_ret;exact⟨bU HR.out,HE.out⟩
   ·have hpb:(x.1 == 20)=false:=beq_eq_false_iff_ne.2 hp;have HP2:Hid ((decide (x.1=20) && !iI f k i)=false):=ae (by simp [hp]);clear hp;go_upto_region 6 with fail
    cases hs:src with
    |false=>
     have HR:Hid (0=cR f k i src):=ae (by rw [HVc.out,HF1.out,HP2.out,hs];simp);have HE:=ae (af B3.out B5.out);go_wp2_with fail
     go_ret;exact⟨bU HR.out,HE.out⟩
    |true=>
     have HLt:=ae (jH x _ w5 (HXv3.out.below B5.out))
     cases hl:du x with
     |true=>
      rw [hl] at HLt;have HR:Hid (2=cR f k i src):=ae (by rw [HVc.out,HF1.out,HP2.out,hs,hl];simp);go_wp2_with fail
      refine HLt.out.mono ?_;rintro e w9 ⟨rfl,b9⟩;have HE:=ae (af B3.out (af B5.out b9));clear HLt b9 x0 x1 x2 x3 x4 y0 y1 y2 y3 y4 y5 y6 y7;go_wp2_with fail
      go_ret;exact⟨bU HR.out,HE.out⟩
     |false=>
      rw [hl] at HLt;have HR:Hid (0=cR f k i src):=ae (by rw [HVc.out,HF1.out,HP2.out,hs,hl];simp);go_wp2_with fail
      refine HLt.out.mono ?_;rintro e w9 ⟨rfl,b9⟩;have HE:=ae (af B3.out (af B5.out b9));clear HLt b9 x0 x1 x2 x3 x4 y0 y1 y2 y3 y4 y5 y6 y7;go_wp2_with fail
      go_ret;exact⟨bU HR.out,HE.out⟩
theorem lI (p:List Fun) (nm:List UInt8) (po:Option Addr) (pc:Nat) (w:World) (hp:bK w p (.slice po p.length pc)) (hl:p.length≤1000000):
  Calls Tryz.prog 13 #[.agg #[.slice po p.length pc],.string (bs nm)] w fun e w'=>(∃fv,e= .returned (.tuple #[fv,.bool (findF p nm).isSome])∧cg w' ((findF p nm).getD ie) fv)∧Below w.heap.size w w':=by
 have HFd:Hid (findF p nm=bw (fun i=>if(aF p i).1=nm then some (aF p i)else none) p.length):=ae rfl;obtain⟨r,hr⟩:∃r,findF p nm=r:=⟨_,rfl⟩;rw [hr] at HFd ⊢;clear hr;have HP:=ae hp;clear hp;have HRd:Hid (∀w' i,Below w.heap.size w w'→i < p.length→∃g o,po=some ⟨g,o,none⟩∧lS w' (aF p i) g (o+i * 5)):=ae (fun w' i b hi=>eh (HP.out.below b) hi);clear HP;generalize hn:p.length=n at *;replace hn:=ae hn;have b1:=ah w (.cells #[.slice po n pc] 24);have h1:=heap_alloc_new w (.cells #[.slice po n pc] 24);have b2:=ah (w.alloc (.cells #[.slice po n pc] 24)) (.cells #[.string ⟨#[]⟩,.slice none 0 0,.int .i64 0,.slice none 0 0,.int .i64 0] 36);have hs1:(w.alloc (.cells #[.slice po n pc] 24)).heap.size=w.heap.size+1:=by simp
 have h2:=heap_alloc_new (w.alloc (.cells #[.slice po n pc] 24)) (.cells #[.string ⟨#[]⟩,.slice none 0 0,.int .i64 0,.slice none 0 0,.int .i64 0] 36);rw [hs1] at h2;have H1:=ae ((b2.block w.heap.size (by simp)).trans h1);have H2:=ae h2;have B0:=ae (af b1 b2);clear b1 h1 b2 hs1 h2;go_enter Tryz.func13,Tryz.ntmps13
 go_upto_region 1 with fail
 show Code.wp _ _ _ _ ((w.alloc (.cells #[.slice po n pc] 24)).alloc (.cells #[.string ⟨#[]⟩,.slice none 0 0,.int .i64 0,.slice none 0 0,.int .i64 0] 36));generalize (w.alloc (.cells #[.slice po n pc] 24)).alloc (.cells #[.string ⟨#[]⟩,.slice none 0 0,.int .i64 0,.slice none 0 0,.int .i64 0] 36)=W at *;have hz2:=(bP H2.out).2.2;have hz1:=(aV H1.out).2;go_wp2_with fail
 go_loopw [6] (fun kv wr=>∃K:Nat,K≤n∧kv= .int .i64 K∧Hid (∀j,j < K→¬(aF p j).1=nm)∧Hid (Below W.heap.size W wr)) (fun kv _=>n - (intOf kv).toNat)
 case atStart=>exact⟨0,Nat.zero_le _,rfl,ae (fun j h=>absurd h (Nat.not_lt_zero _)),ae (Below.refl _ _)⟩
 case round=>
  obtain⟨K,hK,rfl,HF,HW⟩:=hrel;have c0:=(HW.out.cell (p:=⟨w.heap.size,0,none⟩) hz1).trans (aV H1.out).1;by_cases hkt:K < n
  ·have hkI:(K:Int) < n:=(by omega);obtain⟨g,o,rfl,hfr⟩:=HRd.out w K (Below.refl _ _) hkt;obtain⟨ao,bo,c,cb,hfv,d0,d1,d2,d3,d4⟩:=hfr.val;have hgl:=hfr.1;obtain⟨f,hf⟩:∃f,aF p K=f:=⟨_,rfl⟩;rw [hf] at d0 d1 d2 d3 d4 hfv;have HFv:=ae hfv;have Bw:=ae (af B0.out HW.out);replace d0:=(Bw.out.cell (p:=⟨g,o+K * 5,none⟩) hgl).trans d0;replace d1:=(Bw.out.cell (p:=⟨g,o+K * 5+1,none⟩) hgl).trans d1;replace d2:=(Bw.out.cell (p:=⟨g,o+K * 5+2,none⟩) hgl).trans d2;replace d3:=(Bw.out.cell (p:=⟨g,o+K * 5+3,none⟩) hgl).trans d3;replace d4:=(Bw.out.cell (p:=⟨g,o+K * 5+4,none⟩) hgl).trans d4;obtain⟨⟨z0,z1,z2,z3,z4⟩,⟨f0,f1,f2,f3,f4⟩,_⟩:=bP ((HW.out.block _ hz2).trans H2.out);clear hfv hfr;by_cases hnm:f.1=nm
   ·have HR:Hid (r=some f):=ae (by rw [HFd.out];exact bN (fun j hj=>if_neg (HF.out j hj)) hkt (by rw [hf,if_pos hnm]));have HE:Hid (Below w.heap.size w (((((wr.setCell ⟨w.heap.size+1,0,none⟩ (.string (bs f.1))).setCell ⟨w.heap.size+1,1,none⟩ (.slice ao f.2.1.length c)).setCell ⟨w.heap.size+1,2,none⟩ (.int .i64 f.2.2.1)).setCell ⟨w.heap.size+1,3,none⟩ (.slice bo f.2.2.2.1.length cb)).setCell ⟨w.heap.size+1,4,none⟩ (.int .i64 f.2.2.2.2))):=ae (by
     have hle:w.heap.size≤w.heap.size+1:=Nat.le_succ _;exact((((((af B0.out HW.out).setCell (p:=⟨w.heap.size+1,0,none⟩) hle _).setCell (p:=⟨w.heap.size+1,1,none⟩) hle _).setCell (p:=⟨w.heap.size+1,2,none⟩) hle _).setCell (p:=⟨w.heap.size+1,3,none⟩) hle _).setCell (p:=⟨w.heap.size+1,4,none⟩) hle _))
    have hbq:((bs f.1).toList == (bs nm).toList)=true:=(by rw [hnm];exact tZ nm);clear hf hnm;go_wp2_with fail
    exact bodyPost_ret (v:= .tuple #[.agg #[.string (bs f.1),.slice ao f.2.1.length c,.int .i64 f.2.2.1,.slice bo f.2.2.2.1.length cb,.int .i64 f.2.2.2.2],.bool true]) (by simp [results,Tryz.results13,go_sem,z0,z1,z2,z3,z4]) rfl ⟨⟨_,by rw [HR.out];rfl,by rw [HR.out];exact HFv.out.below HE.out⟩,HE.out⟩
   ·have hbq:=DT hnm;have HF2:Hid (∀j,j < K+1→¬(aF p j).1=nm):=ae (fun j hj=>by
     by_cases e:j=K
     ·rw [e,hf];exact hnm
     ·exact HF.out j (by omega))
    clear hf hnm;go_wp2_with fail
    go_roundw
    case rel=>exact⟨K+1,by omega,by go_num,HF2,HW⟩
    case measure=>simp [intOf];omega
  ·obtain rfl:K=n:=(by omega);have HR:Hid (r=none):=ae (by rw [HFd.out];exact bh (fun j hj=>if_neg (HF.out j hj)));obtain⟨⟨z0,z1,z2,z3,z4⟩,⟨f0,f1,f2,f3,f4⟩,_⟩:=bP ((HW.out.block _ hz2).trans H2.out);have HE:Hid (Below w.heap.size w (((((wr.setCell ⟨w.heap.size+1,0,none⟩ (.string ⟨#[]⟩)).setCell ⟨w.heap.size+1,1,none⟩ (.slice none 0 0)).setCell ⟨w.heap.size+1,2,none⟩ (.int .i64 0)).setCell ⟨w.heap.size+1,3,none⟩ (.slice none 0 0)).setCell ⟨w.heap.size+1,4,none⟩ (.int .i64 0))):=ae (by
    have hle:w.heap.size≤w.heap.size+1:=Nat.le_succ _;exact((((((af B0.out HW.out).setCell (p:=⟨w.heap.size+1,0,none⟩) hle _).setCell (p:=⟨w.heap.size+1,1,none⟩) hle _).setCell (p:=⟨w.heap.size+1,2,none⟩) hle _).setCell (p:=⟨w.heap.size+1,3,none⟩) hle _).setCell (p:=⟨w.heap.size+1,4,none⟩) hle _))
   go_wp2_with fail
   exact bodyPost_ret (v:= .tuple #[.agg #[.string ⟨#[]⟩,.slice none 0 0,.int .i64 0,.slice none 0 0,.int .i64 0],.bool false]) (by simp [results,Tryz.results13,go_sem,z0,z1,z2,z3,z4]) rfl ⟨⟨_,by rw [HR.out];rfl,by rw [HR.out];exact uR _⟩,HE.out⟩
theorem FY (p:List Fun) (i k:Nat):lU p i k=decide ((aF p i).1=(aF p k).1):=rfl
theorem rnames_any (p:List Fun) (po:Option Addr) (pc:Nat) (w:World) (hp:bK w p (.slice po p.length pc)) (hl:p.length≤1000000) (hpm:∀f∈p,f.2.1.length≤1000000):
  Calls Tryz.prog 25 #[.agg #[.slice po p.length pc]] w fun e w'=>e= .returned (.agg #[.int .i64 (namesF p).1,.int .i64 (namesF p).2])∧Below w.heap.size w w':=by
 have HNm:Hid (namesF p=match ur p with
  |some e=>e
  |none=>match findF p dP with
   |none=>(12,0)
   |some m=>if az m.2.1 2 then(13,m.2.2.2.2)else(0,0)):=ae rfl
 have HDf:Hid (ur p=bw (fun i=>(bw (fun k=>if lU p i k then some ((5:Int),(aF p i).2.2.2.2)else none) i)) p.length):=ae rfl;have HFi:Hid (∀w',Below w.heap.size w w'→Calls Tryz.prog 13 #[.agg #[.slice po p.length pc],.string ⟨#[109,97,105,110]⟩] w' fun e w''=>(∃fv,e= .returned (.tuple #[fv,.bool (findF p dP).isSome])∧cg w'' ((findF p dP).getD ie) fv)∧Below w'.heap.size w' w''):=ae (fun w' b=>lI p dP po pc w' (hp.below b) hl);have HMm:Hid (∀m,findF p dP=some m→m.2.1.length≤1000000):=ae (fun m hm=>by
  obtain⟨i,hi,h2,_⟩:=da hm;by_cases e:(aF p i).1=dP
  ·rw [if_pos e] at h2;injection h2 with h2;rw [←h2];exact hpm _ (List.mem_of_getElem? (eQ hi))
  ·rw [if_neg e] at h2;cases h2)
 have HRd:Hid (∀i,i < p.length→∃g o,po=some ⟨g,o,none⟩∧lS w (aF p i) g (o+i * 5)):=ae (fun i hi=>eh hp hi);clear hp hpm;obtain⟨r,hr⟩:∃r,namesF p=r:=⟨_,rfl⟩;rw [hr] at HNm ⊢;clear hr;generalize hn:p.length=n at *;replace hn:=ae hn;have b1:=ah w (.cells #[.slice po n pc] 24);have h1:=heap_alloc_new w (.cells #[.slice po n pc] 24);have b2:=ah (w.alloc (.cells #[.slice po n pc] 24)) (.cells #[.int .i64 0,.int .i64 0] 29);have hs1:(w.alloc (.cells #[.slice po n pc] 24)).heap.size=w.heap.size+1:=by simp
 have h2:=heap_alloc_new (w.alloc (.cells #[.slice po n pc] 24)) (.cells #[.int .i64 0,.int .i64 0] 29);rw [hs1] at h2;have H1:=ae ((b2.block w.heap.size (by simp)).trans h1);have H2:=ae h2;have B0:=ae (af b1 b2);clear b1 h1 b2 hs1 h2;go_enter Tryz.func25,Tryz.ntmps25
 go_upto_region 1 with fail
 show Code.wp _ _ _ _ ((w.alloc (.cells #[.slice po n pc] 24)).alloc (.cells #[.int .i64 0,.int .i64 0] 29));generalize (w.alloc (.cells #[.slice po n pc] 24)).alloc (.cells #[.int .i64 0,.int .i64 0] 29)=W at *;have hz2:=(aP H2.out).2.2;have hz1:=(aV H1.out).2;go_wp2_with fail
 go_loopw [3] (fun iv wr=>∃I:Nat,I≤n∧iv= .int .i64 I∧Hid (∀i,i < I→∀k,k < i→lU p i k=false)∧Hid (Below W.heap.size W wr)) (fun iv _=>n - (intOf iv).toNat)
 case atStart=>exact⟨0,Nat.zero_le _,rfl,ae (fun j h=>absurd h (Nat.not_lt_zero _)),ae (Below.refl _ _)⟩
 case round=>
  obtain⟨I,hI,rfl,HF,HW⟩:=hrel;have c0:=(HW.out.cell (p:=⟨w.heap.size,0,none⟩) hz1).trans (aV H1.out).1;by_cases hit:I < n
  ·have hiI:(I:Int) < n:=(by omega);have HW0:=ae HW.out;go_wp2_with fail
   clear c0;go_loopw [4] (fun kv wr=>∃K:Nat,K≤I∧kv= .int .i64 K∧Hid (∀k,k < K→lU p I k=false)∧Hid (Below W.heap.size W wr)) (fun kv _=>I - (intOf kv).toNat)
   case atStart=>exact⟨0,Nat.zero_le _,rfl,ae (fun j h=>absurd h (Nat.not_lt_zero _)),ae HW0.out⟩
   case round=>
    clear HW HW0;obtain⟨K,hK,rfl,HG,HW⟩:=hrel;by_cases hkt:K < I
    ·have hkI:(K:Int) < I:=(by omega);have hkN:(K:Int) < n:=(by omega);obtain⟨g,o,rfl,hfr⟩:=HRd.out I hit;obtain⟨g',o',he',hfr'⟩:=HRd.out K (by omega);injection he' with he';injection he' with e1 e2;subst e1 e2;have hgl:=hfr.1;obtain⟨_,_,_,_,_,d0,_,_,_,d4⟩:=hfr.val;obtain⟨_,_,_,_,_,u0,_,_,_,_⟩:=hfr'.val;have HDk:=ae (FY p I K);obtain⟨a,ha⟩:∃a,(aF p I).1=a:=⟨_,rfl⟩;obtain⟨b,hb⟩:∃b,(aF p K).1=b:=⟨_,rfl⟩;obtain⟨at_,hat⟩:∃at_,(aF p I).2.2.2.2=at_:=⟨_,rfl⟩;rw [ha] at d0 HDk;rw [hb] at u0 HDk;rw [hat] at d4;have hB2:=fun z=>af HW.out (L5.ax wr z);have hBw:=fun z=>af B0.out (hB2 z);have c0:=fun z=>((hB2 z).cell (p:=⟨w.heap.size,0,none⟩) hz1).trans (aV H1.out).1;have k0:=fun z=>((hBw z).cell (p:=⟨g,o+I * 5,none⟩) hgl).trans d0;have k4:=fun z=>((hBw z).cell (p:=⟨g,o+I * 5+4,none⟩) hgl).trans d4;have l0:=fun z=>((hBw z).cell (p:=⟨g,o+K * 5,none⟩) hgl).trans u0;replace hB2:=ae hB2;replace hBw:=ae hBw;have HAt:=ae hat;clear hfr hfr' d0 d4 u0 ha hb hat;by_cases hab:a=b
     ·have hbq:((bs a).toList == (bs b).toList)=true:=(by rw [hab];exact tZ b);have HR:Hid (r=(5,at_)):=ae (by
       rw [HNm.out];have:ur p=some (5,at_):=by
        rw [HDf.out];refine bN (K:=I) (fun j hj=>bh (fun k hk=> ?_)) hit (bN (K:=K) (fun k hk=> ?_) hkt ?_)
        ·rw [HF.out j hj k hk];rfl
        ·rw [HG.out k hk];rfl
        ·rw [HDk.out,decide_eq_true hab,HAt.out];rfl
       rw [this])
      clear hab;go_wp2_with fail
      refine L5.aE (by kernel_rfl) (by kernel_rfl) ?_;repeat (go_big_quiet_step (fail))
      refine wpQuiet_nil ?_;rintro _ ⟨z,rfl⟩;obtain⟨⟨z0,z1⟩,⟨f0,f1⟩,_⟩:=aP (((hB2.out z).block _ hz2).trans H2.out);have HBz:=ae (hBw.out z);have c0':=c0 z;have k4':=k4 z;clear c0 k0 k4 l0 hB2 hBw;generalize L5.aZ wr z=wz at *;have HE:Hid (Below w.heap.size w ((wz.setCell ⟨w.heap.size+1,0,none⟩ (.int .i64 5)).setCell ⟨w.heap.size+1,1,none⟩ (.int .i64 at_))):=ae (((HBz.out.setCell (p:=⟨w.heap.size+1,0,none⟩) (Nat.le_succ _) _).setCell (p:=⟨w.heap.size+1,1,none⟩) (Nat.le_succ _) _));go_wp2_with fail
      exact bodyPost_ret (v:= .agg #[.int .i64 5,.int .i64 at_]) (by simp [results,Tryz.results25,go_sem,z0,z1]) rfl ⟨by rw [HR.out],HE.out⟩
     ·have hbq:=DT hab;have HG2:Hid (∀k,k < K+1→lU p I k=false):=ae (fun k hk=>by
       by_cases e:k=K
       ·rw [e,HDk.out,decide_eq_false hab]
       ·exact HG.out k (by omega))
      clear hab;go_wp2_with fail
      refine L5.aE (by kernel_rfl) (by kernel_rfl) ?_;repeat (go_big_quiet_step (fail))
      refine wpQuiet_nil ?_;rintro _ ⟨z,rfl⟩;go_wp2_with fail
      go_roundw
      case rel=>exact⟨K+1,by omega,by go_num,HG2,ae (hB2.out z)⟩
      case measure=>simp [intOf];omega
    ·obtain rfl:K=I:=(by omega);have HF2:Hid (∀i,i < K+1→∀k,k < i→lU p i k=false):=ae (fun i hi k hk=>by
      by_cases e:i=K
      ·subst e;exact HG.out k hk
      ·exact HF.out i (by omega) k hk)
     go_wp2_with fail
     go_roundw
     case rel=>exact⟨K+1,by omega,by go_num,HF2,HW⟩
     case measure=>simp [intOf];omega
  ·obtain rfl:I=n:=(by omega);have HDn:Hid (ur p=none):=ae (by
    rw [HDf.out];exact bh (fun j hj=>bh (fun k hk=>by rw [HF.out j hj k hk];rfl)))
   have HN2:Hid (r=if(findF p dP).isSome then(if az ((findF p dP).getD ie).2.1 2 then(13,((findF p dP).getD ie).2.2.2.2)else(0,0))else(12,0)):=ae (by
    rw [HNm.out,HDn.out]
    cases findF p dP <;> rfl)
   have HML:Hid (((findF p dP).getD ie).2.1.length≤1000000):=ae (by
    cases hm:findF p dP with
    |none=>exact Nat.zero_le _
    |some m=>exact HMm.out m hm)
   have HC:=ae (HFi.out wr (af B0.out HW.out));have Bw:=ae (af B0.out HW.out);obtain⟨m,hm⟩:∃m,(findF p dP).getD ie=m:=⟨_,rfl⟩;obtain⟨fb,hfb⟩:∃fb,(findF p dP).isSome=fb:=⟨_,rfl⟩;rw [hm,hfb] at HC HN2;rw [hm] at HML;have hml:=HML.out;clear hm hfb HMm HFi HNm HDf HDn HML;go_wp2_with fail
   refine HC.out.mono ?_;rintro e w2 ⟨⟨fv,rfl,hfv⟩,b2⟩;obtain⟨ma,mc,mb,md,rfl,X,b3⟩:=de hfv;have HW3:=ae (af HW.out (af b2 b3));have Bw3:=ae (af Bw.out (af b2 b3));have X0:=ae X;have HSl:Hid (Sl (w2.alloc (.cells #[.string (bs m.1),.slice ma m.2.1.length mc,.int .i64 m.2.2.1,.slice mb m.2.2.2.1.length md,.int .i64 m.2.2.2.2] 36)) ma m.2.1):=ae (by
    obtain⟨vp,vb,e,⟨l1,l2,l3,hs,_⟩,_⟩:=hfv.below b3;injection e with e;have e1:=congrArg (fun a=>a[1]?) e;simp at e1;rw [l3] at e1;injection e1 with e1;rw [←e1] at hs;exact hs)
   clear HC c0 b2 X b3 hfv;go_upto_region 10 with fail
   show Code.wp _ _ _ _ (w2.alloc (.cells #[.string (bs m.1),.slice ma m.2.1.length mc,.int .i64 m.2.2.1,.slice mb m.2.2.2.1.length md,.int .i64 m.2.2.2.2] 36));generalize w2.alloc (.cells #[.string (bs m.1),.slice ma m.2.1.length mc,.int .i64 m.2.2.1,.slice mb m.2.2.2.1.length md,.int .i64 m.2.2.2.2] 36)=w3 at *;generalize w2.heap.size=q2 at *;obtain⟨x0,x1,x2,x3,x4⟩:_∧_∧_∧_∧_:=⟨X0.out.2 0 _ rfl,X0.out.2 1 _ rfl,X0.out.2 2 _ rfl,X0.out.2 3 _ rfl,X0.out.2 4 _ rfl⟩;obtain⟨⟨z0,z1⟩,⟨f0,f1⟩,_⟩:=aP ((HW3.out.block _ hz2).trans H2.out)
   cases hfb:fb with
   |false=>
    have HR:Hid (r=(12,0)):=ae (by rw [HN2.out,hfb];rfl);have HE:Hid (Below w.heap.size w ((w3.setCell ⟨w.heap.size+1,0,none⟩ (.int .i64 12)).setCell ⟨w.heap.size+1,1,none⟩ (.int .i64 0))):=ae (((Bw3.out.setCell (p:=⟨w.heap.size+1,0,none⟩) (Nat.le_succ _) _).setCell (p:=⟨w.heap.size+1,1,none⟩) (Nat.le_succ _) _));go_wp2_with fail
    exact bodyPost_ret (v:= .agg #[.int .i64 12,.int .i64 0]) (by simp [results,Tryz.results25,go_sem,z0,z1]) rfl ⟨by rw [HR.out],HE.out⟩
   |true=>
    have HH:=ae (eC m.2.1 2 ma mc w3 HSl.out (by unfold maxLen;omega))
    cases hh:az m.2.1 2 with
    |true=>
     rw [hh] at HH;have HR:Hid (r=(13,m.2.2.2.2)):=ae (by rw [HN2.out,hfb,hh];rfl);go_wp2_with fail
     refine HH.out.mono ?_;rintro e w4 ⟨rfl,rfl⟩;clear HH;have HE:Hid (Below w.heap.size w ((w4.setCell ⟨w.heap.size+1,0,none⟩ (.int .i64 13)).setCell ⟨w.heap.size+1,1,none⟩ (.int .i64 m.2.2.2.2))):=ae (((Bw3.out.setCell (p:=⟨w.heap.size+1,0,none⟩) (Nat.le_succ _) _).setCell (p:=⟨w.heap.size+1,1,none⟩) (Nat.le_succ _) _));go_wp2_with fail
     exact bodyPost_ret (v:= .agg #[.int .i64 13,.int .i64 m.2.2.2.2]) (by simp [results,Tryz.results25,go_sem,z0,z1]) rfl ⟨by rw [HR.out],HE.out⟩
    |false=>
     rw [hh] at HH;have HR:Hid (r=(0,0)):=ae (by rw [HN2.out,hfb,hh];rfl);go_wp2_with fail
     refine HH.out.mono ?_;rintro e w4 ⟨rfl,rfl⟩;clear HH;have HE:Hid (Below w.heap.size w ((w4.setCell ⟨w.heap.size+1,0,none⟩ (.int .i64 0)).setCell ⟨w.heap.size+1,1,none⟩ (.int .i64 0))):=ae (((Bw3.out.setCell (p:=⟨w.heap.size+1,0,none⟩) (Nat.le_succ _) _).setCell (p:=⟨w.heap.size+1,1,none⟩) (Nat.le_succ _) _));go_wp2_with fail
     exact bodyPost_ret (v:= .agg #[.int .i64 0,.int .i64 0]) (by simp [results,Tryz.results25,go_sem,z0,z1]) rfl ⟨by rw [HR.out],HE.out⟩
theorem BJ {p:List Fun} {f:Fun} {x:Ins} (h:x.1=28) (h2:(decide (f.2.2.1=0) != decide (x.2.2.2.2.1.length=0))=true):cE p f x=13:=by
 unfold cE;rw [if_pos (by rw [decide_eq_true h,h2];rfl)]
theorem xU {p:List Fun} {f:Fun} {x:Ins} (h:(decide (x.1=28) && (decide (f.2.2.1=0) != decide (x.2.2.2.2.1.length=0)))=false) (h2:x.1≠21):cE p f x=0:=by
 unfold cE;rw [if_neg (by rw [h];simp),if_pos h2]
theorem ze (p:List Fun) (f:Fun) (x:Ins) (po:Option Addr) (pc:Nat) (fv xv:Value) (w:World) (hp:bK w p (.slice po p.length pc)) (hl:p.length≤1000000) (hf:cg w f fv) (hx:lT w x xv):
  Calls Tryz.prog 46 #[.agg #[.slice po p.length pc],fv,xv] w fun e w'=>e= .returned (.int .i64 (cE p f x))∧Below w.heap.size w w':=by
 have HFi:=ae (fun w' (b:Below w.heap.size w w')=>lI p x.2.2.2.2.2.2.1 po pc w' (hp.below b) hl);have HL1:=ae (fun h h2=>BJ (p:=p) (f:=f) (x:=x) h h2);have HL2:=ae (fun h h2=>xU (p:=p) (f:=f) (x:=x) h h2);have HL3:=ae (fun h=>qt (p:=p) (f:=f) (x:=x) h);clear hp;obtain⟨lp,cp,lb,cb,rfl,_,_⟩:=de hf;obtain⟨xo,zo,xc,zc,rfl,hxa,hxt,hxa1,hxa2,hxt1,hxt2⟩:=id hx;generalize bs f.1=nm at *;generalize hlps:f.2.1.length=lps at *;generalize hrt:f.2.2.1=rt at *;generalize hlbs:f.2.2.2.1.length=lbs at *;generalize f.2.2.2.2=pl at *;generalize hn:p.length=n at *;have b1:=ah w (.cells #[.slice po n pc] 24);have h1:=heap_alloc_new w (.cells #[.slice po n pc] 24);have b2:=ah (w.alloc (.cells #[.slice po n pc] 24)) (.cells #[.string nm,.slice lp lps cp,.int .i64 rt,.slice lb lbs cb,.int .i64 pl] 36);have X1:=L5.Box.new (w.alloc (.cells #[.slice po n pc] 24)) [.string nm,.slice lp lps cp,.int .i64 rt,.slice lb lbs cb,.int .i64 pl] 36;have hs1:(w.alloc (.cells #[.slice po n pc] 24)).heap.size=w.heap.size+1:=by simp
 rw [hs1] at X1;have b3:=ah ((w.alloc (.cells #[.slice po n pc] 24)).alloc (.cells #[.string nm,.slice lp lps cp,.int .i64 rt,.slice lb lbs cb,.int .i64 pl] 36)) (.cells #[.int .i64 x.1,.int .i64 x.2.1,.int .i64 x.2.2.1,.int .i64 x.2.2.2.1,.slice xo x.2.2.2.2.1.length xc,.slice zo x.2.2.2.2.2.1.length zc,.string (bs x.2.2.2.2.2.2.1),.int .i64 x.2.2.2.2.2.2.2] 47);have Y1:=L5.Box.new ((w.alloc (.cells #[.slice po n pc] 24)).alloc (.cells #[.string nm,.slice lp lps cp,.int .i64 rt,.slice lb lbs cb,.int .i64 pl] 36)) [.int .i64 x.1,.int .i64 x.2.1,.int .i64 x.2.2.1,.int .i64 x.2.2.2.1,.slice xo x.2.2.2.2.1.length xc,.slice zo x.2.2.2.2.2.1.length zc,.string (bs x.2.2.2.2.2.2.1),.int .i64 x.2.2.2.2.2.2.2] 47;have hs2:((w.alloc (.cells #[.slice po n pc] 24)).alloc (.cells #[.string nm,.slice lp lps cp,.int .i64 rt,.slice lb lbs cb,.int .i64 pl] 36)).heap.size=w.heap.size+2:=by simp
 rw [hs2] at Y1;have H1:=ae (((af b2 b3).block w.heap.size (by simp)).trans h1);have X0:Hid (L5.Box (((w.alloc (.cells #[.slice po n pc] 24)).alloc (.cells #[.string nm,.slice lp lps cp,.int .i64 rt,.slice lb lbs cb,.int .i64 pl] 36)).alloc (.cells #[.int .i64 x.1,.int .i64 x.2.1,.int .i64 x.2.2.1,.int .i64 x.2.2.2.1,.slice xo x.2.2.2.2.1.length xc,.slice zo x.2.2.2.2.2.1.length zc,.string (bs x.2.2.2.2.2.2.1),.int .i64 x.2.2.2.2.2.2.2] 47)) (w.heap.size+1) [.string nm,.slice lp lps cp,.int .i64 rt,.slice lb lbs cb,.int .i64 pl]):=ae (X1.below b3);have Y0:Hid (L5.Box (((w.alloc (.cells #[.slice po n pc] 24)).alloc (.cells #[.string nm,.slice lp lps cp,.int .i64 rt,.slice lb lbs cb,.int .i64 pl] 36)).alloc (.cells #[.int .i64 x.1,.int .i64 x.2.1,.int .i64 x.2.2.1,.int .i64 x.2.2.2.1,.slice xo x.2.2.2.2.1.length xc,.slice zo x.2.2.2.2.2.1.length zc,.string (bs x.2.2.2.2.2.2.1),.int .i64 x.2.2.2.2.2.2.2] 47)) (w.heap.size+2) [.int .i64 x.1,.int .i64 x.2.1,.int .i64 x.2.2.1,.int .i64 x.2.2.2.1,.slice xo x.2.2.2.2.1.length xc,.slice zo x.2.2.2.2.2.1.length zc,.string (bs x.2.2.2.2.2.2.1),.int .i64 x.2.2.2.2.2.2.2]):=ae Y1;have B0:=ae (af b1 (af b2 b3));clear b1 h1 b2 X1 hs1 b3 Y1 hs2;clear hf hx;go_enter Tryz.func46,Tryz.ntmps46
 go_upto_region 1 with fail
 show Code.wp _ _ _ _ (((w.alloc (.cells #[.slice po n pc] 24)).alloc (.cells #[.string nm,.slice lp lps cp,.int .i64 rt,.slice lb lbs cb,.int .i64 pl] 36)).alloc (.cells #[.int .i64 x.1,.int .i64 x.2.1,.int .i64 x.2.2.1,.int .i64 x.2.2.2.1,.slice xo x.2.2.2.2.1.length xc,.slice zo x.2.2.2.2.2.1.length zc,.string (bs x.2.2.2.2.2.2.1),.int .i64 x.2.2.2.2.2.2.2] 47));generalize ((w.alloc (.cells #[.slice po n pc] 24)).alloc (.cells #[.string nm,.slice lp lps cp,.int .i64 rt,.slice lb lbs cb,.int .i64 pl] 36)).alloc (.cells #[.int .i64 x.1,.int .i64 x.2.1,.int .i64 x.2.2.1,.int .i64 x.2.2.2.1,.slice xo x.2.2.2.2.1.length xc,.slice zo x.2.2.2.2.2.1.length zc,.string (bs x.2.2.2.2.2.2.1),.int .i64 x.2.2.2.2.2.2.2] 47)=W at *;have c0:=(aV H1.out).1;obtain⟨x0,x1,x2,x3,x4⟩:_∧_∧_∧_∧_:=⟨X0.out.2 0 _ rfl,X0.out.2 1 _ rfl,X0.out.2 2 _ rfl,X0.out.2 3 _ rfl,X0.out.2 4 _ rfl⟩;obtain⟨y0,y1,y2,y3,y4,y5,y6,y7⟩:_∧_∧_∧_∧_∧_∧_∧_:=⟨Y0.out.2 0 _ rfl,Y0.out.2 1 _ rfl,Y0.out.2 2 _ rfl,Y0.out.2 3 _ rfl,Y0.out.2 4 _ rfl,Y0.out.2 5 _ rfl,Y0.out.2 6 _ rfl,Y0.out.2 7 _ rfl⟩;have hxl:x.2.2.2.2.1.length≤maxLen:=Nat.le_trans hxa1 hxa2;unfold maxLen at hxl;by_cases h28:x.1=28
 ·have e28:(x.1 == 28)=true:=beq_iff_eq.2 h28;have e21:(x.1 == 21)=false:=beq_eq_false_iff_ne.2 (by omega);by_cases hr0:rt=0
  ·have er:(rt == 0)=true:=beq_iff_eq.2 hr0;by_cases ha0:x.2.2.2.2.1.length=0
   ·have ea:((x.2.2.2.2.1.length:Int) == 0)=true:=beq_iff_eq.2 (by omega);have HR:Hid (0=cE p f x):=ae (HL2.out (by rw [decide_eq_true h28,decide_eq_true hr0,decide_eq_true ha0];rfl) (by omega)).symm;clear h28 hr0 ha0;go_wp2_with fail
    go_ret;exact⟨bU HR.out,B0.out⟩
   ·have ea:((x.2.2.2.2.1.length:Int) == 0)=false:=beq_eq_false_iff_ne.2 (by omega);have HR:Hid (13=cE p f x):=ae (HL1.out h28 (by rw [decide_eq_true hr0,decide_eq_false ha0];rfl)).symm;clear h28 hr0;go_wp2_with fail
    go_ret;exact⟨bU HR.out,B0.out⟩
  ·have er:(rt == 0)=false:=beq_eq_false_iff_ne.2 hr0;by_cases ha0:x.2.2.2.2.1.length=0
   ·have ea:((x.2.2.2.2.1.length:Int) == 0)=true:=beq_iff_eq.2 (by omega);have HR:Hid (13=cE p f x):=ae (HL1.out h28 (by rw [decide_eq_false hr0,decide_eq_true ha0];rfl)).symm;clear h28 ha0;go_wp2_with fail
    go_ret;exact⟨bU HR.out,B0.out⟩
   ·have ea:((x.2.2.2.2.1.length:Int) == 0)=false:=beq_eq_false_iff_ne.2 (by omega);have HR:Hid (0=cE p f x):=ae (HL2.out (by rw [decide_eq_true h28,decide_eq_false hr0,decide_eq_false ha0];rfl) (by omega)).symm;clear h28;go_wp2_with fail
    go_ret;exact⟨bU HR.out,B0.out⟩
 ·have e28:(x.1 == 28)=false:=beq_eq_false_iff_ne.2 h28;by_cases h21:x.1=21
  ·have e21:(x.1 == 21)=true:=beq_iff_eq.2 h21;have HX:=ae (HL3.out h21);have HC:=ae (HFi.out W B0.out);obtain⟨m,hm⟩:∃m,(findF p x.2.2.2.2.2.2.1).getD ie=m:=⟨_,rfl⟩;obtain⟨fb,hfb⟩:∃fb,(findF p x.2.2.2.2.2.2.1).isSome=fb:=⟨_,rfl⟩;rw [hm,hfb] at HC HX;clear hm hfb h28 h21 HL1 HL2 HL3 HFi;go_wp2_with fail
   refine HC.out.mono ?_;rintro e w2 ⟨⟨gv,rfl,hgv⟩,b2⟩;obtain⟨ma,mc,mb,md,rfl,X,b3⟩:=de hgv;have B3:=ae (af B0.out (af b2 b3));have M0:=ae X;have Y3:=ae (Y0.out.below (af b2 b3));have hml:m.2.1.length≤maxLen:=by
    obtain⟨_,_,e,⟨l1,l2,rfl,_,h8,h9⟩,_⟩:=hgv;exact Nat.le_trans h8 h9
   unfold maxLen at hml;clear HC b2 X b3 hgv c0 x0 x1 x2 x3 x4 y0 y1 y2 y3 y4 y5 y6 y7;go_upto_region 6 with fail
   show Code.wp _ _ _ _ (w2.alloc (.cells #[.string (bs m.1),.slice ma m.2.1.length mc,.int .i64 m.2.2.1,.slice mb m.2.2.2.1.length md,.int .i64 m.2.2.2.2] 36));generalize w2.alloc (.cells #[.string (bs m.1),.slice ma m.2.1.length mc,.int .i64 m.2.2.1,.slice mb m.2.2.2.1.length md,.int .i64 m.2.2.2.2] 36)=w3 at *;generalize w2.heap.size=q2 at *;obtain⟨x0,x1,x2,x3,x4⟩:_∧_∧_∧_∧_:=⟨M0.out.2 0 _ rfl,M0.out.2 1 _ rfl,M0.out.2 2 _ rfl,M0.out.2 3 _ rfl,M0.out.2 4 _ rfl⟩;obtain⟨y0,y1,y2,y3,y4,y5,y6,y7⟩:_∧_∧_∧_∧_∧_∧_∧_:=⟨Y3.out.2 0 _ rfl,Y3.out.2 1 _ rfl,Y3.out.2 2 _ rfl,Y3.out.2 3 _ rfl,Y3.out.2 4 _ rfl,Y3.out.2 5 _ rfl,Y3.out.2 6 _ rfl,Y3.out.2 7 _ rfl⟩
   cases hfb:fb with
   |false=>
    have HR:Hid (12=cE p f x):=ae (by rw [HX.out,hfb];rfl);go_wp2_with fail
    go_ret;exact⟨bU HR.out,B3.out⟩
   |true=>
    by_cases hty:m.2.2.1=x.2.2.2.1
    ·have et:(m.2.2.1 == x.2.2.2.1)=true:=beq_iff_eq.2 hty;by_cases hln:m.2.1.length=x.2.2.2.2.1.length
     ·have el:((m.2.1.length:Int) == (x.2.2.2.2.1.length:Int))=true:=beq_iff_eq.2 (by omega);have HR:Hid (0=cE p f x):=ae (by rw [HX.out,hfb];simp [hty,hln]);clear hty hln;go_wp2_with fail
      go_ret;exact⟨bU HR.out,B3.out⟩
     ·have el:((m.2.1.length:Int) == (x.2.2.2.2.1.length:Int))=false:=beq_eq_false_iff_ne.2 (by omega);have HR:Hid (13=cE p f x):=ae (by rw [HX.out,hfb];simp [hty,hln]);clear hty hln;go_wp2_with fail
      go_ret;exact⟨bU HR.out,B3.out⟩
    ·have et:(m.2.2.1 == x.2.2.2.1)=false:=beq_eq_false_iff_ne.2 hty;have HR:Hid (9=cE p f x):=ae (by rw [HX.out,hfb];simp [hty]);clear hty;go_wp2_with fail
     go_ret;exact⟨bU HR.out,B3.out⟩
  ·have e21:(x.1 == 21)=false:=beq_eq_false_iff_ne.2 h21;have HR:Hid (0=cE p f x):=ae (HL2.out (by rw [decide_eq_false h28];rfl) h21).symm;clear h28 h21;go_wp2_with fail
   go_ret;exact⟨bU HR.out,B0.out⟩
end Go.Proofs.YtljkgcfnoegibaaGreatDoor
