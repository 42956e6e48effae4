/- Texts of one chain, joined. -/
import Derived.Test.YtaiaakklokahjaaGreatDoorZWaAT
set_option maxHeartbeats 2000000
set_option maxRecDepth 20000
namespace Go.Proofs.YtaiaakklokahjaaGreatDoor
open Go Go.RowKit
open G (Tok Er Ins Fun)
theorem ib.ox {w:World} {x:Ins} {a0 a1 a2 a3 a4 a6 a7:Value} {zo:Option Addr} {n zc:Nat} (h:ib w x (.agg #[a0,a1,a2,a3,a4,.slice zo n zc,a6,a7])):Sl w zo x.2.2.2.2.2.1∧x.2.2.2.2.2.1.length≤maxLen:=by
 obtain⟨ao,to,ca,ct,e,h1,h2,h3,h4,h5,h6⟩:=h;injection e with e;have e1:=congrArg (fun a=>a[5]?) e;simp at e1;obtain⟨rfl,rfl,rfl⟩:=e1;exact⟨h2,Nat.le_trans h5 h6⟩
theorem uL (f:Fun) (k i:Nat) (v:Value) (w:World) (hv:bS w f v) (hF:Ful f) (hM:Mod f) (hk:k < f.2.2.2.1.length) (hi:i < (ag f k).length):
  Calls Tryz.prog 136 #[v,.int .i64 k,.int .i64 i] w fun e w'=>e= .returned (.bool (gG f k i))∧Below w.heap.size w w':=by
 have HPr:=aa (fun v w hv=>om f v w hv hF);have HPl:Hid ((aJ f).length=f.2.2.2.1.length):=aa (by simp [aJ]);have HPk:Hid (∃l,(aJ f)[k]? =some l):=aa ⟨_,List.getElem?_eq_getElem (by simp [aJ];exact hk)⟩;have HPf:Hid (gG f k i=((decide (i=0) || decide ((au f k (i - 1)).1=20)) && decide ((au f k i).2.2.2.2.2.1.length=((aJ f).getD k []).length) && ((aJ f).getD k []).all fun b=>ay (au f k i).2.2.2.2.2.1 b)):=aa rfl;have HPm:Hid (∀l,(aJ f)[k]? =some l→l.length≤1000000):=aa (fun l hl=>by
  have hm:=List.mem_of_getElem? hl;unfold aJ at hm;obtain⟨b,_,rfl⟩:=List.mem_map.1 hm;unfold aY;rw [List.length_map];exact Nat.le_trans (List.length_filter_le _ _) (by simp;exact hF.1))
 clear hF;obtain⟨lp,cp,lb,cb,rfl,X,b0⟩:=dx hv;have HV:=aa (hv.below b0);have X0:=aa X;have B0:=aa b0;have HRd:Hid (∀w',Below w.heap.size w w'→∃g o ao c g2 o2,lb=some ⟨g,o,none⟩∧w'.cell? ⟨g,o+k,none⟩=some (.slice ao (ag f k).length c)∧ao=some ⟨g2,o2,none⟩∧∀j,j < (ag f k).length→nF w' (au f k j) g2 (o2+j * 8)):=aa (fun w' b=>by
  obtain⟨g,o,ao,c,h1,_,h3,h4⟩:=eD (ff (hv.below b)) hk;obtain⟨g2,o2,h5,_⟩:=dy h4 hi;refine⟨g,o,ao,c,g2,o2,h1,h3,h5,fun j hj=> ?_⟩;obtain⟨g3,o3,h6,h7⟩:=dy h4 hj;rw [h5] at h6;injection h6 with h6;injection h6 with e1 e2;subst e1 e2;exact h7)
 have hkI:(k:Int) < f.2.2.2.1.length:=by omega
 have hiI:(i:Int) < (ag f k).length:=by omega
 have hbn:=hM.blk k;have hN:=hM.1;clear hv X b0;generalize bs f.1=nm at *;generalize f.2.1.length=lps at *;generalize f.2.2.1=rt at *;generalize hlbs:f.2.2.2.1.length=lbs at *;generalize f.2.2.2.2=pl at *;replace hlbs:=aa hlbs;go_enter Tryz.func136,Tryz.ntmps136
 go_upto_region 1 with fail
 show Code.wp _ _ _ _ (w.alloc (.cells #[.string nm,.slice lp lps cp,.int .i64 rt,.slice lb lbs cb,.int .i64 pl] 29));generalize w.alloc (.cells #[.string nm,.slice lp lps cp,.int .i64 rt,.slice lb lbs cb,.int .i64 pl] 29)=W at *;obtain⟨x0,x1,x2,x3,x4⟩:_∧_∧_∧_∧_:=⟨X0.out.2 0 _ rfl,X0.out.2 1 _ rfl,X0.out.2 2 _ rfl,X0.out.2 3 _ rfl,X0.out.2 4 _ rfl⟩;obtain⟨g,o,ao,c,g2,o2,rfl,cu,rfl,hins⟩:=HRd.out W B0.out;obtain⟨xo,zo,xc,zc,hxv,e0,e1,e2,e3,e4,e5,e6,e7⟩:=(hins i hi).val;have HXv:=aa hxv;obtain⟨x,hx⟩:∃x,au f k i=x:=⟨_,rfl⟩;rw [hx] at e0 e1 e2 e3 e4 e5 e6 e7 HXv;rw [hx] at HPf;clear hx;obtain⟨lf,hlf⟩:=HPk.out;have HLf:=aa hlf;have hlm:=HPm.out lf hlf;have hgd:(aJ f).getD k []=lf:=by rw [List.getD_eq_getElem?_getD,hlf];rfl
 rw [hgd] at HPf;clear hlf hgd HPm HPk;have HPv:Hid (∀j,i=j+1→nF W (au f k j) g2 (o2+j * 8)):=aa (fun j hj=>hins j (by omega));go_upto_region 2 with fail
 show Code.wp _ _ _ _ (W.alloc (.cells #[.int .i64 x.1,.int .i64 x.2.1,.int .i64 x.2.2.1,.int .i64 x.2.2.2.1,.slice xo x.2.2.2.2.1.length xc,.slice zo x.2.2.2.2.2.1.length zc,.string (bs x.2.2.2.2.2.2.1),.int .i64 x.2.2.2.2.2.2.2] 41));have b3:=af W (.cells #[.int .i64 x.1,.int .i64 x.2.1,.int .i64 x.2.2.1,.int .i64 x.2.2.2.1,.slice xo x.2.2.2.2.1.length xc,.slice zo x.2.2.2.2.2.1.length zc,.string (bs x.2.2.2.2.2.2.1),.int .i64 x.2.2.2.2.2.2.2] 41);have Y0:=aa (L5.Box.new W [.int .i64 x.1,.int .i64 x.2.1,.int .i64 x.2.2.1,.int .i64 x.2.2.2.1,.slice xo x.2.2.2.2.1.length xc,.slice zo x.2.2.2.2.2.1.length zc,.string (bs x.2.2.2.2.2.2.1),.int .i64 x.2.2.2.2.2.2.2] 41);replace Y0:Hid (L5.Box (W.alloc (.cells #[.int .i64 x.1,.int .i64 x.2.1,.int .i64 x.2.2.1,.int .i64 x.2.2.2.1,.slice xo x.2.2.2.2.1.length xc,.slice zo x.2.2.2.2.2.1.length zc,.string (bs x.2.2.2.2.2.2.1),.int .i64 x.2.2.2.2.2.2.2] 41)) W.heap.size [.int .i64 x.1,.int .i64 x.2.1,.int .i64 x.2.2.1,.int .i64 x.2.2.2.1,.slice xo x.2.2.2.2.1.length xc,.slice zo x.2.2.2.2.2.1.length zc,.string (bs x.2.2.2.2.2.2.1),.int .i64 x.2.2.2.2.2.2.2]):=Y0;have HV3:=aa (HV.out.below b3);have HXv3:=aa (HXv.out.below b3);have X3:=aa (X0.out.below b3);have B3:=aa (ae B0.out b3);clear e0 e1 e2 e3 e4 e5 e6 e7 hins cu x0 x1 x2 x3 x4 b3 HV HXv X0 hxv;generalize W.alloc (.cells #[.int .i64 x.1,.int .i64 x.2.1,.int .i64 x.2.2.1,.int .i64 x.2.2.2.1,.slice xo x.2.2.2.2.1.length xc,.slice zo x.2.2.2.2.2.1.length zc,.string (bs x.2.2.2.2.2.2.1),.int .i64 x.2.2.2.2.2.2.2] 41)=w3 at *;generalize W.heap.size=q3 at *;obtain⟨x0,x1,x2,x3,x4⟩:_∧_∧_∧_∧_:=⟨X3.out.2 0 _ rfl,X3.out.2 1 _ rfl,X3.out.2 2 _ rfl,X3.out.2 3 _ rfl,X3.out.2 4 _ rfl⟩;obtain⟨y0,y1,y2,y3,y4,y5,y6,y7⟩:_∧_∧_∧_∧_∧_∧_∧_:=⟨Y0.out.2 0 _ rfl,Y0.out.2 1 _ rfl,Y0.out.2 2 _ rfl,Y0.out.2 3 _ rfl,Y0.out.2 4 _ rfl,Y0.out.2 5 _ rfl,Y0.out.2 6 _ rfl,Y0.out.2 7 _ rfl⟩;obtain⟨g',o',ao',c',g2',o2',hlb',cu,hao,hins⟩:=HRd.out w3 B3.out;injection hlb' with hlb';injection hlb' with hg' ho';subst hg' ho' hao;have hxn:x.2.2.2.2.2.1.length≤maxLen:=HXv3.out.ox.2;unfold maxLen at hxn;by_cases hi0:i=0
 ·have HFl:Hid ((decide (i=0) || decide ((au f k (i - 1)).1=20))=true):=aa (by simp [hi0]);have hd0:decide (0 < i)=false:=decide_eq_false (by omega);have hiz:¬(0:Int) < (i:Int):=by omega
  clear hins;have HC:=aa (HPr.out _ w3 HV3.out);go_wp2_with fail
  refine HC.out.mono ?_;rintro e w4 ⟨u,rfl,b4,hr⟩;obtain⟨ro,rc,rfl,hrr,_,_⟩:=hr;rcases hrr with he | ⟨rb,r0,rfl,hrb,hrc⟩
  ·have:=HLf.out;rw [he] at this;simp at this
  obtain⟨uu,cuu,hu⟩:=hrc k lf HLf.out;obtain⟨fo,fc,rfl,hfs,_,_⟩:=hu;have hkp:(k:Int) < (aJ f).length:=by have:=HPl.out;omega
  have Y4:=aa (Y0.out.below b4);have HXv4:=aa (HXv3.out.below b4);have B4:=aa (ae B3.out b4);have HFs:=aa hfs;clear x0 x1 x2 x3 x4 y0 y1 y2 y3 y4 y5 y6 y7 hrc hfs b4 HC;obtain⟨y0,y1,y2,y3,y4,y5,y6,y7⟩:_∧_∧_∧_∧_∧_∧_∧_:=⟨Y4.out.2 0 _ rfl,Y4.out.2 1 _ rfl,Y4.out.2 2 _ rfl,Y4.out.2 3 _ rfl,Y4.out.2 4 _ rfl,Y4.out.2 5 _ rfl,Y4.out.2 6 _ rfl,Y4.out.2 7 _ rfl⟩;by_cases hlen:x.2.2.2.2.2.1.length=lf.length
  ·have hlb:((x.2.2.2.2.2.1.length:Int) == (lf.length:Int))=true:=beq_iff_eq.2 (by omega);have HPg:Hid (gG f k i=lf.all fun b=>ay x.2.2.2.2.2.1 b):=aa (by rw [HPf.out,decide_eq_true hlen,HFl.out];simp);clear hlen;go_wp2_with fail
   clear hlb y0 y1 y2 y3 y4 y5 y6 y7 cuu;go_loopw [9] (fun nv wr=>∃n:Nat,n≤lf.length∧nv= .int .i64 n∧Hid (∀(j:Nat) (b:Int),j < n→lf[j]? =some b→ay x.2.2.2.2.2.1 b=true)∧Hid (Below w4.heap.size w4 wr)) (fun nv _=>lf.length - (intOf nv).toNat)
   case atStart=>exact⟨0,Nat.zero_le _,rfl,aa (fun j b h=>absurd h (Nat.not_lt_zero _)),aa (Below.refl _ _)⟩
   case round=>
    obtain⟨n,hn,rfl,HA,HW⟩:=hrel;by_cases hnt:n < lf.length
    ·have hnI:(n:Int) < lf.length:=(by omega);obtain⟨m,hm⟩:∃m,lf[n]? =some m:=⟨_,List.getElem?_eq_getElem hnt⟩;rcases HFs.out with he | ⟨fb,f0,rfl,hfb,hfc⟩
     ·rw [he] at hnt;simp at hnt
     have hB2:=fun z=>ae HW.out (L5.aD wr z);have c1:=fun z=>((hB2 z).cell (p:=⟨fb,f0+n,none⟩) hfb).trans (hfc n m hm);have c5:=fun z=>(Y4.out.below (hB2 z)).2 5 _ rfl;have HH:=aa (fun z=>dr x.2.2.2.2.2.1 m zo zc (L5.bM wr z) (HXv4.out.below (hB2 z)).ox.1 HXv4.out.ox.2);replace hB2:=aa hB2;have HM:=aa hm;clear hfc hm
     cases hh:ay x.2.2.2.2.2.1 m with
     |true=>
      rw [hh] at HH;have HA2:Hid (∀(j:Nat) (b:Int),j < n+1→lf[j]? =some b→ay x.2.2.2.2.2.1 b=true):=aa (fun j b hj hb=>by
       by_cases e:j=n
       ·subst e;rw [HM.out] at hb;injection hb with hb;rw [←hb];exact hh
       ·exact HA.out j b (by omega) hb)
      clear hh;go_wp2_with fail
      refine L5.aM (by kernel_rfl) (by kernel_rfl) ?_;repeat (go_big_quiet_step ((go_at_call 35;exact L5.bV (HH.out _))))
      refine wpQuiet_nil ?_;rintro _ ⟨z,rfl⟩;go_wp2_with fail
      go_roundw
      case rel=>exact⟨n+1,by omega,by go_num,HA2,aa (hB2.out z)⟩
      case measure=>simp [intOf];omega
     |false=>
      rw [hh] at HH;have HR:Hid (false=gG f k i):=aa (by
       rw [HPg.out];symm
       rw [Bool.eq_false_iff];intro hall;have:=List.all_eq_true.1 hall m (List.mem_of_getElem? HM.out);rw [hh] at this
       cases this)
      clear hh;go_wp2_with fail
      refine L5.aM (by kernel_rfl) (by kernel_rfl) ?_;repeat (go_big_quiet_step ((go_at_call 35;exact L5.bV (HH.out _))))
      refine wpQuiet_nil ?_;rintro _ ⟨z,rfl⟩;have HE:=aa (ae B4.out (hB2.out z));go_wp2_with fail
      go_ret;exact⟨L5.aw HR.out,HE.out⟩
    ·obtain rfl:n=lf.length:=(by omega);have HR:Hid (true=gG f k i):=aa (by
      rw [HPg.out];symm
      refine List.all_eq_true.2 fun b hb=> ?_;obtain⟨j,hj⟩:=List.mem_iff_getElem?.1 hb;exact HA.out j b (List.getElem?_eq_some_iff.1 hj).1 hj)
     have HE:=aa (ae B4.out HW.out);go_wp2_with fail
     go_ret;exact⟨L5.aw HR.out,HE.out⟩
  ·have hlb:((x.2.2.2.2.2.1.length:Int) == (lf.length:Int))=false:=beq_eq_false_iff_ne.2 (by omega);have HR:Hid (false=gG f k i):=aa (by rw [HPf.out,decide_eq_false hlen];simp);go_wp2_with fail
   go_ret;exact⟨L5.aw HR.out,B4.out⟩
 ·obtain⟨j,hj⟩:∃j,i=j+1:=⟨i - 1,by omega⟩;have hd0:decide (0 < i)=true:=decide_eq_true (by omega);have hiz:(0:Int) < (i:Int):=by omega
  have hji:(i:Int) - 1=(j:Int):=by omega
  have hjI:(j:Int) < (ag f k).length:=by omega
  obtain⟨_,_,_,_,_,u0,_,_,_,_,_,_,_⟩:=(hins j (by omega)).val;have hjj:i - 1=j:=by omega
  rw [hjj] at HPf;obtain⟨pv,hpv⟩:∃pv,(au f k j).1=pv:=⟨_,rfl⟩;rw [hpv] at u0 HPf;clear hins hpv hjj hj;by_cases hp:pv=20
  ·have hpb:(pv == 20)=true:=beq_iff_eq.2 hp;have HFl:Hid ((decide (i=0) || decide (pv=20))=true):=aa (by simp [hp]);clear hp;have HC:=aa (HPr.out _ w3 HV3.out);go_wp2_with fail
   refine HC.out.mono ?_;rintro e w4 ⟨u,rfl,b4,hr⟩;obtain⟨ro,rc,rfl,hrr,_,_⟩:=hr;rcases hrr with he | ⟨rb,r0,rfl,hrb,hrc⟩
   ·have:=HLf.out;rw [he] at this;simp at this
   obtain⟨uu,cuu,hu⟩:=hrc k lf HLf.out;obtain⟨fo,fc,rfl,hfs,_,_⟩:=hu;have hkp:(k:Int) < (aJ f).length:=(by have:=HPl.out;omega);have Y4:=aa (Y0.out.below b4);have HXv4:=aa (HXv3.out.below b4);have B4:=aa (ae B3.out b4);have HFs:=aa hfs;clear x0 x1 x2 x3 x4 y0 y1 y2 y3 y4 y5 y6 y7 hrc hfs b4 HC;obtain⟨y0,y1,y2,y3,y4,y5,y6,y7⟩:_∧_∧_∧_∧_∧_∧_∧_:=⟨Y4.out.2 0 _ rfl,Y4.out.2 1 _ rfl,Y4.out.2 2 _ rfl,Y4.out.2 3 _ rfl,Y4.out.2 4 _ rfl,Y4.out.2 5 _ rfl,Y4.out.2 6 _ rfl,Y4.out.2 7 _ rfl⟩;by_cases hlen:x.2.2.2.2.2.1.length=lf.length
   ·have hlb:((x.2.2.2.2.2.1.length:Int) == (lf.length:Int))=true:=beq_iff_eq.2 (by omega);have HPg:Hid (gG f k i=lf.all fun b=>ay x.2.2.2.2.2.1 b):=aa (by rw [HPf.out,decide_eq_true hlen,HFl.out];simp);clear hlen;go_wp2_with fail
    clear hlb y0 y1 y2 y3 y4 y5 y6 y7 cuu;go_loopw [9] (fun nv wr=>∃n:Nat,n≤lf.length∧nv= .int .i64 n∧Hid (∀(j:Nat) (b:Int),j < n→lf[j]? =some b→ay x.2.2.2.2.2.1 b=true)∧Hid (Below w4.heap.size w4 wr)) (fun nv _=>lf.length - (intOf nv).toNat)
    case atStart=>exact⟨0,Nat.zero_le _,rfl,aa (fun j b h=>absurd h (Nat.not_lt_zero _)),aa (Below.refl _ _)⟩
    case round=>
     obtain⟨n,hn,rfl,HA,HW⟩:=hrel;by_cases hnt:n < lf.length
     ·have hnI:(n:Int) < lf.length:=(by omega);obtain⟨m,hm⟩:∃m,lf[n]? =some m:=⟨_,List.getElem?_eq_getElem hnt⟩;rcases HFs.out with he | ⟨fb,f0,rfl,hfb,hfc⟩
      ·rw [he] at hnt;simp at hnt
      have hB2:=fun z=>ae HW.out (L5.aD wr z);have c1:=fun z=>((hB2 z).cell (p:=⟨fb,f0+n,none⟩) hfb).trans (hfc n m hm);have c5:=fun z=>(Y4.out.below (hB2 z)).2 5 _ rfl;have HH:=aa (fun z=>dr x.2.2.2.2.2.1 m zo zc (L5.bM wr z) (HXv4.out.below (hB2 z)).ox.1 HXv4.out.ox.2);replace hB2:=aa hB2;have HM:=aa hm;clear hfc hm
      cases hh:ay x.2.2.2.2.2.1 m with
      |true=>
       rw [hh] at HH;have HA2:Hid (∀(j:Nat) (b:Int),j < n+1→lf[j]? =some b→ay x.2.2.2.2.2.1 b=true):=aa (fun j b hj hb=>by
        by_cases e:j=n
        ·subst e;rw [HM.out] at hb;injection hb with hb;rw [←hb];exact hh
        ·exact HA.out j b (by omega) hb)
       clear hh;go_wp2_with fail
       refine L5.aM (by kernel_rfl) (by kernel_rfl) ?_;repeat (go_big_quiet_step ((go_at_call 35;exact L5.bV (HH.out _))))
       refine wpQuiet_nil ?_;rintro _ ⟨z,rfl⟩;go_wp2_with fail
       go_roundw
       case rel=>exact⟨n+1,by omega,by go_num,HA2,aa (hB2.out z)⟩
       case measure=>simp [intOf];omega
      |false=>
       rw [hh] at HH;have HR:Hid (false=gG f k i):=aa (by
        rw [HPg.out];symm
        rw [Bool.eq_false_iff];intro hall;have:=List.all_eq_true.1 hall m (List.mem_of_getElem? HM.out);rw [hh] at this
        cases this)
       clear hh;go_wp2_with fail
       refine L5.aM (by kernel_rfl) (by kernel_rfl) ?_;repeat (go_big_quiet_step ((go_at_call 35;exact L5.bV (HH.out _))))
       refine wpQuiet_nil ?_;rintro _ ⟨z,rfl⟩;have HE:=aa (ae B4.out (hB2.out z));go_wp2_with fail
       go_ret;exact⟨L5.aw HR.out,HE.out⟩
     ·obtain rfl:n=lf.length:=(by omega);have HR:Hid (true=gG f k i):=aa (by
       rw [HPg.out];symm
       refine List.all_eq_true.2 fun b hb=> ?_;obtain⟨j,hj⟩:=List.mem_iff_getElem?.1 hb;exact HA.out j b (List.getElem?_eq_some_iff.1 hj).1 hj)
      have HE:=aa (ae B4.out HW.out);go_wp2_with fail
      go_ret;exact⟨L5.aw HR.out,HE.out⟩
   ·have hlb:((x.2.2.2.2.2.1.length:Int) == (lf.length:Int))=false:=beq_eq_false_iff_ne.2 (by omega);have HR:Hid (false=gG f k i):=aa (by rw [HPf.out,decide_eq_false hlen];simp);go_wp2_with fail
    go_ret;exact⟨L5.aw HR.out,B4.out⟩
  ·have hpb:(pv == 20)=false:=beq_eq_false_iff_ne.2 hp;have HR:Hid (false=gG f k i):=aa (by rw [HPf.out];simp [hp,hi0]);clear hp;go_wp2_with fail
   go_ret;exact⟨L5.aw HR.out,B3.out⟩
theorem wV (f:Fun) (k i:Nat) (src:Bool) (v:Value) (w:World) (hv:bS w f v) (hF:Ful f) (hM:Mod f) (hk:k < f.2.2.2.1.length) (hi:i < (ag f k).length):
  Calls Tryz.prog 91 #[v,.int .i64 k,.int .i64 i,.bool src] w fun e w'=>e= .returned (.int .i64 (dG f k i src))∧Below w.heap.size w w':=by
 have hfl:∀(a b c d:Value) (w:World),(Instr.field 164 (.agg #[a,b,c,d]) 3).run Tryz.prog w= .ok d w:=fun _ _ _ _ _=>rfl;have HVc:Hid (dG f k i src=if(decide (mkX (au f k i)≠0) && (dV f (au f k i).2.1 k i).2.2.2)=true then 5 else if(decide ((au f k i).1=20) && !gG f k i)=true then 11 else if(src && eQ (au f k i))=true then 2 else 0):=aa rfl;have HMk:Hid (mkX (au f k i)=L5.cn (au f k i).1 (au f k i).2.2.2.1):=aa rfl;obtain⟨lp,cp,lb,cb,rfl,X,b0⟩:=dx hv;have HV:=aa (hv.below b0);have X0:=aa X;have B0:=aa b0;have HRd:Hid (∀w',Below w.heap.size w w'→∃g o ao c g2 o2,lb=some ⟨g,o,none⟩∧w'.cell? ⟨g,o+k,none⟩=some (.slice ao (ag f k).length c)∧ao=some ⟨g2,o2,none⟩∧∀j,j < (ag f k).length→nF w' (au f k j) g2 (o2+j * 8)):=aa (fun w' b=>by
  obtain⟨g,o,ao,c,h1,_,h3,h4⟩:=eD (ff (hv.below b)) hk;obtain⟨g2,o2,h5,_⟩:=dy h4 hi;refine⟨g,o,ao,c,g2,o2,h1,h3,h5,fun j hj=> ?_⟩;obtain⟨g3,o3,h6,h7⟩:=dy h4 hj;rw [h5] at h6;injection h6 with h6;injection h6 with e1 e2;subst e1 e2;exact h7)
 have hkI:(k:Int) < f.2.2.2.1.length:=by omega
 have hiI:(i:Int) < (ag f k).length:=by omega
 have hbn:=hM.blk k;have hN:=hM.1;clear hv X b0;generalize bs f.1=nm at *;generalize f.2.1.length=lps at *;generalize f.2.2.1=rt at *;generalize hlbs:f.2.2.2.1.length=lbs at *;generalize f.2.2.2.2=pl at *;replace hlbs:=aa hlbs;go_enter Tryz.func91,Tryz.ntmps91
 go_upto_region 1 with fail
 show Code.wp _ _ _ _ (w.alloc (.cells #[.string nm,.slice lp lps cp,.int .i64 rt,.slice lb lbs cb,.int .i64 pl] 29));generalize w.alloc (.cells #[.string nm,.slice lp lps cp,.int .i64 rt,.slice lb lbs cb,.int .i64 pl] 29)=W at *;obtain⟨x0,x1,x2,x3,x4⟩:_∧_∧_∧_∧_:=⟨X0.out.2 0 _ rfl,X0.out.2 1 _ rfl,X0.out.2 2 _ rfl,X0.out.2 3 _ rfl,X0.out.2 4 _ rfl⟩;obtain⟨g,o,ao,c,g2,o2,rfl,cu,rfl,hins⟩:=HRd.out W B0.out;obtain⟨xo,zo,xc,zc,hxv,e0,e1,e2,e3,e4,e5,e6,e7⟩:=(hins i hi).val;have HXv:=aa hxv;obtain⟨x,hx⟩:∃x,au f k i=x:=⟨_,rfl⟩;rw [hx] at e0 e1 e2 e3 e4 e5 e6 e7 HXv;rw [hx] at HVc HMk;clear hx;go_upto_region 2 with fail
 show Code.wp _ _ _ _ (W.alloc (.cells #[.int .i64 x.1,.int .i64 x.2.1,.int .i64 x.2.2.1,.int .i64 x.2.2.2.1,.slice xo x.2.2.2.2.1.length xc,.slice zo x.2.2.2.2.2.1.length zc,.string (bs x.2.2.2.2.2.2.1),.int .i64 x.2.2.2.2.2.2.2] 41));have b3:=af W (.cells #[.int .i64 x.1,.int .i64 x.2.1,.int .i64 x.2.2.1,.int .i64 x.2.2.2.1,.slice xo x.2.2.2.2.1.length xc,.slice zo x.2.2.2.2.2.1.length zc,.string (bs x.2.2.2.2.2.2.1),.int .i64 x.2.2.2.2.2.2.2] 41);have Y0:=aa (L5.Box.new W [.int .i64 x.1,.int .i64 x.2.1,.int .i64 x.2.2.1,.int .i64 x.2.2.2.1,.slice xo x.2.2.2.2.1.length xc,.slice zo x.2.2.2.2.2.1.length zc,.string (bs x.2.2.2.2.2.2.1),.int .i64 x.2.2.2.2.2.2.2] 41);replace Y0:Hid (L5.Box (W.alloc (.cells #[.int .i64 x.1,.int .i64 x.2.1,.int .i64 x.2.2.1,.int .i64 x.2.2.2.1,.slice xo x.2.2.2.2.1.length xc,.slice zo x.2.2.2.2.2.1.length zc,.string (bs x.2.2.2.2.2.2.1),.int .i64 x.2.2.2.2.2.2.2] 41)) W.heap.size [.int .i64 x.1,.int .i64 x.2.1,.int .i64 x.2.2.1,.int .i64 x.2.2.2.1,.slice xo x.2.2.2.2.1.length xc,.slice zo x.2.2.2.2.2.1.length zc,.string (bs x.2.2.2.2.2.2.1),.int .i64 x.2.2.2.2.2.2.2]):=Y0;have HV3:=aa (HV.out.below b3);have HXv3:=aa (HXv.out.below b3);have X3:=aa (X0.out.below b3);have B3:=aa (ae B0.out b3);clear e0 e1 e2 e3 e4 e5 e6 e7 hins cu x0 x1 x2 x3 x4 b3 HV HXv X0 hxv;generalize W.alloc (.cells #[.int .i64 x.1,.int .i64 x.2.1,.int .i64 x.2.2.1,.int .i64 x.2.2.2.1,.slice xo x.2.2.2.2.1.length xc,.slice zo x.2.2.2.2.2.1.length zc,.string (bs x.2.2.2.2.2.2.1),.int .i64 x.2.2.2.2.2.2.2] 41)=w3 at *;generalize W.heap.size=q3 at *;obtain⟨x0,x1,x2,x3,x4⟩:_∧_∧_∧_∧_:=⟨X3.out.2 0 _ rfl,X3.out.2 1 _ rfl,X3.out.2 2 _ rfl,X3.out.2 3 _ rfl,X3.out.2 4 _ rfl⟩;obtain⟨y0,y1,y2,y3,y4,y5,y6,y7⟩:_∧_∧_∧_∧_∧_∧_∧_:=⟨Y0.out.2 0 _ rfl,Y0.out.2 1 _ rfl,Y0.out.2 2 _ rfl,Y0.out.2 3 _ rfl,Y0.out.2 4 _ rfl,Y0.out.2 5 _ rfl,Y0.out.2 6 _ rfl,Y0.out.2 7 _ rfl⟩;have HM:=aa (L5.db x.1 x.2.2.2.1 (.int .i64 x.2.1) (.int .i64 x.2.2.1) (.slice xo x.2.2.2.2.1.length xc) (.slice zo x.2.2.2.2.2.1.length zc) (.string (bs x.2.2.2.2.2.2.1)) (.int .i64 x.2.2.2.2.2.2.2) w3);rw [←HMk.out] at HM;by_cases hmz:mkX x=0
 ·have HF1:Hid ((decide (mkX x≠0) && (dV f x.2.1 k i).2.2.2)=false):=aa (by simp [hmz]);rw [hmz] at HM;clear hmz;go_wp2_with fail
  refine HM.out.mono ?_;rintro e w4 ⟨rfl,b4⟩;have B4:=aa b4;clear HM b4 x0 x1 x2 x3 x4 y0 y1 y2 y3 y4 y5 y6 y7;have XX:=aa (X3.out.below B4.out);have YY:=aa (Y0.out.below B4.out);obtain⟨x0,x1,x2,x3,x4⟩:_∧_∧_∧_∧_:=⟨XX.out.2 0 _ rfl,XX.out.2 1 _ rfl,XX.out.2 2 _ rfl,XX.out.2 3 _ rfl,XX.out.2 4 _ rfl⟩;obtain⟨y0,y1,y2,y3,y4,y5,y6,y7⟩:_∧_∧_∧_∧_∧_∧_∧_:=⟨YY.out.2 0 _ rfl,YY.out.2 1 _ rfl,YY.out.2 2 _ rfl,YY.out.2 3 _ rfl,YY.out.2 4 _ rfl,YY.out.2 5 _ rfl,YY.out.2 6 _ rfl,YY.out.2 7 _ rfl⟩;go_upto_region 4 with fail
  by_cases hp:x.1=20
  ·have hpb:(x.1 == 20)=true:=beq_iff_eq.2 hp;have HPh:=aa (uL f k i _ w4 (HV3.out.below B4.out) hF hM (by have:=hlbs.out;omega) hi)
   cases hph:gG f k i with
   |true=>
    rw [hph] at HPh;have HP2:Hid ((decide (x.1=20) && !true)=false):=aa (by simp);clear hp;go_wp2_with fail
    refine HPh.out.mono ?_;rintro e w7 ⟨rfl,b7⟩;have B7:=aa (ae B4.out b7);clear HPh b7 x0 x1 x2 x3 x4 y0 y1 y2 y3 y4 y5 y6 y7;have XX:=aa (X3.out.below B7.out);have YY:=aa (Y0.out.below B7.out);obtain⟨x0,x1,x2,x3,x4⟩:_∧_∧_∧_∧_:=⟨XX.out.2 0 _ rfl,XX.out.2 1 _ rfl,XX.out.2 2 _ rfl,XX.out.2 3 _ rfl,XX.out.2 4 _ rfl⟩;obtain⟨y0,y1,y2,y3,y4,y5,y6,y7⟩:_∧_∧_∧_∧_∧_∧_∧_:=⟨YY.out.2 0 _ rfl,YY.out.2 1 _ rfl,YY.out.2 2 _ rfl,YY.out.2 3 _ rfl,YY.out.2 4 _ rfl,YY.out.2 5 _ rfl,YY.out.2 6 _ rfl,YY.out.2 7 _ rfl⟩;go_upto_region 6 with fail
    rw [hph] at HVc
    cases hs:src with
    |false=>
     have HR:Hid (0=dG f k i src):=aa (by rw [HVc.out,HF1.out,HP2.out,hs];simp);have HE:=aa (ae B3.out B7.out);go_wp2_with fail
     go_ret;exact⟨bD HR.out,HE.out⟩
    |true=>
     have HLt:=aa (iU x _ w7 (HXv3.out.below B7.out))
     cases hl:eQ x with
     |true=>
      rw [hl] at HLt;have HR:Hid (2=dG f k i src):=aa (by rw [HVc.out,HF1.out,HP2.out,hs,hl];simp);go_wp2_with fail
      refine HLt.out.mono ?_;rintro e w9 ⟨rfl,b9⟩;have HE:=aa (ae B3.out (ae B7.out b9));clear HLt b9 x0 x1 x2 x3 x4 y0 y1 y2 y3 y4 y5 y6 y7;go_wp2_with fail
      go_ret;exact⟨bD HR.out,HE.out⟩
     |false=>
      rw [hl] at HLt;have HR:Hid (0=dG f k i src):=aa (by rw [HVc.out,HF1.out,HP2.out,hs,hl];simp);go_wp2_with fail
      refine HLt.out.mono ?_;rintro e w9 ⟨rfl,b9⟩;have HE:=aa (ae B3.out (ae B7.out b9));clear HLt b9 x0 x1 x2 x3 x4 y0 y1 y2 y3 y4 y5 y6 y7;go_wp2_with fail
      go_ret;exact⟨bD HR.out,HE.out⟩
   |false=>
    rw [hph] at HPh;have HR:Hid (11=dG f k i src):=aa (by rw [HVc.out,HF1.out,hph];simp [hp]);clear hp;go_wp2_with fail
    refine HPh.out.mono ?_;rintro e w7 ⟨rfl,b7⟩;have HE:=aa (ae B3.out (ae B4.out b7));clear HPh b7 x0 x1 x2 x3 x4 y0 y1 y2 y3 y4 y5 y6 y7;go_wp2_with fail
    go_ret;exact⟨bD HR.out,HE.out⟩
  ·have hpb:(x.1 == 20)=false:=beq_eq_false_iff_ne.2 hp;have HP2:Hid ((decide (x.1=20) && !gG f k i)=false):=aa (by simp [hp]);clear hp;go_upto_region 6 with fail
   cases hs:src with
   |false=>
    have HR:Hid (0=dG f k i src):=aa (by rw [HVc.out,HF1.out,HP2.out,hs];simp);have HE:=aa (ae B3.out B4.out);go_wp2_with fail
    go_ret;exact⟨bD HR.out,HE.out⟩
   |true=>
    have HLt:=aa (iU x _ w4 (HXv3.out.below B4.out))
    cases hl:eQ x with
    |true=>
     rw [hl] at HLt;have HR:Hid (2=dG f k i src):=aa (by rw [HVc.out,HF1.out,HP2.out,hs,hl];simp);go_wp2_with fail
     refine HLt.out.mono ?_;rintro e w9 ⟨rfl,b9⟩;have HE:=aa (ae B3.out (ae B4.out b9));clear HLt b9 x0 x1 x2 x3 x4 y0 y1 y2 y3 y4 y5 y6 y7;go_wp2_with fail
     go_ret;exact⟨bD HR.out,HE.out⟩
    |false=>
     rw [hl] at HLt;have HR:Hid (0=dG f k i src):=aa (by rw [HVc.out,HF1.out,HP2.out,hs,hl];simp);go_wp2_with fail
     refine HLt.out.mono ?_;rintro e w9 ⟨rfl,b9⟩;have HE:=aa (ae B3.out (ae B4.out b9));clear HLt b9 x0 x1 x2 x3 x4 y0 y1 y2 y3 y4 y5 y6 y7;go_wp2_with fail
     go_ret;exact⟨bD HR.out,HE.out⟩
 ·have hmb:(mkX x == 0)=false:=beq_eq_false_iff_ne.2 hmz;have HD1:Hid (decide (mkX x≠0)=true):=aa (decide_eq_true hmz);have HMd:=aa (fun w' (b:Below w3.heap.size w3 w')=>qL f x.2.1 k i _ w' (HV3.out.below b) hM (by have:=hlbs.out;omega) (by omega));obtain⟨m,hm⟩:∃m,dV f x.2.1 k i=m:=⟨_,rfl⟩;rw [hm] at HMd HVc;unfold Jc at HMd;clear hm;generalize mkX x=mk at *;go_wp2_with fail
  refine HM.out.mono ?_;rintro e w4 ⟨rfl,b4⟩;have B4:=aa b4;have HMd4:=aa (HMd.out w4 b4);clear HM HMd b4 x0 x1 x2 x3 x4 y0 y1 y2 y3 y4 y5 y6 y7;have XX:=aa (X3.out.below B4.out);have YY:=aa (Y0.out.below B4.out);obtain⟨x0,x1,x2,x3,x4⟩:_∧_∧_∧_∧_:=⟨XX.out.2 0 _ rfl,XX.out.2 1 _ rfl,XX.out.2 2 _ rfl,XX.out.2 3 _ rfl,XX.out.2 4 _ rfl⟩;obtain⟨y0,y1,y2,y3,y4,y5,y6,y7⟩:_∧_∧_∧_∧_∧_∧_∧_:=⟨YY.out.2 0 _ rfl,YY.out.2 1 _ rfl,YY.out.2 2 _ rfl,YY.out.2 3 _ rfl,YY.out.2 4 _ rfl,YY.out.2 5 _ rfl,YY.out.2 6 _ rfl,YY.out.2 7 _ rfl⟩;go_wp2_with fail
  refine HMd4.out.mono ?_;rintro e w5 ⟨rfl,b5⟩;have B5:=aa (ae B4.out b5);clear HMd4 b5 x0 x1 x2 x3 x4 y0 y1 y2 y3 y4 y5 y6 y7;have XZ:=aa (X3.out.below B5.out);have YZ:=aa (Y0.out.below B5.out);obtain⟨x0,x1,x2,x3,x4⟩:_∧_∧_∧_∧_:=⟨XZ.out.2 0 _ rfl,XZ.out.2 1 _ rfl,XZ.out.2 2 _ rfl,XZ.out.2 3 _ rfl,XZ.out.2 4 _ rfl⟩;obtain⟨y0,y1,y2,y3,y4,y5,y6,y7⟩:_∧_∧_∧_∧_∧_∧_∧_:=⟨YZ.out.2 0 _ rfl,YZ.out.2 1 _ rfl,YZ.out.2 2 _ rfl,YZ.out.2 3 _ rfl,YZ.out.2 4 _ rfl,YZ.out.2 5 _ rfl,YZ.out.2 6 _ rfl,YZ.out.2 7 _ rfl⟩
  cases hms:m.2.2.2 with
  |true=>
   have HR:Hid (5=dG f k i src):=aa (by rw [HVc.out,HD1.out,hms];simp);have HE:=aa (ae B3.out B5.out);go_wp2_with fail
   go_ret;exact⟨bD HR.out,HE.out⟩
  |false=>
   have HF1:Hid ((decide (mk≠0) && m.2.2.2)=false):=aa (by rw [hms];simp);go_upto_region 4 with fail
   by_cases hp:x.1=20
   ·have hpb:(x.1 == 20)=true:=beq_iff_eq.2 hp;have HPh:=aa (uL f k i _ w5 (HV3.out.below B5.out) hF hM (by have:=hlbs.out;omega) hi)
    cases hph:gG f k i with
    |true=>
     rw [hph] at HPh;have HP2:Hid ((decide (x.1=20) && !true)=false):=aa (by simp);clear hp;go_wp2_with fail
     refine HPh.out.mono ?_;rintro e w7 ⟨rfl,b7⟩;have B7:=aa (ae B5.out b7);clear HPh b7 x0 x1 x2 x3 x4 y0 y1 y2 y3 y4 y5 y6 y7;have XX:=aa (X3.out.below B7.out);have YY:=aa (Y0.out.below B7.out);obtain⟨x0,x1,x2,x3,x4⟩:_∧_∧_∧_∧_:=⟨XX.out.2 0 _ rfl,XX.out.2 1 _ rfl,XX.out.2 2 _ rfl,XX.out.2 3 _ rfl,XX.out.2 4 _ rfl⟩;obtain⟨y0,y1,y2,y3,y4,y5,y6,y7⟩:_∧_∧_∧_∧_∧_∧_∧_:=⟨YY.out.2 0 _ rfl,YY.out.2 1 _ rfl,YY.out.2 2 _ rfl,YY.out.2 3 _ rfl,YY.out.2 4 _ rfl,YY.out.2 5 _ rfl,YY.out.2 6 _ rfl,YY.out.2 7 _ rfl⟩;go_upto_region 6 with fail
     rw [hph] at HVc
     cases hs:src with
     |false=>
      have HR:Hid (0=dG f k i src):=aa (by rw [HVc.out,HF1.out,HP2.out,hs];simp);have HE:=aa (ae B3.out B7.out);go_wp2_with fail
      go_ret;exact⟨bD HR.out,HE.out⟩
     |true=>
      have HLt:=aa (iU x _ w7 (HXv3.out.below B7.out))
      cases hl:eQ x with
      |true=>
       rw [hl] at HLt;have HR:Hid (2=dG f k i src):=aa (by rw [HVc.out,HF1.out,HP2.out,hs,hl];simp);go_wp2_with fail
       refine HLt.out.mono ?_;rintro e w9 ⟨rfl,b9⟩;have HE:=aa (ae B3.out (ae B7.out b9));clear HLt b9 x0 x1 x2 x3 x4 y0 y1 y2 y3 y4 y5 y6 y7;go_wp2_with fail
       go_ret;exact⟨bD HR.out,HE.out⟩
      |false=>
       rw [hl] at HLt;have HR:Hid (0=dG f k i src):=aa (by rw [HVc.out,HF1.out,HP2.out,hs,hl];simp);go_wp2_with fail
       refine HLt.out.mono ?_;rintro e w9 ⟨rfl,b9⟩;have HE:=aa (ae B3.out (ae B7.out b9));clear HLt b9 x0 x1 x2 x3 x4 y0 y1 y2 y3 y4 y5 y6 y7;go_wp2_with fail
       go_ret;exact⟨bD HR.out,HE.out⟩
    |false=>
     rw [hph] at HPh;have HR:Hid (11=dG f k i src):=aa (by rw [HVc.out,HF1.out,hph];simp [hp]);clear hp;go_wp2_with fail
     refine HPh.out.mono ?_;rintro e w7 ⟨rfl,b7⟩;have HE:=aa (ae B3.out (ae B5.out b7));clear HPh b7 x0 x1 x2 x3 x4 y0 y1 y2 y3 y4 y5 y6 y7;go_wp2_with fail
     go_ret;exact⟨bD HR.out,HE.out⟩
   ·have hpb:(x.1 == 20)=false:=beq_eq_false_iff_ne.2 hp;have HP2:Hid ((decide (x.1=20) && !gG f k i)=false):=aa (by simp [hp]);clear hp;go_upto_region 6 with fail
    cases hs:src with
    |false=>
     have HR:Hid (0=dG f k i src):=aa (by rw [HVc.out,HF1.out,HP2.out,hs];simp);have HE:=aa (ae B3.out B5.out);go_wp2_with fail
     go_ret;exact⟨bD HR.out,HE.out⟩
    |true=>
     have HLt:=aa (iU x _ w5 (HXv3.out.below B5.out))
     cases hl:eQ x with
     |true=>
      rw [hl] at HLt;have HR:Hid (2=dG f k i src):=aa (by rw [HVc.out,HF1.out,HP2.out,hs,hl];simp);go_wp2_with fail
      refine HLt.out.mono ?_;rintro e w9 ⟨rfl,b9⟩;have HE:=aa (ae B3.out (ae B5.out b9));clear HLt b9 x0 x1 x2 x3 x4 y0 y1 y2 y3 y4 y5 y6 y7;go_wp2_with fail
      go_ret;exact⟨bD HR.out,HE.out⟩
     |false=>
      rw [hl] at HLt;have HR:Hid (0=dG f k i src):=aa (by rw [HVc.out,HF1.out,HP2.out,hs,hl];simp);go_wp2_with fail
      refine HLt.out.mono ?_;rintro e w9 ⟨rfl,b9⟩;have HE:=aa (ae B3.out (ae B5.out b9));clear HLt b9 x0 x1 x2 x3 x4 y0 y1 y2 y3 y4 y5 y6 y7;go_wp2_with fail
      go_ret;exact⟨bD HR.out,HE.out⟩
theorem gB {w:World} {p:List Fun} {po:Option Addr} {n pc i:Nat} (h:eg w p (.slice po n pc)) (hi:i < p.length):∃g o,po=some ⟨g,o,none⟩∧pd w (bh p i) g (o+i * 5):=by
 obtain⟨po',pc',e,_,_,h3⟩:=h;injection e with e1 e2 e3;subst e1;rcases h3 with h3 | ⟨g,o,rfl,h4⟩
 ·rw [h3] at hi;simp at hi
 ·exact⟨g,o,rfl,h4 i _ (jS hi)⟩
theorem eW {w:World} {b t:Nat} {a0 a1 a2 a3 a4:Value} (h:w.heap[b]? =some (.cells #[a0,a1,a2,a3,a4] t (0,0))):(w.cell? ⟨b,0,none⟩=some a0∧w.cell? ⟨b,1,none⟩=some a1∧w.cell? ⟨b,2,none⟩=some a2∧w.cell? ⟨b,3,none⟩=some a3∧w.cell? ⟨b,4,none⟩=some a4)∧(w.frozen? ⟨b,0,none⟩=false∧w.frozen? ⟨b,1,none⟩=false∧w.frozen? ⟨b,2,none⟩=false∧w.frozen? ⟨b,3,none⟩=false∧w.frozen? ⟨b,4,none⟩=false)∧b < w.heap.size:=by
 refine⟨⟨?_,?_,?_,?_,?_⟩,⟨?_,?_,?_,?_,?_⟩,(Array.getElem?_eq_some_iff.1 h).1⟩ <;> simp [World.cell?,World.frozen?,h]
theorem Io {a b:List UInt8} (h:¬a=b):((bs a).toList == (bs b).toList)=false:=by rw [ByteArray.toList_eq,ByteArray.toList_eq,eC,eC];simpa using h
theorem DJ (w:World):bS w jj (.agg #[.string ⟨#[]⟩,.slice none 0 0,.int .i64 0,.slice none 0 0,.int .i64 0]):=
 ⟨_,_,rfl,⟨none,0,rfl,.inl rfl,Nat.le_refl _,by unfold maxLen;omega⟩,⟨none,0,rfl,Nat.le_refl _,by unfold maxLen;omega,.inl rfl⟩⟩
theorem bC {w:World} {b t:Nat} {a0:Value} (h:w.heap[b]? =some (.cells #[a0] t (0,0))):w.cell? ⟨b,0,none⟩=some a0∧b < w.heap.size:=⟨by simp [World.cell?,h],(Array.getElem?_eq_some_iff.1 h).1⟩
theorem mL (p:List Fun) (nm:List UInt8) (po:Option Addr) (pc:Nat) (w:World) (hp:eg w p (.slice po p.length pc)) (hl:p.length≤1000000):
  Calls Tryz.prog 88 #[.agg #[.slice po p.length pc],.string (bs nm)] w fun e w'=>(∃fv,e= .returned (.tuple #[fv,.bool (findF p nm).isSome])∧bS w' ((findF p nm).getD jj) fv)∧Below w.heap.size w w':=by
 have HFd:Hid (findF p nm=cD (fun i=>if(bh p i).1=nm then some (bh p i)else none) p.length):=aa rfl;obtain⟨r,hr⟩:∃r,findF p nm=r:=⟨_,rfl⟩;rw [hr] at HFd ⊢;clear hr;have HP:=aa hp;clear hp;have HRd:Hid (∀w' i,Below w.heap.size w w'→i < p.length→∃g o,po=some ⟨g,o,none⟩∧pd w' (bh p i) g (o+i * 5)):=aa (fun w' i b hi=>gB (HP.out.below b) hi);clear HP;generalize hn:p.length=n at *;replace hn:=aa hn;have b1:=af w (.cells #[.slice po n pc] 24);have h1:=heap_alloc_new w (.cells #[.slice po n pc] 24);have b2:=af (w.alloc (.cells #[.slice po n pc] 24)) (.cells #[.string ⟨#[]⟩,.slice none 0 0,.int .i64 0,.slice none 0 0,.int .i64 0] 29);have hs1:(w.alloc (.cells #[.slice po n pc] 24)).heap.size=w.heap.size+1:=by simp
 have h2:=heap_alloc_new (w.alloc (.cells #[.slice po n pc] 24)) (.cells #[.string ⟨#[]⟩,.slice none 0 0,.int .i64 0,.slice none 0 0,.int .i64 0] 29);rw [hs1] at h2;have H1:=aa ((b2.block w.heap.size (by simp)).trans h1);have H2:=aa h2;have B0:=aa (ae b1 b2);clear b1 h1 b2 hs1 h2;go_enter Tryz.func88,Tryz.ntmps88
 go_upto_region 1 with fail
 show Code.wp _ _ _ _ ((w.alloc (.cells #[.slice po n pc] 24)).alloc (.cells #[.string ⟨#[]⟩,.slice none 0 0,.int .i64 0,.slice none 0 0,.int .i64 0] 29));generalize (w.alloc (.cells #[.slice po n pc] 24)).alloc (.cells #[.string ⟨#[]⟩,.slice none 0 0,.int .i64 0,.slice none 0 0,.int .i64 0] 29)=W at *;have hz2:=(eW H2.out).2.2;have hz1:=(bC H1.out).2;go_wp2_with fail
 go_loopw [6] (fun kv wr=>∃K:Nat,K≤n∧kv= .int .i64 K∧Hid (∀j,j < K→¬(bh p j).1=nm)∧Hid (Below W.heap.size W wr)) (fun kv _=>n - (intOf kv).toNat)
 case atStart=>exact⟨0,Nat.zero_le _,rfl,aa (fun j h=>absurd h (Nat.not_lt_zero _)),aa (Below.refl _ _)⟩
 case round=>
  obtain⟨K,hK,rfl,HF,HW⟩:=hrel;have c0:=(HW.out.cell (p:=⟨w.heap.size,0,none⟩) hz1).trans (bC H1.out).1;by_cases hkt:K < n
  ·have hkI:(K:Int) < n:=(by omega);obtain⟨g,o,rfl,hfr⟩:=HRd.out w K (Below.refl _ _) hkt;obtain⟨ao,bo,c,cb,hfv,d0,d1,d2,d3,d4⟩:=hfr.val;have hgl:=hfr.1;obtain⟨f,hf⟩:∃f,bh p K=f:=⟨_,rfl⟩;rw [hf] at d0 d1 d2 d3 d4 hfv;have HFv:=aa hfv;have Bw:=aa (ae B0.out HW.out);replace d0:=(Bw.out.cell (p:=⟨g,o+K * 5,none⟩) hgl).trans d0;replace d1:=(Bw.out.cell (p:=⟨g,o+K * 5+1,none⟩) hgl).trans d1;replace d2:=(Bw.out.cell (p:=⟨g,o+K * 5+2,none⟩) hgl).trans d2;replace d3:=(Bw.out.cell (p:=⟨g,o+K * 5+3,none⟩) hgl).trans d3;replace d4:=(Bw.out.cell (p:=⟨g,o+K * 5+4,none⟩) hgl).trans d4;obtain⟨⟨z0,z1,z2,z3,z4⟩,⟨f0,f1,f2,f3,f4⟩,_⟩:=eW ((HW.out.block _ hz2).trans H2.out);clear hfv hfr;by_cases hnm:f.1=nm
   ·have HR:Hid (r=some f):=aa (by rw [HFd.out];exact cX (fun j hj=>if_neg (HF.out j hj)) hkt (by rw [hf,if_pos hnm]));have HE:Hid (Below w.heap.size w (((((wr.setCell ⟨w.heap.size+1,0,none⟩ (.string (bs f.1))).setCell ⟨w.heap.size+1,1,none⟩ (.slice ao f.2.1.length c)).setCell ⟨w.heap.size+1,2,none⟩ (.int .i64 f.2.2.1)).setCell ⟨w.heap.size+1,3,none⟩ (.slice bo f.2.2.2.1.length cb)).setCell ⟨w.heap.size+1,4,none⟩ (.int .i64 f.2.2.2.2))):=aa (by
     have hle:w.heap.size≤w.heap.size+1:=Nat.le_succ _;exact((((((ae B0.out HW.out).setCell (p:=⟨w.heap.size+1,0,none⟩) hle _).setCell (p:=⟨w.heap.size+1,1,none⟩) hle _).setCell (p:=⟨w.heap.size+1,2,none⟩) hle _).setCell (p:=⟨w.heap.size+1,3,none⟩) hle _).setCell (p:=⟨w.heap.size+1,4,none⟩) hle _))
    have hbq:((bs f.1).toList == (bs nm).toList)=true:=(by rw [hnm];exact xh nm);clear hf hnm;go_wp2_with fail
    exact bodyPost_ret (v:= .tuple #[.agg #[.string (bs f.1),.slice ao f.2.1.length c,.int .i64 f.2.2.1,.slice bo f.2.2.2.1.length cb,.int .i64 f.2.2.2.2],.bool true]) (by simp [results,Tryz.results88,go_sem,z0,z1,z2,z3,z4]) rfl ⟨⟨_,by rw [HR.out];rfl,by rw [HR.out];exact HFv.out.below HE.out⟩,HE.out⟩
   ·have hbq:=Io hnm;have HF2:Hid (∀j,j < K+1→¬(bh p j).1=nm):=aa (fun j hj=>by
     by_cases e:j=K
     ·rw [e,hf];exact hnm
     ·exact HF.out j (by omega))
    clear hf hnm;go_wp2_with fail
    go_roundw
    case rel=>exact⟨K+1,by omega,by go_num,HF2,HW⟩
    case measure=>simp [intOf];omega
  ·obtain rfl:K=n:=(by omega);have HR:Hid (r=none):=aa (by rw [HFd.out];exact cd (fun j hj=>if_neg (HF.out j hj)));obtain⟨⟨z0,z1,z2,z3,z4⟩,⟨f0,f1,f2,f3,f4⟩,_⟩:=eW ((HW.out.block _ hz2).trans H2.out);have HE:Hid (Below w.heap.size w (((((wr.setCell ⟨w.heap.size+1,0,none⟩ (.string ⟨#[]⟩)).setCell ⟨w.heap.size+1,1,none⟩ (.slice none 0 0)).setCell ⟨w.heap.size+1,2,none⟩ (.int .i64 0)).setCell ⟨w.heap.size+1,3,none⟩ (.slice none 0 0)).setCell ⟨w.heap.size+1,4,none⟩ (.int .i64 0))):=aa (by
    have hle:w.heap.size≤w.heap.size+1:=Nat.le_succ _;exact((((((ae B0.out HW.out).setCell (p:=⟨w.heap.size+1,0,none⟩) hle _).setCell (p:=⟨w.heap.size+1,1,none⟩) hle _).setCell (p:=⟨w.heap.size+1,2,none⟩) hle _).setCell (p:=⟨w.heap.size+1,3,none⟩) hle _).setCell (p:=⟨w.heap.size+1,4,none⟩) hle _))
   go_wp2_with fail
   exact bodyPost_ret (v:= .tuple #[.agg #[.string ⟨#[]⟩,.slice none 0 0,.int .i64 0,.slice none 0 0,.int .i64 0],.bool false]) (by simp [results,Tryz.results88,go_sem,z0,z1,z2,z3,z4]) rfl ⟨⟨_,by rw [HR.out];rfl,by rw [HR.out];exact DJ _⟩,HE.out⟩
def orT (a b:Nat→Bool) (I:Nat):Nat→Bool:=fun n=>a n || (decide (n < 64 * I) && b n)
theorem Dz (a b:Nat→Bool):orT a b 0=a:=by funext n;simp [orT]
theorem G8 {a b:Nat→Bool} {W n:Nat} (h:n < 64 * W):orT a b W n=orB a b n:=by simp [orT,orB,h]
theorem Az {a b:Nat→Bool} {I j:Nat} (h:j≠I):wd (orT a b I) j=wd (orT a b (I+1)) j:=lV fun i hi=>by
 unfold orT;by_cases q:64 * j+i < 64 * I
 ·rw [decide_eq_true q,decide_eq_true (by omega)]
 ·rw [decide_eq_false q,decide_eq_false (by omega)]
theorem JO (a b:Nat→Bool) (I:Nat):wd (orT a b I) I ||| wd b I=wd (orT a b (I+1)) I:=by
 rw [KF];refine lV fun i hi=> ?_;have e1:decide (64 * I+i < 64 * I)=false:=decide_eq_false (by omega);have e2:decide (64 * I+i < 64 * (I+1))=true:=decide_eq_true (by omega);simp only [orT,orB,e1,e2];simp
theorem Ad {B g c W B2 g2 c2:Nat} {a b:Nat→Bool} {w:World} (h:aN w B g c W a) (h2:aN w B2 g2 c2 W b) (hne:g2≠g) (hW:W≤1000000):
  Calls Tryz.prog 153 #[.slice (some ⟨g,0,none⟩) W c,.slice (some ⟨g2,0,none⟩) W c2] w fun e w'=>e= .returned (.tuple #[])∧aN w' B g c W (orB a b)∧Kf (· =g) w w':=by
 have H0:Hid (aN w B g c W (orT a b 0)):=aa (by rw [Dz];exact h);have H2:=aa h2;clear h h2;go_enter Tryz.func153,Tryz.ntmps153
 go_wp2_with fail
 go_loopw [8] (fun iv wr=>∃I:Nat,I≤W∧iv= .int .i64 I∧Hid (aN wr B g c W (orT a b I))∧Hid (Kf (· =g) w wr)) (fun iv _=>W - (intOf iv).toNat)
 case atStart=>exact⟨0,Nat.zero_le _,rfl,H0,aa (Kf.br (Below.refl _ _))⟩
 case round=>
  clear H0;obtain⟨I,hI,rfl,HS,HK⟩:=hrel;by_cases hit:I < W
  ·have hiI:(I:Int) < W:=(by omega);have c1:=HS.out.cell hit;have f1:=HS.out.frozen I;have c2:=(H2.out.kf HK.out hne).cell hit;have hor:bits .or .u64 (wd (orT a b I) I:Int) (wd b I:Int)=(wd (orT a b (I+1)) I:Int):=(by rw [Ki (yv _ _) (yv _ _),JO]);have HE:Hid (aN (wr.setCell ⟨g,I,none⟩ (.int .u64 (wd (orT a b (I+1)) I:Int))) B g c W (orT a b (I+1))):=aa (HS.out.put fun j _ hj=>Az hj);have HKE:=aa (HK.out.trans (jM (w:=wr) g I (.int .u64 (wd (orT a b (I+1)) I:Int))) fun x hx=> .inl hx);generalize wd (orT a b I) I=x0 at *;generalize wd (orT a b (I+1)) I=x1 at *;generalize wd b I=x2 at *;go_wp2_with fail
   go_roundw
   case rel=>exact⟨I+1,by omega,by go_num,HE,HKE⟩
   case measure=>simp [intOf];omega
  ·obtain rfl:I=W:=(by omega);have HE:Hid (aN wr B g c I (orB a b)):=aa (HS.out.same fun n hn=>G8 hn);go_wp2_with fail
   go_end0
   exact⟨rfl,HE.out,HK.out⟩
def noB:Nat→Bool:=fun _=>false
theorem Ks (j:Nat):wd noB j=0:=Nat.eq_of_testBit_eq fun i=>by rw [jm];simp [noB]
theorem Tryz.Ih:(Tryz.prog.info? 135).map (fun i=>(i.zero,i.size,i.bytes))=some (some (.int .u64 0),1,8):=by kernel_rfl
theorem Tryz.Dc:Tryz.prog.underlying 98=some (.slice 135):=by kernel_rfl
theorem GX (n:Nat):(madeCells (Value.int .u64 0).cells (n * 1)).toList=wds noB n:=by
 show(madeCells #[Value.int .u64 0] (n * 1)).toList=_;rw [toList_madeCells_one,Nat.mul_one];apply List.ext_getElem?;intro j;rw [List.getElem?_replicate];by_cases h:j < n
 ·rw [mS noB h,if_pos h];unfold wdV;rw [Ks];rfl
 ·rw [if_neg h,List.getElem?_eq_none (by rw [df];omega)]
theorem Tryz.Lw (a:Addr) (n c:Nat) (w:World):Sem.run Tryz.prog (binOp BinOp.eql 98 (Value.slice (some a) n c) (Value.slice none 0 0)) w= .ok (.bool false) w:=by kernel_rfl
theorem xx {B g c W:Nat} {b:Nat→Bool} {w:World} (h:aN w B g c W b) (hW:W≤1000000):
  Calls Tryz.prog 152 #[.slice (some ⟨g,0,none⟩) W c] w fun e w'=>∃g' c',e= .returned (.slice (some ⟨g',0,none⟩) W c')∧aN w' w.heap.size g' c' W b∧Below w.heap.size w w':=by
 obtain⟨i0,hi0,hz0,hz1,hz2⟩:=info_parts Tryz.Ih;have hsm:=Tryz.Lw ⟨g,0,none⟩ W c;have b1:=af w (.cells #[] 135);have hcl:∀j u,(wds b W)[j]? =some u→(w.alloc (.cells #[] 135)).cell? ((⟨g,0,none⟩:Addr).add j)=some u:=by
  intro j u hj;have hjW:j < W:=by have:=(List.getElem?_eq_some_iff.1 hj).1;rw [df] at this;exact this
  rw [mS b hjW] at hj;injection hj with hj;subst hj;rw [Addr.add_lit,Nat.zero_add];exact(b1.cell (p:=⟨g,j,none⟩) h.lt.2).trans (h.cell hjW)
 have h1:∀u∈wds b W,u.oneCell'=true:=fun u hu=>by
  obtain⟨j,_,rfl⟩:=List.mem_map.1 hu;rfl
 have HC:=aa hcl;have HO:Hid ((w.alloc (.cells #[] 135)).ownsRow w.heap.size 135 1 (.slice (some ⟨w.heap.size,0,none⟩) 0 0) 0 []):=aa (by
  refine⟨rfl,.inr ⟨w.heap.size,0,#[],rfl,Nat.le_refl _,heap_alloc_new w _,Nat.le_refl _,Nat.zero_le _,rfl,rfl⟩⟩)
 have B1:=aa b1;clear hcl b1 h;go_enter Tryz.func152,Tryz.ntmps152
 go_wp2_with (first | (at_builtin;refine wpList_append_own _ rfl (.tmp 5) (.tmp 6) 98 rfl w.heap.size 135 i0 _ 1 8 Tryz.Dc hi0 hz0 hz1 hz2 rfl (by decide) _ _ _ rfl HO.out ⟨g,0,none⟩ W c (wds b W) rfl (by rw [df,Nat.mul_one]) HC.out h1 (by unfold maxLen;omega) (by omega) (by simp) ?_;intro v2 w2 own2 grow2 hnil2;refine Hid.out ?_) | fail)
 have HW:Hid (∃g' c',v2= .slice (some ⟨g',0,none⟩) W c'∧aN w2 w.heap.size g' c' W b∧Below w.heap.size w w2):=aa (by
  rw [Nat.zero_add,List.nil_append] at own2;rcases own2.2 with ⟨hv,_⟩ | ⟨g',c',cur,hv,_⟩
  ·have e:=(hnil2.1 hv).1;injection e with e
   cases e
  ·subst hv;exact⟨g',c',rfl,own2,Below.grown B1.out grow2 (by simp) (fun k hk=>by cases hk;exact Nat.le_refl _)⟩)
 clear own2 grow2 hnil2;refine aa ?_;go_wp2_with fail
 go_ret;obtain⟨g',c',rfl,h1,h2⟩:=HW.out;exact⟨g',c',rfl,h1,h2⟩
theorem wH {B g c W B2 g2 c2:Nat} {a b:Nat→Bool} {w:World} (h:aN w B g c W a) (h2:aN w B2 g2 c2 W b) (r:Bool) (hr:r=true↔∀n,n < 64 * W→a n=b n) (hW:W≤1000000):
  Calls Tryz.prog 107 #[.slice (some ⟨g,0,none⟩) W c,.slice (some ⟨g2,0,none⟩) W c2] w fun e w'=>e= .returned (.bool r)∧∃n,w'=w.drewN n:=by
 have H1:=aa h;have H2:=aa h2;replace hr:=aa hr;clear h h2;go_enter Tryz.func107,Tryz.ntmps107
 go_wp2_with fail
 go_loopw [13] (fun iv wr=>∃I q:Nat,I≤W∧iv= .int .i64 I∧Hid (∀n,n < 64 * I→a n=b n)∧wr=w.drewN q) (fun iv _=>W - (intOf iv).toNat)
 case atStart=>exact⟨0,0,Nat.zero_le _,rfl,aa (fun n hn=>absurd hn (by omega)),rfl⟩
 case round=>
  obtain⟨I,q,hI,rfl,HS,rfl⟩:=hrel;by_cases hit:I < W
  ·have hiI:(I:Int) < W:=(by omega);have c1:=H1.out.cell hit;have c2:=H2.out.cell hit;have HB:Hid ((wd a I:Int)=(wd b I:Int)↔∀n,64 * I≤n→n < 64 * (I+1)→a n=b n):=aa ⟨fun e n h1 h2=>by
    have:=KR (Int.ofNat.inj e) (n - 64 * I) (by omega);rwa [show 64 * I+(n - 64 * I)=n by omega] at this,fun h=>by rw [lV (b:=a) (c:=b) fun i hi=>h _ (by omega) (by omega)]⟩
   generalize (wd a I:Int)=x0 at *;generalize (wd b I:Int)=x1 at *;by_cases he:x0=x1
   ·have hd:(x0 != x1)=false:=(by simp [he]);have hd2:(x0 == x1)=true:=(by simp [he]);have HN:Hid (∀n,n < 64 * (I+1)→a n=b n):=aa fun n hn=>by
     by_cases hl:n < 64 * I
     ·exact HS.out n hl
     ·exact HB.out.1 he n (by omega) hn
    go_wp2_with fail
    go_quiet (fail)
    go_wp2_with fail
    go_roundw
    case rel=>exact⟨I+1,q+nq,by omega,by go_num,HN,rfl⟩
    case measure=>simp [intOf];omega
   ·have hd:(x0 != x1)=true:=(by simp [he]);have hd2:(x0 == x1)=false:=(by simp [he]);have hrf:r=false:=by
     cases r with
     |false=>rfl
     |true=>exact absurd (HB.out.2 fun n _ hn=>(hr.out.1 rfl) n (by omega)) he
    go_wp2_with fail
    go_quiet (fail)
    go_wp2_with fail
    go_ret;exact⟨by rw [hrf];rfl,q+nq,by simp⟩
  ·obtain rfl:I=W:=(by omega);have hrt:r=true:=hr.out.2 HS.out;go_wp2_with fail
   go_ret;exact⟨by rw [hrt];rfl,_,rfl⟩
end Go.Proofs.YtaiaakklokahjaaGreatDoor
