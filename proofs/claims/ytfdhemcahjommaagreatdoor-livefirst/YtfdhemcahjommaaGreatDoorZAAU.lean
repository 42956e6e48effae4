/- Texts of one chain, joined. -/
import Derived.Test.YtfdhemcahjommaaGreatDoorZAAT
set_option maxHeartbeats 2000000
set_option maxRecDepth 20000
namespace Go.Proofs.YtfdhemcahjommaaGreatDoor
open Go Go.RowKit
open G (Tok Er Ins Fun)
theorem iB.nV {w:World} {x:Ins} {a0 a1 a2 a3 a4 a6 a7:Value} {zo:Option Addr} {n zc:Nat} (h:iB w x (.agg #[a0,a1,a2,a3,a4,.slice zo n zc,a6,a7])):Sl w zo x.2.2.2.2.2.1∧x.2.2.2.2.2.1.length≤maxLen:=by
 obtain⟨ao,to,ca,ct,e,h1,h2,h3,h4,h5,h6⟩:=h;injection e with e;have e1:=congrArg (fun a=>a[5]?) e;simp at e1;obtain⟨rfl,rfl,rfl⟩:=e1;exact⟨h2,Nat.le_trans h5 h6⟩
theorem tA (f:Fun) (k i:Nat) (v:Value) (w:World) (hv:bG w f v) (hF:Ful f) (hM:Mod f) (hk:k < f.2.2.2.1.length) (hi:i < (ah f k).length):
  Calls Tryz.prog 85 #[v,.int .i64 k,.int .i64 i] w fun e w'=>e= .returned (.bool (gQ f k i))∧Below w.heap.size w w':=by
 have HPr:=ae (fun v w hv=>ox f v w hv hF);have HPl:Hid ((aL f).length=f.2.2.2.1.length):=ae (by simp [aL]);have HPk:Hid (∃l,(aL f)[k]? =some l):=ae ⟨_,List.getElem?_eq_getElem (by simp [aL];exact hk)⟩;have HPf:Hid (gQ f k i=((decide (i=0) || decide ((ay f k (i - 1)).1=20)) && decide ((ay f k i).2.2.2.2.2.1.length=((aL f).getD k []).length) && ((aL f).getD k []).all fun b=>aA (ay f k i).2.2.2.2.2.1 b)):=ae rfl;have HPm:Hid (∀l,(aL f)[k]? =some l→l.length≤1000000):=ae (fun l hl=>by
  have hm:=List.mem_of_getElem? hl;unfold aL at hm;obtain⟨b,_,rfl⟩:=List.mem_map.1 hm;unfold bg;rw [List.length_map];exact Nat.le_trans (List.length_filter_le _ _) (by simp;exact hF.1))
 clear hF;obtain⟨lp,cp,lb,cb,rfl,X,b0⟩:=cG hv;have HV:=ae (hv.below b0);have X0:=ae X;have B0:=ae b0;have HRd:Hid (∀w',Below w.heap.size w w'→∃g o ao c g2 o2,lb=some ⟨g,o,none⟩∧w'.cell? ⟨g,o+k,none⟩=some (.slice ao (ah f k).length c)∧ao=some ⟨g2,o2,none⟩∧∀j,j < (ah f k).length→nH w' (ay f k j) g2 (o2+j * 8)):=ae (fun w' b=>by
  obtain⟨g,o,ao,c,h1,_,h3,h4⟩:=df (dF (hv.below b)) hk;obtain⟨g2,o2,h5,_⟩:=ef h4 hi;refine⟨g,o,ao,c,g2,o2,h1,h3,h5,fun j hj=> ?_⟩;obtain⟨g3,o3,h6,h7⟩:=ef h4 hj;rw [h5] at h6;injection h6 with h6;injection h6 with e1 e2;subst e1 e2;exact h7)
 have hkI:(k:Int) < f.2.2.2.1.length:=by omega
 have hiI:(i:Int) < (ah f k).length:=by omega
 have hbn:=hM.blk k;have hN:=hM.1;clear hv X b0;generalize bs f.1=nm at *;generalize f.2.1.length=lps at *;generalize f.2.2.1=rt at *;generalize hlbs:f.2.2.2.1.length=lbs at *;generalize f.2.2.2.2=pl at *;replace hlbs:=ae hlbs;go_enter Tryz.func85,Tryz.ntmps85
 go_upto_region 1 with fail
 show Code.wp _ _ _ _ (w.alloc (.cells #[.string nm,.slice lp lps cp,.int .i64 rt,.slice lb lbs cb,.int .i64 pl] 28));generalize w.alloc (.cells #[.string nm,.slice lp lps cp,.int .i64 rt,.slice lb lbs cb,.int .i64 pl] 28)=W at *;obtain⟨x0,x1,x2,x3,x4⟩:_∧_∧_∧_∧_:=⟨X0.out.2 0 _ rfl,X0.out.2 1 _ rfl,X0.out.2 2 _ rfl,X0.out.2 3 _ rfl,X0.out.2 4 _ rfl⟩;obtain⟨g,o,ao,c,g2,o2,rfl,cu,rfl,hins⟩:=HRd.out W B0.out;obtain⟨xo,zo,xc,zc,hxv,e0,e1,e2,e3,e4,e5,e6,e7⟩:=(hins i hi).val;have HXv:=ae hxv;obtain⟨x,hx⟩:∃x,ay f k i=x:=⟨_,rfl⟩;rw [hx] at e0 e1 e2 e3 e4 e5 e6 e7 HXv;rw [hx] at HPf;clear hx;obtain⟨lf,hlf⟩:=HPk.out;have HLf:=ae hlf;have hlm:=HPm.out lf hlf;have hgd:(aL f).getD k []=lf:=by rw [List.getD_eq_getElem?_getD,hlf];rfl
 rw [hgd] at HPf;clear hlf hgd HPm HPk;have HPv:Hid (∀j,i=j+1→nH W (ay f k j) g2 (o2+j * 8)):=ae (fun j hj=>hins j (by omega));go_upto_region 2 with fail
 show Code.wp _ _ _ _ (W.alloc (.cells #[.int .i64 x.1,.int .i64 x.2.1,.int .i64 x.2.2.1,.int .i64 x.2.2.2.1,.slice xo x.2.2.2.2.1.length xc,.slice zo x.2.2.2.2.2.1.length zc,.string (bs x.2.2.2.2.2.2.1),.int .i64 x.2.2.2.2.2.2.2] 48));have b3:=ag W (.cells #[.int .i64 x.1,.int .i64 x.2.1,.int .i64 x.2.2.1,.int .i64 x.2.2.2.1,.slice xo x.2.2.2.2.1.length xc,.slice zo x.2.2.2.2.2.1.length zc,.string (bs x.2.2.2.2.2.2.1),.int .i64 x.2.2.2.2.2.2.2] 48);have Y0:=ae (L5.Box.new W [.int .i64 x.1,.int .i64 x.2.1,.int .i64 x.2.2.1,.int .i64 x.2.2.2.1,.slice xo x.2.2.2.2.1.length xc,.slice zo x.2.2.2.2.2.1.length zc,.string (bs x.2.2.2.2.2.2.1),.int .i64 x.2.2.2.2.2.2.2] 48);replace Y0:Hid (L5.Box (W.alloc (.cells #[.int .i64 x.1,.int .i64 x.2.1,.int .i64 x.2.2.1,.int .i64 x.2.2.2.1,.slice xo x.2.2.2.2.1.length xc,.slice zo x.2.2.2.2.2.1.length zc,.string (bs x.2.2.2.2.2.2.1),.int .i64 x.2.2.2.2.2.2.2] 48)) W.heap.size [.int .i64 x.1,.int .i64 x.2.1,.int .i64 x.2.2.1,.int .i64 x.2.2.2.1,.slice xo x.2.2.2.2.1.length xc,.slice zo x.2.2.2.2.2.1.length zc,.string (bs x.2.2.2.2.2.2.1),.int .i64 x.2.2.2.2.2.2.2]):=Y0;have HV3:=ae (HV.out.below b3);have HXv3:=ae (HXv.out.below b3);have X3:=ae (X0.out.below b3);have B3:=ae (af B0.out b3);clear e0 e1 e2 e3 e4 e5 e6 e7 hins cu x0 x1 x2 x3 x4 b3 HV HXv X0 hxv;generalize W.alloc (.cells #[.int .i64 x.1,.int .i64 x.2.1,.int .i64 x.2.2.1,.int .i64 x.2.2.2.1,.slice xo x.2.2.2.2.1.length xc,.slice zo x.2.2.2.2.2.1.length zc,.string (bs x.2.2.2.2.2.2.1),.int .i64 x.2.2.2.2.2.2.2] 48)=w3 at *;generalize W.heap.size=q3 at *;obtain⟨x0,x1,x2,x3,x4⟩:_∧_∧_∧_∧_:=⟨X3.out.2 0 _ rfl,X3.out.2 1 _ rfl,X3.out.2 2 _ rfl,X3.out.2 3 _ rfl,X3.out.2 4 _ rfl⟩;obtain⟨y0,y1,y2,y3,y4,y5,y6,y7⟩:_∧_∧_∧_∧_∧_∧_∧_:=⟨Y0.out.2 0 _ rfl,Y0.out.2 1 _ rfl,Y0.out.2 2 _ rfl,Y0.out.2 3 _ rfl,Y0.out.2 4 _ rfl,Y0.out.2 5 _ rfl,Y0.out.2 6 _ rfl,Y0.out.2 7 _ rfl⟩;obtain⟨g',o',ao',c',g2',o2',hlb',cu,hao,hins⟩:=HRd.out w3 B3.out;injection hlb' with hlb';injection hlb' with hg' ho';subst hg' ho' hao;have hxn:x.2.2.2.2.2.1.length≤maxLen:=HXv3.out.nV.2;unfold maxLen at hxn;by_cases hi0:i=0
 ·have HFl:Hid ((decide (i=0) || decide ((ay f k (i - 1)).1=20))=true):=ae (by simp [hi0]);have hd0:decide (0 < i)=false:=decide_eq_false (by omega);have hiz:¬(0:Int) < (i:Int):=by omega
  clear hins;have HC:=ae (HPr.out _ w3 HV3.out);go_wp2_with fail
  refine HC.out.mono ?_;rintro e w4 ⟨u,rfl,b4,hr⟩;obtain⟨ro,rc,rfl,hrr,_,_⟩:=hr;rcases hrr with he | ⟨rb,r0,rfl,hrb,hrc⟩
  ·have:=HLf.out;rw [he] at this;simp at this
  obtain⟨uu,cuu,hu⟩:=hrc k lf HLf.out;obtain⟨fo,fc,rfl,hfs,_,_⟩:=hu;have hkp:(k:Int) < (aL f).length:=by have:=HPl.out;omega
  have Y4:=ae (Y0.out.below b4);have HXv4:=ae (HXv3.out.below b4);have B4:=ae (af B3.out b4);have HFs:=ae hfs;clear x0 x1 x2 x3 x4 y0 y1 y2 y3 y4 y5 y6 y7 hrc hfs b4 HC;obtain⟨y0,y1,y2,y3,y4,y5,y6,y7⟩:_∧_∧_∧_∧_∧_∧_∧_:=⟨Y4.out.2 0 _ rfl,Y4.out.2 1 _ rfl,Y4.out.2 2 _ rfl,Y4.out.2 3 _ rfl,Y4.out.2 4 _ rfl,Y4.out.2 5 _ rfl,Y4.out.2 6 _ rfl,Y4.out.2 7 _ rfl⟩;by_cases hlen:x.2.2.2.2.2.1.length=lf.length
  ·have hlb:((x.2.2.2.2.2.1.length:Int) == (lf.length:Int))=true:=beq_iff_eq.2 (by omega);have HPg:Hid (gQ f k i=lf.all fun b=>aA x.2.2.2.2.2.1 b):=ae (by rw [HPf.out,decide_eq_true hlen,HFl.out];simp);clear hlen;go_wp2_with fail
   clear hlb y0 y1 y2 y3 y4 y5 y6 y7 cuu;go_loopw [9] (fun nv wr=>∃n:Nat,n≤lf.length∧nv= .int .i64 n∧Hid (∀(j:Nat) (b:Int),j < n→lf[j]? =some b→aA x.2.2.2.2.2.1 b=true)∧Hid (Below w4.heap.size w4 wr)) (fun nv _=>lf.length - (intOf nv).toNat)
   case atStart=>exact⟨0,Nat.zero_le _,rfl,ae (fun j b h=>absurd h (Nat.not_lt_zero _)),ae (Below.refl _ _)⟩
   case round=>
    obtain⟨n,hn,rfl,HA,HW⟩:=hrel;by_cases hnt:n < lf.length
    ·have hnI:(n:Int) < lf.length:=(by omega);obtain⟨m,hm⟩:∃m,lf[n]? =some m:=⟨_,List.getElem?_eq_getElem hnt⟩;rcases HFs.out with he | ⟨fb,f0,rfl,hfb,hfc⟩
     ·rw [he] at hnt;simp at hnt
     have hB2:=fun z=>af HW.out (L5.aE wr z);have c1:=fun z=>((hB2 z).cell (p:=⟨fb,f0+n,none⟩) hfb).trans (hfc n m hm);have c5:=fun z=>(Y4.out.below (hB2 z)).2 5 _ rfl;have HH:=ae (fun z=>cE x.2.2.2.2.2.1 m zo zc (L5.bz wr z) (HXv4.out.below (hB2 z)).nV.1 HXv4.out.nV.2);replace hB2:=ae hB2;have HM:=ae hm;clear hfc hm
     cases hh:aA x.2.2.2.2.2.1 m with
     |true=>
      rw [hh] at HH;have HA2:Hid (∀(j:Nat) (b:Int),j < n+1→lf[j]? =some b→aA x.2.2.2.2.2.1 b=true):=ae (fun j b hj hb=>by
       by_cases e:j=n
       ·subst e;rw [HM.out] at hb;injection hb with hb;rw [←hb];exact hh
       ·exact HA.out j b (by omega) hb)
      clear hh;go_wp2_with fail
      refine L5.aM (by kernel_rfl) (by kernel_rfl) ?_;repeat (go_big_quiet_step ((go_at_call 13;exact L5.bp (HH.out _))))
      refine wpQuiet_nil ?_;rintro _ ⟨z,rfl⟩;go_wp2_with fail
      go_roundw
      case rel=>exact⟨n+1,by omega,by go_num,HA2,ae (hB2.out z)⟩
      case measure=>simp [intOf];omega
     |false=>
      rw [hh] at HH;have HR:Hid (false=gQ f k i):=ae (by
       rw [HPg.out];symm
       rw [Bool.eq_false_iff];intro hall;have:=List.all_eq_true.1 hall m (List.mem_of_getElem? HM.out);rw [hh] at this
       cases this)
      clear hh;go_wp2_with fail
      refine L5.aM (by kernel_rfl) (by kernel_rfl) ?_;repeat (go_big_quiet_step ((go_at_call 13;exact L5.bp (HH.out _))))
      refine wpQuiet_nil ?_;rintro _ ⟨z,rfl⟩;have HE:=ae (af B4.out (hB2.out z));go_wp2_with fail
      go_ret;exact⟨L5.ax HR.out,HE.out⟩
    ·obtain rfl:n=lf.length:=(by omega);have HR:Hid (true=gQ f k i):=ae (by
      rw [HPg.out];symm
      refine List.all_eq_true.2 fun b hb=> ?_;obtain⟨j,hj⟩:=List.mem_iff_getElem?.1 hb;exact HA.out j b (List.getElem?_eq_some_iff.1 hj).1 hj)
     have HE:=ae (af B4.out HW.out);go_wp2_with fail
     go_ret;exact⟨L5.ax HR.out,HE.out⟩
  ·have hlb:((x.2.2.2.2.2.1.length:Int) == (lf.length:Int))=false:=beq_eq_false_iff_ne.2 (by omega);have HR:Hid (false=gQ f k i):=ae (by rw [HPf.out,decide_eq_false hlen];simp);go_wp2_with fail
   go_ret;exact⟨L5.ax HR.out,B4.out⟩
 ·obtain⟨j,hj⟩:∃j,i=j+1:=⟨i - 1,by omega⟩;have hd0:decide (0 < i)=true:=decide_eq_true (by omega);have hiz:(0:Int) < (i:Int):=by omega
  have hji:(i:Int) - 1=(j:Int):=by omega
  have hjI:(j:Int) < (ah f k).length:=by omega
  obtain⟨_,_,_,_,_,u0,_,_,_,_,_,_,_⟩:=(hins j (by omega)).val;have hjj:i - 1=j:=by omega
  rw [hjj] at HPf;obtain⟨pv,hpv⟩:∃pv,(ay f k j).1=pv:=⟨_,rfl⟩;rw [hpv] at u0 HPf;clear hins hpv hjj hj;by_cases hp:pv=20
  ·have hpb:(pv == 20)=true:=beq_iff_eq.2 hp;have HFl:Hid ((decide (i=0) || decide (pv=20))=true):=ae (by simp [hp]);clear hp;have HC:=ae (HPr.out _ w3 HV3.out);go_wp2_with fail
   refine HC.out.mono ?_;rintro e w4 ⟨u,rfl,b4,hr⟩;obtain⟨ro,rc,rfl,hrr,_,_⟩:=hr;rcases hrr with he | ⟨rb,r0,rfl,hrb,hrc⟩
   ·have:=HLf.out;rw [he] at this;simp at this
   obtain⟨uu,cuu,hu⟩:=hrc k lf HLf.out;obtain⟨fo,fc,rfl,hfs,_,_⟩:=hu;have hkp:(k:Int) < (aL f).length:=(by have:=HPl.out;omega);have Y4:=ae (Y0.out.below b4);have HXv4:=ae (HXv3.out.below b4);have B4:=ae (af B3.out b4);have HFs:=ae hfs;clear x0 x1 x2 x3 x4 y0 y1 y2 y3 y4 y5 y6 y7 hrc hfs b4 HC;obtain⟨y0,y1,y2,y3,y4,y5,y6,y7⟩:_∧_∧_∧_∧_∧_∧_∧_:=⟨Y4.out.2 0 _ rfl,Y4.out.2 1 _ rfl,Y4.out.2 2 _ rfl,Y4.out.2 3 _ rfl,Y4.out.2 4 _ rfl,Y4.out.2 5 _ rfl,Y4.out.2 6 _ rfl,Y4.out.2 7 _ rfl⟩;by_cases hlen:x.2.2.2.2.2.1.length=lf.length
   ·have hlb:((x.2.2.2.2.2.1.length:Int) == (lf.length:Int))=true:=beq_iff_eq.2 (by omega);have HPg:Hid (gQ f k i=lf.all fun b=>aA x.2.2.2.2.2.1 b):=ae (by rw [HPf.out,decide_eq_true hlen,HFl.out];simp);clear hlen;go_wp2_with fail
    clear hlb y0 y1 y2 y3 y4 y5 y6 y7 cuu;go_loopw [9] (fun nv wr=>∃n:Nat,n≤lf.length∧nv= .int .i64 n∧Hid (∀(j:Nat) (b:Int),j < n→lf[j]? =some b→aA x.2.2.2.2.2.1 b=true)∧Hid (Below w4.heap.size w4 wr)) (fun nv _=>lf.length - (intOf nv).toNat)
    case atStart=>exact⟨0,Nat.zero_le _,rfl,ae (fun j b h=>absurd h (Nat.not_lt_zero _)),ae (Below.refl _ _)⟩
    case round=>
     obtain⟨n,hn,rfl,HA,HW⟩:=hrel;by_cases hnt:n < lf.length
     ·have hnI:(n:Int) < lf.length:=(by omega);obtain⟨m,hm⟩:∃m,lf[n]? =some m:=⟨_,List.getElem?_eq_getElem hnt⟩;rcases HFs.out with he | ⟨fb,f0,rfl,hfb,hfc⟩
      ·rw [he] at hnt;simp at hnt
      have hB2:=fun z=>af HW.out (L5.aE wr z);have c1:=fun z=>((hB2 z).cell (p:=⟨fb,f0+n,none⟩) hfb).trans (hfc n m hm);have c5:=fun z=>(Y4.out.below (hB2 z)).2 5 _ rfl;have HH:=ae (fun z=>cE x.2.2.2.2.2.1 m zo zc (L5.bz wr z) (HXv4.out.below (hB2 z)).nV.1 HXv4.out.nV.2);replace hB2:=ae hB2;have HM:=ae hm;clear hfc hm
      cases hh:aA x.2.2.2.2.2.1 m with
      |true=>
       rw [hh] at HH;have HA2:Hid (∀(j:Nat) (b:Int),j < n+1→lf[j]? =some b→aA x.2.2.2.2.2.1 b=true):=ae (fun j b hj hb=>by
        by_cases e:j=n
        ·subst e;rw [HM.out] at hb;injection hb with hb;rw [←hb];exact hh
        ·exact HA.out j b (by omega) hb)
       clear hh;go_wp2_with fail
       refine L5.aM (by kernel_rfl) (by kernel_rfl) ?_;repeat (go_big_quiet_step ((go_at_call 13;exact L5.bp (HH.out _))))
       refine wpQuiet_nil ?_;rintro _ ⟨z,rfl⟩;go_wp2_with fail
       go_roundw
       case rel=>exact⟨n+1,by omega,by go_num,HA2,ae (hB2.out z)⟩
       case measure=>simp [intOf];omega
      |false=>
       rw [hh] at HH;have HR:Hid (false=gQ f k i):=ae (by
        rw [HPg.out];symm
        rw [Bool.eq_false_iff];intro hall;have:=List.all_eq_true.1 hall m (List.mem_of_getElem? HM.out);rw [hh] at this
        cases this)
       clear hh;go_wp2_with fail
       refine L5.aM (by kernel_rfl) (by kernel_rfl) ?_;repeat (go_big_quiet_step ((go_at_call 13;exact L5.bp (HH.out _))))
       refine wpQuiet_nil ?_;rintro _ ⟨z,rfl⟩;have HE:=ae (af B4.out (hB2.out z));go_wp2_with fail
       go_ret;exact⟨L5.ax HR.out,HE.out⟩
     ·obtain rfl:n=lf.length:=(by omega);have HR:Hid (true=gQ f k i):=ae (by
       rw [HPg.out];symm
       refine List.all_eq_true.2 fun b hb=> ?_;obtain⟨j,hj⟩:=List.mem_iff_getElem?.1 hb;exact HA.out j b (List.getElem?_eq_some_iff.1 hj).1 hj)
      have HE:=ae (af B4.out HW.out);go_wp2_with fail
      go_ret;exact⟨L5.ax HR.out,HE.out⟩
   ·have hlb:((x.2.2.2.2.2.1.length:Int) == (lf.length:Int))=false:=beq_eq_false_iff_ne.2 (by omega);have HR:Hid (false=gQ f k i):=ae (by rw [HPf.out,decide_eq_false hlen];simp);go_wp2_with fail
    go_ret;exact⟨L5.ax HR.out,B4.out⟩
  ·have hpb:(pv == 20)=false:=beq_eq_false_iff_ne.2 hp;have HR:Hid (false=gQ f k i):=ae (by rw [HPf.out];simp [hp,hi0]);clear hp;go_wp2_with fail
   go_ret;exact⟨L5.ax HR.out,B3.out⟩
theorem xb (f:Fun) (k i:Nat) (src:Bool) (v:Value) (w:World) (hv:bG w f v) (hF:Ful f) (hM:Mod f) (hk:k < f.2.2.2.1.length) (hi:i < (ah f k).length):
  Calls Tryz.prog 57 #[v,.int .i64 k,.int .i64 i,.bool src] w fun e w'=>e= .returned (.int .i64 (dR f k i src))∧Below w.heap.size w w':=by
 have hfl:∀(a b c d:Value) (w:World),(Instr.field 126 (.agg #[a,b,c,d]) 3).run Tryz.prog w= .ok d w:=fun _ _ _ _ _=>rfl;have HVc:Hid (dR f k i src=if(decide (mkX (ay f k i)≠0) && (ei f (ay f k i).2.1 k i).2.2.2)=true then 5 else if(decide ((ay f k i).1=20) && !gQ f k i)=true then 11 else if(src && eZ (ay f k i))=true then 2 else 0):=ae rfl;have HMk:Hid (mkX (ay f k i)=L5.cd (ay f k i).1 (ay f k i).2.2.2.1):=ae rfl;obtain⟨lp,cp,lb,cb,rfl,X,b0⟩:=cG hv;have HV:=ae (hv.below b0);have X0:=ae X;have B0:=ae b0;have HRd:Hid (∀w',Below w.heap.size w w'→∃g o ao c g2 o2,lb=some ⟨g,o,none⟩∧w'.cell? ⟨g,o+k,none⟩=some (.slice ao (ah f k).length c)∧ao=some ⟨g2,o2,none⟩∧∀j,j < (ah f k).length→nH w' (ay f k j) g2 (o2+j * 8)):=ae (fun w' b=>by
  obtain⟨g,o,ao,c,h1,_,h3,h4⟩:=df (dF (hv.below b)) hk;obtain⟨g2,o2,h5,_⟩:=ef h4 hi;refine⟨g,o,ao,c,g2,o2,h1,h3,h5,fun j hj=> ?_⟩;obtain⟨g3,o3,h6,h7⟩:=ef h4 hj;rw [h5] at h6;injection h6 with h6;injection h6 with e1 e2;subst e1 e2;exact h7)
 have hkI:(k:Int) < f.2.2.2.1.length:=by omega
 have hiI:(i:Int) < (ah f k).length:=by omega
 have hbn:=hM.blk k;have hN:=hM.1;clear hv X b0;generalize bs f.1=nm at *;generalize f.2.1.length=lps at *;generalize f.2.2.1=rt at *;generalize hlbs:f.2.2.2.1.length=lbs at *;generalize f.2.2.2.2=pl at *;replace hlbs:=ae hlbs;go_enter Tryz.func57,Tryz.ntmps57
 go_upto_region 1 with fail
 show Code.wp _ _ _ _ (w.alloc (.cells #[.string nm,.slice lp lps cp,.int .i64 rt,.slice lb lbs cb,.int .i64 pl] 28));generalize w.alloc (.cells #[.string nm,.slice lp lps cp,.int .i64 rt,.slice lb lbs cb,.int .i64 pl] 28)=W at *;obtain⟨x0,x1,x2,x3,x4⟩:_∧_∧_∧_∧_:=⟨X0.out.2 0 _ rfl,X0.out.2 1 _ rfl,X0.out.2 2 _ rfl,X0.out.2 3 _ rfl,X0.out.2 4 _ rfl⟩;obtain⟨g,o,ao,c,g2,o2,rfl,cu,rfl,hins⟩:=HRd.out W B0.out;obtain⟨xo,zo,xc,zc,hxv,e0,e1,e2,e3,e4,e5,e6,e7⟩:=(hins i hi).val;have HXv:=ae hxv;obtain⟨x,hx⟩:∃x,ay f k i=x:=⟨_,rfl⟩;rw [hx] at e0 e1 e2 e3 e4 e5 e6 e7 HXv;rw [hx] at HVc HMk;clear hx;go_upto_region 2 with fail
 show Code.wp _ _ _ _ (W.alloc (.cells #[.int .i64 x.1,.int .i64 x.2.1,.int .i64 x.2.2.1,.int .i64 x.2.2.2.1,.slice xo x.2.2.2.2.1.length xc,.slice zo x.2.2.2.2.2.1.length zc,.string (bs x.2.2.2.2.2.2.1),.int .i64 x.2.2.2.2.2.2.2] 48));have b3:=ag W (.cells #[.int .i64 x.1,.int .i64 x.2.1,.int .i64 x.2.2.1,.int .i64 x.2.2.2.1,.slice xo x.2.2.2.2.1.length xc,.slice zo x.2.2.2.2.2.1.length zc,.string (bs x.2.2.2.2.2.2.1),.int .i64 x.2.2.2.2.2.2.2] 48);have Y0:=ae (L5.Box.new W [.int .i64 x.1,.int .i64 x.2.1,.int .i64 x.2.2.1,.int .i64 x.2.2.2.1,.slice xo x.2.2.2.2.1.length xc,.slice zo x.2.2.2.2.2.1.length zc,.string (bs x.2.2.2.2.2.2.1),.int .i64 x.2.2.2.2.2.2.2] 48);replace Y0:Hid (L5.Box (W.alloc (.cells #[.int .i64 x.1,.int .i64 x.2.1,.int .i64 x.2.2.1,.int .i64 x.2.2.2.1,.slice xo x.2.2.2.2.1.length xc,.slice zo x.2.2.2.2.2.1.length zc,.string (bs x.2.2.2.2.2.2.1),.int .i64 x.2.2.2.2.2.2.2] 48)) W.heap.size [.int .i64 x.1,.int .i64 x.2.1,.int .i64 x.2.2.1,.int .i64 x.2.2.2.1,.slice xo x.2.2.2.2.1.length xc,.slice zo x.2.2.2.2.2.1.length zc,.string (bs x.2.2.2.2.2.2.1),.int .i64 x.2.2.2.2.2.2.2]):=Y0;have HV3:=ae (HV.out.below b3);have HXv3:=ae (HXv.out.below b3);have X3:=ae (X0.out.below b3);have B3:=ae (af B0.out b3);clear e0 e1 e2 e3 e4 e5 e6 e7 hins cu x0 x1 x2 x3 x4 b3 HV HXv X0 hxv;generalize W.alloc (.cells #[.int .i64 x.1,.int .i64 x.2.1,.int .i64 x.2.2.1,.int .i64 x.2.2.2.1,.slice xo x.2.2.2.2.1.length xc,.slice zo x.2.2.2.2.2.1.length zc,.string (bs x.2.2.2.2.2.2.1),.int .i64 x.2.2.2.2.2.2.2] 48)=w3 at *;generalize W.heap.size=q3 at *;obtain⟨x0,x1,x2,x3,x4⟩:_∧_∧_∧_∧_:=⟨X3.out.2 0 _ rfl,X3.out.2 1 _ rfl,X3.out.2 2 _ rfl,X3.out.2 3 _ rfl,X3.out.2 4 _ rfl⟩;obtain⟨y0,y1,y2,y3,y4,y5,y6,y7⟩:_∧_∧_∧_∧_∧_∧_∧_:=⟨Y0.out.2 0 _ rfl,Y0.out.2 1 _ rfl,Y0.out.2 2 _ rfl,Y0.out.2 3 _ rfl,Y0.out.2 4 _ rfl,Y0.out.2 5 _ rfl,Y0.out.2 6 _ rfl,Y0.out.2 7 _ rfl⟩;have HM:=ae (L5.cO x.1 x.2.2.2.1 (.int .i64 x.2.1) (.int .i64 x.2.2.1) (.slice xo x.2.2.2.2.1.length xc) (.slice zo x.2.2.2.2.2.1.length zc) (.string (bs x.2.2.2.2.2.2.1)) (.int .i64 x.2.2.2.2.2.2.2) w3);rw [←HMk.out] at HM;by_cases hmz:mkX x=0
 ·have HF1:Hid ((decide (mkX x≠0) && (ei f x.2.1 k i).2.2.2)=false):=ae (by simp [hmz]);rw [hmz] at HM;clear hmz;go_wp2_with fail
  refine HM.out.mono ?_;rintro e w4 ⟨rfl,b4⟩;have B4:=ae b4;clear HM b4 x0 x1 x2 x3 x4 y0 y1 y2 y3 y4 y5 y6 y7;have XX:=ae (X3.out.below B4.out);have YY:=ae (Y0.out.below B4.out);obtain⟨x0,x1,x2,x3,x4⟩:_∧_∧_∧_∧_:=⟨XX.out.2 0 _ rfl,XX.out.2 1 _ rfl,XX.out.2 2 _ rfl,XX.out.2 3 _ rfl,XX.out.2 4 _ rfl⟩;obtain⟨y0,y1,y2,y3,y4,y5,y6,y7⟩:_∧_∧_∧_∧_∧_∧_∧_:=⟨YY.out.2 0 _ rfl,YY.out.2 1 _ rfl,YY.out.2 2 _ rfl,YY.out.2 3 _ rfl,YY.out.2 4 _ rfl,YY.out.2 5 _ rfl,YY.out.2 6 _ rfl,YY.out.2 7 _ rfl⟩;go_upto_region 4 with fail
  by_cases hp:x.1=20
  ·have hpb:(x.1 == 20)=true:=beq_iff_eq.2 hp;have HPh:=ae (tA f k i _ w4 (HV3.out.below B4.out) hF hM (by have:=hlbs.out;omega) hi)
   cases hph:gQ f k i with
   |true=>
    rw [hph] at HPh;have HP2:Hid ((decide (x.1=20) && !true)=false):=ae (by simp);clear hp;go_wp2_with fail
    refine HPh.out.mono ?_;rintro e w7 ⟨rfl,b7⟩;have B7:=ae (af B4.out b7);clear HPh b7 x0 x1 x2 x3 x4 y0 y1 y2 y3 y4 y5 y6 y7;have XX:=ae (X3.out.below B7.out);have YY:=ae (Y0.out.below B7.out);obtain⟨x0,x1,x2,x3,x4⟩:_∧_∧_∧_∧_:=⟨XX.out.2 0 _ rfl,XX.out.2 1 _ rfl,XX.out.2 2 _ rfl,XX.out.2 3 _ rfl,XX.out.2 4 _ rfl⟩;obtain⟨y0,y1,y2,y3,y4,y5,y6,y7⟩:_∧_∧_∧_∧_∧_∧_∧_:=⟨YY.out.2 0 _ rfl,YY.out.2 1 _ rfl,YY.out.2 2 _ rfl,YY.out.2 3 _ rfl,YY.out.2 4 _ rfl,YY.out.2 5 _ rfl,YY.out.2 6 _ rfl,YY.out.2 7 _ rfl⟩;go_upto_region 6 with fail
    rw [hph] at HVc
    cases hs:src with
    |false=>
     have HR:Hid (0=dR f k i src):=ae (by rw [HVc.out,HF1.out,HP2.out,hs];simp);have HE:=ae (af B3.out B7.out);go_wp2_with fail
     go_ret;exact⟨bH HR.out,HE.out⟩
    |true=>
     have HLt:=ae (iX x _ w7 (HXv3.out.below B7.out))
     cases hl:eZ x with
     |true=>
      rw [hl] at HLt;have HR:Hid (2=dR f k i src):=ae (by rw [HVc.out,HF1.out,HP2.out,hs,hl];simp);go_wp2_with fail
      refine HLt.out.mono ?_;rintro e w9 ⟨rfl,b9⟩;have HE:=ae (af B3.out (af B7.out b9));clear HLt b9 x0 x1 x2 x3 x4 y0 y1 y2 y3 y4 y5 y6 y7;go_wp2_with fail
      go_ret;exact⟨bH HR.out,HE.out⟩
     |false=>
      rw [hl] at HLt;have HR:Hid (0=dR f k i src):=ae (by rw [HVc.out,HF1.out,HP2.out,hs,hl];simp);go_wp2_with fail
      refine HLt.out.mono ?_;rintro e w9 ⟨rfl,b9⟩;have HE:=ae (af B3.out (af B7.out b9));clear HLt b9 x0 x1 x2 x3 x4 y0 y1 y2 y3 y4 y5 y6 y7;go_wp2_with fail
      go_ret;exact⟨bH HR.out,HE.out⟩
   |false=>
    rw [hph] at HPh;have HR:Hid (11=dR f k i src):=ae (by rw [HVc.out,HF1.out,hph];simp [hp]);clear hp;go_wp2_with fail
    refine HPh.out.mono ?_;rintro e w7 ⟨rfl,b7⟩;have HE:=ae (af B3.out (af B4.out b7));clear HPh b7 x0 x1 x2 x3 x4 y0 y1 y2 y3 y4 y5 y6 y7;go_wp2_with fail
    go_ret;exact⟨bH HR.out,HE.out⟩
  ·have hpb:(x.1 == 20)=false:=beq_eq_false_iff_ne.2 hp;have HP2:Hid ((decide (x.1=20) && !gQ f k i)=false):=ae (by simp [hp]);clear hp;go_upto_region 6 with fail
   cases hs:src with
   |false=>
    have HR:Hid (0=dR f k i src):=ae (by rw [HVc.out,HF1.out,HP2.out,hs];simp);have HE:=ae (af B3.out B4.out);go_wp2_with fail
    go_ret;exact⟨bH HR.out,HE.out⟩
   |true=>
    have HLt:=ae (iX x _ w4 (HXv3.out.below B4.out))
    cases hl:eZ x with
    |true=>
     rw [hl] at HLt;have HR:Hid (2=dR f k i src):=ae (by rw [HVc.out,HF1.out,HP2.out,hs,hl];simp);go_wp2_with fail
     refine HLt.out.mono ?_;rintro e w9 ⟨rfl,b9⟩;have HE:=ae (af B3.out (af B4.out b9));clear HLt b9 x0 x1 x2 x3 x4 y0 y1 y2 y3 y4 y5 y6 y7;go_wp2_with fail
     go_ret;exact⟨bH HR.out,HE.out⟩
    |false=>
     rw [hl] at HLt;have HR:Hid (0=dR f k i src):=ae (by rw [HVc.out,HF1.out,HP2.out,hs,hl];simp);go_wp2_with fail
     refine HLt.out.mono ?_;rintro e w9 ⟨rfl,b9⟩;have HE:=ae (af B3.out (af B4.out b9));clear HLt b9 x0 x1 x2 x3 x4 y0 y1 y2 y3 y4 y5 y6 y7;go_wp2_with fail
     go_ret;exact⟨bH HR.out,HE.out⟩
 ·have hmb:(mkX x == 0)=false:=beq_eq_false_iff_ne.2 hmz;have HD1:Hid (decide (mkX x≠0)=true):=ae (decide_eq_true hmz);have HMd:=ae (fun w' (b:Below w3.heap.size w3 w')=>qi f x.2.1 k i _ w' (HV3.out.below b) hM (by have:=hlbs.out;omega) (by omega));obtain⟨m,hm⟩:∃m,ei f x.2.1 k i=m:=⟨_,rfl⟩;rw [hm] at HMd HVc;unfold IJ at HMd;clear hm;generalize mkX x=mk at *;go_wp2_with fail
  refine HM.out.mono ?_;rintro e w4 ⟨rfl,b4⟩;have B4:=ae b4;have HMd4:=ae (HMd.out w4 b4);clear HM HMd b4 x0 x1 x2 x3 x4 y0 y1 y2 y3 y4 y5 y6 y7;have XX:=ae (X3.out.below B4.out);have YY:=ae (Y0.out.below B4.out);obtain⟨x0,x1,x2,x3,x4⟩:_∧_∧_∧_∧_:=⟨XX.out.2 0 _ rfl,XX.out.2 1 _ rfl,XX.out.2 2 _ rfl,XX.out.2 3 _ rfl,XX.out.2 4 _ rfl⟩;obtain⟨y0,y1,y2,y3,y4,y5,y6,y7⟩:_∧_∧_∧_∧_∧_∧_∧_:=⟨YY.out.2 0 _ rfl,YY.out.2 1 _ rfl,YY.out.2 2 _ rfl,YY.out.2 3 _ rfl,YY.out.2 4 _ rfl,YY.out.2 5 _ rfl,YY.out.2 6 _ rfl,YY.out.2 7 _ rfl⟩;go_wp2_with fail
  refine HMd4.out.mono ?_;rintro e w5 ⟨rfl,b5⟩;have B5:=ae (af B4.out b5);clear HMd4 b5 x0 x1 x2 x3 x4 y0 y1 y2 y3 y4 y5 y6 y7;have XZ:=ae (X3.out.below B5.out);have YZ:=ae (Y0.out.below B5.out);obtain⟨x0,x1,x2,x3,x4⟩:_∧_∧_∧_∧_:=⟨XZ.out.2 0 _ rfl,XZ.out.2 1 _ rfl,XZ.out.2 2 _ rfl,XZ.out.2 3 _ rfl,XZ.out.2 4 _ rfl⟩;obtain⟨y0,y1,y2,y3,y4,y5,y6,y7⟩:_∧_∧_∧_∧_∧_∧_∧_:=⟨YZ.out.2 0 _ rfl,YZ.out.2 1 _ rfl,YZ.out.2 2 _ rfl,YZ.out.2 3 _ rfl,YZ.out.2 4 _ rfl,YZ.out.2 5 _ rfl,YZ.out.2 6 _ rfl,YZ.out.2 7 _ rfl⟩
  cases hms:m.2.2.2 with
  |true=>
   have HR:Hid (5=dR f k i src):=ae (by rw [HVc.out,HD1.out,hms];simp);have HE:=ae (af B3.out B5.out);go_wp2_with fail
   go_ret;exact⟨bH HR.out,HE.out⟩
  |false=>
   have HF1:Hid ((decide (mk≠0) && m.2.2.2)=false):=ae (by rw [hms];simp);go_upto_region 4 with fail
   by_cases hp:x.1=20
   ·have hpb:(x.1 == 20)=true:=beq_iff_eq.2 hp;have HPh:=ae (tA f k i _ w5 (HV3.out.below B5.out) hF hM (by have:=hlbs.out;omega) hi)
    cases hph:gQ f k i with
    |true=>
     rw [hph] at HPh;have HP2:Hid ((decide (x.1=20) && !true)=false):=ae (by simp);clear hp;go_wp2_with fail
     refine HPh.out.mono ?_;rintro e w7 ⟨rfl,b7⟩;have B7:=ae (af B5.out b7);clear HPh b7 x0 x1 x2 x3 x4 y0 y1 y2 y3 y4 y5 y6 y7;have XX:=ae (X3.out.below B7.out);have YY:=ae (Y0.out.below B7.out);obtain⟨x0,x1,x2,x3,x4⟩:_∧_∧_∧_∧_:=⟨XX.out.2 0 _ rfl,XX.out.2 1 _ rfl,XX.out.2 2 _ rfl,XX.out.2 3 _ rfl,XX.out.2 4 _ rfl⟩;obtain⟨y0,y1,y2,y3,y4,y5,y6,y7⟩:_∧_∧_∧_∧_∧_∧_∧_:=⟨YY.out.2 0 _ rfl,YY.out.2 1 _ rfl,YY.out.2 2 _ rfl,YY.out.2 3 _ rfl,YY.out.2 4 _ rfl,YY.out.2 5 _ rfl,YY.out.2 6 _ rfl,YY.out.2 7 _ rfl⟩;go_upto_region 6 with fail
     rw [hph] at HVc
     cases hs:src with
     |false=>
      have HR:Hid (0=dR f k i src):=ae (by rw [HVc.out,HF1.out,HP2.out,hs];simp);have HE:=ae (af B3.out B7.out);go_wp2_with fail
      go_ret;exact⟨bH HR.out,HE.out⟩
     |true=>
      have HLt:=ae (iX x _ w7 (HXv3.out.below B7.out))
      cases hl:eZ x with
      |true=>
       rw [hl] at HLt;have HR:Hid (2=dR f k i src):=ae (by rw [HVc.out,HF1.out,HP2.out,hs,hl];simp);go_wp2_with fail
       refine HLt.out.mono ?_;rintro e w9 ⟨rfl,b9⟩;have HE:=ae (af B3.out (af B7.out b9));clear HLt b9 x0 x1 x2 x3 x4 y0 y1 y2 y3 y4 y5 y6 y7;go_wp2_with fail
       go_ret;exact⟨bH HR.out,HE.out⟩
      |false=>
       rw [hl] at HLt;have HR:Hid (0=dR f k i src):=ae (by rw [HVc.out,HF1.out,HP2.out,hs,hl];simp);go_wp2_with fail
       refine HLt.out.mono ?_;rintro e w9 ⟨rfl,b9⟩;have HE:=ae (af B3.out (af B7.out b9));clear HLt b9 x0 x1 x2 x3 x4 y0 y1 y2 y3 y4 y5 y6 y7;go_wp2_with fail
       go_ret;exact⟨bH HR.out,HE.out⟩
    |false=>
     rw [hph] at HPh;have HR:Hid (11=dR f k i src):=ae (by rw [HVc.out,HF1.out,hph];simp [hp]);clear hp;go_wp2_with fail
     refine HPh.out.mono ?_;rintro e w7 ⟨rfl,b7⟩;have HE:=ae (af B3.out (af B5.out b7));clear HPh b7 x0 x1 x2 x3 x4 y0 y1 y2 y3 y4 y5 y6 y7;go_wp2_with fail
     go_ret;exact⟨bH HR.out,HE.out⟩
   ·have hpb:(x.1 == 20)=false:=beq_eq_false_iff_ne.2 hp;have HP2:Hid ((decide (x.1=20) && !gQ f k i)=false):=ae (by simp [hp]);clear hp;go_upto_region 6 with fail
    cases hs:src with
    |false=>
     have HR:Hid (0=dR f k i src):=ae (by rw [HVc.out,HF1.out,HP2.out,hs];simp);have HE:=ae (af B3.out B5.out);go_wp2_with fail
     go_ret;exact⟨bH HR.out,HE.out⟩
    |true=>
     have HLt:=ae (iX x _ w5 (HXv3.out.below B5.out))
     cases hl:eZ x with
     |true=>
      rw [hl] at HLt;have HR:Hid (2=dR f k i src):=ae (by rw [HVc.out,HF1.out,HP2.out,hs,hl];simp);go_wp2_with fail
      refine HLt.out.mono ?_;rintro e w9 ⟨rfl,b9⟩;have HE:=ae (af B3.out (af B5.out b9));clear HLt b9 x0 x1 x2 x3 x4 y0 y1 y2 y3 y4 y5 y6 y7;go_wp2_with fail
      go_ret;exact⟨bH HR.out,HE.out⟩
     |false=>
      rw [hl] at HLt;have HR:Hid (0=dR f k i src):=ae (by rw [HVc.out,HF1.out,HP2.out,hs,hl];simp);go_wp2_with fail
      refine HLt.out.mono ?_;rintro e w9 ⟨rfl,b9⟩;have HE:=ae (af B3.out (af B5.out b9));clear HLt b9 x0 x1 x2 x3 x4 y0 y1 y2 y3 y4 y5 y6 y7;go_wp2_with fail
      go_ret;exact⟨bH HR.out,HE.out⟩
theorem gC {w:World} {p:List Fun} {po:Option Addr} {n pc i:Nat} (h:eg w p (.slice po n pc)) (hi:i < p.length):∃g o,po=some ⟨g,o,none⟩∧om w (bh p i) g (o+i * 5):=by
 obtain⟨po',pc',e,_,_,h3⟩:=h;injection e with e1 e2 e3;subst e1;rcases h3 with h3 | ⟨g,o,rfl,h4⟩
 ·rw [h3] at hi;simp at hi
 ·exact⟨g,o,rfl,h4 i _ (kb hi)⟩
theorem bW {w:World} {b t:Nat} {a0 a1 a2 a3 a4:Value} (h:w.heap[b]? =some (.cells #[a0,a1,a2,a3,a4] t (0,0))):(w.cell? ⟨b,0,none⟩=some a0∧w.cell? ⟨b,1,none⟩=some a1∧w.cell? ⟨b,2,none⟩=some a2∧w.cell? ⟨b,3,none⟩=some a3∧w.cell? ⟨b,4,none⟩=some a4)∧(w.frozen? ⟨b,0,none⟩=false∧w.frozen? ⟨b,1,none⟩=false∧w.frozen? ⟨b,2,none⟩=false∧w.frozen? ⟨b,3,none⟩=false∧w.frozen? ⟨b,4,none⟩=false)∧b < w.heap.size:=by
 refine⟨⟨?_,?_,?_,?_,?_⟩,⟨?_,?_,?_,?_,?_⟩,(Array.getElem?_eq_some_iff.1 h).1⟩ <;> simp [World.cell?,World.frozen?,h]
theorem Hz {a b:List UInt8} (h:¬a=b):((bs a).toList == (bs b).toList)=false:=by rw [ByteArray.toList_eq,ByteArray.toList_eq,eM,eM];simpa using h
theorem Du (w:World):bG w js (.agg #[.string ⟨#[]⟩,.slice none 0 0,.int .i64 0,.slice none 0 0,.int .i64 0]):=
 ⟨_,_,rfl,⟨none,0,rfl,.inl rfl,Nat.le_refl _,by unfold maxLen;omega⟩,⟨none,0,rfl,Nat.le_refl _,by unfold maxLen;omega,.inl rfl⟩⟩
theorem bF {w:World} {b t:Nat} {a0:Value} (h:w.heap[b]? =some (.cells #[a0] t (0,0))):w.cell? ⟨b,0,none⟩=some a0∧b < w.heap.size:=⟨by simp [World.cell?,h],(Array.getElem?_eq_some_iff.1 h).1⟩
theorem mJ (p:List Fun) (nm:List UInt8) (po:Option Addr) (pc:Nat) (w:World) (hp:eg w p (.slice po p.length pc)) (hl:p.length≤1000000):
  Calls Tryz.prog 54 #[.agg #[.slice po p.length pc],.string (bs nm)] w fun e w'=>(∃fv,e= .returned (.tuple #[fv,.bool (findF p nm).isSome])∧bG w' ((findF p nm).getD js) fv)∧Below w.heap.size w w':=by
 have HFd:Hid (findF p nm=cJ (fun i=>if(bh p i).1=nm then some (bh p i)else none) p.length):=ae rfl;obtain⟨r,hr⟩:∃r,findF p nm=r:=⟨_,rfl⟩;rw [hr] at HFd ⊢;clear hr;have HP:=ae hp;clear hp;have HRd:Hid (∀w' i,Below w.heap.size w w'→i < p.length→∃g o,po=some ⟨g,o,none⟩∧om w' (bh p i) g (o+i * 5)):=ae (fun w' i b hi=>gC (HP.out.below b) hi);clear HP;generalize hn:p.length=n at *;replace hn:=ae hn;have b1:=ag w (.cells #[.slice po n pc] 24);have h1:=heap_alloc_new w (.cells #[.slice po n pc] 24);have b2:=ag (w.alloc (.cells #[.slice po n pc] 24)) (.cells #[.string ⟨#[]⟩,.slice none 0 0,.int .i64 0,.slice none 0 0,.int .i64 0] 28);have hs1:(w.alloc (.cells #[.slice po n pc] 24)).heap.size=w.heap.size+1:=by simp
 have h2:=heap_alloc_new (w.alloc (.cells #[.slice po n pc] 24)) (.cells #[.string ⟨#[]⟩,.slice none 0 0,.int .i64 0,.slice none 0 0,.int .i64 0] 28);rw [hs1] at h2;have H1:=ae ((b2.block w.heap.size (by simp)).trans h1);have H2:=ae h2;have B0:=ae (af b1 b2);clear b1 h1 b2 hs1 h2;go_enter Tryz.func54,Tryz.ntmps54
 go_upto_region 1 with fail
 show Code.wp _ _ _ _ ((w.alloc (.cells #[.slice po n pc] 24)).alloc (.cells #[.string ⟨#[]⟩,.slice none 0 0,.int .i64 0,.slice none 0 0,.int .i64 0] 28));generalize (w.alloc (.cells #[.slice po n pc] 24)).alloc (.cells #[.string ⟨#[]⟩,.slice none 0 0,.int .i64 0,.slice none 0 0,.int .i64 0] 28)=W at *;have hz2:=(bW H2.out).2.2;have hz1:=(bF H1.out).2;go_wp2_with fail
 go_loopw [6] (fun kv wr=>∃K:Nat,K≤n∧kv= .int .i64 K∧Hid (∀j,j < K→¬(bh p j).1=nm)∧Hid (Below W.heap.size W wr)) (fun kv _=>n - (intOf kv).toNat)
 case atStart=>exact⟨0,Nat.zero_le _,rfl,ae (fun j h=>absurd h (Nat.not_lt_zero _)),ae (Below.refl _ _)⟩
 case round=>
  obtain⟨K,hK,rfl,HF,HW⟩:=hrel;have c0:=(HW.out.cell (p:=⟨w.heap.size,0,none⟩) hz1).trans (bF H1.out).1;by_cases hkt:K < n
  ·have hkI:(K:Int) < n:=(by omega);obtain⟨g,o,rfl,hfr⟩:=HRd.out w K (Below.refl _ _) hkt;obtain⟨ao,bo,c,cb,hfv,d0,d1,d2,d3,d4⟩:=hfr.val;have hgl:=hfr.1;obtain⟨f,hf⟩:∃f,bh p K=f:=⟨_,rfl⟩;rw [hf] at d0 d1 d2 d3 d4 hfv;have HFv:=ae hfv;have Bw:=ae (af B0.out HW.out);replace d0:=(Bw.out.cell (p:=⟨g,o+K * 5,none⟩) hgl).trans d0;replace d1:=(Bw.out.cell (p:=⟨g,o+K * 5+1,none⟩) hgl).trans d1;replace d2:=(Bw.out.cell (p:=⟨g,o+K * 5+2,none⟩) hgl).trans d2;replace d3:=(Bw.out.cell (p:=⟨g,o+K * 5+3,none⟩) hgl).trans d3;replace d4:=(Bw.out.cell (p:=⟨g,o+K * 5+4,none⟩) hgl).trans d4;obtain⟨⟨z0,z1,z2,z3,z4⟩,⟨f0,f1,f2,f3,f4⟩,_⟩:=bW ((HW.out.block _ hz2).trans H2.out);clear hfv hfr;by_cases hnm:f.1=nm
   ·have HR:Hid (r=some f):=ae (by rw [HFd.out];exact dk (fun j hj=>if_neg (HF.out j hj)) hkt (by rw [hf,if_pos hnm]));have HE:Hid (Below w.heap.size w (((((wr.setCell ⟨w.heap.size+1,0,none⟩ (.string (bs f.1))).setCell ⟨w.heap.size+1,1,none⟩ (.slice ao f.2.1.length c)).setCell ⟨w.heap.size+1,2,none⟩ (.int .i64 f.2.2.1)).setCell ⟨w.heap.size+1,3,none⟩ (.slice bo f.2.2.2.1.length cb)).setCell ⟨w.heap.size+1,4,none⟩ (.int .i64 f.2.2.2.2))):=ae (by
     have hle:w.heap.size≤w.heap.size+1:=Nat.le_succ _;exact((((((af B0.out HW.out).setCell (p:=⟨w.heap.size+1,0,none⟩) hle _).setCell (p:=⟨w.heap.size+1,1,none⟩) hle _).setCell (p:=⟨w.heap.size+1,2,none⟩) hle _).setCell (p:=⟨w.heap.size+1,3,none⟩) hle _).setCell (p:=⟨w.heap.size+1,4,none⟩) hle _))
    have hbq:((bs f.1).toList == (bs nm).toList)=true:=(by rw [hnm];exact xe nm);clear hf hnm;go_wp2_with fail
    exact bodyPost_ret (v:= .tuple #[.agg #[.string (bs f.1),.slice ao f.2.1.length c,.int .i64 f.2.2.1,.slice bo f.2.2.2.1.length cb,.int .i64 f.2.2.2.2],.bool true]) (by simp [results,Tryz.results54,go_sem,z0,z1,z2,z3,z4]) rfl ⟨⟨_,by rw [HR.out];rfl,by rw [HR.out];exact HFv.out.below HE.out⟩,HE.out⟩
   ·have hbq:=Hz hnm;have HF2:Hid (∀j,j < K+1→¬(bh p j).1=nm):=ae (fun j hj=>by
     by_cases e:j=K
     ·rw [e,hf];exact hnm
     ·exact HF.out j (by omega))
    clear hf hnm;go_wp2_with fail
    go_roundw
    case rel=>exact⟨K+1,by omega,by go_num,HF2,HW⟩
    case measure=>simp [intOf];omega
  ·obtain rfl:K=n:=(by omega);have HR:Hid (r=none):=ae (by rw [HFd.out];exact cz (fun j hj=>if_neg (HF.out j hj)));obtain⟨⟨z0,z1,z2,z3,z4⟩,⟨f0,f1,f2,f3,f4⟩,_⟩:=bW ((HW.out.block _ hz2).trans H2.out);have HE:Hid (Below w.heap.size w (((((wr.setCell ⟨w.heap.size+1,0,none⟩ (.string ⟨#[]⟩)).setCell ⟨w.heap.size+1,1,none⟩ (.slice none 0 0)).setCell ⟨w.heap.size+1,2,none⟩ (.int .i64 0)).setCell ⟨w.heap.size+1,3,none⟩ (.slice none 0 0)).setCell ⟨w.heap.size+1,4,none⟩ (.int .i64 0))):=ae (by
    have hle:w.heap.size≤w.heap.size+1:=Nat.le_succ _;exact((((((af B0.out HW.out).setCell (p:=⟨w.heap.size+1,0,none⟩) hle _).setCell (p:=⟨w.heap.size+1,1,none⟩) hle _).setCell (p:=⟨w.heap.size+1,2,none⟩) hle _).setCell (p:=⟨w.heap.size+1,3,none⟩) hle _).setCell (p:=⟨w.heap.size+1,4,none⟩) hle _))
   go_wp2_with fail
   exact bodyPost_ret (v:= .tuple #[.agg #[.string ⟨#[]⟩,.slice none 0 0,.int .i64 0,.slice none 0 0,.int .i64 0],.bool false]) (by simp [results,Tryz.results54,go_sem,z0,z1,z2,z3,z4]) rfl ⟨⟨_,by rw [HR.out];rfl,by rw [HR.out];exact Du _⟩,HE.out⟩
def orT (a b:Nat→Bool) (I:Nat):Nat→Bool:=fun n=>a n || (decide (n < 64 * I) && b n)
theorem Dj (a b:Nat→Bool):orT a b 0=a:=by funext n;simp [orT]
theorem FD {a b:Nat→Bool} {W n:Nat} (h:n < 64 * W):orT a b W n=orB a b n:=by simp [orT,orB,h]
theorem zX {a b:Nat→Bool} {I j:Nat} (h:j≠I):wd (orT a b I) j=wd (orT a b (I+1)) j:=mf fun i hi=>by
 unfold orT;by_cases q:64 * j+i < 64 * I
 ·rw [decide_eq_true q,decide_eq_true (by omega)]
 ·rw [decide_eq_false q,decide_eq_false (by omega)]
theorem IM (a b:Nat→Bool) (I:Nat):wd (orT a b I) I ||| wd b I=wd (orT a b (I+1)) I:=by
 rw [KH];refine mf fun i hi=> ?_;have e1:decide (64 * I+i < 64 * I)=false:=decide_eq_false (by omega);have e2:decide (64 * I+i < 64 * (I+1))=true:=decide_eq_true (by omega);simp only [orT,orB,e1,e2];simp
theorem zn {B g c W B2 g2 c2:Nat} {a b:Nat→Bool} {w:World} (h:aP w B g c W a) (h2:aP w B2 g2 c2 W b) (hne:g2≠g) (hW:W≤1000000):
  Calls Tryz.prog 104 #[.slice (some ⟨g,0,none⟩) W c,.slice (some ⟨g2,0,none⟩) W c2] w fun e w'=>e= .returned (.tuple #[])∧aP w' B g c W (orB a b)∧Kf (· =g) w w':=by
 have H0:Hid (aP w B g c W (orT a b 0)):=ae (by rw [Dj];exact h);have H2:=ae h2;clear h h2;go_enter Tryz.func104,Tryz.ntmps104
 go_wp2_with fail
 go_loopw [8] (fun iv wr=>∃I:Nat,I≤W∧iv= .int .i64 I∧Hid (aP wr B g c W (orT a b I))∧Hid (Kf (· =g) w wr)) (fun iv _=>W - (intOf iv).toNat)
 case atStart=>exact⟨0,Nat.zero_le _,rfl,H0,ae (Kf.bC (Below.refl _ _))⟩
 case round=>
  clear H0;obtain⟨I,hI,rfl,HS,HK⟩:=hrel;by_cases hit:I < W
  ·have hiI:(I:Int) < W:=(by omega);have c1:=HS.out.cell hit;have f1:=HS.out.frozen I;have c2:=(H2.out.kf HK.out hne).cell hit;have hor:bits .or .u64 (wd (orT a b I) I:Int) (wd b I:Int)=(wd (orT a b (I+1)) I:Int):=(by rw [Ki (yt _ _) (yt _ _),IM]);have HE:Hid (aP (wr.setCell ⟨g,I,none⟩ (.int .u64 (wd (orT a b (I+1)) I:Int))) B g c W (orT a b (I+1))):=ae (HS.out.put fun j _ hj=>zX hj);have HKE:=ae (HK.out.trans (jK (w:=wr) g I (.int .u64 (wd (orT a b (I+1)) I:Int))) fun x hx=> .inl hx);generalize wd (orT a b I) I=x0 at *;generalize wd (orT a b (I+1)) I=x1 at *;generalize wd b I=x2 at *;go_wp2_with fail
   go_roundw
   case rel=>exact⟨I+1,by omega,by go_num,HE,HKE⟩
   case measure=>simp [intOf];omega
  ·obtain rfl:I=W:=(by omega);have HE:Hid (aP wr B g c I (orB a b)):=ae (HS.out.same fun n hn=>FD hn);go_wp2_with fail
   go_end0
   exact⟨rfl,HE.out,HK.out⟩
def noB:Nat→Bool:=fun _=>false
theorem KY (j:Nat):wd noB j=0:=Nat.eq_of_testBit_eq fun i=>by rw [jY];simp [noB]
theorem Tryz.Ia:(Tryz.prog.info? 90).map (fun i=>(i.zero,i.size,i.bytes))=some (some (.int .u64 0),1,8):=by kernel_rfl
theorem Tryz.Dt:Tryz.prog.underlying 72=some (.slice 90):=by kernel_rfl
theorem Hc (n:Nat):(madeCells (Value.int .u64 0).cells (n * 1)).toList=wds noB n:=by
 show(madeCells #[Value.int .u64 0] (n * 1)).toList=_;rw [toList_madeCells_one,Nat.mul_one];apply List.ext_getElem?;intro j;rw [List.getElem?_replicate];by_cases h:j < n
 ·rw [mV noB h,if_pos h];unfold wdV;rw [KY];rfl
 ·rw [if_neg h,List.getElem?_eq_none (by rw [dw];omega)]
theorem Tryz.Lg (a:Addr) (n c:Nat) (w:World):Sem.run Tryz.prog (binOp BinOp.eql 72 (Value.slice (some a) n c) (Value.slice none 0 0)) w= .ok (.bool false) w:=by kernel_rfl
theorem wV {B g c W:Nat} {b:Nat→Bool} {w:World} (h:aP w B g c W b) (hW:W≤1000000):
  Calls Tryz.prog 103 #[.slice (some ⟨g,0,none⟩) W c] w fun e w'=>∃g' c',e= .returned (.slice (some ⟨g',0,none⟩) W c')∧aP w' w.heap.size g' c' W b∧Below w.heap.size w w':=by
 obtain⟨i0,hi0,hz0,hz1,hz2⟩:=info_parts Tryz.Ia;have hsm:=Tryz.Lg ⟨g,0,none⟩ W c;have b1:=ag w (.cells #[] 90);have hcl:∀j u,(wds b W)[j]? =some u→(w.alloc (.cells #[] 90)).cell? ((⟨g,0,none⟩:Addr).add j)=some u:=by
  intro j u hj;have hjW:j < W:=by have:=(List.getElem?_eq_some_iff.1 hj).1;rw [dw] at this;exact this
  rw [mV b hjW] at hj;injection hj with hj;subst hj;rw [Addr.add_lit,Nat.zero_add];exact(b1.cell (p:=⟨g,j,none⟩) h.lt.2).trans (h.cell hjW)
 have h1:∀u∈wds b W,u.oneCell'=true:=fun u hu=>by
  obtain⟨j,_,rfl⟩:=List.mem_map.1 hu;rfl
 have HC:=ae hcl;have HO:Hid ((w.alloc (.cells #[] 90)).ownsRow w.heap.size 90 1 (.slice (some ⟨w.heap.size,0,none⟩) 0 0) 0 []):=ae (by
  refine⟨rfl,.inr ⟨w.heap.size,0,#[],rfl,Nat.le_refl _,heap_alloc_new w _,Nat.le_refl _,Nat.zero_le _,rfl,rfl⟩⟩)
 have B1:=ae b1;clear hcl b1 h;go_enter Tryz.func103,Tryz.ntmps103
 go_wp2_with (first | (at_builtin;refine wpList_append_own _ rfl (.tmp 5) (.tmp 6) 72 rfl w.heap.size 90 i0 _ 1 8 Tryz.Dt hi0 hz0 hz1 hz2 rfl (by decide) _ _ _ rfl HO.out ⟨g,0,none⟩ W c (wds b W) rfl (by rw [dw,Nat.mul_one]) HC.out h1 (by unfold maxLen;omega) (by omega) (by simp) ?_;intro v2 w2 own2 grow2 hnil2;refine Hid.out ?_) | fail)
 have HW:Hid (∃g' c',v2= .slice (some ⟨g',0,none⟩) W c'∧aP w2 w.heap.size g' c' W b∧Below w.heap.size w w2):=ae (by
  rw [Nat.zero_add,List.nil_append] at own2;rcases own2.2 with ⟨hv,_⟩ | ⟨g',c',cur,hv,_⟩
  ·have e:=(hnil2.1 hv).1;injection e with e
   cases e
  ·subst hv;exact⟨g',c',rfl,own2,Below.grown B1.out grow2 (by simp) (fun k hk=>by cases hk;exact Nat.le_refl _)⟩)
 clear own2 grow2 hnil2;refine ae ?_;go_wp2_with fail
 go_ret;obtain⟨g',c',rfl,h1,h2⟩:=HW.out;exact⟨g',c',rfl,h1,h2⟩
theorem vL {B g c W B2 g2 c2:Nat} {a b:Nat→Bool} {w:World} (h:aP w B g c W a) (h2:aP w B2 g2 c2 W b) (r:Bool) (hr:r=true↔∀n,n < 64 * W→a n=b n) (hW:W≤1000000):
  Calls Tryz.prog 74 #[.slice (some ⟨g,0,none⟩) W c,.slice (some ⟨g2,0,none⟩) W c2] w fun e w'=>e= .returned (.bool r)∧∃n,w'=w.drewN n:=by
 have H1:=ae h;have H2:=ae h2;replace hr:=ae hr;clear h h2;go_enter Tryz.func74,Tryz.ntmps74
 go_wp2_with fail
 go_loopw [13] (fun iv wr=>∃I q:Nat,I≤W∧iv= .int .i64 I∧Hid (∀n,n < 64 * I→a n=b n)∧wr=w.drewN q) (fun iv _=>W - (intOf iv).toNat)
 case atStart=>exact⟨0,0,Nat.zero_le _,rfl,ae (fun n hn=>absurd hn (by omega)),rfl⟩
 case round=>
  obtain⟨I,q,hI,rfl,HS,rfl⟩:=hrel;by_cases hit:I < W
  ·have hiI:(I:Int) < W:=(by omega);have c1:=H1.out.cell hit;have c2:=H2.out.cell hit;have HB:Hid ((wd a I:Int)=(wd b I:Int)↔∀n,64 * I≤n→n < 64 * (I+1)→a n=b n):=ae ⟨fun e n h1 h2=>by
    have:=KS (Int.ofNat.inj e) (n - 64 * I) (by omega);rwa [show 64 * I+(n - 64 * I)=n by omega] at this,fun h=>by rw [mf (b:=a) (c:=b) fun i hi=>h _ (by omega) (by omega)]⟩
   generalize (wd a I:Int)=x0 at *;generalize (wd b I:Int)=x1 at *;by_cases he:x0=x1
   ·have hd:(x0 != x1)=false:=(by simp [he]);have hd2:(x0 == x1)=true:=(by simp [he]);have HN:Hid (∀n,n < 64 * (I+1)→a n=b n):=ae fun n hn=>by
     by_cases hl:n < 64 * I
     ·exact HS.out n hl
     ·exact HB.out.1 he n (by omega) hn
    go_wp2_with fail
    go_quiet (fail)
    go_wp2_with fail
    go_roundw
    case rel=>exact⟨I+1,q+nq,by omega,by go_num,HN,rfl⟩
    case measure=>simp [intOf];omega
   ·have hd:(x0 != x1)=true:=(by simp [he]);have hd2:(x0 == x1)=false:=(by simp [he]);have hrf:r=false:=by
     cases r with
     |false=>rfl
     |true=>exact absurd (HB.out.2 fun n _ hn=>(hr.out.1 rfl) n (by omega)) he
    go_wp2_with fail
    go_quiet (fail)
    go_wp2_with fail
    go_ret;exact⟨by rw [hrf];rfl,q+nq,by simp⟩
  ·obtain rfl:I=W:=(by omega);have hrt:r=true:=hr.out.2 HS.out;go_wp2_with fail
   go_ret;exact⟨by rw [hrt];rfl,_,rfl⟩
end Go.Proofs.YtfdhemcahjommaaGreatDoor
