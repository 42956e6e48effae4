/- Texts of one chain, joined. -/
import Derived.Test.YtljkgcfnoegibaaGreatDoorWcAS
import Derived.Test.YtljkgcfnoegibaaGreatDoorWcAY
import Derived.BigQuiet
set_option maxHeartbeats 2000000
set_option maxRecDepth 20000
namespace Go.Proofs.YtljkgcfnoegibaaGreatDoor
open Go Go.RowKit
open G (Tok Er Ins Fun)
theorem InsV.to_sl {w:World} {x:Ins} {a0 a1 a2 a3 a4 a6 a7:Value} {zo:Option Addr} {n zc:Nat} (h:InsV w x (.agg #[a0,a1,a2,a3,a4,.slice zo n zc,a6,a7])):Sl w zo x.2.2.2.2.2.1∧x.2.2.2.2.2.1.length≤maxLen:=by
 obtain⟨ao,to,ca,ct,e,h1,h2,h3,h4,h5,h6⟩:=h
 injection e with e
 have e1:=congrArg (fun a=>a[5]?) e
 simp at e1
 obtain⟨rfl,rfl,rfl⟩:=e1
 exact⟨h2,Nat.le_trans h5 h6⟩
theorem rphi_any (f:Fun) (k i:Nat) (v:Value) (w:World) (hv:FunV w f v) (hF:Ful f) (hM:Mod f) (hk:k < f.2.2.2.1.length) (hi:i < (blkN f k).length):
  Calls Tryz.prog 79 #[v,.int .i64 k,.int .i64 i] w fun e w'=>e= .returned (.bool (phiF f k i))∧Below w.heap.size w w':=by
 have HPr:=hide (fun v w hv=>rpreds_any f v w hv hF)
 have HPl:Hid ((predsF f).length=f.2.2.2.1.length):=hide (by simp [predsF])
 have HPk:Hid (∃l,(predsF f)[k]? =some l):=hide ⟨_,List.getElem?_eq_getElem (by simp [predsF];exact hk)⟩
 have HPf:Hid (phiF f k i=((decide (i=0) || decide ((insN f k (i - 1)).1=20)) && decide ((insN f k i).2.2.2.2.2.1.length=((predsF f).getD k []).length) && ((predsF f).getD k []).all fun b=>hasL (insN f k i).2.2.2.2.2.1 b)):=hide rfl
 have HPm:Hid (∀l,(predsF f)[k]? =some l→l.length≤1000000):=hide (fun l hl=>by
  have hm:=List.mem_of_getElem? hl
  unfold predsF at hm
  obtain⟨b,_,rfl⟩:=List.mem_map.1 hm
  unfold predTo
  rw [List.length_map]
  exact Nat.le_trans (List.length_filter_le _ _) (by simp;exact hF.1))
 clear hF
 obtain⟨lp,cp,lb,cb,rfl,X,b0⟩:=fun_box hv
 have HV:=hide (hv.below b0)
 have X0:=hide X
 have B0:=hide b0
 have HRd:Hid (∀w',Below w.heap.size w w'→∃g o ao c g2 o2,lb=some ⟨g,o,none⟩∧w'.cell? ⟨g,o+k,none⟩=some (.slice ao (blkN f k).length c)∧ao=some ⟨g2,o2,none⟩∧∀j,j < (blkN f k).length→InsR w' (insN f k j) g2 (o2+j * 8)):=hide (fun w' b=>by
  obtain⟨g,o,ao,c,h1,_,h3,h4⟩:=blks_row (fun_blks (hv.below b)) hk
  obtain⟨g2,o2,h5,_⟩:=blk_ins h4 hi
  refine⟨g,o,ao,c,g2,o2,h1,h3,h5,fun j hj=> ?_⟩
  obtain⟨g3,o3,h6,h7⟩:=blk_ins h4 hj
  rw [h5] at h6
  injection h6 with h6
  injection h6 with e1 e2
  subst e1 e2
  exact h7)
 have hkI:(k:Int) < f.2.2.2.1.length:=by omega
 have hiI:(i:Int) < (blkN f k).length:=by omega
 have hbn:=hM.blk k
 have hN:=hM.1
 clear hv X b0
 generalize bs f.1=nm at *
 generalize f.2.1.length=lps at *
 generalize f.2.2.1=rt at *
 generalize hlbs:f.2.2.2.1.length=lbs at *
 generalize f.2.2.2.2=pl at *
 replace hlbs:=hide hlbs
 go_enter Tryz.func79,Tryz.ntmps79
 go_upto_region 1 with fail
 show Code.wp _ _ _ _ (w.alloc (.cells #[.string nm,.slice lp lps cp,.int .i64 rt,.slice lb lbs cb,.int .i64 pl] 36))
 generalize w.alloc (.cells #[.string nm,.slice lp lps cp,.int .i64 rt,.slice lb lbs cb,.int .i64 pl] 36)=W at *
 obtain⟨x0,x1,x2,x3,x4⟩:_∧_∧_∧_∧_:=⟨X0.out.2 0 _ rfl,X0.out.2 1 _ rfl,X0.out.2 2 _ rfl,X0.out.2 3 _ rfl,X0.out.2 4 _ rfl⟩
 obtain⟨g,o,ao,c,g2,o2,rfl,cu,rfl,hins⟩:=HRd.out W B0.out
 obtain⟨xo,zo,xc,zc,hxv,e0,e1,e2,e3,e4,e5,e6,e7⟩:=(hins i hi).val
 have HXv:=hide hxv
 obtain⟨x,hx⟩:∃x,insN f k i=x:=⟨_,rfl⟩
 rw [hx] at e0 e1 e2 e3 e4 e5 e6 e7 HXv
 rw [hx] at HPf
 clear hx
 obtain⟨lf,hlf⟩:=HPk.out
 have HLf:=hide hlf
 have hlm:=HPm.out lf hlf
 have hgd:(predsF f).getD k []=lf:=by rw [List.getD_eq_getElem?_getD,hlf];rfl
 rw [hgd] at HPf
 clear hlf hgd HPm HPk
 have HPv:Hid (∀j,i=j+1→InsR W (insN f k j) g2 (o2+j * 8)):=hide (fun j hj=>hins j (by omega))
 go_upto_region 2 with fail
 show Code.wp _ _ _ _ (W.alloc (.cells #[.int .i64 x.1,.int .i64 x.2.1,.int .i64 x.2.2.1,.int .i64 x.2.2.2.1,.slice xo x.2.2.2.2.1.length xc,.slice zo x.2.2.2.2.2.1.length zc,.string (bs x.2.2.2.2.2.2.1),.int .i64 x.2.2.2.2.2.2.2] 47))
 have b3:=below_box W (.cells #[.int .i64 x.1,.int .i64 x.2.1,.int .i64 x.2.2.1,.int .i64 x.2.2.2.1,.slice xo x.2.2.2.2.1.length xc,.slice zo x.2.2.2.2.2.1.length zc,.string (bs x.2.2.2.2.2.2.1),.int .i64 x.2.2.2.2.2.2.2] 47)
 have Y0:=hide (L5.Box.new W [.int .i64 x.1,.int .i64 x.2.1,.int .i64 x.2.2.1,.int .i64 x.2.2.2.1,.slice xo x.2.2.2.2.1.length xc,.slice zo x.2.2.2.2.2.1.length zc,.string (bs x.2.2.2.2.2.2.1),.int .i64 x.2.2.2.2.2.2.2] 47)
 replace Y0:Hid (L5.Box (W.alloc (.cells #[.int .i64 x.1,.int .i64 x.2.1,.int .i64 x.2.2.1,.int .i64 x.2.2.2.1,.slice xo x.2.2.2.2.1.length xc,.slice zo x.2.2.2.2.2.1.length zc,.string (bs x.2.2.2.2.2.2.1),.int .i64 x.2.2.2.2.2.2.2] 47)) W.heap.size [.int .i64 x.1,.int .i64 x.2.1,.int .i64 x.2.2.1,.int .i64 x.2.2.2.1,.slice xo x.2.2.2.2.1.length xc,.slice zo x.2.2.2.2.2.1.length zc,.string (bs x.2.2.2.2.2.2.1),.int .i64 x.2.2.2.2.2.2.2]):=Y0
 have HV3:=hide (HV.out.below b3)
 have HXv3:=hide (HXv.out.below b3)
 have X3:=hide (X0.out.below b3)
 have B3:=hide (below_step B0.out b3)
 clear e0 e1 e2 e3 e4 e5 e6 e7 hins cu x0 x1 x2 x3 x4 b3 HV HXv X0 hxv
 generalize W.alloc (.cells #[.int .i64 x.1,.int .i64 x.2.1,.int .i64 x.2.2.1,.int .i64 x.2.2.2.1,.slice xo x.2.2.2.2.1.length xc,.slice zo x.2.2.2.2.2.1.length zc,.string (bs x.2.2.2.2.2.2.1),.int .i64 x.2.2.2.2.2.2.2] 47)=w3 at *
 generalize W.heap.size=q3 at *
 obtain⟨x0,x1,x2,x3,x4⟩:_∧_∧_∧_∧_:=⟨X3.out.2 0 _ rfl,X3.out.2 1 _ rfl,X3.out.2 2 _ rfl,X3.out.2 3 _ rfl,X3.out.2 4 _ rfl⟩
 obtain⟨y0,y1,y2,y3,y4,y5,y6,y7⟩:_∧_∧_∧_∧_∧_∧_∧_:=⟨Y0.out.2 0 _ rfl,Y0.out.2 1 _ rfl,Y0.out.2 2 _ rfl,Y0.out.2 3 _ rfl,Y0.out.2 4 _ rfl,Y0.out.2 5 _ rfl,Y0.out.2 6 _ rfl,Y0.out.2 7 _ rfl⟩
 obtain⟨g',o',ao',c',g2',o2',hlb',cu,hao,hins⟩:=HRd.out w3 B3.out
 injection hlb' with hlb'
 injection hlb' with hg' ho'
 subst hg' ho' hao
 have hxn:x.2.2.2.2.2.1.length≤maxLen:=HXv3.out.to_sl.2
 unfold maxLen at hxn
 by_cases hi0:i=0
 ·have HFl:Hid ((decide (i=0) || decide ((insN f k (i - 1)).1=20))=true):=hide (by simp [hi0])
  have hd0:decide (0 < i)=false:=decide_eq_false (by omega)
  have hiz:¬(0:Int) < (i:Int):=by omega
  clear hins
  have HC:=hide (HPr.out _ w3 HV3.out)
  go_wp2_with fail
  refine HC.out.mono ?_;rintro e w4 ⟨u,rfl,b4,hr⟩
  obtain⟨ro,rc,rfl,hrr,_,_⟩:=hr
  rcases hrr with he | ⟨rb,r0,rfl,hrb,hrc⟩
  ·have:=HLf.out;rw [he] at this;simp at this
  obtain⟨uu,cuu,hu⟩:=hrc k lf HLf.out
  obtain⟨fo,fc,rfl,hfs,_,_⟩:=hu
  have hkp:(k:Int) < (predsF f).length:=by have:=HPl.out;omega
  have Y4:=hide (Y0.out.below b4)
  have HXv4:=hide (HXv3.out.below b4)
  have B4:=hide (below_step B3.out b4)
  have HFs:=hide hfs
  clear x0 x1 x2 x3 x4 y0 y1 y2 y3 y4 y5 y6 y7 hrc hfs b4 HC
  obtain⟨y0,y1,y2,y3,y4,y5,y6,y7⟩:_∧_∧_∧_∧_∧_∧_∧_:=⟨Y4.out.2 0 _ rfl,Y4.out.2 1 _ rfl,Y4.out.2 2 _ rfl,Y4.out.2 3 _ rfl,Y4.out.2 4 _ rfl,Y4.out.2 5 _ rfl,Y4.out.2 6 _ rfl,Y4.out.2 7 _ rfl⟩
  by_cases hlen:x.2.2.2.2.2.1.length=lf.length
  ·have hlb:((x.2.2.2.2.2.1.length:Int) == (lf.length:Int))=true:=beq_iff_eq.2 (by omega)
   have HPg:Hid (phiF f k i=lf.all fun b=>hasL x.2.2.2.2.2.1 b):=hide (by rw [HPf.out,decide_eq_true hlen,HFl.out];simp)
   clear hlen
   go_wp2_with fail
   clear hlb y0 y1 y2 y3 y4 y5 y6 y7 cuu
   go_loopw [9] (fun nv wr=>∃n:Nat,n≤lf.length∧nv= .int .i64 n∧Hid (∀(j:Nat) (b:Int),j < n→lf[j]? =some b→hasL x.2.2.2.2.2.1 b=true)∧Hid (Below w4.heap.size w4 wr)) (fun nv _=>lf.length - (intOf nv).toNat)
   case atStart=>exact⟨0,Nat.zero_le _,rfl,hide (fun j b h=>absurd h (Nat.not_lt_zero _)),hide (Below.refl _ _)⟩
   case round=>
    obtain⟨n,hn,rfl,HA,HW⟩:=hrel
    by_cases hnt:n < lf.length
    ·have hnI:(n:Int) < lf.length:=by omega
     obtain⟨m,hm⟩:∃m,lf[n]? =some m:=⟨_,List.getElem?_eq_getElem hnt⟩
     rcases HFs.out with he | ⟨fb,f0,rfl,hfb,hfc⟩
     ·rw [he] at hnt;simp at hnt
     have hB2:=fun z=>below_step HW.out (L5.grewTo_below wr z)
     have c1:=fun z=>((hB2 z).cell (p:=⟨fb,f0+n,none⟩) hfb).trans (hfc n m hm)
     have c5:=fun z=>(Y4.out.below (hB2 z)).2 5 _ rfl
     have HH:=hide (fun z=>rhas_any x.2.2.2.2.2.1 m zo zc (L5.grewTo wr z) (HXv4.out.below (hB2 z)).to_sl.1 HXv4.out.to_sl.2)
     replace hB2:=hide hB2
     have HM:=hide hm
     clear hfc hm
     cases hh:hasL x.2.2.2.2.2.1 m with
     |true=>
      rw [hh] at HH
      have HA2:Hid (∀(j:Nat) (b:Int),j < n+1→lf[j]? =some b→hasL x.2.2.2.2.2.1 b=true):=hide (fun j b hj hb=>by
       by_cases e:j=n
       ·subst e
        rw [HM.out] at hb
        injection hb with hb
        rw [←hb];exact hh
       ·exact HA.out j b (by omega) hb)
      clear hh
      go_wp2_with fail
      refine L5.region_grew (by kernel_rfl) (by kernel_rfl) ?_
      repeat (go_big_quiet_step ((go_at_call 17;exact L5.calls_grew_same (HH.out _))))
      refine wpQuiet_nil ?_
      rintro _ ⟨z,rfl⟩
      go_wp2_with fail
      go_roundw
      case rel=>exact⟨n+1,by omega,by go_num,HA2,hide (hB2.out z)⟩
      case measure=>simp [intOf];omega
     |false=>
      rw [hh] at HH
      have HR:Hid (false=phiF f k i):=hide (by
       rw [HPg.out]
       symm
       rw [Bool.eq_false_iff]
       intro hall
       have:=List.all_eq_true.1 hall m (List.mem_of_getElem? HM.out)
       rw [hh] at this
       cases this)
      clear hh
      go_wp2_with fail
      refine L5.region_grew (by kernel_rfl) (by kernel_rfl) ?_
      repeat (go_big_quiet_step ((go_at_call 17;exact L5.calls_grew_same (HH.out _))))
      refine wpQuiet_nil ?_
      rintro _ ⟨z,rfl⟩
      have HE:=hide (below_step B4.out (hB2.out z))
      go_wp2_with fail
      go_ret
      exact⟨L5.ret_bool HR.out,HE.out⟩
    ·obtain rfl:n=lf.length:=by omega
     have HR:Hid (true=phiF f k i):=hide (by
      rw [HPg.out]
      symm
      refine List.all_eq_true.2 fun b hb=> ?_
      obtain⟨j,hj⟩:=List.mem_iff_getElem?.1 hb
      exact HA.out j b (List.getElem?_eq_some_iff.1 hj).1 hj)
     have HE:=hide (below_step B4.out HW.out)
     go_wp2_with fail
     go_ret
     exact⟨L5.ret_bool HR.out,HE.out⟩
  ·have hlb:((x.2.2.2.2.2.1.length:Int) == (lf.length:Int))=false:=beq_eq_false_iff_ne.2 (by omega)
   have HR:Hid (false=phiF f k i):=hide (by rw [HPf.out,decide_eq_false hlen];simp)
   go_wp2_with fail
   go_ret
   exact⟨L5.ret_bool HR.out,B4.out⟩
 ·obtain⟨j,hj⟩:∃j,i=j+1:=⟨i - 1,by omega⟩
  have hd0:decide (0 < i)=true:=decide_eq_true (by omega)
  have hiz:(0:Int) < (i:Int):=by omega
  have hji:(i:Int) - 1=(j:Int):=by omega
  have hjI:(j:Int) < (blkN f k).length:=by omega
  obtain⟨_,_,_,_,_,u0,_,_,_,_,_,_,_⟩:=(hins j (by omega)).val
  have hjj:i - 1=j:=by omega
  rw [hjj] at HPf
  obtain⟨pv,hpv⟩:∃pv,(insN f k j).1=pv:=⟨_,rfl⟩
  rw [hpv] at u0 HPf
  clear hins hpv hjj hj
  by_cases hp:pv=20
  ·have hpb:(pv == 20)=true:=beq_iff_eq.2 hp
   have HFl:Hid ((decide (i=0) || decide (pv=20))=true):=hide (by simp [hp])
   clear hp
   have HC:=hide (HPr.out _ w3 HV3.out)
   go_wp2_with fail
   refine HC.out.mono ?_;rintro e w4 ⟨u,rfl,b4,hr⟩
   obtain⟨ro,rc,rfl,hrr,_,_⟩:=hr
   rcases hrr with he | ⟨rb,r0,rfl,hrb,hrc⟩
   ·have:=HLf.out;rw [he] at this;simp at this
   obtain⟨uu,cuu,hu⟩:=hrc k lf HLf.out
   obtain⟨fo,fc,rfl,hfs,_,_⟩:=hu
   have hkp:(k:Int) < (predsF f).length:=by have:=HPl.out;omega
   have Y4:=hide (Y0.out.below b4)
   have HXv4:=hide (HXv3.out.below b4)
   have B4:=hide (below_step B3.out b4)
   have HFs:=hide hfs
   clear x0 x1 x2 x3 x4 y0 y1 y2 y3 y4 y5 y6 y7 hrc hfs b4 HC
   obtain⟨y0,y1,y2,y3,y4,y5,y6,y7⟩:_∧_∧_∧_∧_∧_∧_∧_:=⟨Y4.out.2 0 _ rfl,Y4.out.2 1 _ rfl,Y4.out.2 2 _ rfl,Y4.out.2 3 _ rfl,Y4.out.2 4 _ rfl,Y4.out.2 5 _ rfl,Y4.out.2 6 _ rfl,Y4.out.2 7 _ rfl⟩
   by_cases hlen:x.2.2.2.2.2.1.length=lf.length
   ·have hlb:((x.2.2.2.2.2.1.length:Int) == (lf.length:Int))=true:=beq_iff_eq.2 (by omega)
    have HPg:Hid (phiF f k i=lf.all fun b=>hasL x.2.2.2.2.2.1 b):=hide (by rw [HPf.out,decide_eq_true hlen,HFl.out];simp)
    clear hlen
    go_wp2_with fail
    clear hlb y0 y1 y2 y3 y4 y5 y6 y7 cuu
    go_loopw [9] (fun nv wr=>∃n:Nat,n≤lf.length∧nv= .int .i64 n∧Hid (∀(j:Nat) (b:Int),j < n→lf[j]? =some b→hasL x.2.2.2.2.2.1 b=true)∧Hid (Below w4.heap.size w4 wr)) (fun nv _=>lf.length - (intOf nv).toNat)
    case atStart=>exact⟨0,Nat.zero_le _,rfl,hide (fun j b h=>absurd h (Nat.not_lt_zero _)),hide (Below.refl _ _)⟩
    case round=>
     obtain⟨n,hn,rfl,HA,HW⟩:=hrel
     by_cases hnt:n < lf.length
     ·have hnI:(n:Int) < lf.length:=by omega
      obtain⟨m,hm⟩:∃m,lf[n]? =some m:=⟨_,List.getElem?_eq_getElem hnt⟩
      rcases HFs.out with he | ⟨fb,f0,rfl,hfb,hfc⟩
      ·rw [he] at hnt;simp at hnt
      have hB2:=fun z=>below_step HW.out (L5.grewTo_below wr z)
      have c1:=fun z=>((hB2 z).cell (p:=⟨fb,f0+n,none⟩) hfb).trans (hfc n m hm)
      have c5:=fun z=>(Y4.out.below (hB2 z)).2 5 _ rfl
      have HH:=hide (fun z=>rhas_any x.2.2.2.2.2.1 m zo zc (L5.grewTo wr z) (HXv4.out.below (hB2 z)).to_sl.1 HXv4.out.to_sl.2)
      replace hB2:=hide hB2
      have HM:=hide hm
      clear hfc hm
      cases hh:hasL x.2.2.2.2.2.1 m with
      |true=>
       rw [hh] at HH
       have HA2:Hid (∀(j:Nat) (b:Int),j < n+1→lf[j]? =some b→hasL x.2.2.2.2.2.1 b=true):=hide (fun j b hj hb=>by
        by_cases e:j=n
        ·subst e
         rw [HM.out] at hb
         injection hb with hb
         rw [←hb];exact hh
        ·exact HA.out j b (by omega) hb)
       clear hh
       go_wp2_with fail
       refine L5.region_grew (by kernel_rfl) (by kernel_rfl) ?_
       repeat (go_big_quiet_step ((go_at_call 17;exact L5.calls_grew_same (HH.out _))))
       refine wpQuiet_nil ?_
       rintro _ ⟨z,rfl⟩
       go_wp2_with fail
       go_roundw
       case rel=>exact⟨n+1,by omega,by go_num,HA2,hide (hB2.out z)⟩
       case measure=>simp [intOf];omega
      |false=>
       rw [hh] at HH
       have HR:Hid (false=phiF f k i):=hide (by
        rw [HPg.out]
        symm
        rw [Bool.eq_false_iff]
        intro hall
        have:=List.all_eq_true.1 hall m (List.mem_of_getElem? HM.out)
        rw [hh] at this
        cases this)
       clear hh
       go_wp2_with fail
       refine L5.region_grew (by kernel_rfl) (by kernel_rfl) ?_
       repeat (go_big_quiet_step ((go_at_call 17;exact L5.calls_grew_same (HH.out _))))
       refine wpQuiet_nil ?_
       rintro _ ⟨z,rfl⟩
       have HE:=hide (below_step B4.out (hB2.out z))
       go_wp2_with fail
       go_ret
       exact⟨L5.ret_bool HR.out,HE.out⟩
     ·obtain rfl:n=lf.length:=by omega
      have HR:Hid (true=phiF f k i):=hide (by
       rw [HPg.out]
       symm
       refine List.all_eq_true.2 fun b hb=> ?_
       obtain⟨j,hj⟩:=List.mem_iff_getElem?.1 hb
       exact HA.out j b (List.getElem?_eq_some_iff.1 hj).1 hj)
      have HE:=hide (below_step B4.out HW.out)
      go_wp2_with fail
      go_ret
      exact⟨L5.ret_bool HR.out,HE.out⟩
   ·have hlb:((x.2.2.2.2.2.1.length:Int) == (lf.length:Int))=false:=beq_eq_false_iff_ne.2 (by omega)
    have HR:Hid (false=phiF f k i):=hide (by rw [HPf.out,decide_eq_false hlen];simp)
    go_wp2_with fail
    go_ret
    exact⟨L5.ret_bool HR.out,B4.out⟩
  ·have hpb:(pv == 20)=false:=beq_eq_false_iff_ne.2 hp
   have HR:Hid (false=phiF f k i):=hide (by rw [HPf.out];simp [hp,hi0])
   clear hp
   go_wp2_with fail
   go_ret
   exact⟨L5.ret_bool HR.out,B3.out⟩
theorem rvalue_any (f:Fun) (k i:Nat) (src:Bool) (v:Value) (w:World) (hv:FunV w f v) (hF:Ful f) (hM:Mod f) (hk:k < f.2.2.2.1.length) (hi:i < (blkN f k).length):
  Calls Tryz.prog 44 #[v,.int .i64 k,.int .i64 i,.bool src] w fun e w'=>e= .returned (.int .i64 (valC f k i src))∧Below w.heap.size w w':=by
 have hfl:∀(a b c d:Value) (w:World),(Instr.field 62 (.agg #[a,b,c,d]) 3).run Tryz.prog w= .ok d w:=fun _ _ _ _ _=>rfl
 have HVc:Hid (valC f k i src=if(decide (mkX (insN f k i)≠0) && (madeF f (insN f k i).2.1 k i).2.2.2)=true then 5 else if(decide ((insN f k i).1=20) && !phiF f k i)=true then 11 else if(src && laterX (insN f k i))=true then 2 else 0):=hide rfl
 have HMk:Hid (mkX (insN f k i)=L5.imakes (insN f k i).1 (insN f k i).2.2.2.1):=hide rfl
 obtain⟨lp,cp,lb,cb,rfl,X,b0⟩:=fun_box hv
 have HV:=hide (hv.below b0)
 have X0:=hide X
 have B0:=hide b0
 have HRd:Hid (∀w',Below w.heap.size w w'→∃g o ao c g2 o2,lb=some ⟨g,o,none⟩∧w'.cell? ⟨g,o+k,none⟩=some (.slice ao (blkN f k).length c)∧ao=some ⟨g2,o2,none⟩∧∀j,j < (blkN f k).length→InsR w' (insN f k j) g2 (o2+j * 8)):=hide (fun w' b=>by
  obtain⟨g,o,ao,c,h1,_,h3,h4⟩:=blks_row (fun_blks (hv.below b)) hk
  obtain⟨g2,o2,h5,_⟩:=blk_ins h4 hi
  refine⟨g,o,ao,c,g2,o2,h1,h3,h5,fun j hj=> ?_⟩
  obtain⟨g3,o3,h6,h7⟩:=blk_ins h4 hj
  rw [h5] at h6
  injection h6 with h6
  injection h6 with e1 e2
  subst e1 e2
  exact h7)
 have hkI:(k:Int) < f.2.2.2.1.length:=by omega
 have hiI:(i:Int) < (blkN f k).length:=by omega
 have hbn:=hM.blk k
 have hN:=hM.1
 clear hv X b0
 generalize bs f.1=nm at *
 generalize f.2.1.length=lps at *
 generalize f.2.2.1=rt at *
 generalize hlbs:f.2.2.2.1.length=lbs at *
 generalize f.2.2.2.2=pl at *
 replace hlbs:=hide hlbs
 go_enter Tryz.func44,Tryz.ntmps44
 go_upto_region 1 with fail
 show Code.wp _ _ _ _ (w.alloc (.cells #[.string nm,.slice lp lps cp,.int .i64 rt,.slice lb lbs cb,.int .i64 pl] 36))
 generalize w.alloc (.cells #[.string nm,.slice lp lps cp,.int .i64 rt,.slice lb lbs cb,.int .i64 pl] 36)=W at *
 obtain⟨x0,x1,x2,x3,x4⟩:_∧_∧_∧_∧_:=⟨X0.out.2 0 _ rfl,X0.out.2 1 _ rfl,X0.out.2 2 _ rfl,X0.out.2 3 _ rfl,X0.out.2 4 _ rfl⟩
 obtain⟨g,o,ao,c,g2,o2,rfl,cu,rfl,hins⟩:=HRd.out W B0.out
 obtain⟨xo,zo,xc,zc,hxv,e0,e1,e2,e3,e4,e5,e6,e7⟩:=(hins i hi).val
 have HXv:=hide hxv
 obtain⟨x,hx⟩:∃x,insN f k i=x:=⟨_,rfl⟩
 rw [hx] at e0 e1 e2 e3 e4 e5 e6 e7 HXv
 rw [hx] at HVc HMk
 clear hx
 go_upto_region 2 with fail
 show Code.wp _ _ _ _ (W.alloc (.cells #[.int .i64 x.1,.int .i64 x.2.1,.int .i64 x.2.2.1,.int .i64 x.2.2.2.1,.slice xo x.2.2.2.2.1.length xc,.slice zo x.2.2.2.2.2.1.length zc,.string (bs x.2.2.2.2.2.2.1),.int .i64 x.2.2.2.2.2.2.2] 47))
 have b3:=below_box W (.cells #[.int .i64 x.1,.int .i64 x.2.1,.int .i64 x.2.2.1,.int .i64 x.2.2.2.1,.slice xo x.2.2.2.2.1.length xc,.slice zo x.2.2.2.2.2.1.length zc,.string (bs x.2.2.2.2.2.2.1),.int .i64 x.2.2.2.2.2.2.2] 47)
 have Y0:=hide (L5.Box.new W [.int .i64 x.1,.int .i64 x.2.1,.int .i64 x.2.2.1,.int .i64 x.2.2.2.1,.slice xo x.2.2.2.2.1.length xc,.slice zo x.2.2.2.2.2.1.length zc,.string (bs x.2.2.2.2.2.2.1),.int .i64 x.2.2.2.2.2.2.2] 47)
 replace Y0:Hid (L5.Box (W.alloc (.cells #[.int .i64 x.1,.int .i64 x.2.1,.int .i64 x.2.2.1,.int .i64 x.2.2.2.1,.slice xo x.2.2.2.2.1.length xc,.slice zo x.2.2.2.2.2.1.length zc,.string (bs x.2.2.2.2.2.2.1),.int .i64 x.2.2.2.2.2.2.2] 47)) W.heap.size [.int .i64 x.1,.int .i64 x.2.1,.int .i64 x.2.2.1,.int .i64 x.2.2.2.1,.slice xo x.2.2.2.2.1.length xc,.slice zo x.2.2.2.2.2.1.length zc,.string (bs x.2.2.2.2.2.2.1),.int .i64 x.2.2.2.2.2.2.2]):=Y0
 have HV3:=hide (HV.out.below b3)
 have HXv3:=hide (HXv.out.below b3)
 have X3:=hide (X0.out.below b3)
 have B3:=hide (below_step B0.out b3)
 clear e0 e1 e2 e3 e4 e5 e6 e7 hins cu x0 x1 x2 x3 x4 b3 HV HXv X0 hxv
 generalize W.alloc (.cells #[.int .i64 x.1,.int .i64 x.2.1,.int .i64 x.2.2.1,.int .i64 x.2.2.2.1,.slice xo x.2.2.2.2.1.length xc,.slice zo x.2.2.2.2.2.1.length zc,.string (bs x.2.2.2.2.2.2.1),.int .i64 x.2.2.2.2.2.2.2] 47)=w3 at *
 generalize W.heap.size=q3 at *
 obtain⟨x0,x1,x2,x3,x4⟩:_∧_∧_∧_∧_:=⟨X3.out.2 0 _ rfl,X3.out.2 1 _ rfl,X3.out.2 2 _ rfl,X3.out.2 3 _ rfl,X3.out.2 4 _ rfl⟩
 obtain⟨y0,y1,y2,y3,y4,y5,y6,y7⟩:_∧_∧_∧_∧_∧_∧_∧_:=⟨Y0.out.2 0 _ rfl,Y0.out.2 1 _ rfl,Y0.out.2 2 _ rfl,Y0.out.2 3 _ rfl,Y0.out.2 4 _ rfl,Y0.out.2 5 _ rfl,Y0.out.2 6 _ rfl,Y0.out.2 7 _ rfl⟩
 have HM:=hide (L5.refMakes_any x.1 x.2.2.2.1 (.int .i64 x.2.1) (.int .i64 x.2.2.1) (.slice xo x.2.2.2.2.1.length xc) (.slice zo x.2.2.2.2.2.1.length zc) (.string (bs x.2.2.2.2.2.2.1)) (.int .i64 x.2.2.2.2.2.2.2) w3)
 rw [←HMk.out] at HM
 by_cases hmz:mkX x=0
 ·have HF1:Hid ((decide (mkX x≠0) && (madeF f x.2.1 k i).2.2.2)=false):=hide (by simp [hmz])
  rw [hmz] at HM
  clear hmz
  go_wp2_with fail
  refine HM.out.mono ?_;rintro e w4 ⟨rfl,b4⟩
  have B4:=hide b4
  clear HM b4 x0 x1 x2 x3 x4 y0 y1 y2 y3 y4 y5 y6 y7
  have XX:=hide (X3.out.below B4.out)
  have YY:=hide (Y0.out.below B4.out)
  obtain⟨x0,x1,x2,x3,x4⟩:_∧_∧_∧_∧_:=⟨XX.out.2 0 _ rfl,XX.out.2 1 _ rfl,XX.out.2 2 _ rfl,XX.out.2 3 _ rfl,XX.out.2 4 _ rfl⟩
  obtain⟨y0,y1,y2,y3,y4,y5,y6,y7⟩:_∧_∧_∧_∧_∧_∧_∧_:=⟨YY.out.2 0 _ rfl,YY.out.2 1 _ rfl,YY.out.2 2 _ rfl,YY.out.2 3 _ rfl,YY.out.2 4 _ rfl,YY.out.2 5 _ rfl,YY.out.2 6 _ rfl,YY.out.2 7 _ rfl⟩
  go_upto_region 4 with fail
  by_cases hp:x.1=20
  ·have hpb:(x.1 == 20)=true:=beq_iff_eq.2 hp
   have HPh:=hide (rphi_any f k i _ w4 (HV3.out.below B4.out) hF hM (by have:=hlbs.out;omega) hi)
   cases hph:phiF f k i with
   |true=>
    rw [hph] at HPh
    have HP2:Hid ((decide (x.1=20) && !true)=false):=hide (by simp)
    clear hp
    go_wp2_with fail
    refine HPh.out.mono ?_;rintro e w7 ⟨rfl,b7⟩
    have B7:=hide (below_step B4.out b7)
    clear HPh b7 x0 x1 x2 x3 x4 y0 y1 y2 y3 y4 y5 y6 y7
    have XX:=hide (X3.out.below B7.out)
    have YY:=hide (Y0.out.below B7.out)
    obtain⟨x0,x1,x2,x3,x4⟩:_∧_∧_∧_∧_:=⟨XX.out.2 0 _ rfl,XX.out.2 1 _ rfl,XX.out.2 2 _ rfl,XX.out.2 3 _ rfl,XX.out.2 4 _ rfl⟩
    obtain⟨y0,y1,y2,y3,y4,y5,y6,y7⟩:_∧_∧_∧_∧_∧_∧_∧_:=⟨YY.out.2 0 _ rfl,YY.out.2 1 _ rfl,YY.out.2 2 _ rfl,YY.out.2 3 _ rfl,YY.out.2 4 _ rfl,YY.out.2 5 _ rfl,YY.out.2 6 _ rfl,YY.out.2 7 _ rfl⟩
    go_upto_region 6 with fail
    rw [hph] at HVc
    cases hs:src with
    |false=>
     have HR:Hid (0=valC f k i src):=hide (by rw [HVc.out,HF1.out,HP2.out,hs];simp)
     have HE:=hide (below_step B3.out B7.out)
     go_wp2_with fail
     go_ret
     exact⟨ret_i HR.out,HE.out⟩
    |true=>
     have HLt:=hide (rlater_any x _ w7 (HXv3.out.below B7.out))
     cases hl:laterX x with
     |true=>
      rw [hl] at HLt
      have HR:Hid (2=valC f k i src):=hide (by rw [HVc.out,HF1.out,HP2.out,hs,hl];simp)
      go_wp2_with fail
      refine HLt.out.mono ?_;rintro e w9 ⟨rfl,b9⟩
      have HE:=hide (below_step B3.out (below_step B7.out b9))
      clear HLt b9 x0 x1 x2 x3 x4 y0 y1 y2 y3 y4 y5 y6 y7
      go_wp2_with fail
      go_ret
      exact⟨ret_i HR.out,HE.out⟩
     |false=>
      rw [hl] at HLt
      have HR:Hid (0=valC f k i src):=hide (by rw [HVc.out,HF1.out,HP2.out,hs,hl];simp)
      go_wp2_with fail
      refine HLt.out.mono ?_;rintro e w9 ⟨rfl,b9⟩
      have HE:=hide (below_step B3.out (below_step B7.out b9))
      clear HLt b9 x0 x1 x2 x3 x4 y0 y1 y2 y3 y4 y5 y6 y7
      go_wp2_with fail
      go_ret
      exact⟨ret_i HR.out,HE.out⟩
   |false=>
    rw [hph] at HPh
    have HR:Hid (11=valC f k i src):=hide (by rw [HVc.out,HF1.out,hph];simp [hp])
    clear hp
    go_wp2_with fail
    refine HPh.out.mono ?_;rintro e w7 ⟨rfl,b7⟩
    have HE:=hide (below_step B3.out (below_step B4.out b7))
    clear HPh b7 x0 x1 x2 x3 x4 y0 y1 y2 y3 y4 y5 y6 y7
    go_wp2_with fail
    go_ret
    exact⟨ret_i HR.out,HE.out⟩
  ·have hpb:(x.1 == 20)=false:=beq_eq_false_iff_ne.2 hp
   have HP2:Hid ((decide (x.1=20) && !phiF f k i)=false):=hide (by simp [hp])
   clear hp
   go_upto_region 6 with fail
   cases hs:src with
   |false=>
    have HR:Hid (0=valC f k i src):=hide (by rw [HVc.out,HF1.out,HP2.out,hs];simp)
    have HE:=hide (below_step B3.out B4.out)
    go_wp2_with fail
    go_ret
    exact⟨ret_i HR.out,HE.out⟩
   |true=>
    have HLt:=hide (rlater_any x _ w4 (HXv3.out.below B4.out))
    cases hl:laterX x with
    |true=>
     rw [hl] at HLt
     have HR:Hid (2=valC f k i src):=hide (by rw [HVc.out,HF1.out,HP2.out,hs,hl];simp)
     go_wp2_with fail
     refine HLt.out.mono ?_;rintro e w9 ⟨rfl,b9⟩
     have HE:=hide (below_step B3.out (below_step B4.out b9))
     clear HLt b9 x0 x1 x2 x3 x4 y0 y1 y2 y3 y4 y5 y6 y7
     go_wp2_with fail
     go_ret
     exact⟨ret_i HR.out,HE.out⟩
    |false=>
     rw [hl] at HLt
     have HR:Hid (0=valC f k i src):=hide (by rw [HVc.out,HF1.out,HP2.out,hs,hl];simp)
     go_wp2_with fail
     refine HLt.out.mono ?_;rintro e w9 ⟨rfl,b9⟩
     have HE:=hide (below_step B3.out (below_step B4.out b9))
     clear HLt b9 x0 x1 x2 x3 x4 y0 y1 y2 y3 y4 y5 y6 y7
     go_wp2_with fail
     go_ret
     exact⟨ret_i HR.out,HE.out⟩
 ·have hmb:(mkX x == 0)=false:=beq_eq_false_iff_ne.2 hmz
  have HD1:Hid (decide (mkX x≠0)=true):=hide (decide_eq_true hmz)
  have HMd:=hide (fun w' (b:Below w3.heap.size w3 w')=>rmade_any f x.2.1 k i _ w' (HV3.out.below b) hM (by have:=hlbs.out;omega) (by omega))
  obtain⟨m,hm⟩:∃m,madeF f x.2.1 k i=m:=⟨_,rfl⟩
  rw [hm] at HMd HVc
  unfold plcV at HMd
  clear hm
  generalize mkX x=mk at *
  go_wp2_with fail
  refine HM.out.mono ?_;rintro e w4 ⟨rfl,b4⟩
  have B4:=hide b4
  have HMd4:=hide (HMd.out w4 b4)
  clear HM HMd b4 x0 x1 x2 x3 x4 y0 y1 y2 y3 y4 y5 y6 y7
  have XX:=hide (X3.out.below B4.out)
  have YY:=hide (Y0.out.below B4.out)
  obtain⟨x0,x1,x2,x3,x4⟩:_∧_∧_∧_∧_:=⟨XX.out.2 0 _ rfl,XX.out.2 1 _ rfl,XX.out.2 2 _ rfl,XX.out.2 3 _ rfl,XX.out.2 4 _ rfl⟩
  obtain⟨y0,y1,y2,y3,y4,y5,y6,y7⟩:_∧_∧_∧_∧_∧_∧_∧_:=⟨YY.out.2 0 _ rfl,YY.out.2 1 _ rfl,YY.out.2 2 _ rfl,YY.out.2 3 _ rfl,YY.out.2 4 _ rfl,YY.out.2 5 _ rfl,YY.out.2 6 _ rfl,YY.out.2 7 _ rfl⟩
  go_wp2_with fail
  refine HMd4.out.mono ?_;rintro e w5 ⟨rfl,b5⟩
  have B5:=hide (below_step B4.out b5)
  clear HMd4 b5 x0 x1 x2 x3 x4 y0 y1 y2 y3 y4 y5 y6 y7
  have XZ:=hide (X3.out.below B5.out)
  have YZ:=hide (Y0.out.below B5.out)
  obtain⟨x0,x1,x2,x3,x4⟩:_∧_∧_∧_∧_:=⟨XZ.out.2 0 _ rfl,XZ.out.2 1 _ rfl,XZ.out.2 2 _ rfl,XZ.out.2 3 _ rfl,XZ.out.2 4 _ rfl⟩
  obtain⟨y0,y1,y2,y3,y4,y5,y6,y7⟩:_∧_∧_∧_∧_∧_∧_∧_:=⟨YZ.out.2 0 _ rfl,YZ.out.2 1 _ rfl,YZ.out.2 2 _ rfl,YZ.out.2 3 _ rfl,YZ.out.2 4 _ rfl,YZ.out.2 5 _ rfl,YZ.out.2 6 _ rfl,YZ.out.2 7 _ rfl⟩
  cases hms:m.2.2.2 with
  |true=>
   have HR:Hid (5=valC f k i src):=hide (by rw [HVc.out,HD1.out,hms];simp)
   have HE:=hide (below_step B3.out B5.out)
   go_wp2_with fail
   go_ret
   exact⟨ret_i HR.out,HE.out⟩
  |false=>
   have HF1:Hid ((decide (mk≠0) && m.2.2.2)=false):=hide (by rw [hms];simp)
   go_upto_region 4 with fail
   by_cases hp:x.1=20
   ·have hpb:(x.1 == 20)=true:=beq_iff_eq.2 hp
    have HPh:=hide (rphi_any f k i _ w5 (HV3.out.below B5.out) hF hM (by have:=hlbs.out;omega) hi)
    cases hph:phiF f k i with
    |true=>
     rw [hph] at HPh
     have HP2:Hid ((decide (x.1=20) && !true)=false):=hide (by simp)
     clear hp
     go_wp2_with fail
     refine HPh.out.mono ?_;rintro e w7 ⟨rfl,b7⟩
     have B7:=hide (below_step B5.out b7)
     clear HPh b7 x0 x1 x2 x3 x4 y0 y1 y2 y3 y4 y5 y6 y7
     have XX:=hide (X3.out.below B7.out)
     have YY:=hide (Y0.out.below B7.out)
     obtain⟨x0,x1,x2,x3,x4⟩:_∧_∧_∧_∧_:=⟨XX.out.2 0 _ rfl,XX.out.2 1 _ rfl,XX.out.2 2 _ rfl,XX.out.2 3 _ rfl,XX.out.2 4 _ rfl⟩
     obtain⟨y0,y1,y2,y3,y4,y5,y6,y7⟩:_∧_∧_∧_∧_∧_∧_∧_:=⟨YY.out.2 0 _ rfl,YY.out.2 1 _ rfl,YY.out.2 2 _ rfl,YY.out.2 3 _ rfl,YY.out.2 4 _ rfl,YY.out.2 5 _ rfl,YY.out.2 6 _ rfl,YY.out.2 7 _ rfl⟩
     go_upto_region 6 with fail
     rw [hph] at HVc
     cases hs:src with
     |false=>
      have HR:Hid (0=valC f k i src):=hide (by rw [HVc.out,HF1.out,HP2.out,hs];simp)
      have HE:=hide (below_step B3.out B7.out)
      go_wp2_with fail
      go_ret
      exact⟨ret_i HR.out,HE.out⟩
     |true=>
      have HLt:=hide (rlater_any x _ w7 (HXv3.out.below B7.out))
      cases hl:laterX x with
      |true=>
       rw [hl] at HLt
       have HR:Hid (2=valC f k i src):=hide (by rw [HVc.out,HF1.out,HP2.out,hs,hl];simp)
       go_wp2_with fail
       refine HLt.out.mono ?_;rintro e w9 ⟨rfl,b9⟩
       have HE:=hide (below_step B3.out (below_step B7.out b9))
       clear HLt b9 x0 x1 x2 x3 x4 y0 y1 y2 y3 y4 y5 y6 y7
       go_wp2_with fail
       go_ret
       exact⟨ret_i HR.out,HE.out⟩
      |false=>
       rw [hl] at HLt
       have HR:Hid (0=valC f k i src):=hide (by rw [HVc.out,HF1.out,HP2.out,hs,hl];simp)
       go_wp2_with fail
       refine HLt.out.mono ?_;rintro e w9 ⟨rfl,b9⟩
       have HE:=hide (below_step B3.out (below_step B7.out b9))
       clear HLt b9 x0 x1 x2 x3 x4 y0 y1 y2 y3 y4 y5 y6 y7
       go_wp2_with fail
       go_ret
       exact⟨ret_i HR.out,HE.out⟩
    |false=>
     rw [hph] at HPh
     have HR:Hid (11=valC f k i src):=hide (by rw [HVc.out,HF1.out,hph];simp [hp])
     clear hp
     go_wp2_with fail
     refine HPh.out.mono ?_;rintro e w7 ⟨rfl,b7⟩
     have HE:=hide (below_step B3.out (below_step B5.out b7))
     clear HPh b7 x0 x1 x2 x3 x4 y0 y1 y2 y3 y4 y5 y6 y7
     go_wp2_with fail
     go_ret
     exact⟨ret_i HR.out,HE.out⟩
   ·have hpb:(x.1 == 20)=false:=beq_eq_false_iff_ne.2 hp
    have HP2:Hid ((decide (x.1=20) && !phiF f k i)=false):=hide (by simp [hp])
    clear hp
    go_upto_region 6 with fail
    cases hs:src with
    |false=>
     have HR:Hid (0=valC f k i src):=hide (by rw [HVc.out,HF1.out,HP2.out,hs];simp)
     have HE:=hide (below_step B3.out B5.out)
     go_wp2_with fail
     go_ret
     exact⟨ret_i HR.out,HE.out⟩
    |true=>
     have HLt:=hide (rlater_any x _ w5 (HXv3.out.below B5.out))
     cases hl:laterX x with
     |true=>
      rw [hl] at HLt
      have HR:Hid (2=valC f k i src):=hide (by rw [HVc.out,HF1.out,HP2.out,hs,hl];simp)
      go_wp2_with fail
      refine HLt.out.mono ?_;rintro e w9 ⟨rfl,b9⟩
      have HE:=hide (below_step B3.out (below_step B5.out b9))
      clear HLt b9 x0 x1 x2 x3 x4 y0 y1 y2 y3 y4 y5 y6 y7
      go_wp2_with fail
      go_ret
      exact⟨ret_i HR.out,HE.out⟩
     |false=>
      rw [hl] at HLt
      have HR:Hid (0=valC f k i src):=hide (by rw [HVc.out,HF1.out,HP2.out,hs,hl];simp)
      go_wp2_with fail
      refine HLt.out.mono ?_;rintro e w9 ⟨rfl,b9⟩
      have HE:=hide (below_step B3.out (below_step B5.out b9))
      clear HLt b9 x0 x1 x2 x3 x4 y0 y1 y2 y3 y4 y5 y6 y7
      go_wp2_with fail
      go_ret
      exact⟨ret_i HR.out,HE.out⟩
theorem prog_fun {w:World} {p:List Fun} {po:Option Addr} {n pc i:Nat} (h:ProgR w p (.slice po n pc)) (hi:i < p.length):∃g o,po=some ⟨g,o,none⟩∧FunR w (funN p i) g (o+i * 5):=by
 obtain⟨po',pc',e,_,_,h3⟩:=h
 injection e with e1 e2 e3
 subst e1
 rcases h3 with h3 | ⟨g,o,rfl,h4⟩
 ·rw [h3] at hi;simp at hi
 ·exact⟨g,o,rfl,h4 i _ (funN_at hi)⟩
theorem five_at {w:World} {b t:Nat} {a0 a1 a2 a3 a4:Value} (h:w.heap[b]? =some (.cells #[a0,a1,a2,a3,a4] t (0,0))):(w.cell? ⟨b,0,none⟩=some a0∧w.cell? ⟨b,1,none⟩=some a1∧w.cell? ⟨b,2,none⟩=some a2∧w.cell? ⟨b,3,none⟩=some a3∧w.cell? ⟨b,4,none⟩=some a4)∧(w.frozen? ⟨b,0,none⟩=false∧w.frozen? ⟨b,1,none⟩=false∧w.frozen? ⟨b,2,none⟩=false∧w.frozen? ⟨b,3,none⟩=false∧w.frozen? ⟨b,4,none⟩=false)∧b < w.heap.size:=by
 refine⟨⟨?_,?_,?_,?_,?_⟩,⟨?_,?_,?_,?_,?_⟩,(Array.getElem?_eq_some_iff.1 h).1⟩ <;> simp [World.cell?,World.frozen?,h]
theorem nm_ne {a b:List UInt8} (h:¬a=b):((bs a).toList == (bs b).toList)=false:=by rw [ByteArray.toList_eq,ByteArray.toList_eq,bs_data,bs_data];simpa using h
theorem fun0_val (w:World):FunV w fun0 (.agg #[.string ⟨#[]⟩,.slice none 0 0,.int .i64 0,.slice none 0 0,.int .i64 0]):=
 ⟨_,_,rfl,⟨none,0,rfl,.inl rfl,Nat.le_refl _,by unfold maxLen;omega⟩,⟨none,0,rfl,Nat.le_refl _,by unfold maxLen;omega,.inl rfl⟩⟩
theorem one_at {w:World} {b t:Nat} {a0:Value} (h:w.heap[b]? =some (.cells #[a0] t (0,0))):w.cell? ⟨b,0,none⟩=some a0∧b < w.heap.size:=⟨by simp [World.cell?,h],(Array.getElem?_eq_some_iff.1 h).1⟩
theorem rfind_any (p:List Fun) (nm:List UInt8) (po:Option Addr) (pc:Nat) (w:World) (hp:ProgR w p (.slice po p.length pc)) (hl:p.length≤1000000):
  Calls Tryz.prog 13 #[.agg #[.slice po p.length pc],.string (bs nm)] w fun e w'=>(∃fv,e= .returned (.tuple #[fv,.bool (findF p nm).isSome])∧FunV w' ((findF p nm).getD fun0) fv)∧Below w.heap.size w w':=by
 have HFd:Hid (findF p nm=fstN (fun i=>if(funN p i).1=nm then some (funN p i)else none) p.length):=hide rfl
 obtain⟨r,hr⟩:∃r,findF p nm=r:=⟨_,rfl⟩
 rw [hr] at HFd ⊢
 clear hr
 have HP:=hide hp
 clear hp
 have HRd:Hid (∀w' i,Below w.heap.size w w'→i < p.length→∃g o,po=some ⟨g,o,none⟩∧FunR w' (funN p i) g (o+i * 5)):=hide (fun w' i b hi=>prog_fun (HP.out.below b) hi)
 clear HP
 generalize hn:p.length=n at *
 replace hn:=hide hn
 have b1:=below_box w (.cells #[.slice po n pc] 24)
 have h1:=heap_alloc_new w (.cells #[.slice po n pc] 24)
 have b2:=below_box (w.alloc (.cells #[.slice po n pc] 24)) (.cells #[.string ⟨#[]⟩,.slice none 0 0,.int .i64 0,.slice none 0 0,.int .i64 0] 36)
 have hs1:(w.alloc (.cells #[.slice po n pc] 24)).heap.size=w.heap.size+1:=by simp
 have h2:=heap_alloc_new (w.alloc (.cells #[.slice po n pc] 24)) (.cells #[.string ⟨#[]⟩,.slice none 0 0,.int .i64 0,.slice none 0 0,.int .i64 0] 36)
 rw [hs1] at h2
 have H1:=hide ((b2.block w.heap.size (by simp)).trans h1)
 have H2:=hide h2
 have B0:=hide (below_step b1 b2)
 clear b1 h1 b2 hs1 h2
 go_enter Tryz.func13,Tryz.ntmps13
 go_upto_region 1 with fail
 show Code.wp _ _ _ _ ((w.alloc (.cells #[.slice po n pc] 24)).alloc (.cells #[.string ⟨#[]⟩,.slice none 0 0,.int .i64 0,.slice none 0 0,.int .i64 0] 36))
 generalize (w.alloc (.cells #[.slice po n pc] 24)).alloc (.cells #[.string ⟨#[]⟩,.slice none 0 0,.int .i64 0,.slice none 0 0,.int .i64 0] 36)=W at *
 have hz2:=(five_at H2.out).2.2
 have hz1:=(one_at H1.out).2
 go_wp2_with fail
 go_loopw [6] (fun kv wr=>∃K:Nat,K≤n∧kv= .int .i64 K∧Hid (∀j,j < K→¬(funN p j).1=nm)∧Hid (Below W.heap.size W wr)) (fun kv _=>n - (intOf kv).toNat)
 case atStart=>exact⟨0,Nat.zero_le _,rfl,hide (fun j h=>absurd h (Nat.not_lt_zero _)),hide (Below.refl _ _)⟩
 case round=>
  obtain⟨K,hK,rfl,HF,HW⟩:=hrel
  have c0:=(HW.out.cell (p:=⟨w.heap.size,0,none⟩) hz1).trans (one_at H1.out).1
  by_cases hkt:K < n
  ·have hkI:(K:Int) < n:=by omega
   obtain⟨g,o,rfl,hfr⟩:=HRd.out w K (Below.refl _ _) hkt
   obtain⟨ao,bo,c,cb,hfv,d0,d1,d2,d3,d4⟩:=hfr.val
   have hgl:=hfr.1
   obtain⟨f,hf⟩:∃f,funN p K=f:=⟨_,rfl⟩
   rw [hf] at d0 d1 d2 d3 d4 hfv
   have HFv:=hide hfv
   have Bw:=hide (below_step B0.out HW.out)
   replace d0:=(Bw.out.cell (p:=⟨g,o+K * 5,none⟩) hgl).trans d0
   replace d1:=(Bw.out.cell (p:=⟨g,o+K * 5+1,none⟩) hgl).trans d1
   replace d2:=(Bw.out.cell (p:=⟨g,o+K * 5+2,none⟩) hgl).trans d2
   replace d3:=(Bw.out.cell (p:=⟨g,o+K * 5+3,none⟩) hgl).trans d3
   replace d4:=(Bw.out.cell (p:=⟨g,o+K * 5+4,none⟩) hgl).trans d4
   obtain⟨⟨z0,z1,z2,z3,z4⟩,⟨f0,f1,f2,f3,f4⟩,_⟩:=five_at ((HW.out.block _ hz2).trans H2.out)
   clear hfv hfr
   by_cases hnm:f.1=nm
   ·have HR:Hid (r=some f):=hide (by rw [HFd.out];exact fstN_some (fun j hj=>if_neg (HF.out j hj)) hkt (by rw [hf,if_pos hnm]))
    have HE:Hid (Below w.heap.size w (((((wr.setCell ⟨w.heap.size+1,0,none⟩ (.string (bs f.1))).setCell ⟨w.heap.size+1,1,none⟩ (.slice ao f.2.1.length c)).setCell ⟨w.heap.size+1,2,none⟩ (.int .i64 f.2.2.1)).setCell ⟨w.heap.size+1,3,none⟩ (.slice bo f.2.2.2.1.length cb)).setCell ⟨w.heap.size+1,4,none⟩ (.int .i64 f.2.2.2.2))):=hide (by
     have hle:w.heap.size≤w.heap.size+1:=Nat.le_succ _
     exact((((((below_step B0.out HW.out).setCell (p:=⟨w.heap.size+1,0,none⟩) hle _).setCell (p:=⟨w.heap.size+1,1,none⟩) hle _).setCell (p:=⟨w.heap.size+1,2,none⟩) hle _).setCell (p:=⟨w.heap.size+1,3,none⟩) hle _).setCell (p:=⟨w.heap.size+1,4,none⟩) hle _))
    have hbq:((bs f.1).toList == (bs nm).toList)=true:=by rw [hnm];exact bs_beq nm
    clear hf hnm
    go_wp2_with fail
    exact bodyPost_ret (v:= .tuple #[.agg #[.string (bs f.1),.slice ao f.2.1.length c,.int .i64 f.2.2.1,.slice bo f.2.2.2.1.length cb,.int .i64 f.2.2.2.2],.bool true]) (by simp [results,Tryz.results13,go_sem,z0,z1,z2,z3,z4]) rfl ⟨⟨_,by rw [HR.out];rfl,by rw [HR.out];exact HFv.out.below HE.out⟩,HE.out⟩
   ·have hbq:=nm_ne hnm
    have HF2:Hid (∀j,j < K+1→¬(funN p j).1=nm):=hide (fun j hj=>by
     by_cases e:j=K
     ·rw [e,hf];exact hnm
     ·exact HF.out j (by omega))
    clear hf hnm
    go_wp2_with fail
    go_roundw
    case rel=>exact⟨K+1,by omega,by go_num,HF2,HW⟩
    case measure=>simp [intOf];omega
  ·obtain rfl:K=n:=by omega
   have HR:Hid (r=none):=hide (by rw [HFd.out];exact fstN_none (fun j hj=>if_neg (HF.out j hj)))
   obtain⟨⟨z0,z1,z2,z3,z4⟩,⟨f0,f1,f2,f3,f4⟩,_⟩:=five_at ((HW.out.block _ hz2).trans H2.out)
   have HE:Hid (Below w.heap.size w (((((wr.setCell ⟨w.heap.size+1,0,none⟩ (.string ⟨#[]⟩)).setCell ⟨w.heap.size+1,1,none⟩ (.slice none 0 0)).setCell ⟨w.heap.size+1,2,none⟩ (.int .i64 0)).setCell ⟨w.heap.size+1,3,none⟩ (.slice none 0 0)).setCell ⟨w.heap.size+1,4,none⟩ (.int .i64 0))):=hide (by
    have hle:w.heap.size≤w.heap.size+1:=Nat.le_succ _
    exact((((((below_step B0.out HW.out).setCell (p:=⟨w.heap.size+1,0,none⟩) hle _).setCell (p:=⟨w.heap.size+1,1,none⟩) hle _).setCell (p:=⟨w.heap.size+1,2,none⟩) hle _).setCell (p:=⟨w.heap.size+1,3,none⟩) hle _).setCell (p:=⟨w.heap.size+1,4,none⟩) hle _))
   go_wp2_with fail
   exact bodyPost_ret (v:= .tuple #[.agg #[.string ⟨#[]⟩,.slice none 0 0,.int .i64 0,.slice none 0 0,.int .i64 0],.bool false]) (by simp [results,Tryz.results13,go_sem,z0,z1,z2,z3,z4]) rfl ⟨⟨_,by rw [HR.out];rfl,by rw [HR.out];exact fun0_val _⟩,HE.out⟩
end Go.Proofs.YtljkgcfnoegibaaGreatDoor
