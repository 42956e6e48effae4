/- Texts of one chain, joined. -/
import Derived.Test.YtljkgcfnoegibaaGreatDoorWwAB
import Derived.Test.YtljkgcfnoegibaaGreatDoorWwAC
import Derived.Test.YtljkgcfnoegibaaGreatDoorWwAD
import Derived.Test.YtljkgcfnoegibaaGreatDoorWwAE
import Derived.Test.YtljkgcfnoegibaaGreatDoorWwAF
import Derived.Test.YtljkgcfnoegibaaGreatDoorWwAG
import Derived.Test.YtljkgcfnoegibaaGreatDoorWwAJ
import Derived.Test.YtljkgcfnoegibaaGreatDoorWwAL
import Derived.Test.YtljkgcfnoegibaaGreatDoorWwAM
import Derived.Test.YtljkgcfnoegibaaGreatDoorWwAN
set_option maxHeartbeats 4000000
set_option maxRecDepth 20000
namespace Go.Proofs.YtljkgcfnoegibaaGreatDoor
open Go Go.RowKit
open G (Tok Er Ins Fun)
def outB (n:Nat) (m:Int):Bool:=decide (m < 0∨(n:Int)≤m)
theorem out_there (n:Nat) (m:Int):(!thereB m n)=outB n m:=by
 rw [Bool.eq_iff_iff];simp [thereB,outB]
theorem look1_any (m:Int) (n g:Nat) (w:World) (h:w.cell? ⟨g,0,none⟩=some (.int .i64 n)):Calls Tryz.prog 143 #[.int .i64 m,.pointer (some ⟨g,0,none⟩)] w fun e w'=>e= .returned (.bool (outB n m))∧w'=w:=by
 have HE:=hide (out_there n m)
 go_enter Tryz.func143,Tryz.ntmps143
 go_wp2_with fail
 refine(there_any m n _).mono ?_;rintro e w1 ⟨rfl,rfl⟩
 generalize thereB m n=t at *
 go_wp2_with fail
 go_ret
 exact⟨L5.ret_bool HE.out,rfl⟩
def firstB (n:Nat):List Int→Int→Int
 |[],_=> -1
 |t :: r,k=>if outB n t then k else firstB n r (k+1)
theorem firstB_drop (n:Nat) (xs:List Int) (k:Nat) (t:Int) (h:xs[k]? =some t):firstB n (xs.drop k) k=if outB n t then(k:Int)else firstB n (xs.drop (k+1)) ((k+1:Nat):Int):=by
 rw [dropE_at h];rfl
theorem firstB_any (n:Nat) (l:List Int):∀k:Int,0≤k→(badT n l=true→0≤firstB n l k)∧(badT n l=false→firstB n l k= -1):=by
 induction l with
 |nil=>intro k _;simp [firstB,badT]
 |cons t r ih=>
  intro k hk
  have e:badT n (t :: r)=(outB n t || badT n r):=rfl
  rw [firstB,e]
  cases hb:outB n t with
  |true=>simp;exact hk
  |false=>simpa using ih (k+1) (by omega)
theorem indexF_any (n:Nat) (xs:List Int) (ao:Option Addr) (c g:Nat) (w:World) (hs:Sl w ao xs) (hg:g < w.heap.size) (h:w.cell? ⟨g,0,none⟩=some (.int .i64 n)) (hm:xs.length≤maxLen):
  Calls Tryz.prog 112 #[.slice ao xs.length c,.func (Fn.func 143) #[] #[.pointer (some ⟨g,0,none⟩)]] w fun e w'=>e= .returned (.int .i64 (firstB n xs 0))∧Below w.heap.size w w':=by
 have H:=hide h
 have X:=hide hs
 unfold maxLen at hm
 clear h hs
 go_enter Tryz.func112,Tryz.ntmps112
 go_wp2_with fail
 go_loopw [8] (fun i wr=>∃k:Nat,i= .int .i64 k∧k≤xs.length∧Below w.heap.size w wr∧Hid (firstB n xs 0=firstB n (xs.drop k) k)) (fun i _=>xs.length - (intOf i).toNat)
 case atStart=>exact⟨0,rfl,Nat.zero_le _,Below.refl _ _,rfl⟩
 case round=>
  obtain⟨k,rfl,hk,HB,HF⟩:=hrel
  have HB:=hide HB
  by_cases hlt:k < xs.length
  ·obtain⟨t,ht⟩:∃t,xs[k]? =some t:=⟨xs[k],List.getElem?_eq_getElem hlt⟩
   have HS:=hide (HF.out.trans (firstB_drop n xs k t ht))
   rcases X.out with he | ⟨b,o,rfl,hb,hc⟩
   ·subst he;simp at hlt
   have hcell:wr.cell? ⟨b,o+k,none⟩=some (.int .i64 t):=(HB.out.cell (p:=⟨b,o+k,none⟩) hb).trans (hc k t ht)
   have hlt':(k:Int) < xs.length:=by omega
   have hcg:=hide ((HB.out.cell (p:=⟨g,0,none⟩) hg).trans H.out)
   clear hc ht
   go_wp2_with fail
   refine(look1_any t n g _ hcg.out).mono ?_;rintro e w1 ⟨rfl,rfl⟩
   cases hbt:outB n t with
   |true=>
    have HE:=hide (HS.out.trans (if_pos hbt))
    go_wp2_with fail
    go_ret
    exact⟨by rw [HE.out];rfl,HB.out⟩
   |false=>
    have HE:=hide (HS.out.trans (if_neg (by simp [hbt])))
    go_wp2_with fail
    go_roundw
    case rel=>exact⟨k+1,by go_num,by omega,HB.out,HE.out⟩
    case measure=>simp [intOf];omega
  ·have hk2:k=xs.length:=by omega
   subst hk2
   have HE:=hide (HF.out.trans (by rw [List.drop_length];rfl:_=(-1:Int)))
   go_wp2_with fail
   go_ret
   exact⟨by rw [HE.out];rfl,HB.out⟩
theorem contains_any (n:Nat) (xs:List Int) (ao:Option Addr) (c g:Nat) (w:World) (hs:Sl w ao xs) (hg:g < w.heap.size) (h:w.cell? ⟨g,0,none⟩=some (.int .i64 n)) (hm:xs.length≤maxLen):
  Calls Tryz.prog 89 #[.slice ao xs.length c,.func (Fn.func 143) #[] #[.pointer (some ⟨g,0,none⟩)]] w fun e w'=>e= .returned (.bool (badT n xs))∧Below w.heap.size w w':=by
 obtain⟨f1,f2⟩:=firstB_any n xs 0 (Int.le_refl 0)
 have H:=hide h
 have X:=hide hs
 have F1:=hide f1
 have F2:=hide f2
 clear h hs f1 f2
 go_enter Tryz.func89,Tryz.ntmps89
 go_wp2_with fail
 refine(indexF_any n xs ao c g _ X.out hg H.out hm).mono ?_;rintro e w1 ⟨rfl,b1⟩
 cases hb:badT n xs with
 |true=>
  have h1:=F1.out hb
  replace hb:=hide hb
  generalize firstB n xs 0=r at *
  clear F1 F2
  go_wp2_with fail
  go_ret
  exact⟨L5.ret_bool hb.out.symm,b1⟩
 |false=>
  have h1:=F2.out hb
  rw [h1]
  replace hb:=hide hb
  clear F1 F2 h1
  go_wp2_with fail
  go_ret
  exact⟨L5.ret_bool hb.out.symm,b1⟩
theorem look_any (b:List Ins) (N:Nat) (aok:Option Addr) (capk:Nat) (w:World) (hb:BlkR w b (.slice aok b.length capk)) (ht:Tab w):
  Calls Tryz.prog 120 #[.slice aok b.length capk,.int .i64 N] w fun e w'=>e= .returned (.int .i64 (blkE N b))∧Below w.heap.size w w':=by
 have hmf:∀(fn:Fn) (first cap:Array Value) (w:World),(Instr.makeFunc fn first cap).run Tryz.prog w= .ok (.func fn first cap) w:=fun _ _ _ _=>rfl
 have b0:=below_box w (.cells #[.int .i64 N] 3)
 have H0:=hide (heap_alloc_new w (.cells #[.int .i64 N] 3))
 have hz0:w.heap.size < (w.alloc (.cells #[.int .i64 N] 3)).heap.size:=by simp
 have HB:=hide (hb.below b0)
 have HT:=hide (ht.below b0)
 have B0:=hide b0
 clear hb ht b0
 go_enter Tryz.func120,Tryz.ntmps120
 go_upto_region 1 with fail
 show Code.wp _ _ _ _ (w.alloc (.cells #[.int .i64 N] 3))
 generalize w.alloc (.cells #[.int .i64 N] 3)=W at *
 obtain⟨_,_,e',m1,m2,kk⟩:=HB.out
 injection e' with e1 e2 e4
 subst e1 e4
 have HKK:=hide kk
 unfold maxLen at m2
 clear kk e2
 go_wp2_with fail
 go_loopw [10] (fun i wq=>∃I:Nat,I≤b.length∧i= .int .i64 I∧Hid (blkGo N b.length 0 b=blkGo N b.length I (b.drop I))∧Hid (Below W.heap.size W wq)) (fun i _=>b.length - (intOf i).toNat)
 case atStart=>exact⟨0,Nat.zero_le _,rfl,hide rfl,hide (Below.refl _ _)⟩
 case round=>
  obtain⟨I,hI,rfl,HI,HW⟩:=hrel
  by_cases hit:I < b.length
  ·have hiI:(I:Int) < b.length:=by omega
   obtain⟨x,hx⟩:∃x,b[I]? =some x:=⟨b[I],List.getElem?_eq_getElem hit⟩
   rcases HKK.out with e0 | ⟨gi,oi,rfl,kk⟩
   ·subst e0;simp at hit
   have HI2:=hide (HI.out.trans (by rw [dropE_at hx]))
   obtain⟨ai,ti,ca,ct,hv,r0,r1,r2,r3,r4,r5,r6,r7⟩:=((kk I _ hx).below HW.out).val
   obtain⟨op,id,nn,ty,ar,tt,na,pp⟩:=x
   dsimp only at hv r0 r1 r2 r3 r4 r5 r6 r7
   have HSt:Hid (Sl wr ti tt∧tt.length≤maxLen):=hide (by
    obtain⟨a1,t1,c1,c2,e,s1,s2,_,_,s5,s6⟩:=hv
    injection e with e
    have e2:=congrArg (fun a=>a[5]?) e
    simp at e2
    rw [e2.1];exact⟨s2,Nat.le_trans s5 s6⟩)
   have B7:=hide (below_box wr (.cells #[.int .i64 op,.int .i64 id,.int .i64 nn,.int .i64 ty,.slice ai ar.length ca,.slice ti tt.length ct,.string (bs na),.int .i64 pp] 47))
   have H7:=hide (heap_alloc_new wr (.cells #[.int .i64 op,.int .i64 id,.int .i64 nn,.int .i64 ty,.slice ai ar.length ca,.slice ti tt.length ct,.string (bs na),.int .i64 pp] 47))
   have hbn:¬b.length=0:=by omega
   have HBE:Hid (blkE N b=blkGo N b.length 0 b):=hide (if_neg hbn)
   have HW8:=hide (below_step HW.out B7.out)
   have HEn:=hide (ends_any op _ (HT.out.below HW8.out))
   clear kk hx hv HI
   obtain⟨s0,s1,s2,s3,s4,s5,s6,s7⟩:=box8 H7.out
   have SS:=hide (And.intro s0 s5)
   have hwl:wr.heap.size < (wr.alloc (.cells #[.int .i64 op,.int .i64 id,.int .i64 nn,.int .i64 ty,.slice ai ar.length ca,.slice ti tt.length ct,.string (bs na),.int .i64 pp] 47)).heap.size:=by simp
   have HSt8:Hid (Sl (wr.alloc (.cells #[.int .i64 op,.int .i64 id,.int .i64 nn,.int .i64 ty,.slice ai ar.length ca,.slice ti tt.length ct,.string (bs na),.int .i64 pp] 47)) ti tt):=hide (HSt.out.1.below B7.out)
   have htl:tt.length≤maxLen:=HSt.out.2
   have hsub:IntKind.i64.wrap ((b.length:Int) - 1)=(b.length:Int) - 1:=IntWalk.i64_in _ ⟨by omega,by omega⟩
   go_wp2_with fail
   refine HEn.out.mono ?_;rintro e w9 ⟨rfl,b9⟩
   have HW9:=hide (below_step HW8.out b9)
   have t0:=(b9.cell (p:=⟨wr.heap.size,0,none⟩) hwl).trans SS.out.1
   have t5:=(b9.cell (p:=⟨wr.heap.size,5,none⟩) hwl).trans SS.out.2
   have HSt9:=hide (HSt8.out.below b9)
   have HN9:=hide (cell9 ((HW9.out.block _ hz0).trans H0.out))
   have hz9:w.heap.size < w9.heap.size:=Nat.lt_of_lt_of_le hz0 HW9.out.size
   clear s0 s1 s2 s3 s4 s5 s6 s7 r0 r1 r2 r3 r4 r5 r6 r7 B7 H7 HW HSt HSt8 SS HW8 HEn b9
   generalize wr.heap.size=q at *
   have HC:=hide (contains_any N tt ti ct w.heap.size w9 HSt9.out hz9 HN9.out htl)
   by_cases hl:I+1=b.length
   ·have hlI:((I:Int) == (b.length:Int) - 1)=true:=by simpa using (by omega:(I:Int)=b.length - 1)
    cases he:endsB op with
    |true=>
     have HEq:Hid (endsB op=decide (I+1=b.length)):=hide (by simp [he,hl])
     have HBad:Hid (badI N (op,id,nn,ty,ar,tt,na,pp)=true→(7:Int)=blkE N b):=hide (fun h=>((HBE.out.trans (HI2.out.trans (blkGo_bad HEq.out h)))).symm)
     have HOk:Hid (badI N (op,id,nn,ty,ar,tt,na,pp)=false→blkGo N b.length 0 b=blkGo N b.length (I+1) (b.drop (I+1))):=hide (fun h=>HI2.out.trans (blkGo_next HEq.out h))
     replace he:=hide he
     by_cases hop:op=20
     ·have hop':(op != 20)=false:=by simpa using hop
      have HE:=hide (HOk.out (by simp [badI,hop]))
      clear HBad HOk HI2 HBE HC HEq
      go_wp2_with fail
      go_roundw
      case rel=>exact⟨I+1,by omega,by go_num,HE,HW9⟩
      case measure=>simp [intOf];omega
     ·have hop':(op != 20)=true:=by simpa using hop
      go_wp2_with fail
      refine HC.out.mono ?_;rintro e wA ⟨rfl,bA⟩
      have HWA:=hide (below_step HW9.out bA)
      cases hbt:badT N tt with
      |true=>
       have HE:=hide (HBad.out (by simp [badI,hop,hbt]))
       clear HBad HOk HI2 HBE HC HEq
       go_wp2_with fail
       go_ret
       exact⟨L5.ret_int HE.out,below_step B0.out HWA.out⟩
      |false=>
       have HE:=hide (HOk.out (by simp [badI,hbt]))
       clear HBad HOk HI2 HBE HC HEq
       go_wp2_with fail
       go_roundw
       case rel=>exact⟨I+1,by omega,by go_num,HE,HWA⟩
       case measure=>simp [intOf];omega
    |false=>
     have HE:Hid ((15:Int)=blkE N b):=hide ((HBE.out.trans (HI2.out.trans (blkGo_end (by simp [he,hl])))).symm)
     replace he:=hide he
     clear HI2 HBE HC
     go_wp2_with fail
     go_ret
     exact⟨L5.ret_int HE.out,below_step B0.out HW9.out⟩
   ·have hlI:((I:Int) == (b.length:Int) - 1)=false:=beq_eq_false_iff_ne.2 (by omega)
    cases he:endsB op with
    |true=>
     have HE:Hid ((15:Int)=blkE N b):=hide ((HBE.out.trans (HI2.out.trans (blkGo_end (by simp [he,hl])))).symm)
     replace he:=hide he
     clear HI2 HBE HC
     go_wp2_with fail
     go_ret
     exact⟨L5.ret_int HE.out,below_step B0.out HW9.out⟩
    |false=>
     have HEq:Hid (endsB op=decide (I+1=b.length)):=hide (by simp [he,hl])
     have HBad:Hid (badI N (op,id,nn,ty,ar,tt,na,pp)=true→(7:Int)=blkE N b):=hide (fun h=>((HBE.out.trans (HI2.out.trans (blkGo_bad HEq.out h)))).symm)
     have HOk:Hid (badI N (op,id,nn,ty,ar,tt,na,pp)=false→blkGo N b.length 0 b=blkGo N b.length (I+1) (b.drop (I+1))):=hide (fun h=>HI2.out.trans (blkGo_next HEq.out h))
     replace he:=hide he
     by_cases hop:op=20
     ·have hop':(op != 20)=false:=by simpa using hop
      have HE:=hide (HOk.out (by simp [badI,hop]))
      clear HBad HOk HI2 HBE HC HEq
      go_wp2_with fail
      go_roundw
      case rel=>exact⟨I+1,by omega,by go_num,HE,HW9⟩
      case measure=>simp [intOf];omega
     ·have hop':(op != 20)=true:=by simpa using hop
      go_wp2_with fail
      refine HC.out.mono ?_;rintro e wA ⟨rfl,bA⟩
      have HWA:=hide (below_step HW9.out bA)
      cases hbt:badT N tt with
      |true=>
       have HE:=hide (HBad.out (by simp [badI,hop,hbt]))
       clear HBad HOk HI2 HBE HC HEq
       go_wp2_with fail
       go_ret
       exact⟨L5.ret_int HE.out,below_step B0.out HWA.out⟩
      |false=>
       have HE:=hide (HOk.out (by simp [badI,hbt]))
       clear HBad HOk HI2 HBE HC HEq
       go_wp2_with fail
       go_roundw
       case rel=>exact⟨I+1,by omega,by go_num,HE,HWA⟩
       case measure=>simp [intOf];omega
  ·obtain rfl:I=b.length:=by omega
   have HE:=HI.out
   rw [List.drop_length] at HE
   by_cases hbn:b.length=0
   ·have hbn':((b.length:Int) == 0)=true:=by simpa using hbn
    have HEE:Hid ((15:Int)=blkE N b):=hide (if_pos hbn).symm
    clear HE HI
    go_wp2_with fail
    go_ret
    exact⟨L5.ret_int HEE.out,below_step B0.out HW.out⟩
   ·have hbn':((b.length:Int) == 0)=false:=by simpa using hbn
    have HEE:Hid ((0:Int)=blkE N b):=hide ((if_neg hbn).trans HE).symm
    clear HE HI
    go_wp2_with fail
    go_ret
    exact⟨L5.ret_int HEE.out,below_step B0.out HW.out⟩
theorem shaped_try (nm:List UInt8) (ps:List Int) (rt pl:Int) (bl:List (List Ins)) (ao bo:Option Addr) (c cb:Nat) (w:World)
  (hv:FunV w (nm,ps,rt,bl,pl) (.agg #[.string (bs nm),.slice ao ps.length c,.int .i64 rt,.slice bo bl.length cb,.int .i64 pl])) (ht:Tab w):
  Calls Tryz.prog 93 #[.agg #[.string (bs nm),.slice ao ps.length c,.int .i64 rt,.slice bo bl.length cb,.int .i64 pl]] w fun e w'=>e= .returned (.agg #[.int .i64 (shapedF (nm,ps,rt,bl,pl)).1,.int .i64 (shapedF (nm,ps,rt,bl,pl)).2])∧Below w.heap.size w w':=by
 obtain⟨b0,h0,h1,hz0⟩:=two_boxes w #[.string (bs nm),.slice ao ps.length c,.int .i64 rt,.slice bo bl.length cb,.int .i64 pl]
 have H0:=hide h0
 have H1:=hide h1
 have HV:=hide (hv.below b0)
 have HT:=hide (ht.below b0)
 have B0:=hide b0
 have hbc:bl.length≤cb∧cb≤maxLen:=by
  obtain⟨vp,vb,e,_,⟨ao',c',e',h1,h2,_⟩⟩:=hv
  injection e with e
  have e3:=congrArg (fun a=>a[3]?) e
  simp at e3
  subst e3
  injection e' with e1 e2 e3
  subst e3
  exact⟨h1,h2⟩
 have hz2:w.heap.size < ((w.alloc (.cells #[.string (bs nm),.slice ao ps.length c,.int .i64 rt,.slice bo bl.length cb,.int .i64 pl] 36)).alloc (.cells #[.int .i64 0,.int .i64 0] 29)).heap.size:=by omega
 unfold maxLen at hbc
 clear b0 h0 h1 hv ht
 go_enter Tryz.func93,Tryz.ntmps93
 go_upto_region 1 with fail
 show Code.wp _ _ _ _ ((w.alloc (.cells #[.string (bs nm),.slice ao ps.length c,.int .i64 rt,.slice bo bl.length cb,.int .i64 pl] 36)).alloc (.cells #[.int .i64 0,.int .i64 0] 29))
 generalize (w.alloc (.cells #[.string (bs nm),.slice ao ps.length c,.int .i64 rt,.slice bo bl.length cb,.int .i64 pl] 36)).alloc (.cells #[.int .i64 0,.int .i64 0] 29)=W at *
 obtain⟨x0,x1,x2,x3,x4⟩:=box5 H0.out
 by_cases hn0:bl.length=0
 ·have HE:Hid (shapedF (nm,ps,rt,bl,pl)=(15,0)):=hide (if_pos hn0)
  obtain⟨d0,d1,z0,z1⟩:=err_box H1.out
  go_wp2_with fail
  exact bodyPost_ret (v:= .agg #[.int .i64 15,.int .i64 0]) (by simp [results,Tryz.results93,go_sem,d0,d1]) rfl ⟨by rw [HE.out],err_below B0.out (Below.refl _ _)⟩
 have hn1:((bl.length:Int) == 0)=false:=by simpa using hn0
 have HB:Hid (BlksR W bl (.slice bo bl.length cb)):=hide (by
  obtain⟨vp,vb,e,_,hB⟩:=HV.out
  injection e with e
  have e3:=congrArg (fun a=>a[3]?) e
  simp at e3
  rw [e3];exact hB)
 have HS:Hid (shapedF (nm,ps,rt,bl,pl)=shapedGo bl.length 0 bl):=hide (if_neg hn0)
 go_wp2_with fail
 clear x0 x1 x2 x3 x4
 go_loopw [14] (fun i wr=>∃K:Nat,K≤bl.length∧i= .int .i64 K∧Hid (shapedF (nm,ps,rt,bl,pl)=shapedGo bl.length K (bl.drop K))∧Hid (Below W.heap.size W wr)) (fun i _=>bl.length - (intOf i).toNat)
 case atStart=>exact⟨0,Nat.zero_le _,rfl,HS,hide (Below.refl _ _)⟩
 case round=>
  obtain⟨K,hK,rfl,HR,HW⟩:=hrel
  obtain⟨x0,x1,x2,x3,x4⟩:=box5 ((HW.out.block _ hz2).trans H0.out)
  by_cases hkt:K < bl.length
  ·obtain⟨b,hbK⟩:∃b,bl[K]? =some b:=⟨bl[K],List.getElem?_eq_getElem hkt⟩
   have hkI:(K:Int) < bl.length:=by omega
   obtain⟨_,_,e',l1,l2,l3⟩:=HB.out
   injection e' with e1 e2 e4
   subst e1 e4
   rcases l3 with l3 | ⟨gc,oc,rfl,gk,h2⟩
   ·subst l3;simp at hkt
   obtain⟨vk,kd,kk⟩:=h2 K b hbK
   have kk2:=kk.below HW.out
   obtain⟨aok,capk,rfl,m1,m2,_⟩:=kk
   have c1:=(HW.out.cell (p:=⟨gc,oc+K,none⟩) gk).trans kd
   have HR2:=hide (HR.out.trans (by rw [dropE_at hbK]))
   have HL:=hide (look_any b bl.length aok capk wr kk2 (HT.out.below HW.out))
   unfold maxLen at m2
   clear kd kk2 h2 hbK e2 HR
   go_wp2_with fail
   refine HL.out.mono ?_;rintro e w9 ⟨rfl,b9⟩
   have HW9:=hide (below_step HW.out b9)
   clear x0 x1 x2 x3 x4 c1 b9 HL
   by_cases hz:blkE bl.length b=0
   ·have HEE:Hid (shapedF (nm,ps,rt,bl,pl)=shapedGo bl.length (K+1) (bl.drop (K+1))):=hide (HR2.out.trans (shapedGo_next hz))
    rw [hz]
    clear hz HR2
    go_wp2_with fail
    go_roundw
    case rel=>exact⟨K+1,by omega,by go_num,HEE,HW9⟩
    case measure=>simp [intOf];omega
   ·have hz':(blkE bl.length b != 0)=true:=by simpa using hz
    have HEE:Hid (shapedF (nm,ps,rt,bl,pl)=(blkE bl.length b,(K:Int))):=hide (HR2.out.trans (shapedGo_hit rfl hz))
    clear hz HR2
    generalize blkE bl.length b=z at *
    obtain⟨d0,d1,z0,z1⟩:=err_box ((HW9.out.block _ hz0).trans H1.out)
    go_wp2_with fail
    exact bodyPost_ret (v:= .agg #[.int .i64 z,.int .i64 (K:Int)]) (by simp [results,Tryz.results93,go_sem,d0,d1]) rfl ⟨by rw [HEE.out],err_below B0.out HW9.out⟩
  ·obtain rfl:K=bl.length:=by omega
   have HE:=HR.out
   rw [List.drop_length] at HE
   replace HE:Hid (shapedF (nm,ps,rt,bl,pl)=(0,0)):=hide HE
   obtain⟨d0,d1,z0,z1⟩:=err_box ((HW.out.block _ hz0).trans H1.out)
   go_wp2_with fail
   exact bodyPost_ret (v:= .agg #[.int .i64 0,.int .i64 0]) (by simp [results,Tryz.results93,go_sem,d0,d1]) rfl ⟨by rw [HE.out],err_below B0.out HW.out⟩
theorem shaped_any (f:Fun) (v:Value) (w:World) (hv:FunV w f v) (ht:Tab w):
  Calls Tryz.prog 93 #[v] w fun e w'=>e= .returned (.agg #[.int .i64 (shapedF f).1,.int .i64 (shapedF f).2])∧Below w.heap.size w w':=by
 obtain⟨nm,ps,rt,bl,pl⟩:=f
 have hv2:=hv
 obtain⟨vp,vb,rfl,⟨ao,c,rfl,h1,_⟩,h2⟩:=hv
 obtain⟨bo,cb,rfl,_⟩:=h2
 exact shaped_try nm ps rt pl bl ao bo c cb w hv2 ht
open Mix (Up)
def PairsV (w:World) (l:List (Int × Int)) (v:Value):Prop:=∃ao c,v= .slice ao l.length c∧(l= []∨∃b,ao=some ⟨b,0,none⟩∧b < w.heap.size∧∀(i:Nat) (p:Int × Int),l[i]? =some p→w.cell? ⟨b,i * 2,none⟩=some (.int .i64 p.1)∧w.cell? ⟨b,i * 2+1,none⟩=some (.int .i64 p.2))∧l.length≤maxLen
theorem PairsV.below {w w':World} {l:List (Int × Int)} {v:Value} (h:PairsV w l v) (hb:Below w.heap.size w w'):PairsV w' l v:=by
 obtain⟨ao,c,e,h1,h2⟩:=h
 refine⟨ao,c,e,?_,h2⟩
 rcases h1 with h1 | ⟨b,e2,hl,hc⟩
 ·exact .inl h1
 ·exact .inr ⟨b,e2,Nat.lt_of_lt_of_le hl hb.size,fun i p hi=>⟨(hb.cell (p:=⟨b,i * 2,none⟩) hl).trans (hc i p hi).1,(hb.cell (p:=⟨b,i * 2+1,none⟩) hl).trans (hc i p hi).2⟩⟩
def Up.rows (ll:List (List Int)):Up:=⟨fun v w=>RowsV w ll v,fun _ _ _ b h=>h.below b⟩
def Up.ints (l:List Int):Up:=⟨fun v w=>IntsV w l v,fun _ _ _ b h=>h.below b⟩
def Up.pairs (l:List (Int × Int)):Up:=⟨fun v w=>PairsV w l v,fun _ _ _ b h=>h.below b⟩
theorem calls_exist {P:Program} {f:FuncId} {args:Array Value} {w:World} {R:Ending→World→Prop} (h:Calls P f args w R):∃e w',R e w':=by
 obtain⟨e,w',_,h1,_⟩:=h []
 exact⟨e,w',h1⟩
theorem valid_of {W:World} {F:Tmp→Up} {d:Tmp} {f:FuncId} {args:Array Value} (h:Calls Tryz.prog f args W fun e w'=>∃v,e= .returned v∧Below W.heap.size W w'∧(F d).1 v w'):∃v,Mix.Valid W F (some d) v:=by
 obtain⟨e,w',v,_,b,hf⟩:=calls_exist h
 exact⟨v,w',b,fun d' hd=>by cases hd;exact hf⟩
theorem valid_eq {W:World} {F:Tmp→Up} {d:Tmp} (c:Value) (h:(F d).1 c W):∃v,Mix.Valid W F (some d) v:=⟨c,W,Below.refl _ _,fun d' hd=>by cases hd;exact h⟩
def Mod (f:Fun):Prop:=f.2.2.2.1.length≤1000000∧∀b∈f.2.2.2.1,b.length≤1000000
theorem Mod.blk {f:Fun} (h:Mod f) (k:Nat):(blkN f k).length≤1000000:=by
 by_cases hk:k < f.2.2.2.1.length
 ·exact h.2 _ (List.mem_of_getElem? (blkN_at hk))
 ·unfold blkN;rw [List.getD_eq_getElem?_getD,List.getElem?_eq_none (by omega)];simp
theorem blks_row {w:World} {f:Fun} {bo:Option Addr} {n cb k:Nat} (h:BlksR w f.2.2.2.1 (.slice bo n cb)) (hk:k < f.2.2.2.1.length):∃g o ao c,bo=some ⟨g,o,none⟩∧g < w.heap.size∧w.cell? ⟨g,o+k,none⟩=some (.slice ao (blkN f k).length c)∧BlkR w (blkN f k) (.slice ao (blkN f k).length c):=by
 obtain⟨bo',cb',e,_,_,h3⟩:=h
 injection e with e1 e2 e3
 subst e1
 rcases h3 with h3 | ⟨g,o,rfl,hg,h4⟩
 ·rw [h3] at hk;simp at hk
 ·obtain⟨u,hu,hb⟩:=h4 k _ (blkN_at hk)
  obtain⟨ao,c,rfl,_⟩:=id hb
  exact⟨g,o,ao,c,rfl,hg,hu,hb⟩
theorem blk_ins {w:World} {f:Fun} {ao:Option Addr} {n c k i:Nat} (h:BlkR w (blkN f k) (.slice ao n c)) (hi:i < (blkN f k).length):∃g o,ao=some ⟨g,o,none⟩∧InsR w (insN f k i) g (o+i * 8):=by
 obtain⟨ao',c',e,_,_,h3⟩:=h
 injection e with e1 e2 e3
 subst e1
 rcases h3 with h3 | ⟨g,o,rfl,h4⟩
 ·rw [h3] at hi;simp at hi
 ·exact⟨g,o,rfl,h4 i _ (insN_at hi)⟩
theorem ret_i {a b:Int} (h:a=b):Ending.returned (.int .i64 a)= .returned (.int .i64 b):=by rw [h]
theorem fun_box {w:World} {f:Fun} {v:Value} (hv:FunV w f v):∃lp cp lb cb,v= .agg #[.string (bs f.1),.slice lp f.2.1.length cp,.int .i64 f.2.2.1,.slice lb f.2.2.2.1.length cb,.int .i64 f.2.2.2.2]∧
  L5.Box (w.alloc (.cells #[.string (bs f.1),.slice lp f.2.1.length cp,.int .i64 f.2.2.1,.slice lb f.2.2.2.1.length cb,.int .i64 f.2.2.2.2] 36)) w.heap.size [.string (bs f.1),.slice lp f.2.1.length cp,.int .i64 f.2.2.1,.slice lb f.2.2.2.1.length cb,.int .i64 f.2.2.2.2]∧
  Below w.heap.size w (w.alloc (.cells #[.string (bs f.1),.slice lp f.2.1.length cp,.int .i64 f.2.2.1,.slice lb f.2.2.2.1.length cb,.int .i64 f.2.2.2.2] 36)):=by
 obtain⟨vp,vb,rfl,⟨lp,cp,rfl,_⟩,⟨lb,cb,rfl,_⟩⟩:=hv
 exact⟨lp,cp,lb,cb,rfl,L5.Box.new w [.string (bs f.1),.slice lp f.2.1.length cp,.int .i64 f.2.2.1,.slice lb f.2.2.2.1.length cb,.int .i64 f.2.2.2.2] 36,below_box _ _⟩
theorem fun_blks {w:World} {f:Fun} {a b d:Value} {lb:Option Addr} {n cb:Nat} {c:Value} (hv:FunV w f (.agg #[a,b,c,.slice lb n cb,d])):BlksR w f.2.2.2.1 (.slice lb n cb):=by
 obtain⟨vp',vb',e,_,h2⟩:=hv
 injection e with e
 have e1:=congrArg (fun a=>a[3]?) e
 simp at e1
 rw [←e1] at h2
 exact h2
open G (Tok Er Ins Fun peek0 peek1 atOf)
def Kr (a:Nat) (w w':World):Prop:=w'.os=w.os∧w'.tape=w.tape∧w'.output=w.output∧w.heap.size≤w'.heap.size∧∀k,k < w.heap.size→k≠a→w'.heap[k]? =w.heap[k]?
theorem Kr.refl (a:Nat) (w:World):Kr a w w:=⟨rfl,rfl,rfl,Nat.le_refl _,fun _ _ _=>rfl⟩
theorem Kr.trans {a:Nat} {u v w:World} (h:Kr a u v) (k:Kr a v w):Kr a u w:=
 ⟨k.1.trans h.1,k.2.1.trans h.2.1,k.2.2.1.trans h.2.2.1,Nat.le_trans h.2.2.2.1 k.2.2.2.1,fun i h1 h2=>(k.2.2.2.2 i (Nat.lt_of_lt_of_le h1 h.2.2.2.1) h2).trans (h.2.2.2.2 i h1 h2)⟩
theorem Kr.of_below {a:Nat} {u v:World} (h:Below u.heap.size u v):Kr a u v:=⟨h.os,h.tape,h.output,h.size,fun i h1 _=>h.block i h1⟩
theorem Kr.size {a:Nat} {u v:World} (h:Kr a u v):u.heap.size≤v.heap.size:=h.2.2.2.1
theorem Kr.step {a:Nat} {u v w:World} (h:Kr a u v) (k:Below v.heap.size v w):Kr a u w:=h.trans (Kr.of_below k)
theorem Kr.below {a B:Nat} {u v:World} (h:Kr a u v) (ha:B≤a) (hB:B≤u.heap.size):Below B u v:=⟨h.1,h.2.1,h.2.2.1,h.2.2.2.1,fun i h1=>h.2.2.2.2 i (by omega) (by omega)⟩
theorem Kr.set {a i:Nat} {u w:World} (h:Kr a u w) (x:Value):Kr a u (w.setCell ⟨a,i,none⟩ x):=by
 have hb:=(Below.refl 0 w).setCell (p:=⟨a,i,none⟩) (Nat.zero_le a) x
 exact h.trans ⟨hb.os,hb.tape,hb.output,hb.size,fun k _ h2=>Below.heap_setCell w ⟨a,i,none⟩ x k h2⟩
def RR (a:Nat) (L:List Tok) (E:Int) (n:Nat) (l:List Tok) (w:World):Prop:=
 ∃v,w.heap[a]? =some (.cells #[v,.int .i64 ((L.length - l.length:Nat):Int),.int .i64 E,.int .i64 (n:Int),.int .i64 0,.int .i64 0] 70 (0,0))∧w.ownsRow 0 95 2 v L.length (cellsK L)∧l <:+L∧(L.length≤131072∧∀t∈L,t.1.length≤65536)∧n≤4096
theorem RR.lt {a:Nat} {L:List Tok} {E:Int} {n:Nat} {l:List Tok} {w:World} (h:RR a L E n l w):a < w.heap.size:=by
 obtain⟨v,h1,_⟩:=h;exact(Array.getElem?_eq_some_iff.1 h1).1
theorem RR.keep {a:Nat} {L:List Tok} {E:Int} {n:Nat} {l:List Tok} {w w':World} (h:RR a L E n l w) (hb:∀k,k < w.heap.size→w'.heap[k]? =w.heap[k]?):RR a L E n l w':=by
 obtain⟨v,h1,h2,h3⟩:=h
 refine⟨v,(hb a (Array.getElem?_eq_some_iff.1 h1).1).trans h1,⟨h2.1,?_⟩,h3⟩
 rcases h2.2 with hn | ⟨g,cap,cur,hv2,hbb,hg,rest⟩
 ·exact .inl hn
 ·exact .inr ⟨g,cap,cur,hv2,hbb,(hb g (Array.getElem?_eq_some_iff.1 hg).1).trans hg,rest⟩
theorem RR.below {a:Nat} {L:List Tok} {E:Int} {n:Nat} {l:List Tok} {w w':World} (h:RR a L E n l w) (b:Below w.heap.size w w'):RR a L E n l w':=h.keep fun k hk=>b.block k hk
theorem RR.short {a:Nat} {L:List Tok} {E:Int} {n:Nat} {l:List Tok} {w:World} (h:RR a L E n l w):(peek0 l).length≤65536∧(peek1 l).length≤65536:=by
 obtain⟨v,h1,h2,h5,h6,h7⟩:=h
 refine⟨?_,?_⟩
 ·cases l with
  |nil=>simp [peek0]
  |cons t r=>exact h6.2 t (h5.subset (by simp))
 ·match l,h5 with
  |[],_=>simp [peek1]
  |[_],_=>simp [peek1]
  |_ :: t :: r,h5=>exact h6.2 t (h5.subset (by simp))
theorem RR.cells {a:Nat} {L:List Tok} {E:Int} {n:Nat} {l:List Tok} {w:World} (h:RR a L E n l w):
  ∃ao cap,w.cell? ⟨a,0,none⟩=some (.slice ao L.length cap)∧w.cell? ⟨a,1,none⟩=some (.int .i64 ((L.length - l.length:Nat):Int))∧w.cell? ⟨a,2,none⟩=some (.int .i64 E)∧w.cell? ⟨a,3,none⟩=some (.int .i64 (n:Int))∧w.cell? ⟨a,4,none⟩=some (.int .i64 0)∧w.cell? ⟨a,5,none⟩=some (.int .i64 0)∧
   (∀j,w.frozen? ⟨a,j,none⟩=false)∧(L= []∨∃g,ao=some ⟨g,0,none⟩∧∀j t,L[j]? =some t→w.cell? ⟨g,j * 2,none⟩=some (.string (bs t.1))∧w.cell? ⟨g,j * 2+1,none⟩=some (.int .i64 t.2)):=by
 obtain⟨v,h1,h2,h5,h6,h7⟩:=h
 rcases h2.2 with ⟨hv,hn⟩ | ⟨g,cap,cur,hv2,hbb,hg,hc1,hc2,hc3,hc4⟩
 ·subst hv
  have e:L= []:=List.length_eq_zero_iff.1 hn
  subst e
  exact⟨none,0,by simp [World.cell?,h1],by simp [World.cell?,h1],by simp [World.cell?,h1],by simp [World.cell?,h1],by simp [World.cell?,h1],by simp [World.cell?,h1],fun j=>by simp [World.frozen?,h1],.inl rfl⟩
 ·subst hv2
  refine⟨some ⟨g,0,none⟩,cap,by simp [World.cell?,h1],by simp [World.cell?,h1],by simp [World.cell?,h1],by simp [World.cell?,h1],by simp [World.cell?,h1],by simp [World.cell?,h1],fun j=>by simp [World.frozen?,h1],.inr ⟨g,rfl,fun j t hj=> ?_⟩⟩
  have hc:=h2.cells (g:=g) rfl
  obtain⟨k1,k2⟩:=cellsK_at L j t hj
  have e1:=hc _ _ k1
  have e2:=hc _ _ k2
  rw [Addr.add_lit,Nat.zero_add,Nat.mul_comm] at e1 e2
  exact⟨e1,e2⟩
theorem RR.eat {a:Nat} {L:List Tok} {E:Int} {n:Nat} {l:List Tok} {w:World} (h:RR a L E n l w) (hl:l≠ []):RR a L E n l.tail (w.setCell ⟨a,1,none⟩ (.int .i64 (((L.length - l.length:Nat):Int)+1))):=by
 obtain⟨v,h1,h2,h5,h6,h7⟩:=h
 refine⟨v,?_,own_setCell h2 (own_ne h2 h1 (by decide)) _,(List.tail_suffix l).trans h5,h6,h7⟩
 rw [heap_setCell_same w a 1 _ 70 _ h1]
 have e:((L.length - l.length:Nat):Int)+1=((L.length - l.tail.length:Nat):Int):=by
  have:=h5.length_le
  cases l with
  |nil=>exact absurd rfl hl
  |cons t r=>simp at *;omega
 rw [e];rfl
theorem RR.kr {a:Nat} {w:World} (i:Nat) (x:Value):Kr a w (w.setCell ⟨a,i,none⟩ x):=(Kr.refl a w).set x
def pk (i:Nat) (l:List Tok):List UInt8:=match l[i]? with
 |some t=>t.1
 |none=> []
theorem pk0 (l:List Tok):pk 0 l=peek0 l:=by cases l <;> rfl
theorem pk1 (l:List Tok):pk 1 l=peek1 l:=by
 match l with
 |[]=>rfl
 |[_]=>rfl
 |_ :: t :: r=>rfl
theorem rpeek (i:Nat) {a:Nat} {L:List Tok} {E:Int} {n:Nat} {l:List Tok} (w:World) (h:RR a L E n l w) (hi:i≤1):
  Calls Tryz.prog 59 #[.pointer (some ⟨a,0,none⟩),.int .i64 i] w fun e w'=>e= .returned (.string (bs (pk i l)))∧Below w.heap.size w w':=by
 obtain⟨ao,cap,c0,c1,c2,c3,c4,c5,fz,hL⟩:=h.cells
 obtain⟨v,h1,h2,h5,h6,h7⟩:=h
 have hLL:=h6.1
 have hll:=h5.length_le
 by_cases hlt:L.length - l.length+i < L.length
 ·obtain⟨t,ht⟩:∃t,L[L.length - l.length+i]? =some t:=⟨_,List.getElem?_eq_getElem hlt⟩
  have HP:Hid (bs t.1=bs (pk i l)):=hide (by
   have e:=Rdr.word h5 i
   rw [ht] at e
   unfold pk;rw [←e])
  rcases hL with hL | ⟨g,rfl,hg⟩
  ·subst hL;simp at hlt
  have hc:=(hg _ t ht).1
  have hlt':(((L.length - l.length:Nat):Int)+(i:Int)) < L.length:=by omega
  have hge:¬(L.length:Int)≤((L.length - l.length:Nat):Int)+(i:Int):=by omega
  have hidx:((L.length - l.length:Nat):Int)+(i:Int)=((L.length - l.length+i:Nat):Int):=by omega
  clear hg ht h1 h2 h5 h6 fz c2 c3 c5
  generalize L.length - l.length=q at *
  obtain⟨m,hm⟩:∃m:Nat,m=q+i:=⟨_,rfl⟩
  have hw:IntKind.i64.wrap ((q:Int)+(i:Int))=(m:Int):=by rw [IntWalk.i64_in _ ⟨by omega,by omega⟩];omega
  have hg1:decide ((L.length:Int)≤(m:Int))=false:=by simp;omega
  have hm1:(m:Int) < L.length:=by omega
  have hm0:(0:Int)≤m:=by omega
  rw [←hm] at hc
  clear hge hlt hm hlt' hidx
  go_enter Tryz.func59,Tryz.ntmps59
  go_wp2_with fail
  go_quiet (fail)
  go_wp2_with fail
  go_quiet (fail)
  go_wp2_with fail
  go_ret
  exact⟨L5.ret_str HP.out,⟨rfl,rfl,rfl,Nat.le_refl _,fun _ _=>rfl⟩⟩
 ·have HP:Hid (bs []=bs (pk i l)):=hide (by
   have e:=Rdr.word h5 i
   rw [List.getElem?_eq_none (by omega)] at e
   unfold pk;rw [←e])
  have hge:(L.length:Int)≤((L.length - l.length:Nat):Int)+(i:Int):=by omega
  clear h1 h2 h5 h6 hL fz c2 c3 c5
  have hq:L.length - l.length≤L.length:=by omega
  generalize L.length - l.length=q at *
  obtain⟨m,hm⟩:∃m:Nat,m=q+i:=⟨_,rfl⟩
  have hw:IntKind.i64.wrap ((q:Int)+(i:Int))=(m:Int):=by rw [IntWalk.i64_in _ ⟨by omega,by omega⟩];omega
  have hg1:decide ((L.length:Int)≤(m:Int))=true:=by simp;omega
  have hg2:(L.length:Int)≤(m:Int):=by omega
  have hg3:L.length≤m:=by omega
  clear hge hlt hm
  go_enter Tryz.func59,Tryz.ntmps59
  go_wp2_with fail
  go_quiet (fail)
  go_wp2_with fail
  go_ret
  exact⟨L5.ret_str HP.out,⟨rfl,rfl,rfl,Nat.le_refl _,fun _ _=>rfl⟩⟩
end Go.Proofs.YtljkgcfnoegibaaGreatDoor
