/- Texts of one chain, joined. -/
import Derived.Test.YtljkgcfnoegibaaGreatDoorZAAN
import Derived.Test.YtljkgcfnoegibaaGreatDoorZAAO
set_option maxHeartbeats 8000000
set_option maxRecDepth 20000
namespace Go.Proofs.YtljkgcfnoegibaaGreatDoor
open Go Go.RowKit
open G (Tok Er Ins Fun)
def xB (n:Nat) (m:Int):Bool:=decide (m < 0∨(n:Int)≤m)
theorem Db (n:Nat) (m:Int):(!iT m n)=xB n m:=by
 rw [Bool.eq_iff_iff];simp [iT,xB]
theorem BM (m:Int) (n g:Nat) (w:World) (h:w.cell? ⟨g,0,none⟩=some (.int .i64 n)):Calls Tryz.prog 143 #[.int .i64 m,.pointer (some ⟨g,0,none⟩)] w fun e w'=>e= .returned (.bool (xB n m))∧w'=w:=by
 have HE:=ae (Db n m);go_enter Tryz.func143,Tryz.ntmps143
 go_wp2_with fail
 refine(sL m n _).mono ?_;rintro e w1 ⟨rfl,rfl⟩;generalize iT m n=t at *;go_wp2_with fail
 go_ret;exact⟨L5.aw HE.out,rfl⟩
def firstB (n:Nat):List Int→Int→Int
 |[],_=> -1
 |t :: r,k=>if xB n t then k else firstB n r (k+1)
theorem wY (n:Nat) (xs:List Int) (k:Nat) (t:Int) (h:xs[k]? =some t):firstB n (xs.drop k) k=if xB n t then(k:Int)else firstB n (xs.drop (k+1)) ((k+1:Nat):Int):=by
 rw [jf h];rfl
theorem yC (n:Nat) (l:List Int):∀k:Int,0≤k→(gT n l=true→0≤firstB n l k)∧(gT n l=false→firstB n l k= -1):=by
 induction l with
 |nil=>intro k _;simp [firstB,gT]
 |cons t r ih=>
  intro k hk;have e:gT n (t :: r)=(xB n t || gT n r):=rfl;rw [firstB,e]
  cases hb:xB n t with
  |true=>simp;exact hk
  |false=>simpa using ih (k+1) (by omega)
theorem yj (n:Nat) (xs:List Int) (ao:Option Addr) (c g:Nat) (w:World) (hs:Sl w ao xs) (hg:g < w.heap.size) (h:w.cell? ⟨g,0,none⟩=some (.int .i64 n)) (hm:xs.length≤maxLen):
  Calls Tryz.prog 112 #[.slice ao xs.length c,.func (Fn.func 143) #[] #[.pointer (some ⟨g,0,none⟩)]] w fun e w'=>e= .returned (.int .i64 (firstB n xs 0))∧Below w.heap.size w w':=by
 have H:=ae h;have X:=ae hs;unfold maxLen at hm;clear h hs;go_enter Tryz.func112,Tryz.ntmps112
 go_wp2_with fail
 go_loopw [8] (fun i wr=>∃k:Nat,i= .int .i64 k∧k≤xs.length∧Below w.heap.size w wr∧Hid (firstB n xs 0=firstB n (xs.drop k) k)) (fun i _=>xs.length - (intOf i).toNat)
 case atStart=>exact⟨0,rfl,Nat.zero_le _,Below.refl _ _,rfl⟩
 case round=>
  obtain⟨k,rfl,hk,HB,HF⟩:=hrel;have HB:=ae HB;by_cases hlt:k < xs.length
  ·obtain⟨t,ht⟩:∃t,xs[k]? =some t:=⟨xs[k],List.getElem?_eq_getElem hlt⟩;have HS:=ae (HF.out.trans (wY n xs k t ht));rcases X.out with he | ⟨b,o,rfl,hb,hc⟩
   ·subst he;simp at hlt
   have hcell:wr.cell? ⟨b,o+k,none⟩=some (.int .i64 t):=(HB.out.cell (p:=⟨b,o+k,none⟩) hb).trans (hc k t ht);have hlt':(k:Int) < xs.length:=(by omega);have hcg:=ae ((HB.out.cell (p:=⟨g,0,none⟩) hg).trans H.out);clear hc ht;go_wp2_with fail
   refine(BM t n g _ hcg.out).mono ?_;rintro e w1 ⟨rfl,rfl⟩
   cases hbt:xB n t with
   |true=>
    have HE:=ae (HS.out.trans (if_pos hbt));go_wp2_with fail
    go_ret;exact⟨by rw [HE.out];rfl,HB.out⟩
   |false=>
    have HE:=ae (HS.out.trans (if_neg (by simp [hbt])));go_wp2_with fail
    go_roundw
    case rel=>exact⟨k+1,by go_num,by omega,HB.out,HE.out⟩
    case measure=>simp [intOf];omega
  ·have hk2:k=xs.length:=(by omega);subst hk2;have HE:=ae (HF.out.trans (by rw [List.drop_length];rfl:_=(-1:Int)));go_wp2_with fail
   go_ret;exact⟨by rw [HE.out];rfl,HB.out⟩
theorem ta (n:Nat) (xs:List Int) (ao:Option Addr) (c g:Nat) (w:World) (hs:Sl w ao xs) (hg:g < w.heap.size) (h:w.cell? ⟨g,0,none⟩=some (.int .i64 n)) (hm:xs.length≤maxLen):
  Calls Tryz.prog 89 #[.slice ao xs.length c,.func (Fn.func 143) #[] #[.pointer (some ⟨g,0,none⟩)]] w fun e w'=>e= .returned (.bool (gT n xs))∧Below w.heap.size w w':=by
 obtain⟨f1,f2⟩:=yC n xs 0 (Int.le_refl 0);have H:=ae h;have X:=ae hs;have F1:=ae f1;have F2:=ae f2;clear h hs f1 f2;go_enter Tryz.func89,Tryz.ntmps89
 go_wp2_with fail
 refine(yj n xs ao c g _ X.out hg H.out hm).mono ?_;rintro e w1 ⟨rfl,b1⟩
 cases hb:gT n xs with
 |true=>
  have h1:=F1.out hb;replace hb:=ae hb;generalize firstB n xs 0=r at *;clear F1 F2;go_wp2_with fail
  go_ret;exact⟨L5.aw hb.out.symm,b1⟩
 |false=>
  have h1:=F2.out hb;rw [h1];replace hb:=ae hb;clear F1 F2 h1;go_wp2_with fail
  go_ret;exact⟨L5.aw hb.out.symm,b1⟩
theorem DP (b:List Ins) (N:Nat) (aok:Option Addr) (capk:Nat) (w:World) (hb:j7 w b (.slice aok b.length capk)) (ht:Tab w):
  Calls Tryz.prog 120 #[.slice aok b.length capk,.int .i64 N] w fun e w'=>e= .returned (.int .i64 (jw N b))∧Below w.heap.size w w':=by
 have hmf:∀(fn:Fn) (first cap:Array Value) (w:World),(Instr.makeFunc fn first cap).run Tryz.prog w= .ok (.func fn first cap) w:=fun _ _ _ _=>rfl;have b0:=ah w (.cells #[.int .i64 N] 3);have H0:=ae (heap_alloc_new w (.cells #[.int .i64 N] 3));have hz0:w.heap.size < (w.alloc (.cells #[.int .i64 N] 3)).heap.size:=by simp
 have HB:=ae (hb.below b0);have HT:=ae (ht.below b0);have B0:=ae b0;clear hb ht b0;go_enter Tryz.func120,Tryz.ntmps120
 go_upto_region 1 with fail
 show Code.wp _ _ _ _ (w.alloc (.cells #[.int .i64 N] 3));generalize w.alloc (.cells #[.int .i64 N] 3)=W at *;obtain⟨_,_,e',m1,m2,kk⟩:=HB.out;injection e' with e1 e2 e4;subst e1 e4;have HKK:=ae kk;unfold maxLen at m2;clear kk e2;go_wp2_with fail
 go_loopw [10] (fun i wq=>∃I:Nat,I≤b.length∧i= .int .i64 I∧Hid (blkGo N b.length 0 b=blkGo N b.length I (b.drop I))∧Hid (Below W.heap.size W wq)) (fun i _=>b.length - (intOf i).toNat)
 case atStart=>exact⟨0,Nat.zero_le _,rfl,ae rfl,ae (Below.refl _ _)⟩
 case round=>
  obtain⟨I,hI,rfl,HI,HW⟩:=hrel;by_cases hit:I < b.length
  ·have hiI:(I:Int) < b.length:=(by omega);obtain⟨x,hx⟩:∃x,b[I]? =some x:=⟨b[I],List.getElem?_eq_getElem hit⟩;rcases HKK.out with e0 | ⟨gi,oi,rfl,kk⟩
   ·subst e0;simp at hit
   have HI2:=ae (HI.out.trans (by rw [jf hx]));obtain⟨ai,ti,ca,ct,hv,r0,r1,r2,r3,r4,r5,r6,r7⟩:=((kk I _ hx).below HW.out).val;obtain⟨op,id,nn,ty,ar,tt,na,pp⟩:=x;dsimp only at hv r0 r1 r2 r3 r4 r5 r6 r7
   have HSt:Hid (Sl wr ti tt∧tt.length≤maxLen):=ae (by
    obtain⟨a1,t1,c1,c2,e,s1,s2,_,_,s5,s6⟩:=hv;injection e with e;have e2:=congrArg (fun a=>a[5]?) e;simp at e2;rw [e2.1];exact⟨s2,Nat.le_trans s5 s6⟩)
   have B7:=ae (ah wr (.cells #[.int .i64 op,.int .i64 id,.int .i64 nn,.int .i64 ty,.slice ai ar.length ca,.slice ti tt.length ct,.string (bs na),.int .i64 pp] 47));have H7:=ae (heap_alloc_new wr (.cells #[.int .i64 op,.int .i64 id,.int .i64 nn,.int .i64 ty,.slice ai ar.length ca,.slice ti tt.length ct,.string (bs na),.int .i64 pp] 47));have hbn:¬b.length=0:=(by omega);have HBE:Hid (jw N b=blkGo N b.length 0 b):=ae (if_neg hbn);have HW8:=ae (af HW.out B7.out);have HEn:=ae (DN op _ (HT.out.below HW8.out));clear kk hx hv HI;obtain⟨s0,s1,s2,s3,s4,s5,s6,s7⟩:=ij H7.out;have SS:=ae (And.intro s0 s5);have hwl:wr.heap.size < (wr.alloc (.cells #[.int .i64 op,.int .i64 id,.int .i64 nn,.int .i64 ty,.slice ai ar.length ca,.slice ti tt.length ct,.string (bs na),.int .i64 pp] 47)).heap.size:=(by simp);have HSt8:Hid (Sl (wr.alloc (.cells #[.int .i64 op,.int .i64 id,.int .i64 nn,.int .i64 ty,.slice ai ar.length ca,.slice ti tt.length ct,.string (bs na),.int .i64 pp] 47)) ti tt):=ae (HSt.out.1.below B7.out);have htl:tt.length≤maxLen:=HSt.out.2;have hsub:IntKind.i64.wrap ((b.length:Int) - 1)=(b.length:Int) - 1:=IntWalk.i64_in _ ⟨by omega,by omega⟩;go_wp2_with fail
   refine HEn.out.mono ?_;rintro e w9 ⟨rfl,b9⟩;have HW9:=ae (af HW8.out b9);have t0:=(b9.cell (p:=⟨wr.heap.size,0,none⟩) hwl).trans SS.out.1;have t5:=(b9.cell (p:=⟨wr.heap.size,5,none⟩) hwl).trans SS.out.2;have HSt9:=ae (HSt8.out.below b9);have HN9:=ae (uL ((HW9.out.block _ hz0).trans H0.out));have hz9:w.heap.size < w9.heap.size:=Nat.lt_of_lt_of_le hz0 HW9.out.size;clear s0 s1 s2 s3 s4 s5 s6 s7 r0 r1 r2 r3 r4 r5 r6 r7 B7 H7 HW HSt HSt8 SS HW8 HEn b9;generalize wr.heap.size=q at *;have HC:=ae (ta N tt ti ct w.heap.size w9 HSt9.out hz9 HN9.out htl);by_cases hl:I+1=b.length
   ·have hlI:((I:Int) == (b.length:Int) - 1)=true:=by simpa using (by omega:(I:Int)=b.length - 1)
    cases he:fj op with
    |true=>
     have HEq:Hid (fj op=decide (I+1=b.length)):=ae (by simp [he,hl]);have HBad:Hid (fT N (op,id,nn,ty,ar,tt,na,pp)=true→(7:Int)=jw N b):=ae (fun h=>((HBE.out.trans (HI2.out.trans (jj HEq.out h)))).symm);have HOk:Hid (fT N (op,id,nn,ty,ar,tt,na,pp)=false→blkGo N b.length 0 b=blkGo N b.length (I+1) (b.drop (I+1))):=ae (fun h=>HI2.out.trans (ix HEq.out h));replace he:=ae he;by_cases hop:op=20
     ·have hop':(op != 20)=false:=(by simpa using hop);have HE:=ae (HOk.out (by simp [fT,hop]));clear HBad HOk HI2 HBE HC HEq;go_wp2_with fail
      go_roundw
      case rel=>exact⟨I+1,by omega,by go_num,HE,HW9⟩
      case measure=>simp [intOf];omega
     ·have hop':(op != 20)=true:=(by simpa using hop);go_wp2_with fail
      refine HC.out.mono ?_;rintro e wA ⟨rfl,bA⟩;have HWA:=ae (af HW9.out bA)
      cases hbt:gT N tt with
      |true=>
       have HE:=ae (HBad.out (by simp [fT,hop,hbt]));clear HBad HOk HI2 HBE HC HEq;go_wp2_with fail
       go_ret;exact⟨L5.aI HE.out,af B0.out HWA.out⟩
      |false=>
       have HE:=ae (HOk.out (by simp [fT,hbt]));clear HBad HOk HI2 HBE HC HEq;go_wp2_with fail
       go_roundw
       case rel=>exact⟨I+1,by omega,by go_num,HE,HWA⟩
       case measure=>simp [intOf];omega
    |false=>
     have HE:Hid ((15:Int)=jw N b):=ae ((HBE.out.trans (HI2.out.trans (jk (by simp [he,hl])))).symm);replace he:=ae he;clear HI2 HBE HC;go_wp2_with fail
     go_ret;exact⟨L5.aI HE.out,af B0.out HW9.out⟩
   ·have hlI:((I:Int) == (b.length:Int) - 1)=false:=beq_eq_false_iff_ne.2 (by omega)
    cases he:fj op with
    |true=>
     have HE:Hid ((15:Int)=jw N b):=ae ((HBE.out.trans (HI2.out.trans (jk (by simp [he,hl])))).symm);replace he:=ae he;clear HI2 HBE HC;go_wp2_with fail
     go_ret;exact⟨L5.aI HE.out,af B0.out HW9.out⟩
    |false=>
     have HEq:Hid (fj op=decide (I+1=b.length)):=ae (by simp [he,hl]);have HBad:Hid (fT N (op,id,nn,ty,ar,tt,na,pp)=true→(7:Int)=jw N b):=ae (fun h=>((HBE.out.trans (HI2.out.trans (jj HEq.out h)))).symm);have HOk:Hid (fT N (op,id,nn,ty,ar,tt,na,pp)=false→blkGo N b.length 0 b=blkGo N b.length (I+1) (b.drop (I+1))):=ae (fun h=>HI2.out.trans (ix HEq.out h));replace he:=ae he;by_cases hop:op=20
     ·have hop':(op != 20)=false:=(by simpa using hop);have HE:=ae (HOk.out (by simp [fT,hop]));clear HBad HOk HI2 HBE HC HEq;go_wp2_with fail
      go_roundw
      case rel=>exact⟨I+1,by omega,by go_num,HE,HW9⟩
      case measure=>simp [intOf];omega
     ·have hop':(op != 20)=true:=(by simpa using hop);go_wp2_with fail
      refine HC.out.mono ?_;rintro e wA ⟨rfl,bA⟩;have HWA:=ae (af HW9.out bA)
      cases hbt:gT N tt with
      |true=>
       have HE:=ae (HBad.out (by simp [fT,hop,hbt]));clear HBad HOk HI2 HBE HC HEq;go_wp2_with fail
       go_ret;exact⟨L5.aI HE.out,af B0.out HWA.out⟩
      |false=>
       have HE:=ae (HOk.out (by simp [fT,hbt]));clear HBad HOk HI2 HBE HC HEq;go_wp2_with fail
       go_roundw
       case rel=>exact⟨I+1,by omega,by go_num,HE,HWA⟩
       case measure=>simp [intOf];omega
  ·obtain rfl:I=b.length:=(by omega);have HE:=HI.out;rw [List.drop_length] at HE;by_cases hbn:b.length=0
   ·have hbn':((b.length:Int) == 0)=true:=(by simpa using hbn);have HEE:Hid ((15:Int)=jw N b):=ae (if_pos hbn).symm;clear HE HI;go_wp2_with fail
    go_ret;exact⟨L5.aI HEE.out,af B0.out HW.out⟩
   ·have hbn':((b.length:Int) == 0)=false:=(by simpa using hbn);have HEE:Hid ((0:Int)=jw N b):=ae ((if_neg hbn).trans HE).symm;clear HE HI;go_wp2_with fail
    go_ret;exact⟨L5.aI HEE.out,af B0.out HW.out⟩
theorem ye (nm:List UInt8) (ps:List Int) (rt pl:Int) (bl:List (List Ins)) (ao bo:Option Addr) (c cb:Nat) (w:World)
  (hv:cg w (nm,ps,rt,bl,pl) (.agg #[.string (bs nm),.slice ao ps.length c,.int .i64 rt,.slice bo bl.length cb,.int .i64 pl])) (ht:Tab w):
  Calls Tryz.prog 93 #[.agg #[.string (bs nm),.slice ao ps.length c,.int .i64 rt,.slice bo bl.length cb,.int .i64 pl]] w fun e w'=>e= .returned (.agg #[.int .i64 (aH (nm,ps,rt,bl,pl)).1,.int .i64 (aH (nm,ps,rt,bl,pl)).2])∧Below w.heap.size w w':=by
 obtain⟨b0,h0,h1,hz0⟩:=si w #[.string (bs nm),.slice ao ps.length c,.int .i64 rt,.slice bo bl.length cb,.int .i64 pl];have H0:=ae h0;have H1:=ae h1;have HV:=ae (hv.below b0);have HT:=ae (ht.below b0);have B0:=ae b0;have hbc:bl.length≤cb∧cb≤maxLen:=by
  obtain⟨vp,vb,e,_,⟨ao',c',e',h1,h2,_⟩⟩:=hv;injection e with e;have e3:=congrArg (fun a=>a[3]?) e;simp at e3;subst e3;injection e' with e1 e2 e3;subst e3;exact⟨h1,h2⟩
 have hz2:w.heap.size < ((w.alloc (.cells #[.string (bs nm),.slice ao ps.length c,.int .i64 rt,.slice bo bl.length cb,.int .i64 pl] 36)).alloc (.cells #[.int .i64 0,.int .i64 0] 29)).heap.size:=by omega
 unfold maxLen at hbc;clear b0 h0 h1 hv ht;go_enter Tryz.func93,Tryz.ntmps93
 go_upto_region 1 with fail
 show Code.wp _ _ _ _ ((w.alloc (.cells #[.string (bs nm),.slice ao ps.length c,.int .i64 rt,.slice bo bl.length cb,.int .i64 pl] 36)).alloc (.cells #[.int .i64 0,.int .i64 0] 29));generalize (w.alloc (.cells #[.string (bs nm),.slice ao ps.length c,.int .i64 rt,.slice bo bl.length cb,.int .i64 pl] 36)).alloc (.cells #[.int .i64 0,.int .i64 0] 29)=W at *;obtain⟨x0,x1,x2,x3,x4⟩:=jJ H0.out;by_cases hn0:bl.length=0
 ·have HE:Hid (aH (nm,ps,rt,bl,pl)=(15,0)):=ae (if_pos hn0);obtain⟨d0,d1,z0,z1⟩:=fu H1.out;go_wp2_with fail
  exact bodyPost_ret (v:= .agg #[.int .i64 15,.int .i64 0]) (by simp [results,Tryz.results93,go_sem,d0,d1]) rfl ⟨by rw [HE.out],dx B0.out (Below.refl _ _)⟩
 have hn1:((bl.length:Int) == 0)=false:=by simpa using hn0
 have HB:Hid (dy W bl (.slice bo bl.length cb)):=ae (by
  obtain⟨vp,vb,e,_,hB⟩:=HV.out;injection e with e;have e3:=congrArg (fun a=>a[3]?) e;simp at e3;rw [e3];exact hB)
 have HS:Hid (aH (nm,ps,rt,bl,pl)=shapedGo bl.length 0 bl):=ae (if_neg hn0);go_wp2_with fail
 clear x0 x1 x2 x3 x4;go_loopw [14] (fun i wr=>∃K:Nat,K≤bl.length∧i= .int .i64 K∧Hid (aH (nm,ps,rt,bl,pl)=shapedGo bl.length K (bl.drop K))∧Hid (Below W.heap.size W wr)) (fun i _=>bl.length - (intOf i).toNat)
 case atStart=>exact⟨0,Nat.zero_le _,rfl,HS,ae (Below.refl _ _)⟩
 case round=>
  obtain⟨K,hK,rfl,HR,HW⟩:=hrel;obtain⟨x0,x1,x2,x3,x4⟩:=jJ ((HW.out.block _ hz2).trans H0.out);by_cases hkt:K < bl.length
  ·obtain⟨b,hbK⟩:∃b,bl[K]? =some b:=⟨bl[K],List.getElem?_eq_getElem hkt⟩;have hkI:(K:Int) < bl.length:=(by omega);obtain⟨_,_,e',l1,l2,l3⟩:=HB.out;injection e' with e1 e2 e4;subst e1 e4;rcases l3 with l3 | ⟨gc,oc,rfl,gk,h2⟩
   ·subst l3;simp at hkt
   obtain⟨vk,kd,kk⟩:=h2 K b hbK;have kk2:=kk.below HW.out;obtain⟨aok,capk,rfl,m1,m2,_⟩:=kk;have c1:=(HW.out.cell (p:=⟨gc,oc+K,none⟩) gk).trans kd;have HR2:=ae (HR.out.trans (by rw [jf hbK]));have HL:=ae (DP b bl.length aok capk wr kk2 (HT.out.below HW.out));unfold maxLen at m2;clear kd kk2 h2 hbK e2 HR;go_wp2_with fail
   refine HL.out.mono ?_;rintro e w9 ⟨rfl,b9⟩;have HW9:=ae (af HW.out b9);clear x0 x1 x2 x3 x4 c1 b9 HL;by_cases hz:jw bl.length b=0
   ·have HEE:Hid (aH (nm,ps,rt,bl,pl)=shapedGo bl.length (K+1) (bl.drop (K+1))):=ae (HR2.out.trans (jc hz));rw [hz];clear hz HR2;go_wp2_with fail
    go_roundw
    case rel=>exact⟨K+1,by omega,by go_num,HEE,HW9⟩
    case measure=>simp [intOf];omega
   ·have hz':(jw bl.length b != 0)=true:=(by simpa using hz);have HEE:Hid (aH (nm,ps,rt,bl,pl)=(jw bl.length b,(K:Int))):=ae (HR2.out.trans (dT rfl hz));clear hz HR2;generalize jw bl.length b=z at *;obtain⟨d0,d1,z0,z1⟩:=fu ((HW9.out.block _ hz0).trans H1.out);go_wp2_with fail
    exact bodyPost_ret (v:= .agg #[.int .i64 z,.int .i64 (K:Int)]) (by simp [results,Tryz.results93,go_sem,d0,d1]) rfl ⟨by rw [HEE.out],dx B0.out HW9.out⟩
  ·obtain rfl:K=bl.length:=(by omega);have HE:=HR.out;rw [List.drop_length] at HE;replace HE:Hid (aH (nm,ps,rt,bl,pl)=(0,0)):=ae HE;obtain⟨d0,d1,z0,z1⟩:=fu ((HW.out.block _ hz0).trans H1.out);go_wp2_with fail
   exact bodyPost_ret (v:= .agg #[.int .i64 0,.int .i64 0]) (by simp [results,Tryz.results93,go_sem,d0,d1]) rfl ⟨by rw [HE.out],dx B0.out HW.out⟩
theorem xW (f:Fun) (v:Value) (w:World) (hv:cg w f v) (ht:Tab w):
  Calls Tryz.prog 93 #[v] w fun e w'=>e= .returned (.agg #[.int .i64 (aH f).1,.int .i64 (aH f).2])∧Below w.heap.size w w':=by
 obtain⟨nm,ps,rt,bl,pl⟩:=f;have hv2:=hv;obtain⟨vp,vb,rfl,⟨ao,c,rfl,h1,_⟩,h2⟩:=hv;obtain⟨bo,cb,rfl,_⟩:=h2;exact ye nm ps rt pl bl ao bo c cb w hv2 ht
open G (Tok Er Ins Fun peek0 peek1 fG)
theorem Fa (c:UInt8) (h:inB [32,9,10,13] c=true):L2.gJ c.toNat=false∧L2.jO c.toNat=false∧¬(c.toNat:Int)=35∧L2.nW c.toNat=true:=by
 have key:∀n:Fin 256,inB [32,9,10,13] (UInt8.ofNat n.val)=true→L2.gJ (UInt8.ofNat n.val).toNat=false∧L2.jO (UInt8.ofNat n.val).toNat=false∧¬((UInt8.ofNat n.val).toNat:Int)=35∧L2.nW (UInt8.ofNat n.val).toNat=true:=by decide +kernel
 have:=key ⟨c.toNat,c.toNat_lt⟩;rw [show UInt8.ofNat c.toNat=c from UInt8.ofNat_toNat] at this;exact this h
theorem FH (c:UInt8) (h:inB [40,41,123,125,61,58] c=true):L2.gJ c.toNat=false∧L2.jO c.toNat=true:=by
 have key:∀n:Fin 256,inB [40,41,123,125,61,58] (UInt8.ofNat n.val)=true→L2.gJ (UInt8.ofNat n.val).toNat=false∧L2.jO (UInt8.ofNat n.val).toNat=true:=by decide +kernel
 have:=key ⟨c.toNat,c.toNat_lt⟩;rw [show UInt8.ofNat c.toNat=c from UInt8.ofNat_toNat] at this;exact this h
theorem Bm (l:List UInt8) (p q:Nat) (ws:List (Nat × Nat)) (h:∀c r,l=c :: r→L2.gJ c.toNat=false):L2.scan l q ws (some p) false=L2.scan l q (ws ++ [(p,q)]) none false:=by
 cases l with
 |nil=>rfl
 |cons c r=>
  have hc:=h c r rfl;by_cases h2:L2.jO c.toNat=true
  ·rw [L2.kP r q ws (some p) hc h2,L2.kP r q (ws ++ [(p,q)]) none hc h2];rfl
  ·have h2:L2.jO c.toNat=false:=(by simpa using h2);by_cases h3:(c.toNat:Int)=35
   ·rw [L2.lO r q ws (some p) hc h2 h3,L2.lO r q (ws ++ [(p,q)]) none hc h2 h3];rfl
   ·by_cases h4:L2.nW c.toNat=true
    ·rw [L2.kN r q ws (some p) hc h2 h3 h4,L2.kN r q (ws ++ [(p,q)]) none hc h2 h3 h4];rfl
    ·have h4:L2.nW c.toNat=false:=(by simpa using h4);rw [L2.kL r q ws (some p) hc h2 h3 h4,L2.kL r q (ws ++ [(p,q)]) none hc h2 h3 h4]
def SpR (w:World) (s:ByteArray) (v:Value) (ws:List (Nat × Nat)) (wr:World):Prop:=
 wr.ownsRow (w.heap.size+1) 95 2 v ws.length (L2.cellsT (ws.map (L2.tok s)))∧wr.heap[w.heap.size]? =some (.cells #[.int .i64 0,.int .i64 0] 29 (0,0))∧Below w.heap.size w wr∧w.heap.size < wr.heap.size
theorem SpR.step {w wr w2:World} {s:ByteArray} {v v':Value} {ws:List (Nat × Nat)} {a b:Nat} {o:Obj} (h:SpR w s v ws wr)
  (own:w2.ownsRow (w.heap.size+1) 95 2 v' (ws.length+1) (L2.cellsT (ws.map (L2.tok s)) ++ [.string (s.extract a b),.int .i64 a])) (hg:(wr.alloc o).grownBy w2 v.ownBlock):SpR w s v' (ws ++ [(a,b)]) w2:=by
 obtain⟨h1,h2,h3,h4⟩:=h;have bx:=ah wr o;have hz:=bx.size;have hrow:∀q,v.ownBlock=some q→w.heap.size+1≤q:=fun q hq=>(h1.lt q hq).1;refine⟨by rw [L2.xj,List.length_append];exact own,(hg.block _ (by omega) (fun e=>by have:=hrow _ e.symm;omega)).trans ((bx.block _ h4).trans h2),?_,by have:=hg.size;omega⟩;exact⟨hg.os.trans (bx.os.trans h3.os),hg.tape.trans (bx.tape.trans h3.tape),hg.output.trans (bx.output.trans h3.output),by have:=hg.size;have:=h3.size;omega,fun k hk=>(hg.block k (by omega) (fun e=>by have:=hrow k e.symm;omega)).trans ((bx.block k (by omega)).trans (h3.block k hk))⟩
theorem Jc (s:ByteArray) (hs:s.size≤65536) (hn:∀c∈s.data.toList,(c.toNat:Int)≠35) {ws:List (Nat × Nat)} (hw:L2.words s= .inr ws):Splits s (ko s ws):=by
 intro w;obtain⟨i0,hi,hz0,hz1,hz2⟩:=info_parts L2.Tryz.FL;have hs1:¬(65536:Int) < (s.size:Int):=by omega
 have hs2:decide ((65536:Int) < (s.size:Int))=false:=by simpa using hs1
 have HN:=ae hn;have HW:Hid (L2.scan (s.data.toList.drop 0) 0 [] none false= .inr ws):=ae hw;have S0:Hid (SpR w s (.slice none 0 0) [] (w.alloc (.cells #[.int .i64 0,.int .i64 0] 29))):=ae ⟨World.ownsRow_nil _ _ _ _,heap_alloc_new w _,ah w _,by simp⟩;clear hn hw;go_enter Tryz.func34,Tryz.ntmps34
 go_upto_region 1 with fail
 show Code.wp _ _ _ _ (w.alloc (.cells #[.int .i64 0,.int .i64 0] 29));generalize w.alloc (.cells #[.int .i64 0,.int .i64 0] 29)=W0 at *;go_wp2_with fail
 go_loopw [4,5] (fun v i wr=>∃(p:Nat) (us:List (Nat × Nat)),p≤s.size∧i= .int .i64 p∧us.length≤p∧Hid (SpR w s v us wr)∧Hid (L2.scan (s.data.toList.drop p) p us none false= .inr ws)) (fun _ i _=>s.size - (intOf i).toNat)
 case atStart=>exact⟨0,[],Nat.zero_le _,rfl,by simp,S0,HW⟩
 case round=>
  obtain⟨p,us,hp,rfl,hus,S,HR⟩:=hrel;by_cases hlt:p < s.size
  ·have hlt':(p:Int) < (s.size:Int):=(by omega);obtain⟨d,hd⟩:∃d,d=s[p]:=⟨_,rfl⟩;have hd1:(s[p].toNat:Int)=(d.toNat:Int):=(by rw [hd]);have HD:Hid (L2.scan (d :: s.data.toList.drop (p+1)) p us none false= .inr ws):=ae (by rw [hd,←L2.drop_cons s p hlt];exact HR.out);have hn35:((d.toNat:Int) == 35)=false:=by
    have:=HN.out d (by rw [hd];exact List.mem_of_mem_drop (i:=p) (by rw [L2.drop_cons s p hlt];simp));simpa using this
   clear hd;obtain⟨ao,cp,rfl⟩:=aL S.out.1;go_wp2_with fail
   refine(rin d [32,9,10,13] _ (by simp)).mono ?_;rintro e w1 ⟨rfl,hw1⟩;rw [hw1];clear hw1
   cases hb:inB [32,9,10,13] d with
   |true=>
    have HE:Hid (L2.scan (s.data.toList.drop (p+1)) (p+1) us none false= .inr ws):=ae (by
     obtain⟨k1,k2,k3,k4⟩:=Fa d hb;have:=HD.out;rwa [L2.kN _ _ _ _ k1 k2 k3 k4] at this)
    clear HD HR hb;go_wp2_with fail
    go_roundw
    case rel=>exact⟨p+1,us,by omega,by go_num,by omega,S,HE⟩
    case measure=>simp [intOf];omega
   |false=>
    go_wp2_with fail
    refine(rin d [40,41,123,125,61,58] _ (by simp)).mono ?_;rintro e w1 ⟨rfl,hw1⟩;rw [hw1];clear hw1
    cases ha:inB [40,41,123,125,61,58] d with
    |true=>
     have HE:Hid (L2.scan (s.data.toList.drop (p+1)) (p+1) (us ++ [(p,p+1)]) none false= .inr ws):=ae (by
      obtain⟨k1,k2⟩:=FH d ha;have:=HD.out;rwa [L2.kP _ _ _ _ k1 k2] at this)
     have OS:=ae S.out.1;have hsw:=S.out.2.2.2;have t2:us.length+1≤maxLen:=(by unfold maxLen;omega);have t3:(us.length+1) * 24≤140737488355328:=(by omega);clear HD HR hb ha;go_wp2_with (at_builtin;refine wpList_append_own _ rfl (.tmp 39) (.tmp 47) 65 rfl (w.heap.size+1) 95 i0 _ 2 24 Tryz.underlying65 hi hz0 hz1 hz2 rfl (by decide) _ _ _ rfl (OS.out.alloc _) ⟨wr.heap.size,0,none⟩ 1 1 [.string (s.extract p (p+1)),.int .i64 p] rfl rfl L2.gV L2.lL t2 t3 (by simp;omega) ?_;intro v2 w2 own2 grow2 _)
     have S2:=ae (S.out.step own2 grow2);clear own2 grow2;go_wp2_with fail
     go_roundw
     case rel=>exact⟨p+1,us ++ [(p,p+1)],by omega,by go_num,by simp;omega,S2,HE⟩
     case measure=>simp [intOf];omega
    |false=>
     have hlet:tI d=true:=by
      cases hl:tI d with
      |true=>rfl
      |false=>
       have:=HD.out;rw [L2.kL _ _ _ _ (by rw [←ng];exact hl) (by rw [←GP];exact ha) (by simpa using hn35) (by rw [←Ig];exact hb)] at this
       cases this
     have HLET:=ae hlet;go_wp2_with fail
     refine(o0 d _).mono ?_;rintro e w1 ⟨rfl,hw1⟩;rw [hw1,HLET.out];clear hw1 hlet;have HR0:Hid (L2.scan (s.data.toList.drop p) p us none false= .inr ws):=HR;clear HD HR hb ha;go_wp2_with fail
     go_loopw [7] (fun j wr2=>∃(q:Nat) (bq:Option Nat),p≤q∧q≤s.size∧j= .int .i64 q∧Hid (SpR w s (.slice ao us.length cp) us wr2)∧Hid (bq.getD q=p∧(p < q→bq=some p)∧L2.scan (s.data.toList.drop q) q us bq false= .inr ws)) (fun j _=>s.size - (intOf j).toNat)
     case atStart=>exact⟨p,none,Nat.le_refl _,by omega,rfl,S,ae ⟨rfl,fun h=>absurd h (Nat.lt_irrefl _),HR0.out⟩⟩
     case round=>
      obtain⟨q,bq,hpq,hqs,rfl,SQ,HQ⟩:=hrel;have fin:Hid ((∀c r,s.data.toList.drop q=c :: r→L2.gJ c.toNat=false)→p < q∧L2.scan (s.data.toList.drop q) q (us ++ [(p,q)]) none false= .inr ws):=ae (by
       intro hx;have hpq2:p < q:=by
        refine Classical.byContradiction fun hc=> ?_;have e:q=p:=(by omega);have:=hx _ _ (by rw [e];exact L2.drop_cons s p hlt);have h2:=HLET.out;rw [ng] at h2;have h3:(s[p].toNat:Int)=(d.toNat:Int):=hd1;rw [h3] at this;rw [this] at h2
        cases h2
       obtain⟨_,k2,k3⟩:=HQ.out;rw [k2 hpq2,Bm _ _ _ _ hx] at k3;exact⟨hpq2,k3⟩)
      by_cases hq:q < s.size
      ·have hq':(q:Int) < (s.size:Int):=(by omega);obtain⟨d2,hd2⟩:∃d2,d2=s[q]:=⟨_,rfl⟩;have hd3:(s[q].toNat:Int)=(d2.toNat:Int):=(by rw [hd2]);have HDQ:=ae (show s.data.toList.drop q=d2 :: s.data.toList.drop (q+1) by rw [hd2];exact L2.drop_cons s q hq);clear hd2;go_wp2_with fail
       refine(o0 d2 _).mono ?_;rintro e w1 ⟨rfl,hw1⟩;rw [hw1];clear hw1
       cases hl2:tI d2 with
       |true=>
        have HQ2:Hid ((some p).getD (q+1)=p∧(p < q+1→some p=some p)∧L2.scan (s.data.toList.drop (q+1)) (q+1) us (some p) false= .inr ws):=ae ⟨rfl,fun _=>rfl,by
         obtain⟨k1,_,k3⟩:=HQ.out;rw [HDQ.out,L2.pI _ _ _ _ (by rw [←ng];exact hl2),k1] at k3;exact k3⟩
        clear HQ fin HDQ hl2;go_wp2_with fail
        go_roundw
        case rel=>exact⟨q+1,some p,by omega,by omega,by go_num,SQ,ae ⟨rfl,fun _=>rfl,HQ2.out.2.2⟩⟩
        case measure=>simp [intOf];omega
       |false=>
        have HF:=ae (fin.out fun c r hcr=>by
         rw [HDQ.out] at hcr
         cases hcr;rw [←ng];exact hl2)
        clear HQ fin HDQ hl2;have OS:=ae SQ.out.1;have hsw:=SQ.out.2.2.2;have t2:us.length+1≤maxLen:=(by unfold maxLen;omega);have t3:(us.length+1) * 24≤140737488355328:=(by omega);go_wp2_with (at_builtin;refine wpList_append_own _ rfl (.tmp 66) (.tmp 73) 65 rfl (w.heap.size+1) 95 i0 _ 2 24 Tryz.underlying65 hi hz0 hz1 hz2 rfl (by decide) _ _ _ rfl (OS.out.alloc _) ⟨wr.heap.size,0,none⟩ 1 1 [.string (s.extract p q),.int .i64 p] rfl rfl L2.gV L2.lL t2 t3 (by simp;omega) ?_;intro v2 w2 own2 grow2 _)
        have S2:=ae (SQ.out.step own2 grow2);have hpq2:=HF.out.1;clear own2 grow2;go_wp2_with fail
        go_roundw
        case rel=>exact⟨q,us ++ [(p,q)],hqs,rfl,by simp;omega,S2,ae HF.out.2⟩
        case measure=>simp [intOf];omega
      ·have hq':¬(q:Int) < (s.size:Int):=(by omega);have hq2:decide ((q:Int) < (s.size:Int))=false:=(by simpa using hq');have HF:=ae (fin.out fun c r hcr=>by
        rw [List.drop_eq_nil_of_le (by have e9:s.data.toList.length=s.size:=(by simp);omega)] at hcr
        cases hcr)
       clear HQ fin;have OS:=ae SQ.out.1;have hsw:=SQ.out.2.2.2;have t2:us.length+1≤maxLen:=(by unfold maxLen;omega);have t3:(us.length+1) * 24≤140737488355328:=(by omega);go_wp2_with (at_builtin;refine wpList_append_own _ rfl (.tmp 66) (.tmp 73) 65 rfl (w.heap.size+1) 95 i0 _ 2 24 Tryz.underlying65 hi hz0 hz1 hz2 rfl (by decide) _ _ _ rfl (OS.out.alloc _) ⟨wr.heap.size,0,none⟩ 1 1 [.string (s.extract p q),.int .i64 p] rfl rfl L2.gV L2.lL t2 t3 (by simp;omega) ?_;intro v2 w2 own2 grow2 _)
       have S2:=ae (SQ.out.step own2 grow2);have hpq2:=HF.out.1;clear own2 grow2;go_wp2_with fail
       go_roundw
       case rel=>exact⟨q,us ++ [(p,q)],hqs,rfl,by simp;omega,S2,ae HF.out.2⟩
       case measure=>simp [intOf];omega
  ·have hlt':¬(p:Int) < (s.size:Int):=(by omega);have hlt2:decide ((p:Int) < (s.size:Int))=false:=(by simpa using hlt');obtain rfl:us=ws:=by
    have:=HR.out;rw [List.drop_eq_nil_of_le (by have e9:s.data.toList.length=s.size:=(by simp);omega)] at this;injection this
   obtain⟨ao,cp,rfl⟩:=aL S.out.1;obtain⟨o1,s3,bb,hwz⟩:=S.out;have u1:wr.cell? ⟨w.heap.size,0,none⟩=some (.int .i64 0):=(by simp [World.cell?,s3]);have u2:wr.cell? ⟨w.heap.size,1,none⟩=some (.int .i64 0):=(by simp [World.cell?,s3]);have v1:wr.frozen? ⟨w.heap.size,0,none⟩=false:=(by simp [World.frozen?,s3]);have v2:wr.frozen? ⟨w.heap.size,1,none⟩=false:=(by simp [World.frozen?,s3]);have FF:=((Far.refl w.heap.size wr).set 0 (.int .i64 0)).set 1 (.int .i64 0);have OO:=ae (aT (FF.own o1 (aU o1 s3 (by decide))) (Nat.le_succ w.heap.size));have BB:=ae ((bb.setCell (p:=⟨w.heap.size,0,none⟩) (Nat.le_refl _) (.int .i64 0)).setCell (p:=⟨w.heap.size,1,none⟩) (Nat.le_refl _) (.int .i64 0));have HL:=ae (show us.length=(ko s us).length by simp [ko]);have HC:=ae (qF s us);clear o1 s3 bb FF S HR;go_wp2_with fail
   exact bodyPost_ret (v:= .tuple #[.slice ao us.length cp,.agg #[.int .i64 0,.int .i64 0]]) (by simp [results,Tryz.results34,go_sem,u1,u2]) rfl ⟨_,rfl,by rw [←HC.out,←HL.out];exact OO.out,BB.out⟩
theorem J4 {E:Int}:∀(f n:Nat) (acc:List Fun) (l:List Tok) (xs:List Fun) (n':Nat) (r:List Tok),l.length < f→fwG E f n acc l= .ok ((xs,n'),r)→r= []:=by
 intro f;induction f with
 |zero=>intro n acc l xs n' r h;omega
 |succ f ih=>
  intro n acc l xs n' r h hr;by_cases hl:l= []
  ·subst hl;rw [AF] at hr;cases hr;rfl
  ·by_cases h32:acc.length < 32
   ·cases hq:rF E n l with
    |error er=>rw [Fe hl h32 hq] at hr;cases hr
    |ok p=>
     have hless:=xK (x:=p.1.1) (n':=p.1.2) (l':=p.2) hq;rw [Iy (x:=p.1.1) (n':=p.1.2) (l':=p.2) hl h32 hq] at hr;exact ih _ _ _ _ _ _ (by omega) hr
   ·rw [AJ hl (by omega)] at hr;cases hr
theorem nS (s:ByteArray) (hs:s.size≤65536) (hn:∀c∈s.data.toList,(c.toNat:Int)≠35) {xs:List Fun} (h:wW s= .ok xs) (w:World):
  Calls Tryz.prog 20 #[.string s] w fun e w'=>∃v,e= .returned (.tuple #[.agg #[v],.agg #[.int .i64 0,.int .i64 0]])∧iM w.heap.size xs v w'∧Below w.heap.size w w':=by
 unfold wW at h
 cases hw:L2.words s with
 |inl x=>rw [hw] at h;cases h
 |inr ws=>
  rw [hw] at h;replace h:(match AQ (s.size:Int) (ko s ws)with | .ok ((xs,_),_)=>Except.ok xs | .error er=> .error er)= .ok xs:=h
  cases hp:AQ (s.size:Int) (ko s ws)with
  |error er=>rw [hp] at h;cases h
  |ok p=>
   obtain⟨⟨ys,n'⟩,r⟩:=p;rw [hp] at h
   cases h;have hr:r= []:=J4 _ _ _ _ _ _ _ (Nat.lt_succ_self _) hp;subst hr;exact Lv s (yb hw hs) (Jc s hs hn hw) hp w
end Go.Proofs.YtljkgcfnoegibaaGreatDoor
