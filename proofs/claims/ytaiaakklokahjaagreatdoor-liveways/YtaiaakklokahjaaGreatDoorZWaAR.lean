/- Texts of one chain, joined. -/
import Derived.Test.YtaiaakklokahjaaGreatDoorZWaAM
import Derived.Test.YtaiaakklokahjaaGreatDoorZWaAO
import Derived.Laws.Bits128
set_option maxHeartbeats 8000000
set_option maxRecDepth 20000
namespace Go.Proofs.YtaiaakklokahjaaGreatDoor
open Go Go.RowKit
open G (Tok Er Ins Fun)
def pU (i:Nat) (x:Nat × Int) (r:List Fun):Int × Int:=if x.2≠0 then(x.2,(i:Int))else aT (i+1) x.1 r
theorem Ac {i m:Nat} {f:Fun} (r:List Fun) (hi:i≠32) (hh:dE f=0):aT i m (f :: r)=pU i (fT m f.2.2.2.1) r:=by
 rw [aT,if_neg hi,if_neg (by simp [hh])];rfl
theorem ym {i m:Nat} {z:Int} (r:List Fun) (h:z≠0):pU i (m,z) r=(z,(i:Int)):=by unfold pU;rw [if_pos h]
theorem Da (i m:Nat) (r:List Fun):pU i (m,0) r=aT (i+1) m r:=by unfold pU;simp
theorem zx (i:Nat) (f:Fun) (v:Value) (w:World) (h:bS w f v) (hO:OkF f) (hi:i≤32):Calls Tryz.prog 86 #[v,.int .i64 i] w fun e w'=>e= .returned (.int .i64 (dd i f))∧Below w.heap.size w w':=by
 obtain⟨nm,ps,rt,bl,pl⟩:=f;obtain⟨vp,vb,rfl,⟨ao,c,rfl,h1,h2,h3⟩,⟨bo,cb,rfl,h4,h5,_⟩⟩:=h;exact Al i nm ps rt pl bl ao bo c cb w h1 ⟨Nat.le_trans h2 h3,Nat.le_trans h4 h5⟩ hO.1 (by unfold maxLen;omega)
theorem vR (p:List Fun) (ao:Option Addr) (c:Nat) (w:World) (hp:eg w p (.slice ao p.length c)) (hO:∀f∈p,OkF f):
  Calls Tryz.prog 58 #[.agg #[.slice ao p.length c]] w fun e w'=>e= .returned (.agg #[.int .i64 (aT 0 0 p).1,.int .i64 (aT 0 0 p).2])∧Below w.heap.size w w':=by
 obtain⟨b0,h0,h1,hz0⟩:=vN w (.slice ao p.length c);have H0:=aa h0;have H1:=aa h1;have HP:=aa (hp.below b0);have B0:=aa b0;have HO:=aa hO;have hpc:p.length≤c∧c≤maxLen:=by
  obtain⟨ao',c',e,h1,h2,_⟩:=hp;injection e with e1 e2 e3;subst e3;exact⟨h1,h2⟩
 unfold maxLen at hpc;clear b0 h0 h1 hp hO;go_enter Tryz.func58,Tryz.ntmps58
 go_upto_region 1 with fail
 show Code.wp _ _ _ _ ((w.alloc (.cells #[.slice ao p.length c] 24)).alloc (.cells #[.int .i64 0,.int .i64 0] 59));generalize (w.alloc (.cells #[.slice ao p.length c] 24)).alloc (.cells #[.int .i64 0,.int .i64 0] 59)=W at *;go_wp2_with fail
 go_loopw [3,4] (fun mm i wr=>∃(m K:Nat),m≤4096∧mm= .int .i64 m∧K≤p.length∧K≤32∧i= .int .i64 K∧Hid (aT 0 0 p=aT K m (p.drop K))∧Hid (Below W.heap.size W wr)) (fun _ i _=>p.length - (intOf i).toNat)
 case atStart=>exact⟨0,0,by omega,rfl,Nat.zero_le _,by omega,rfl,aa rfl,aa (Below.refl _ _)⟩
 case round=>
  obtain⟨m,K,hm,rfl,hK,hK32,rfl,HR,HW⟩:=hrel;have c0:=DO ((HW.out.block _ (Nat.lt_trans (Nat.lt_succ_self _) hz0)).trans H0.out);by_cases hkt:K < p.length
  ·obtain⟨f,hfK⟩:∃f,p[K]? =some f:=⟨p[K],List.getElem?_eq_some_iff.2 ⟨hkt,rfl⟩⟩;obtain⟨ao',c',eq',hh1,hh2,hh3⟩:=HP.out;injection eq' with e1 e2 e3;subst e1 e3;rcases hh3 with hh3 | ⟨gb,ob,rfl,hin⟩
   ·subst hh3;simp at hkt
   obtain⟨aoy,boy,cy,cby,hv,q0,q1,q2,q3,q4⟩:=((hin K f hfK).below HW.out).val;have HV:=aa hv;have HOf:=aa (HO.out f (List.mem_of_getElem? hfK));have hkI:(K:Int) < p.length:=(by omega);have HR2:=aa (HR.out.trans (by rw [oS hfK]));obtain⟨nm,ps,rt,bl,pl⟩:=f;dsimp only at HV q0 q1 q2 q3 q4
   clear hin hfK hv HR;have B7:=aa (af wr (.cells #[.string (bs nm),.slice aoy ps.length cy,.int .i64 rt,.slice boy bl.length cby,.int .i64 pl] 29));have H7:=aa (heap_alloc_new wr (.cells #[.string (bs nm),.slice aoy ps.length cy,.int .i64 rt,.slice boy bl.length cby,.int .i64 pl] 29));have hl7:=aa (Array.getElem?_eq_some_iff.1 H7.out).1;go_wp2_with fail
   refine(zx K (nm,ps,rt,bl,pl) _ _ (HV.out.below B7.out) HOf.out hK32).mono ?_;rintro e w8 ⟨rfl,b8⟩;have HW8:=aa (ae HW.out (ae B7.out b8));have hwl:wr.heap.size < w8.heap.size:=Nat.lt_of_lt_of_le hl7.out b8.size;have H8:=aa ((b8.block _ hl7.out).trans H7.out);have HV8:=aa (HV.out.below (ae B7.out b8));clear b8 q0 q1 q2 q3 q4;by_cases hh:dd K (nm,ps,rt,bl,pl)=0
   ·have h32:K≠32:=fun e=>by subst e;unfold dd at hh;rw [if_pos (Nat.le_refl _)] at hh;cases hh
    have HH:Hid (dE (nm,ps,rt,bl,pl)=0):=aa (by unfold dd at hh;rwa [if_neg (by omega)] at hh);have HRF:Hid (aT 0 0 p=pU K (fT m (bl.drop 0)) (p.drop (K+1))):=aa (HR2.out.trans (Ac _ h32 HH.out));have HBL:Hid (fj w8 bl (.slice boy bl.length cby)):=aa (by
     obtain⟨vp,vb,e,_,h2⟩:=HV8.out;injection e with e;have e2:=congrArg (fun a=>a[3]?) e;simp at e2;rw [e2];exact h2)
    have O2:=aa HOf.out.2;dsimp only at O2
    rw [hh];clear hh HR2;go_wp2_with fail
    obtain⟨w0,hw0⟩:∃w0,w0=w8:=⟨_,rfl⟩;rw [←hw0] at HW8 H8 HBL hwl ⊢;clear hw0 HV8;go_loopw [3,7] (fun mm i wr'=>∃(m A:Nat),m≤4096∧mm= .int .i64 m∧A≤bl.length∧i= .int .i64 A∧Hid (aT 0 0 p=pU K (fT m (bl.drop A)) (p.drop (K+1)))∧Hid (Below w0.heap.size w0 wr')) (fun _ i _=>bl.length - (intOf i).toNat)
    case atStart=>exact⟨m,0,hm,rfl,Nat.zero_le _,rfl,HRF,aa (Below.refl _ _)⟩
    case round=>
     obtain⟨m1,A,hm1,rfl,hA,rfl,HRA,HWA⟩:=hrel;obtain⟨s0,s1,s2,s3,s4⟩:=mG ((HWA.out.block _ hwl).trans H8.out);clear s0 s1 s2 s4;obtain⟨ao2,c2',eq2,hh1,hh2,hh3⟩:=HBL.out;injection eq2 with e1 e2 e3;subst e1 e3;unfold maxLen at hh2;by_cases hat:A < bl.length
     ·obtain⟨b,hbA⟩:∃b,bl[A]? =some b:=⟨bl[A],List.getElem?_eq_some_iff.2 ⟨hat,rfl⟩⟩;rcases hh3 with hh3 | ⟨gc,oc,rfl,hgc,hbl⟩
      ·subst hh3;simp at hat
      obtain⟨vk,kd,kk⟩:=hbl A b hbA;have KD:=aa kd;obtain⟨aok,capk,rfl,lk1,lk2,kins⟩:=kk;have HOb:=aa (O2.out b (List.mem_of_getElem? hbA));have KI:=aa kins;have haI:(A:Int) < bl.length:=(by omega);have HR3:Hid (aT 0 0 p=pU K (pg m1 (b.drop 0) (bl.drop (A+1))) (p.drop (K+1))):=aa (by rw [HRA.out,oS hbA];rfl);unfold maxLen at lk2;clear kins kd hbl hbA HRA;go_wp2_with fail
      clear s3;go_loopw [3,8] (fun mm i wr''=>∃(m J:Nat),m≤4096∧mm= .int .i64 m∧J≤b.length∧i= .int .i64 J∧Hid (aT 0 0 p=pU K (pg m (b.drop J) (bl.drop (A+1))) (p.drop (K+1)))∧Hid (Below w0.heap.size w0 wr'')) (fun _ i _=>b.length - (intOf i).toNat)
      case atStart=>exact⟨m1,0,hm1,rfl,Nat.zero_le _,rfl,HR3,HWA⟩
      case round=>
       obtain⟨m2,J,hm2,rfl,hJ,rfl,HRJ,HWJ⟩:=hrel;obtain⟨s0,s1,s2,s3,s4⟩:=mG ((HWJ.out.block _ hwl).trans H8.out);clear s0 s1 s2 s4;have kd':=(HWJ.out.cell (p:=⟨gc,oc+A,none⟩) hgc).trans KD.out;by_cases hjt:J < b.length
       ·obtain⟨y,hyJ⟩:∃y,b[J]? =some y:=⟨b[J],List.getElem?_eq_some_iff.2 ⟨hjt,rfl⟩⟩;rcases KI.out with hh | ⟨gi,oi,rfl,hin⟩
        ·subst hh;simp at hjt
        obtain⟨aoz,toz,caz,ctz,hv,r0,r1,r2,r3,r4,r5,r6,r7⟩:=((hin J y hyJ).below HWJ.out).val;have HVy:=aa hv;have HOy:=aa (HOb.out y (List.mem_of_getElem? hyJ));have hjI:(J:Int) < b.length:=(by omega);have HR4:=aa (HRJ.out.trans (by rw [oS hyJ]));obtain⟨op,id,nn,ty,ar,tt,na,pp⟩:=y;dsimp only at HVy r0 r1 r2 r3 r4 r5 r6 r7
        clear hin hyJ hv HRJ;by_cases h4:m2=4096
        ·subst h4;have HE:=aa (HR4.out.trans (by rw [zw];exact ym _ (by decide):_=((6:Int),(K:Int))));obtain⟨d0,d1,z0,z1⟩:=mj (((ae HW8.out HWJ.out).block _ hz0).trans H1.out);go_wp2_with fail
         exact bodyPost_ret (v:= .agg #[.int .i64 6,.int .i64 (K:Int)]) (by simp [results,Tryz.results58,go_sem,d0,d1]) rfl ⟨by rw [HE.out],iD B0.out (ae HW8.out HWJ.out)⟩
        ·have h4':¬(4096:Int) < (m2:Int)+1:=(by omega);go_wp2_with fail
         refine(xd (op,id,nn,ty,ar,tt,na,pp) _ _ HVy.out HOy.out.1 HOy.out.2).mono ?_;rintro e w9 ⟨rfl,b9⟩;have HW9:=aa (ae HWJ.out b9);clear r0 r1 r2 r3 r4 r5 r6 r7 b9 s3 kd';by_cases hcx:aU (op,id,nn,ty,ar,tt,na,pp)=0
         ·have HE:=aa (HR4.out.trans (by rw [AQ _ _ h4 hcx]));rw [hcx];go_wp2_with fail
          go_roundw
          case rel=>exact⟨m2+1,J+1,by omega,by go_num,by omega,by go_num,HE,HW9⟩
          case measure=>simp [intOf];omega
         ·have HE:=aa (HR4.out.trans (by rw [BV _ _ h4 hcx];exact ym _ hcx:_=(aU (op,id,nn,ty,ar,tt,na,pp),(K:Int))));have hcx':(aU (op,id,nn,ty,ar,tt,na,pp) != 0)=true:=(by simpa using hcx);generalize aU (op,id,nn,ty,ar,tt,na,pp)=z at *;obtain⟨d0,d1,z0,z1⟩:=mj (((ae HW8.out HW9.out).block _ hz0).trans H1.out);go_wp2_with fail
          exact bodyPost_ret (v:= .agg #[.int .i64 z,.int .i64 (K:Int)]) (by simp [results,Tryz.results58,go_sem,d0,d1]) rfl ⟨by rw [HE.out],iD B0.out (ae HW8.out HW9.out)⟩
       ·obtain rfl:J=b.length:=(by omega);have HE:=aa (HRJ.out.trans (by rw [List.drop_length,Eh]:_=pU K (fT m2 (bl.drop (A+1))) (p.drop (K+1))));go_wp2_with fail
        go_roundw
        case rel=>exact⟨m2,A+1,hm2,rfl,by omega,by go_num,HE,HWJ⟩
        case measure=>simp [intOf];omega
     ·obtain rfl:A=bl.length:=(by omega);have HE:=aa (HRA.out.trans (by rw [List.drop_length];exact Da _ _ _:_=aT (K+1) m1 (p.drop (K+1))));have HWF:=aa (ae HW8.out HWA.out);go_wp2_with fail
      go_roundw
      case rel=>exact⟨m1,K+1,hm1,rfl,by omega,by omega,by go_num,HE,HWF⟩
      case measure=>simp [intOf];omega
   ·have HE:Hid (aT 0 0 p=(dd K (nm,ps,rt,bl,pl),(K:Int))):=aa (by
     rw [HR2.out];by_cases h32:K=32
     ·subst h32;rw [kW];rfl
     ·have e:dd K (nm,ps,rt,bl,pl)=dE (nm,ps,rt,bl,pl):=if_neg (by omega);rw [e];exact kS _ _ h32 (by rw [←e];exact hh))
    have hh2:(dd K (nm,ps,rt,bl,pl) != 0)=true:=(by simpa using hh);generalize dd K (nm,ps,rt,bl,pl)=z at *;clear hh;obtain⟨d0,d1,z0,z1⟩:=mj ((HW8.out.block _ hz0).trans H1.out);go_wp2_with fail
    exact bodyPost_ret (v:= .agg #[.int .i64 z,.int .i64 (K:Int)]) (by simp [results,Tryz.results58,go_sem,d0,d1]) rfl ⟨by rw [HE.out],iD B0.out HW8.out⟩
  ·obtain rfl:K=p.length:=(by omega);have HE:Hid (aT 0 0 p=(0,0)):=aa (HR.out.trans (by rw [List.drop_length];rfl));obtain⟨d0,d1,z0,z1⟩:=mj ((HW.out.block _ hz0).trans H1.out);go_wp2_with fail
   exact bodyPost_ret (v:= .agg #[.int .i64 0,.int .i64 0]) (by simp [results,Tryz.results58,go_sem,d0,d1]) rfl ⟨by rw [HE.out],iD B0.out HW.out⟩
def cE (b:Nat→Bool):Nat→Nat
 |0=>0
 |m+1=>if b m then 2 ^ m+cE b m else cE b m
theorem iT (b:Nat→Bool):∀m,cE b m < 2 ^ m
 |0=>by simp [cE]
 |m+1=>by
  have:=iT b m;rw [cE,Nat.pow_succ];split <;> omega
theorem jF (b:Nat→Bool):∀m i,(cE b m).testBit i=(decide (i < m) && b i)
 |0,i=>by simp [cE]
 |m+1,i=>by
  have ih:=jF b m;have hl:=iT b m;have hl2:=iT b (m+1);rcases Nat.lt_trichotomy i m with h | h | h
  ·rw [cE];split
   ·rw [Nat.testBit_two_pow_add_gt h,ih];simp [h,Nat.lt_succ_of_lt h]
   ·rw [ih];simp [h,Nat.lt_succ_of_lt h]
  ·subst h;have h0:(cE b i).testBit i=false:=(by rw [ih];simp);rw [cE];split
   ·rename_i q;rw [Nat.testBit_two_pow_add_eq,h0];simp [q]
   ·rename_i q;rw [h0];simp [q]
  ·have e:(cE b (m+1)).testBit i=false:=Nat.testBit_lt_two_pow (Nat.lt_of_lt_of_le hl2 (Nat.pow_le_pow_right (by decide) h));rw [e];simp [show ¬i < m+1 by omega]
def wd (b:Nat→Bool) (j:Nat):Nat:=cE (fun i=>b (64 * j+i)) 64
theorem yv (b:Nat→Bool) (j:Nat):wd b j < 18446744073709551616:=iT _ 64
theorem jm (b:Nat→Bool) (j i:Nat):(wd b j).testBit i=(decide (i < 64) && b (64 * j+i)):=jF _ 64 i
theorem sK {b:Nat→Bool} {j x:Nat} (h:∀i,x.testBit i=(decide (i < 64) && b (64 * j+i))):x=wd b j:=Nat.eq_of_testBit_eq fun i=>by rw [h,jm]
theorem lV {b c:Nat→Bool} {j:Nat} (h:∀i,i < 64→b (64 * j+i)=c (64 * j+i)):wd b j=wd c j:=sK fun i=>by
 rw [jm];by_cases hi:i < 64
 ·rw [h i hi]
 ·simp [hi]
theorem KR {b c:Nat→Bool} {j:Nat} (h:wd b j=wd c j):∀i,i < 64→b (64 * j+i)=c (64 * j+i):=fun i hi=>by
 have e:=congrArg (fun x=>Nat.testBit x i) h;simpa [jm,hi] using e
def fZ (b:Nat→Bool) (n:Nat) (v:Bool):Nat→Bool:=fun m=>if m=n then v else b m
def orB (b c:Nat→Bool):Nat→Bool:=fun m=>b m || c m
theorem KF (b c:Nat→Bool) (j:Nat):wd b j ||| wd c j=wd (orB b c) j:=sK fun i=>by
 rw [Nat.testBit_or,jm,jm,←Bool.and_or_distrib_left];rfl
theorem tL {b:Nat→Bool} {n j:Nat} {v:Bool} (h:j≠n / 64):wd (fZ b n v) j=wd b j:=lV fun i hi=>by
 unfold fZ;rw [if_neg (by omega)]
theorem JI (b:Nat→Bool) (n:Nat):wd b (n / 64) ||| 2 ^ (n % 64)=wd (fZ b n true) (n / 64):=sK fun i=>by
 rw [Nat.testBit_or,jm,Nat.testBit_two_pow];unfold fZ;have h64:n % 64 < 64:=Nat.mod_lt _ (by decide);by_cases e:n % 64=i
 ·have e2:64 * (n / 64)+i=n:=by omega
  rw [if_pos e2,decide_eq_true e,decide_eq_true (show i < 64 by omega)];simp
 ·have e2:64 * (n / 64)+i≠n:=by omega
  rw [if_neg e2,decide_eq_false e];simp
theorem Gy (b:Nat→Bool) (n:Nat):wd b (n / 64) &&& (18446744073709551615 - 2 ^ (n % 64))=wd (fZ b n false) (n / 64):=sK fun i=>by
 have h64:n % 64 < 64:=Nat.mod_lt _ (by decide);have hp:2 ^ (n % 64) < 2 ^ 64:=Nat.pow_lt_pow_right (by decide) h64;have e0:18446744073709551615 - 2 ^ (n % 64)=2 ^ 64 - (2 ^ (n % 64)+1):=by omega
 rw [e0,Nat.testBit_and,jm,Nat.testBit_two_pow_sub_succ hp,Nat.testBit_two_pow];unfold fZ;by_cases hi:i < 64
 ·by_cases e:n % 64=i
  ·have e2:64 * (n / 64)+i=n:=(by omega);rw [if_pos e2,decide_eq_true e];simp
  ·have e2:64 * (n / 64)+i≠n:=(by omega);rw [if_neg e2,decide_eq_false e];simp [hi]
 ·simp [hi]
def wdV (b:Nat→Bool) (j:Nat):Value:= .int .u64 (wd b j:Int)
def wds (b:Nat→Bool) (W:Nat):List Value:=(List.range W).map (wdV b)
theorem df (b:Nat→Bool) (W:Nat):(wds b W).length=W:=by simp [wds]
theorem mS (b:Nat→Bool) {W j:Nat} (h:j < W):(wds b W)[j]? =some (wdV b j):=by
 unfold wds;rw [List.getElem?_map,List.getElem?_range h];rfl
theorem FT {b c:Nat→Bool} {W k:Nat} (h:∀j,j < W→j≠k→wd b j=wd c j):(wds b W).set k (wdV c k)=wds c W:=by
 apply List.ext_getElem?;intro j;by_cases hj:j < W
 ·rw [mS c hj];by_cases e:k=j
  ·subst e;rw [List.getElem?_set_self (by rw [df];exact hj)]
  ·rw [List.getElem?_set_ne e,mS b hj];unfold wdV;rw [h j hj (fun q=>e q.symm)]
 ·rw [List.getElem?_eq_none (l:=wds c W) (by rw [df];omega),List.getElem?_eq_none (by rw [List.length_set,df];omega)]
theorem BD {b c:Nat→Bool} {W:Nat} (h:∀n,n < 64 * W→b n=c n):wds b W=wds c W:=by
 unfold wds;refine List.map_congr_left fun j hj=> ?_;have:=List.mem_range.1 hj;unfold wdV;rw [lV fun i hi=>h _ (by omega)]
def eK (b:Nat→Bool) (m:Nat):Nat:=(List.range m).countP b
theorem mx (b:Nat→Bool) (m:Nat):eK b (m+1)=eK b m+if b m then 1 else 0:=by
 unfold eK;rw [List.range_succ,List.countP_append];simp [List.countP_cons]
theorem se (b:Nat→Bool) (m:Nat):eK b m≤m:=by
 unfold eK;exact Nat.le_trans List.countP_le_length (by rw [List.length_range];exact Nat.le_refl _)
theorem ur (b:Nat→Bool) (m:Nat):∀k,eK b (m+k)=eK b m+eK (fun i=>b (m+i)) k
 |0=>by simp [eK]
 |k+1=>by rw [←Nat.add_assoc,mx,ur b m k,mx];omega
def dg (k:Nat) (d:Nat→Nat):Nat→Nat
 |0=>0
 |n+1=>d n * 2 ^ (k * n)+dg k d n
theorem uF {k:Nat} {d:Nat→Nat} (h:∀i,d i < 2 ^ k):∀n,dg k d n < 2 ^ (k * n)
 |0=>by simp [dg]
 |n+1=>by
  have ih:=uF h n;have hd:=h n;rw [dg,Nat.mul_succ,Nat.pow_add];generalize 2 ^ (k * n)=P at *;generalize 2 ^ k=Q at *;have h1:(d n+1) * P≤Q * P:=Nat.mul_le_mul_right _ hd;rw [Nat.add_mul,Nat.one_mul] at h1;rw [Nat.mul_comm P Q];omega
theorem mW {k:Nat} {d:Nat→Nat} (h:∀i,d i < 2 ^ k):∀n q r,r < k→(dg k d n).testBit (k * q+r)=(decide (q < n) && (d q).testBit r)
 |0,q,r,_=>by simp [dg]
 |n+1,q,r,hr=>by
  have ih:=mW h n q r hr;have hl:=uF h n;rw [dg,Nat.mul_comm,Nat.testBit_two_pow_mul_add _ hl];by_cases hq:q < n
  ·have h2:k * q+r < k * n:=by
    have:k * (q+1)≤k * n:=Nat.mul_le_mul_left _ hq;rw [Nat.mul_succ] at this;omega
   rw [if_pos h2,ih];simp [hq,Nat.lt_succ_of_lt hq]
  ·have h2:¬k * q+r < k * n:=by
    have:k * n≤k * q:=Nat.mul_le_mul_left _ (by omega);omega
   rw [if_neg h2];by_cases he:q=n
   ·subst he;rw [show k * q+r - k * q=r by omega];simp
   ·have h3:k * (n+1)≤k * q:=Nat.mul_le_mul_left _ (by omega);rw [Nat.mul_succ] at h3;rw [Nat.testBit_lt_two_pow (Nat.lt_of_lt_of_le (h n) (Nat.pow_le_pow_right (by decide) (by omega))),decide_eq_false (by omega)];rfl
theorem sg (k:Nat) (d e:Nat→Nat):∀n,dg k d n+dg k e n=dg k (fun i=>d i+e i) n
 |0=>rfl
 |n+1=>by rw [dg,dg,dg,←sg k d e n,Nat.add_mul];omega
theorem lF {k:Nat} {d e:Nat→Nat}:∀ {n:Nat},(∀i,i < n→d i=e i)→dg k d n=dg k e n
 |0,_=>rfl
 |n+1,h=>by rw [dg,dg,h n (Nat.lt_succ_self _),lF fun i hi=>h i (Nat.lt_succ_of_lt hi)]
theorem nP {k:Nat} {d:Nat→Nat} (h:∀i,d i < 2 ^ k) (h0:0 < k) (n:Nat):dg k d (2 * n) &&& dg (2 * k) (fun _=>2 ^ k - 1) n=dg (2 * k) (fun i=>d (2 * i)) n:=by
 have hp:0 < 2 ^ k:=Nat.two_pow_pos k;have hk:2 ^ k≤2 ^ (2 * k):=Nat.pow_le_pow_right (by decide) (by omega);refine Nat.eq_of_testBit_eq fun i=> ?_;obtain⟨q,r,hr,rfl⟩:∃q r,r < 2 * k∧i=2 * k * q+r:=⟨i / (2 * k),i % (2 * k),Nat.mod_lt _ (by omega),(Nat.div_add_mod _ _).symm⟩;rw [Nat.testBit_and,mW (k:=2 * k) (d:=fun i=>d (2 * i)) (fun i=>by have:=h (2 * i);omega) n q r hr,mW (k:=2 * k) (d:=fun _=>2 ^ k - 1) (fun i=>by omega) n q r hr,Nat.testBit_two_pow_sub_one];by_cases hrk:r < k
 ·rw [show 2 * k * q+r=k * (2 * q)+r by rw [←Nat.mul_assoc,Nat.mul_comm k 2],mW h (2 * n) (2 * q) r hrk];by_cases hq:q < n
  ·simp [hq,hrk,show 2 * q < 2 * n by omega]
  ·simp [hq]
 ·rw [decide_eq_false hrk,Nat.testBit_lt_two_pow (Nat.lt_of_lt_of_le (h (2 * q)) (Nat.pow_le_pow_right (by decide) (by omega)))];simp
theorem yb {k:Nat} {d:Nat→Nat} (h:∀i,d i < 2 ^ k) (h0:0 < k) (n:Nat):dg k d (n+1) / 2 ^ k=dg k (fun i=>d (i+1)) n:=by
 refine Nat.eq_of_testBit_eq fun i=> ?_;obtain⟨q,r,hr,rfl⟩:∃q r,r < k∧i=k * q+r:=⟨i / k,i % k,Nat.mod_lt _ h0,(Nat.div_add_mod _ _).symm⟩;rw [←Nat.shiftRight_eq_div_pow,Nat.testBit_shiftRight,mW (fun i=>h (i+1)) n q r hr,show k+(k * q+r)=k * (q+1)+r by rw [Nat.mul_succ];omega,mW h (n+1) (q+1) r hr];by_cases hq:q < n
 ·simp [hq]
 ·simp [hq]
theorem Co {k:Nat} {d:Nat→Nat} (h:∀i,d i < 2 ^ k) (h0:0 < k) (n:Nat):dg k d (2 * n) / 2 ^ k &&& dg (2 * k) (fun _=>2 ^ k - 1) n=dg (2 * k) (fun i=>d (2 * i+1)) n:=by
 cases n with
 |zero=>simp [dg]
 |succ n=>
  have hp:0 < 2 ^ k:=Nat.two_pow_pos k;have e:=nP (d:=fun i=>if i+1 < 2 * (n+1)then d (i+1)else 0) (k:=k) (fun i=>by split;exact h _;exact hp) h0 (n+1);have e2:dg k (fun i=>if i+1 < 2 * (n+1)then d (i+1)else 0) (2 * (n+1))=dg k d (2 * (n+1)) / 2 ^ k:=by
   rw [show 2 * (n+1)=(2 * n+1)+1 by omega,yb h h0,dg];rw [if_neg (by omega),Nat.zero_mul,Nat.zero_add];exact lF fun i hi=>by rw [if_pos (by omega)]
  rw [e2] at e;rw [e];exact lF fun i hi=>by rw [if_pos (by omega)]
theorem yh (b:Nat→Bool):∀m,cE b m=dg 1 (fun i=>(b i).toNat) m
 |0=>rfl
 |m+1=>by
  rw [cE,dg,←yh b m,Nat.one_mul]
  cases b m <;> simp
def dA (b:Nat→Bool) (i:Nat):Nat:=(b i).toNat
def dB (b:Nat→Bool) (i:Nat):Nat:=dA b (2 * i+1)+dA b (2 * i)
def dC (b:Nat→Bool) (i:Nat):Nat:=dB b (2 * i+1)+dB b (2 * i)
def dD (b:Nat→Bool) (i:Nat):Nat:=dC b (2 * i+1)+dC b (2 * i)
theorem Cb (b:Nat→Bool) (i:Nat):dA b i≤1:=Bool.toNat_le _
theorem xV (b:Nat→Bool) (i:Nat):dB b i≤2:=by have:=Cb b (2 * i);have:=Cb b (2 * i+1);unfold dB;omega
theorem np (b:Nat→Bool) (i:Nat):dC b i≤4:=by have:=xV b (2 * i);have:=xV b (2 * i+1);unfold dC;omega
theorem nx (b:Nat→Bool) (i:Nat):dD b i≤8:=by have:=np b (2 * i);have:=np b (2 * i+1);unfold dD;omega
theorem Lk (b:Nat→Bool):(cE b 64 / 2 &&& 6148914691236517205)+(cE b 64 &&& 6148914691236517205)=dg 2 (dB b) 32:=by
 have h:∀i,dA b i < 2 ^ 1:=fun i=>by have:=Cb b i;omega
 have e1:=Co h (by decide) 32;have e2:=nP h (by decide) 32;have m:dg (2 * 1) (fun _=>2 ^ 1 - 1) 32=6148914691236517205:=by decide +kernel
 rw [m] at e1 e2;rw [yh];exact(congr (congrArg _ e1) e2).trans (sg _ _ _ _)
theorem Ls (b:Nat→Bool):(dg 2 (dB b) 32 / 4 &&& 3689348814741910323)+(dg 2 (dB b) 32 &&& 3689348814741910323)=dg 4 (dC b) 16:=by
 have h:∀i,dB b i < 2 ^ 2:=fun i=>by have:=xV b i;omega
 have e1:=Co h (by decide) 16;have e2:=nP h (by decide) 16;have m:dg (2 * 2) (fun _=>2 ^ 2 - 1) 16=3689348814741910323:=by decide +kernel
 rw [m] at e1 e2;exact(congr (congrArg _ e1) e2).trans (sg _ _ _ _)
theorem Hp {k:Nat} {d:Nat→Nat} (h:∀i,d i < 2 ^ k) (h0:0 < k) (n:Nat):dg k d (n+1) / 2 ^ k+dg k d (n+1)=dg k (fun i=>(if i < n then d (i+1)else 0)+d i) (n+1):=by
 rw [←sg,yb h h0];congr 1
 rw [dg,if_neg (by omega),Nat.zero_mul,Nat.zero_add];exact lF fun i hi=>by rw [if_pos hi]
theorem Ku (b:Nat→Bool):dg 4 (dC b) 16 / 16+dg 4 (dC b) 16=dg 4 (fun i=>(if i < 15 then dC b (i+1)else 0)+dC b i) 16:=
 Hp (k:=4) (fun i=>by have:=np b i;omega) (by decide) 15
theorem Md (b:Nat→Bool):(dg 4 (dC b) 16 / 16+dg 4 (dC b) 16) &&& 1085102592571150095=dg 8 (dD b) 8:=by
 have h:∀i,(fun i=>(if i < 15 then dC b (i+1)else 0)+dC b i) i < 2 ^ 4:=fun i=>by
  have h1:=np b i;have h2:=np b (i+1);dsimp only
  split <;> omega
 have e:=nP h (by decide) 8;have m:dg (2 * 4) (fun _=>2 ^ 4 - 1) 8=1085102592571150095:=by decide +kernel
 rw [m] at e;rw [Ku];refine e.trans (lF fun i hi=> ?_);rw [if_pos (by omega)];rfl
theorem LG (b:Nat→Bool):∃y z t:Nat,dg 8 (dD b) 8+dg 8 (dD b) 8 / 256=y∧y+y / 65536=z∧z+z / 4294967296=t∧y < 18446744073709551616∧z < 18446744073709551616∧t < 18446744073709551616∧t % 128=dD b 0+dD b 1+dD b 2+dD b 3+dD b 4+dD b 5+dD b 6+dD b 7:=by
 have h0:=nx b 0;have h1:=nx b 1;have h2:=nx b 2;have h3:=nx b 3;have h4:=nx b 4;have h5:=nx b 5;have h6:=nx b 6;have h7:=nx b 7;have e:dg 8 (dD b) 8=dD b 7 * 72057594037927936+(dD b 6 * 281474976710656+(dD b 5 * 1099511627776+(dD b 4 * 4294967296+(dD b 3 * 16777216+(dD b 2 * 65536+(dD b 1 * 256+dD b 0)))))):=by
  simp [dg]
 rw [e];generalize dD b 0=c0 at *;generalize dD b 1=c1 at *;generalize dD b 2=c2 at *;generalize dD b 3=c3 at *;generalize dD b 4=c4 at *;generalize dD b 5=c5 at *;generalize dD b 6=c6 at *;generalize dD b 7=c7 at *;clear e;obtain⟨y,hy⟩:∃y,c7 * 72057594037927936+(c6 * 281474976710656+(c5 * 1099511627776+(c4 * 4294967296+(c3 * 16777216+(c2 * 65536+(c1 * 256+c0))))))+(c7 * 72057594037927936+(c6 * 281474976710656+(c5 * 1099511627776+(c4 * 4294967296+(c3 * 16777216+(c2 * 65536+(c1 * 256+c0))))))) / 256=y:=⟨_,rfl⟩;have ey:y=c7 * 72057594037927936+((c6+c7) * 281474976710656+((c5+c6) * 1099511627776+((c4+c5) * 4294967296+((c3+c4) * 16777216+((c2+c3) * 65536+((c1+c2) * 256+(c0+c1))))))):=by omega
 rw [hy];clear hy;obtain⟨z,hz⟩:∃z,y+y / 65536=z:=⟨_,rfl⟩;have ez:z=c7 * 72057594037927936+((c6+c7) * 281474976710656+((c5+c6+c7) * 1099511627776+((c4+c5+c6+c7) * 4294967296+((c3+c4+c5+c6) * 16777216+((c2+c3+c4+c5) * 65536+((c1+c2+c3+c4) * 256+(c0+c1+c2+c3))))))):=by omega
 refine⟨y,z,z+z / 4294967296,rfl,hz,rfl,by omega,by omega,by omega,?_⟩;have hq:z / 4294967296=c7 * 16777216+((c6+c7) * 65536+((c5+c6+c7) * 256+(c4+c5+c6+c7))):=by clear hz ey;omega
 rw [hq];clear hz ey hq;omega
theorem IX (b:Nat→Bool):eK b 64=dD b 0+dD b 1+dD b 2+dD b 3+dD b 4+dD b 5+dD b 6+dD b 7:=by
 have e:∀m,eK b (m+1)=eK b m+dA b m:=fun m=>by
  rw [mx];unfold dA;cases b m <;> rfl
 have z:eK b 0=0:=rfl;have c64:eK b 64=(List.range 64).foldl (fun s i=>s+dA b i) 0:=by
  have k:∀m,eK b m=(List.range m).foldl (fun s i=>s+dA b i) 0:=fun m=>by
   induction m with
   |zero=>rfl
   |succ m ih=>rw [e,ih,List.range_succ,List.foldl_append];rfl
  exact k 64
 have r64:List.range 64= [0,1,2,3,4,5,6,7,8,9,10,11,12,13,14,15,16,17,18,19,20,21,22,23,24,25,26,27,28,29,30,31,32,33,34,35,36,37,38,39,40,41,42,43,44,45,46,47,48,49,50,51,52,53,54,55,56,57,58,59,60,61,62,63]:=by decide
 rw [c64,r64];simp only [List.foldl_cons,List.foldl_nil,dD,dC,dB,Nat.reduceMul,Nat.reduceAdd,Nat.mul_zero,Nat.zero_add,Nat.mul_one];omega
theorem uz {a b:Nat} (ha:a < 18446744073709551616) (hb:b < 18446744073709551616):bits .and .u64 (a:Int) (b:Int)=((a &&& b:Nat):Int):=u64_and_nat a b ha hb
theorem nQ {n:Nat} (h:n < 18446744073709551616):IntKind.u64.wrap (n:Int)=(n:Int):=by
 rw [IntKind.wrap_u64];omega
theorem sQ {x a s:Nat} {sI mI:Int} (m:Nat) (hm:m < 18446744073709551616) (hs:sI=(s:Int)) (hmI:mI=(m:Int)) (p:(x / s &&& m)+(x &&& m)=a) (hx:x < 18446744073709551616) (ha:a < 18446744073709551616):IntKind.u64.wrap (bits .and .u64 ((x:Int) / sI) mI+bits .and .u64 (x:Int) mI)=(a:Int):=by
 have h1:x / s < 18446744073709551616:=Nat.lt_of_le_of_lt (Nat.div_le_self _ _) hx;subst hs hmI;rw [show((x:Int) / (s:Int))=((x / s:Nat):Int) from (Int.natCast_ediv x s).symm,uz h1 hm,uz hx hm,←Int.natCast_add,p,nQ ha]
theorem BI {x a s:Nat} {sI mI:Int} (m:Nat) (hm:m < 18446744073709551616) (hs:sI=(s:Int)) (hmI:mI=(m:Int)) (p:x / s+x &&& m=a) (hx:x / s+x < 18446744073709551616):bits .and .u64 (IntKind.u64.wrap ((x:Int) / sI+(x:Int))) mI=(a:Int):=by
 subst hs hmI;rw [show((x:Int) / (s:Int))=((x / s:Nat):Int) from (Int.natCast_ediv x s).symm,←Int.natCast_add,nQ hx,uz hx hm,p]
theorem nX {x a s:Nat} {sI:Int} (hs:sI=(s:Int)) (p:x+x / s=a) (ha:a < 18446744073709551616):IntKind.u64.wrap ((x:Int)+(x:Int) / sI)=(a:Int):=by
 subst hs;rw [show((x:Int) / (s:Int))=((x / s:Nat):Int) from (Int.natCast_ediv x s).symm,←Int.natCast_add,p,nQ ha]
theorem Lr {t c:Nat} (h:t % 128=c):bits .and .i64 (wrap64 (t:Int)) 127=(c:Int):=by
 rw [i64_and127];unfold wrap64;subst h;omega
theorem Le (b:Nat→Bool):dg 4 (dC b) 16 / 16+dg 4 (dC b) 16 < 18446744073709551616:=by
 rw [Ku];refine uF (k:=4) (fun i=> ?_) 16;have h1:=np b i;have h2:=np b (i+1);split <;> omega
theorem GK (b:Nat→Bool) (w:World):Calls Tryz.prog 98 #[.int .u64 (cE b 64:Nat)] w fun e w'=>e= .returned (.int .i64 (eK b 64:Nat))∧w'=w:=by
 have hx:cE b 64 < 18446744073709551616:=iT b 64;obtain⟨y,z,t,p4,p5,p6,ly,lz,lt,p7⟩:=LG b;rw [←IX] at p7;have l2:dg 2 (dB b) 32 < 18446744073709551616:=uF (k:=2) (fun i=>Nat.lt_of_le_of_lt (xV b i) (by decide)) 32;have l4:dg 4 (dC b) 16 < 18446744073709551616:=uF (k:=4) (fun i=>Nat.lt_of_le_of_lt (np b i) (by decide)) 16;have E1:=sQ (sI:=2) (mI:=6148914691236517205) 6148914691236517205 (by decide) rfl rfl (Lk b) hx l2;have E2:=sQ (sI:=4) (mI:=3689348814741910323) 3689348814741910323 (by decide) rfl rfl (Ls b) l2 l4;have E3:=BI (sI:=16) (mI:=1085102592571150095) 1085102592571150095 (by decide) rfl rfl (Md b) (Le b);have E4:=nX (sI:=256) rfl p4 ly;have E5:=nX (sI:=65536) rfl p5 lz;have E6:=nX (sI:=4294967296) rfl p6 lt;have E7:=Lr p7;clear hx p4 p5 p6 p7 l2 l4 ly lz lt;generalize cE b 64=x at *;generalize dg 2 (dB b) 32=a2 at *;generalize dg 4 (dC b) 16=a4 at *;generalize dg 8 (dD b) 8=a8 at *;generalize eK b 64=c at *;go_enter Tryz.func98,Tryz.ntmps98
 go_wp2_with fail
 go_ret;exact⟨rfl,rfl⟩
def nh (p:List Fun) (n a:Nat):Prop:=n=a∨(100 < n∧100 < total p)
theorem zq (p:List Fun) (ao:Option Addr) (c:Nat) (w:World) (hp:eg w p (.slice ao p.length c)) (h0:p.length≤140737488355328) (hS:∀f∈p,ShF f):
  Calls Tryz.prog 57 #[.agg #[.slice ao p.length c],.int .i64 100] w fun e w'=>(∃n:Nat,e= .returned (.int .i64 n)∧nh p n (total p))∧Below w.heap.size w w':=by
 have b0:=af w (.cells #[.slice ao p.length c] 24);have H0:=aa (heap_alloc_new w (.cells #[.slice ao p.length c] 24));have hz0:(w.alloc (.cells #[.slice ao p.length c] 24)).heap.size > w.heap.size:=by simp
 have B0:=aa b0;have HP:=aa (hp.below b0);have HS:=aa hS;clear b0 hp hS;go_enter Tryz.func57,Tryz.ntmps57
 go_upto_region 1 with fail
 show Code.wp _ _ _ _ (w.alloc (.cells #[.slice ao p.length c] 24));generalize w.alloc (.cells #[.slice ao p.length c] 24)=W at *;have c0:=DO H0.out;go_wp2_with fail
 clear c0;go_loopw [5,6] (fun nv i wr=>∃(n K:Nat),n≤1000000000000000∧nv= .int .i64 n∧K≤p.length∧i= .int .i64 K∧Hid (nh p n (p.length+wFs (p.take K)))∧Hid (Below W.heap.size W wr)) (fun _ i _=>p.length - (intOf i).toNat)
 case atStart=>exact⟨p.length,0,by omega,rfl,Nat.zero_le _,rfl,aa (.inl (by simp [wFs])),aa (Below.refl _ _)⟩
 case round=>
  obtain⟨n,K,hn,rfl,hK,rfl,HC,HW⟩:=hrel;have c0:=DO ((HW.out.block _ hz0).trans H0.out);by_cases hkt:K < p.length
  ·have hkI:(K:Int) < p.length:=(by omega);by_cases h150:n≤100
   ·obtain⟨f,hfK⟩:∃f,p[K]? =some f:=⟨p[K],List.getElem?_eq_some_iff.2 ⟨hkt,rfl⟩⟩;have h150':(n:Int)≤100:=(by omega);have HN:Hid (n=p.length+wFs (p.take K)):=aa (by rcases HC.out with h | h;exact h;omega);have HT:=aa (oe wF p K f hfK);have HTL:=aa (oP wF p (K+1));obtain⟨ao',c',eq',hh1,hh2,hh3⟩:=HP.out;injection eq' with e1 e2 e3;subst e1 e3;rcases hh3 with hh3 | ⟨gb,ob,rfl,hin⟩
    ·subst hh3;simp at hkt
    obtain⟨aoy,boy,cy,cby,hv,q0,q1,q2,q3,q4⟩:=((hin K f hfK).below HW.out).val;have HV:=aa hv;obtain⟨s1,s2,s3,s4⟩:=HS.out f (List.mem_of_getElem? hfK);have HSf:=aa s4;obtain⟨nm,ps,rt,bl,pl⟩:=f;dsimp only at HV q0 q1 q2 q3 q4 s1 s2 s3 HSf
    have HBL:Hid (fj wr bl (.slice boy bl.length cby)):=aa (by
     obtain⟨vp,vb,e,_,h2⟩:=HV.out;injection e with e;have e2:=congrArg (fun a=>a[3]?) e;simp at e2;rw [e2];exact h2)
    have hnz:(bs nm).size=nm.length:=bE nm;have HNZ:=aa hnz;clear hin hfK hv hnz s4;have B7:=aa (af wr (.cells #[.string (bs nm),.slice aoy ps.length cy,.int .i64 rt,.slice boy bl.length cby,.int .i64 pl] 29));have H7:=aa (heap_alloc_new wr (.cells #[.string (bs nm),.slice aoy ps.length cy,.int .i64 rt,.slice boy bl.length cby,.int .i64 pl] 29));have hl7:=aa (Array.getElem?_eq_some_iff.1 H7.out).1;obtain⟨t0,t1,t2,t3,t4⟩:=mG H7.out;have hnb:(bs nm).size≤140737488355328:=(by rw [HNZ.out];exact s1);have HW7:=aa (ae HW.out B7.out);have HBL7:=aa (HBL.out.below B7.out);have HQ:Hid (((n:Int)+(bl.length:Int)+(ps.length:Int)+((bs nm).size:Int) / 30)=((n+bl.length+ps.length+nm.length / 30:Nat):Int)):=aa (by rw [HNZ.out];omega);have HCF:Hid (nh p (n+bl.length+ps.length+nm.length / 30) (p.length+wFs (p.take K)+wF0 (nm,ps,rt,bl,pl)+wBs (bl.take 0))):=aa (.inl (by have:=HN.out;simp only [wF0,wBs,List.take_zero,List.map_nil,List.sum_nil];omega));have hnn:n+bl.length+ps.length+nm.length / 30≤1000000000000000:=(by omega);clear HBL;go_wp2_with fail
    clear t0 t1 t2 t3 t4 q0 q1 q2 q3 q4 c0 hnb;obtain⟨w0,hw0⟩:∃w0,w0=wr.alloc (.cells #[.string (bs nm),.slice aoy ps.length cy,.int .i64 rt,.slice boy bl.length cby,.int .i64 pl] 29):=⟨_,rfl⟩;rw [←hw0] at H7 HW7 HBL7 hl7 ⊢;clear hw0 B7;obtain⟨n1,hn1⟩:∃n1,n1=n+bl.length+ps.length+nm.length / 30:=⟨_,rfl⟩;rw [←hn1] at HQ HCF hnn;clear hn1;go_loopw [5,8] (fun nv i wr'=>∃(n A:Nat),n≤1000000000000000∧nv= .int .i64 n∧A≤bl.length∧i= .int .i64 A∧Hid (nh p n (p.length+wFs (p.take K)+wF0 (nm,ps,rt,bl,pl)+wBs (bl.take A)))∧Hid (Below w0.heap.size w0 wr')) (fun _ i _=>bl.length - (intOf i).toNat)
    case atStart=>exact⟨n1,0,hnn,by rw [HQ.out],Nat.zero_le _,rfl,HCF,aa (Below.refl _ _)⟩
    case round=>
     obtain⟨n2,A,hn2,rfl,hA,rfl,HCA,HWA⟩:=hrel;obtain⟨t0,t1,t2,t3,t4⟩:=mG ((HWA.out.block _ hl7.out).trans H7.out);clear t0 t1 t2 t4;obtain⟨ao2,c2',eq2,hh1,hh2,hh3⟩:=HBL7.out;injection eq2 with e1 e2 e3;subst e1 e3;unfold maxLen at hh2;by_cases hat:A < bl.length
     ·have haI:(A:Int) < bl.length:=(by omega);by_cases h150a:n2≤100
      ·have h150a':(n2:Int)≤100:=(by omega);have HN2:Hid (n2=p.length+wFs (p.take K)+wF0 (nm,ps,rt,bl,pl)+wBs (bl.take A)):=aa (by rcases HCA.out with h | h;exact h;omega);obtain⟨b,hbA⟩:∃b,bl[A]? =some b:=⟨bl[A],List.getElem?_eq_some_iff.2 ⟨hat,rfl⟩⟩;have HTA:=aa (oe wB bl A b hbA);have HTLA:=aa (oP wB bl (A+1));rcases hh3 with hh3 | ⟨gc,oc,rfl,hgc,hbl⟩
       ·subst hh3;simp at hat
       obtain⟨vk,kd,kk⟩:=hbl A b hbA;have KD:=aa kd;obtain⟨aok,capk,rfl,lk1,lk2,kins⟩:=kk;have HSb:=aa (HSf.out b (List.mem_of_getElem? hbA));have KI:=aa kins;have HCB:Hid (nh p n2 (p.length+wFs (p.take K)+wF0 (nm,ps,rt,bl,pl)+wBs (bl.take A)+wB (b.take 0))):=aa (.inl (by have:=HN2.out;simp only [wB,List.take_zero,List.map_nil,List.sum_nil];omega));unfold maxLen at lk2;clear kins kd hbl hbA HCA;go_wp2_with fail
       clear t3;go_loopw [5,9] (fun nv i wr''=>∃(n J:Nat),n≤1000000000000000∧nv= .int .i64 n∧J≤b.length∧i= .int .i64 J∧Hid (nh p n (p.length+wFs (p.take K)+wF0 (nm,ps,rt,bl,pl)+wBs (bl.take A)+wB (b.take J)))∧Hid (Below w0.heap.size w0 wr'')) (fun _ i _=>b.length - (intOf i).toNat)
       case atStart=>exact⟨n2,0,hn2,rfl,Nat.zero_le _,rfl,HCB,HWA⟩
       case round=>
        obtain⟨n3,J,hn3,rfl,hJ,rfl,HCJ,HWJ⟩:=hrel;obtain⟨t0,t1,t2,t3,t4⟩:=mG ((HWJ.out.block _ hl7.out).trans H7.out);clear t0 t1 t2 t4;have kd':=(HWJ.out.cell (p:=⟨gc,oc+A,none⟩) hgc).trans KD.out;have GREAT:Hid (100 < n3→nh p n3 (p.length+wFs (p.take K)+wF0 (nm,ps,rt,bl,pl)+wBs (bl.take (A+1)))):=aa fun h=>by
         rcases HCJ.out with h2 | h2
         ·have g1:=HT.out;have g2:=HTL.out;have g3:=HTA.out;have g4:=oP wI b J;have g5:=HTLA.out;refine .inr ⟨h,?_⟩;unfold total wFs at *;unfold wF wBs wB at *;dsimp only at g1
          omega
         ·exact .inr h2
        by_cases hjt:J < b.length
        ·have hjI:(J:Int) < b.length:=(by omega);by_cases h150b:n3≤100
         ·have h150b':(n3:Int)≤100:=(by omega);have HN3:Hid (n3=p.length+wFs (p.take K)+wF0 (nm,ps,rt,bl,pl)+wBs (bl.take A)+wB (b.take J)):=aa (by rcases HCJ.out with h | h;exact h;omega);obtain⟨y,hyJ⟩:∃y,b[J]? =some y:=⟨b[J],List.getElem?_eq_some_iff.2 ⟨hjt,rfl⟩⟩;have HTJ:=aa (oe wI b J y hyJ);rcases KI.out with hh | ⟨gi,oi,rfl,hin⟩
          ·subst hh;simp at hjt
          obtain⟨aoz,toz,caz,ctz,hv,r0,r1,r2,r3,r4,r5,r6,r7⟩:=((hin J y hyJ).below HWJ.out).val;obtain⟨v1,v2,v3⟩:=HSb.out y (List.mem_of_getElem? hyJ);obtain⟨op,id,nn,ty,ar,tt,na,pp⟩:=y;dsimp only at v1 v2 v3 r0 r1 r2 r3 r4 r5 r6 r7
          have HNA:=aa (bE na);have hnab:(bs na).size≤140737488355328:=(by rw [HNA.out];exact v3);have HQ3:Hid (((n3:Int)+1+(ar.length:Int) / 4+(tt.length:Int) / 4+((bs na).size:Int) / 30)=((n3+1+ar.length / 4+tt.length / 4+na.length / 30:Nat):Int)):=aa (by rw [HNA.out];omega);have HC3:Hid (nh p (n3+1+ar.length / 4+tt.length / 4+na.length / 30) (p.length+wFs (p.take K)+wF0 (nm,ps,rt,bl,pl)+wBs (bl.take A)+wB (b.take (J+1)))):=aa (.inl (by
           have g1:=HN3.out;have g2:=HTJ.out;have g3:wI (op,id,nn,ty,ar,tt,na,pp)=1+ar.length / 4+tt.length / 4+na.length / 30:=rfl;rw [g3] at g2;unfold wB at *;omega))
          have hn4:n3+1+ar.length / 4+tt.length / 4+na.length / 30≤1000000000000000:=(by omega);obtain⟨x0,x1,x2,x3,x4,x5,x6,x7⟩:=pF (heap_alloc_new wr (.cells #[.int .i64 op,.int .i64 id,.int .i64 nn,.int .i64 ty,.slice aoz ar.length caz,.slice toz tt.length ctz,.string (bs na),.int .i64 pp] 41));have HW9:=aa (ae HWJ.out (af wr (.cells #[.int .i64 op,.int .i64 id,.int .i64 nn,.int .i64 ty,.slice aoz ar.length caz,.slice toz tt.length ctz,.string (bs na),.int .i64 pp] 41)));clear hin hyJ hv;go_wp2_with fail
          go_roundw
          case rel=>exact⟨_,J+1,hn4,by rw [HQ3.out],by omega,by go_num,HC3,HW9⟩
          case measure=>simp [intOf];omega
         ·have h150b':¬(n3:Int)≤100:=(by omega);have HE:=aa (GREAT.out (by omega));go_wp2_with fail
          go_roundw
          case rel=>exact⟨n3,A+1,hn3,rfl,by omega,by go_num,HE,HWJ⟩
          case measure=>simp [intOf];omega
        ·obtain rfl:J=b.length:=(by omega);have HE:Hid (nh p n3 (p.length+wFs (p.take K)+wF0 (nm,ps,rt,bl,pl)+wBs (bl.take (A+1)))):=aa (by
          have h2:=HCJ.out;rw [List.take_length] at h2;have g3:=HTA.out;have e:wBs (bl.take (A+1))=wBs (bl.take A)+wB b:=g3;rw [e,←Nat.add_assoc];exact h2)
         go_wp2_with fail
         go_roundw
         case rel=>exact⟨n3,A+1,hn3,rfl,by omega,by go_num,HE,HWJ⟩
         case measure=>simp [intOf];omega
      ·have h150a':¬(n2:Int)≤100:=(by omega);have HE:Hid (nh p n2 (p.length+wFs (p.take (K+1)))):=aa (by
        rcases HCA.out with h2 | h2
        ·have g1:=HT.out;have g2:=HTL.out;have g3:=oP wB bl A;refine .inr ⟨by omega,?_⟩;unfold total wFs at *;unfold wF wBs at *;dsimp only at g1
         omega
        ·exact .inr h2)
       have HWF:=aa (ae HW7.out HWA.out);go_wp2_with fail
       go_roundw
       case rel=>exact⟨n2,K+1,hn2,rfl,by omega,by go_num,HE,HWF⟩
       case measure=>simp [intOf];omega
     ·obtain rfl:A=bl.length:=(by omega);have HE:Hid (nh p n2 (p.length+wFs (p.take (K+1)))):=aa (by
       have h2:=HCA.out;rw [List.take_length] at h2;have g1:=HT.out;have e:wFs (p.take (K+1))=wFs (p.take K)+(wF0 (nm,ps,rt,bl,pl)+wBs bl):=g1;rw [e,←Nat.add_assoc,←Nat.add_assoc];exact h2)
      have HWF:=aa (ae HW7.out HWA.out);go_wp2_with fail
      go_roundw
      case rel=>exact⟨n2,K+1,hn2,rfl,by omega,by go_num,HE,HWF⟩
      case measure=>simp [intOf];omega
   ·have h150':¬(n:Int)≤100:=(by omega);have HE:Hid (nh p n (total p)):=aa (by
     rcases HC.out with h | h
     ·have:=oP wF p K;exact .inr ⟨by omega,by unfold total wFs at *;omega⟩
     ·exact .inr h)
    go_wp2_with fail
    go_ret;exact⟨⟨n,rfl,HE.out⟩,ae B0.out HW.out⟩
  ·obtain rfl:K=p.length:=(by omega);have HE:Hid (nh p n (total p)):=aa (by have:=HC.out;rwa [List.take_length] at this);go_wp2_with fail
   go_ret;exact⟨⟨n,rfl,HE.out⟩,ae B0.out HW.out⟩
end Go.Proofs.YtaiaakklokahjaaGreatDoor
