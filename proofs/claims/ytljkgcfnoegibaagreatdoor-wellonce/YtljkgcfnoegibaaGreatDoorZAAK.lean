/- Texts of one chain, joined. -/
import Derived.Test.YtljkgcfnoegibaaGreatDoorZAAH
set_option maxHeartbeats 8000000
set_option maxRecDepth 20000
namespace Go.Proofs.YtljkgcfnoegibaaGreatDoor
open Go Go.RowKit
open G (Tok Er Ins Fun)
def runI:Nat→List Ins→Nat × Int
 |m,[]=>(m,0)
 |m,x :: r=>if m=4096 then(m,6)else if aJ x≠0 then(m+1,aJ x)else runI (m+1) r
def runB:Nat→List (List Ins)→Nat × Int
 |m,[]=>(m,0)
 |m,b :: r=>if(runI m b).2≠0 then runI m b else runB (runI m b).1 r
theorem jd {α:Type} {l:List α} {j:Nat} {x:α} (h:l[j]? =some x):l.drop j=x :: l.drop (j+1):=by
 obtain⟨h1,h2⟩:=List.getElem?_eq_some_iff.1 h;rw [List.drop_eq_getElem_cons h1,h2]
def nZ (m:Nat) (b:List Ins) (r:List (List Ins)):Nat × Int:=if(runI m b).2≠0 then runI m b else runB (runI m b).1 r
theorem vC (m:Nat) (r:List (List Ins)):nZ m [] r=runB m r:=by unfold nZ;simp [runI]
theorem rU (x:Ins) (b:List Ins) (r:List (List Ins)):nZ 4096 (x :: b) r=(4096,6):=by unfold nZ;simp [runI]
theorem wK {m:Nat} {x:Ins} (b:List Ins) (r:List (List Ins)) (hm:m≠4096) (hx:aJ x≠0):nZ m (x :: b) r=(m+1,aJ x):=by
 have e:runI m (x :: b)=(m+1,aJ x):=by rw [runI,if_neg hm,if_pos hx]
 unfold nZ;rw [e,if_pos hx]
theorem rR {m:Nat} {x:Ins} (b:List Ins) (r:List (List Ins)) (hm:m≠4096) (hx:aJ x=0):nZ m (x :: b) r=nZ (m+1) b r:=by
 have e:runI m (x :: b)=runI (m+1) b:=by rw [runI,if_neg hm,if_neg (by simp [hx])]
 unfold nZ;rw [e]
def OkI (x:Ins):Prop:=I64 x.2.2.1∧x.2.2.2.2.2.2.1.length≤maxLen
def OkF (f:Fun):Prop:=f.1.length≤maxLen∧∀b∈f.2.2.2.1,∀x∈b,OkI x
theorem DV (m0:Nat) (nm:List UInt8) (ps:List Int) (rt pl:Int) (bl:List (List Ins)) (ao bo:Option Addr) (c cb:Nat) (w:World) (hb:dy w bl (.slice bo bl.length cb)) (ht:Tb w) (hO:OkF (nm,ps,rt,bl,pl)) (hm0:m0≤4096):
  Calls Tryz.prog 63 #[.agg #[.string (bs nm),.slice ao ps.length c,.int .i64 rt,.slice bo bl.length cb,.int .i64 pl],.int .i64 m0] w fun e w'=>e= .returned (.tuple #[.int .i64 ((runB m0 bl).1:Nat),.int .i64 (runB m0 bl).2])∧Below w.heap.size w w':=by
 obtain⟨_,o2⟩:=hO;dsimp only at o2
 have b0:=ah w (.cells #[.string (bs nm),.slice ao ps.length c,.int .i64 rt,.slice bo bl.length cb,.int .i64 pl] 36);have H0:=ae (heap_alloc_new w (.cells #[.string (bs nm),.slice ao ps.length c,.int .i64 rt,.slice bo bl.length cb,.int .i64 pl] 36));have T0:=ae (ht.below b0);have HBl:=ae (hb.below b0);have hz0:(w.alloc (.cells #[.string (bs nm),.slice ao ps.length c,.int .i64 rt,.slice bo bl.length cb,.int .i64 pl] 36)).heap.size > w.heap.size:=by simp
 have B0:=ae b0;have O2:=ae o2;have hcb:bl.length≤cb∧cb≤maxLen:=by
  obtain⟨ao',c',e,h1,h2,_⟩:=hb;injection e with e1 e2 e3;subst e3;exact⟨h1,h2⟩
 unfold maxLen at hcb;clear b0 hb ht o2;go_enter Tryz.func63,Tryz.ntmps63
 go_upto_region 1 with fail
 show Code.wp _ _ _ _ (w.alloc (.cells #[.string (bs nm),.slice ao ps.length c,.int .i64 rt,.slice bo bl.length cb,.int .i64 pl] 36));generalize w.alloc (.cells #[.string (bs nm),.slice ao ps.length c,.int .i64 rt,.slice bo bl.length cb,.int .i64 pl] 36)=W at *;obtain⟨c0,c1,c2,c3,c4⟩:=jJ H0.out;go_wp2_with fail
 go_loopw [1,14] (fun mm i wr=>∃(m K:Nat),m≤4096∧mm= .int .i64 m∧K≤bl.length∧i= .int .i64 K∧Hid (runB m0 bl=runB m (bl.drop K))∧Hid (Below W.heap.size W wr)) (fun _ i _=>bl.length - (intOf i).toNat)
 case atStart=>exact⟨m0,0,hm0,rfl,Nat.zero_le _,rfl,ae rfl,ae (Below.refl _ _)⟩
 case round=>
  obtain⟨m,K,hm,rfl,hK,rfl,HR,HW⟩:=hrel;by_cases hkt:K < bl.length
  ·obtain⟨b,hbK⟩:∃b,bl[K]? =some b:=⟨bl[K],List.getElem?_eq_some_iff.2 ⟨hkt,rfl⟩⟩;obtain⟨ao',c',eq',hh1,hh2,hh3⟩:=HBl.out;injection eq' with e1 e2 e3;subst e1 e3;rcases hh3 with hh3 | ⟨gb,ob,rfl,hgb,hbl⟩
   ·subst hh3;simp at hkt
   obtain⟨vk,kd,kk⟩:=hbl K b hbK;have kd':=(HW.out.cell (p:=⟨gb,ob+K,none⟩) hgb).trans kd;obtain⟨aok,capk,rfl,lk1,lk2,kins⟩:=kk;have HOb:=ae (O2.out b (List.mem_of_getElem? hbK));have KI:=ae kins;have hkI:(K:Int) < bl.length:=(by omega);have HR2:Hid (runB m0 bl=nZ m (b.drop 0) (bl.drop (K+1))):=ae (by rw [HR.out,jd hbK];rfl);unfold maxLen at lk2;clear kins kd hbl hbK hh1 hh2 HR;go_wp2_with fail
   go_loopw [1,20] (fun mm i wr=>∃(m J:Nat),m≤4096∧mm= .int .i64 m∧J≤b.length∧i= .int .i64 J∧Hid (runB m0 bl=nZ m (b.drop J) (bl.drop (K+1)))∧Hid (Below W.heap.size W wr)) (fun _ i _=>b.length - (intOf i).toNat)
   case atStart=>exact⟨m,0,hm,rfl,Nat.zero_le _,rfl,HR2,HW⟩
   case round=>
    obtain⟨m2,J,hm2,rfl,hJ,rfl,HRJ,HWJ⟩:=hrel;by_cases hjt:J < b.length
    ·obtain⟨y,hyJ⟩:∃y,b[J]? =some y:=⟨b[J],List.getElem?_eq_some_iff.2 ⟨hjt,rfl⟩⟩;rcases KI.out with hh | ⟨gi,oi,rfl,hin⟩
     ·subst hh;simp at hjt
     obtain⟨aoy,toy,cay,cty,hv,q0,q1,q2,q3,q4,q5,q6,q7⟩:=((hin J y hyJ).below HWJ.out).val;have HV:=ae hv;have HOy:=ae (HOb.out y (List.mem_of_getElem? hyJ));have hjI:(J:Int) < b.length:=(by omega);have TJ:=ae (T0.out.below HWJ.out);have HR3:=ae (HRJ.out.trans (by rw [jd hyJ]));obtain⟨op,id,nn,ty,ar,tt,na,pp⟩:=y;dsimp only at HV q0 q1 q2 q3 q4 q5 q6 q7
     clear hin hyJ hv HRJ;by_cases h4:m2=4096
     ·subst h4;have HE:=ae (HR3.out.trans (rU _ _ _));have h4':(((4096:Nat):Int) == 4096)=true:=rfl;go_wp2_with fail
      go_ret2;exact⟨by rw [HE.out];rfl,af B0.out (HWJ.out.trans ((ah _ _).mono HWJ.out.size))⟩
     ·have h4':((m2:Int) == 4096)=false:=beq_eq_false_iff_ne.2 (by omega);have B7:=ae (ah wr (.cells #[.int .i64 op,.int .i64 id,.int .i64 nn,.int .i64 ty,.slice aoy ar.length cay,.slice toy tt.length cty,.string (bs na),.int .i64 pp] 47));go_wp2_with fail
      refine(Bx (op,id,nn,ty,ar,tt,na,pp) _ _ (HV.out.below B7.out) HOy.out.1 (TJ.out.below B7.out) HOy.out.2).mono ?_;rintro e w7 ⟨rfl,b7⟩;have HW7:=ae (af HWJ.out (af B7.out b7));clear q0 q1 q2 q3 q4 q5 q6 q7 b7;by_cases hcx:aJ (op,id,nn,ty,ar,tt,na,pp)=0
      ·have HE:=ae (HR3.out.trans (rR _ _ h4 hcx));rw [hcx];go_wp2_with fail
       go_roundw
       case rel=>exact⟨m2+1,J+1,by omega,by go_num,by omega,by go_num,HE,HW7⟩
       case measure=>simp [intOf];omega
      ·have HE:=ae (HR3.out.trans (wK _ _ h4 hcx));have hcx':(aJ (op,id,nn,ty,ar,tt,na,pp) != 0)=true:=(by simpa using hcx);generalize aJ (op,id,nn,ty,ar,tt,na,pp)=z at *;go_wp2_with fail
       go_ret2;exact⟨by rw [HE.out];rfl,af B0.out HW7.out⟩
    ·obtain rfl:J=b.length:=(by omega);have HE:=ae (HRJ.out.trans (by rw [List.drop_length,vC]:_=runB m2 (bl.drop (K+1))));go_wp2_with fail
     go_roundw
     case rel=>exact⟨m2,K+1,hm2,rfl,by omega,by go_num,HE,HWJ⟩
     case measure=>simp [intOf];omega
  ·obtain rfl:K=bl.length:=(by omega);have HE:Hid (runB m0 bl=(m,0)):=ae (HR.out.trans (by rw [List.drop_length];rfl));go_wp2_with fail
   go_ret2;exact⟨by rw [HE.out];rfl,af B0.out HW.out⟩
theorem s9:∀(l:List Ins) (m:Nat),m≤4096→(runI m l).1≤4096
 |[],m,h=>h
 |x :: r,m,h=>by
  rw [runI];split
  ·exact h
  ·split
   ·show m+1≤4096;omega
   ·exact s9 r (m+1) (by omega)
theorem Ao:∀(l:List (List Ins)) (m:Nat),m≤4096→(runB m l).1≤4096
 |[],m,h=>h
 |b :: r,m,h=>by
  rw [runB];split
  ·exact s9 b m h
  ·exact Ao r _ (s9 b m h)
def wholeF:Nat→Nat→List Fun→Int × Int
 |_,_,[]=>(0,0)
 |i,m,f :: r=>if i=32 then(6,(i:Int))else if bZ f≠0 then(bZ f,(i:Int))else if(runB m f.2.2.2.1).2≠0 then((runB m f.2.2.2.1).2,(i:Int))else wholeF (i+1) (runB m f.2.2.2.1).1 r
theorem kb (m:Nat) (f:Fun) (r:List Fun):wholeF 32 m (f :: r)=(6,((32:Nat):Int)):=by rw [wholeF,if_pos rfl]
theorem j5 {i:Nat} (m:Nat) {f:Fun} (r:List Fun) (hi:i≠32) (hh:bZ f≠0):wholeF i m (f :: r)=(bZ f,(i:Int)):=by rw [wholeF,if_neg hi,if_pos hh]
theorem mg {i m:Nat} {f:Fun} (r:List Fun) (hi:i≠32) (hh:bZ f=0) (hb:(runB m f.2.2.2.1).2≠0):wholeF i m (f :: r)=((runB m f.2.2.2.1).2,(i:Int)):=by
 rw [wholeF,if_neg hi,if_neg (by simp [hh]),if_pos hb]
theorem mq {i m:Nat} {f:Fun} (r:List Fun) (hi:i≠32) (hh:bZ f=0) (hb:(runB m f.2.2.2.1).2=0):wholeF i m (f :: r)=wholeF (i+1) (runB m f.2.2.2.1).1 r:=by
 rw [wholeF,if_neg hi,if_neg (by simp [hh]),if_neg (by simp [hb])]
theorem DE (f:Fun) (v:Value) (w:World) (h:cg w f v) (hO:OkF f):Calls Tryz.prog 62 #[v] w fun e w'=>e= .returned (.int .i64 (bZ f))∧Below w.heap.size w w':=by
 obtain⟨nm,ps,rt,bl,pl⟩:=f;obtain⟨vp,vb,rfl,⟨ao,c,rfl,h1,h2,h3⟩,⟨bo,cb,rfl,h4,h5,_⟩⟩:=h;exact Fm nm ps rt pl bl ao bo c cb w h1 ⟨Nat.le_trans h2 h3,Nat.le_trans h4 h5⟩ hO.1
theorem DJ (m:Nat) (f:Fun) (v:Value) (w:World) (h:cg w f v) (ht:Tb w) (hO:OkF f) (hm:m≤4096):Calls Tryz.prog 63 #[v,.int .i64 m] w fun e w'=>e= .returned (.tuple #[.int .i64 ((runB m f.2.2.2.1).1:Nat),.int .i64 (runB m f.2.2.2.1).2])∧Below w.heap.size w w':=by
 obtain⟨nm,ps,rt,bl,pl⟩:=f;obtain⟨vp,vb,rfl,⟨ao,c,rfl,h1,_⟩,h2⟩:=h;have h2':=h2;obtain⟨bo,cb,rfl,_⟩:=h2;exact DV m nm ps rt pl bl ao bo c cb w h2' ht hO hm
theorem qR (w:World) (v:Value):Below w.heap.size w ((w.alloc (.cells #[v] 24)).alloc (.cells #[.int .i64 0,.int .i64 0] 29))∧((w.alloc (.cells #[v] 24)).alloc (.cells #[.int .i64 0,.int .i64 0] 29)).heap[w.heap.size]? =some (.cells #[v] 24 (0,0))∧
  ((w.alloc (.cells #[v] 24)).alloc (.cells #[.int .i64 0,.int .i64 0] 29)).heap[w.heap.size+1]? =some (.cells #[.int .i64 0,.int .i64 0] 29 (0,0))∧w.heap.size+1 < ((w.alloc (.cells #[v] 24)).alloc (.cells #[.int .i64 0,.int .i64 0] 29)).heap.size:=by
 refine⟨af (ah w _) (ah _ _),(heap_alloc_old _ _ (by simp)).trans (heap_alloc_new w _),?_,by simp⟩;have:=heap_alloc_new (w.alloc (.cells #[v] 24)) (.cells #[.int .i64 0,.int .i64 0] 29);rwa [show(w.alloc (.cells #[v] 24)).heap.size=w.heap.size+1 from by simp] at this
theorem gC {w:World} {c:Nat} {a b:Value} (h:w.heap[c]? =some (.cells #[a,b] 29 (0,0))):w.cell? ⟨c,0,none⟩=some a∧w.cell? ⟨c,1,none⟩=some b∧w.frozen? ⟨c,0,none⟩=false∧w.frozen? ⟨c,1,none⟩=false:=by
 simp [World.cell?,World.frozen?,h]
theorem eH {w W wr:World} {a b:Value} (h0:Below w.heap.size w W) (h:Below W.heap.size W wr):Below w.heap.size w ((wr.setCell ⟨w.heap.size+1,0,none⟩ a).setCell ⟨w.heap.size+1,1,none⟩ b):=
 ((af h0 h).setCell (p:=⟨w.heap.size+1,0,none⟩) (Nat.le_succ _) a).setCell (p:=⟨w.heap.size+1,1,none⟩) (Nat.le_succ _) b
theorem Bu (p:List Fun) (ao:Option Addr) (c:Nat) (w:World) (hp:bK w p (.slice ao p.length c)) (ht:Tb w) (hO:∀f∈p,OkF f):
  Calls Tryz.prog 37 #[.agg #[.slice ao p.length c]] w fun e w'=>e= .returned (.agg #[.int .i64 (wholeF 0 0 p).1,.int .i64 (wholeF 0 0 p).2])∧Below w.heap.size w w':=by
 obtain⟨b0,h0,h1,hz0⟩:=qR w (.slice ao p.length c);have H0:=ae h0;have H1:=ae h1;have T0:=ae (ht.below b0);have HP:=ae (hp.below b0);have B0:=ae b0;have HO:=ae hO;have hpc:p.length≤c∧c≤maxLen:=by
  obtain⟨ao',c',e,h1,h2,_⟩:=hp;injection e with e1 e2 e3;subst e3;exact⟨h1,h2⟩
 unfold maxLen at hpc;clear b0 h0 h1 ht hp hO;go_enter Tryz.func37,Tryz.ntmps37
 go_upto_region 1 with fail
 show Code.wp _ _ _ _ ((w.alloc (.cells #[.slice ao p.length c] 24)).alloc (.cells #[.int .i64 0,.int .i64 0] 29));generalize (w.alloc (.cells #[.slice ao p.length c] 24)).alloc (.cells #[.int .i64 0,.int .i64 0] 29)=W at *;have c0:=uL H0.out;go_wp2_with fail
 go_loopw [3,10] (fun mm i wr=>∃(m K:Nat),m≤4096∧mm= .int .i64 m∧K≤p.length∧K≤32∧i= .int .i64 K∧Hid (wholeF 0 0 p=wholeF K m (p.drop K))∧Hid (Below W.heap.size W wr)) (fun _ i _=>p.length - (intOf i).toNat)
 case atStart=>exact⟨0,0,by omega,rfl,Nat.zero_le _,by omega,rfl,ae rfl,ae (Below.refl _ _)⟩
 case round=>
  obtain⟨m,K,hm,rfl,hK,hK32,rfl,HR,HW⟩:=hrel;by_cases hkt:K < p.length
  ·obtain⟨f,hfK⟩:∃f,p[K]? =some f:=⟨p[K],List.getElem?_eq_some_iff.2 ⟨hkt,rfl⟩⟩;obtain⟨ao',c',eq',hh1,hh2,hh3⟩:=HP.out;injection eq' with e1 e2 e3;subst e1 e3;rcases hh3 with hh3 | ⟨gb,ob,rfl,hin⟩
   ·subst hh3;simp at hkt
   obtain⟨aoy,boy,cy,cby,hv,q0,q1,q2,q3,q4⟩:=((hin K f hfK).below HW.out).val;have HV:=ae hv;have HOf:=ae (HO.out f (List.mem_of_getElem? hfK));have hkI:(K:Int) < p.length:=(by omega);have HR2:=ae (HR.out.trans (by rw [jd hfK]));have TK:=ae (T0.out.below HW.out);obtain⟨nm,ps,rt,bl,pl⟩:=f;dsimp only at HV q0 q1 q2 q3 q4
   clear hin hfK hv HR;have B7:=ae (ah wr (.cells #[.string (bs nm),.slice aoy ps.length cy,.int .i64 rt,.slice boy bl.length cby,.int .i64 pl] 36));have H7:=ae (heap_alloc_new wr (.cells #[.string (bs nm),.slice aoy ps.length cy,.int .i64 rt,.slice boy bl.length cby,.int .i64 pl] 36));by_cases h32:K=32
   ·subst h32;have HE:=ae (HR2.out.trans (kb _ _ _));have h32':(((32:Nat):Int) == 32)=true:=rfl;obtain⟨d0,d1,z0,z1⟩:=gC (((HW.out.trans (B7.out.mono HW.out.size)).block _ hz0).trans H1.out);have hW8:=ae (HW.out.trans (B7.out.mono HW.out.size));go_wp2_with fail
    exact bodyPost_ret (v:= .agg #[.int .i64 6,.int .i64 ((32:Nat):Int)]) (by simp [results,Tryz.results37,go_sem,d0,d1]) rfl ⟨by rw [HE.out],eH B0.out hW8.out⟩
   ·have h32':((K:Int) == 32)=false:=beq_eq_false_iff_ne.2 (by omega);go_wp2_with fail
    refine(DE (nm,ps,rt,bl,pl) _ _ (HV.out.below B7.out) HOf.out).mono ?_;rintro e w8 ⟨rfl,b8⟩;have HW8:=ae (af HW.out (af B7.out b8));have hwl:wr.heap.size < w8.heap.size:=Nat.lt_of_lt_of_le (Array.getElem?_eq_some_iff.1 H7.out).1 b8.size;obtain⟨s0,s1,s2,s3,s4⟩:=jJ ((b8.block _ (Array.getElem?_eq_some_iff.1 H7.out).1).trans H7.out);have HV8:=ae (HV.out.below (af B7.out b8));have T8:=ae (TK.out.below (af B7.out b8));clear b8 q0 q1 q2 q3 q4;by_cases hh:bZ (nm,ps,rt,bl,pl)=0
    ·have HH:=ae hh;rw [hh];clear hh;go_wp2_with fail
     refine(DJ m (nm,ps,rt,bl,pl) _ _ HV8.out T8.out HOf.out hm).mono ?_;rintro e w9 ⟨rfl,b9⟩;have HW9:=ae (af HW8.out b9);clear b9 s0 s1 s2 s3 s4;have hle:=Ao bl m hm;by_cases hb:(runB m bl).2=0
     ·have HE:=ae (HR2.out.trans (mq _ h32 HH.out hb));dsimp only
      rw [hb];dsimp only at HE
      generalize (runB m bl).1=m2 at *;clear hb;go_wp2_with fail
      go_roundw
      case rel=>exact⟨m2,K+1,hle,rfl,by omega,by omega,by go_num,HE,HW9⟩
      case measure=>simp [intOf];omega
     ·have HE:=ae (HR2.out.trans (mg _ h32 HH.out hb));have hb':((runB m bl).2 != 0)=true:=(by simpa using hb);dsimp only
      dsimp only at HE
      generalize (runB m bl).2=z at *;generalize (runB m bl).1=m2 at *;clear hb;obtain⟨d0,d1,z0,z1⟩:=gC ((HW9.out.block _ hz0).trans H1.out);go_wp2_with fail
      exact bodyPost_ret (v:= .agg #[.int .i64 z,.int .i64 (K:Int)]) (by simp [results,Tryz.results37,go_sem,d0,d1]) rfl ⟨by rw [HE.out],eH B0.out HW9.out⟩
    ·have HE:=ae (HR2.out.trans (j5 _ _ h32 hh));have hh':(bZ (nm,ps,rt,bl,pl) == 0)=false:=(by simpa using hh);have hh2:(bZ (nm,ps,rt,bl,pl) != 0)=true:=(by simpa using hh);generalize bZ (nm,ps,rt,bl,pl)=z at *;clear hh;obtain⟨d0,d1,z0,z1⟩:=gC ((HW8.out.block _ hz0).trans H1.out);go_wp2_with fail
     exact bodyPost_ret (v:= .agg #[.int .i64 z,.int .i64 (K:Int)]) (by simp [results,Tryz.results37,go_sem,d0,d1]) rfl ⟨by rw [HE.out],eH B0.out HW8.out⟩
  ·obtain rfl:K=p.length:=(by omega);have HE:Hid (wholeF 0 0 p=(0,0)):=ae (HR.out.trans (by rw [List.drop_length];rfl));obtain⟨d0,d1,z0,z1⟩:=gC ((HW.out.block _ hz0).trans H1.out);go_wp2_with fail
   exact bodyPost_ret (v:= .agg #[.int .i64 0,.int .i64 0]) (by simp [results,Tryz.results37,go_sem,d0,d1]) rfl ⟨by rw [HE.out],eH B0.out HW.out⟩
def nO (p:List Fun) (n a:Nat):Prop:=n=a∨(100 < n∧100 < total p)
theorem Cx (p:List Fun) (ao:Option Addr) (c:Nat) (w:World) (hp:bK w p (.slice ao p.length c)) (h0:p.length≤140737488355328) (hS:∀f∈p,ShF f):
  Calls Tryz.prog 22 #[.agg #[.slice ao p.length c],.int .i64 100] w fun e w'=>(∃n:Nat,e= .returned (.int .i64 n)∧nO p n (total p))∧Below w.heap.size w w':=by
 have b0:=ah w (.cells #[.slice ao p.length c] 24);have H0:=ae (heap_alloc_new w (.cells #[.slice ao p.length c] 24));have hz0:(w.alloc (.cells #[.slice ao p.length c] 24)).heap.size > w.heap.size:=by simp
 have B0:=ae b0;have HP:=ae (hp.below b0);have HS:=ae hS;clear b0 hp hS;go_enter Tryz.func22,Tryz.ntmps22
 go_upto_region 1 with fail
 show Code.wp _ _ _ _ (w.alloc (.cells #[.slice ao p.length c] 24));generalize w.alloc (.cells #[.slice ao p.length c] 24)=W at *;have c0:=uL H0.out;go_wp2_with fail
 clear c0;go_loopw [5,6] (fun nv i wr=>∃(n K:Nat),n≤1000000000000000∧nv= .int .i64 n∧K≤p.length∧i= .int .i64 K∧Hid (nO p n (p.length+wFs (p.take K)))∧Hid (Below W.heap.size W wr)) (fun _ i _=>p.length - (intOf i).toNat)
 case atStart=>exact⟨p.length,0,by omega,rfl,Nat.zero_le _,rfl,ae (.inl (by simp [wFs])),ae (Below.refl _ _)⟩
 case round=>
  obtain⟨n,K,hn,rfl,hK,rfl,HC,HW⟩:=hrel;have c0:=uL ((HW.out.block _ hz0).trans H0.out);by_cases hkt:K < p.length
  ·have hkI:(K:Int) < p.length:=(by omega);by_cases h150:n≤100
   ·obtain⟨f,hfK⟩:∃f,p[K]? =some f:=⟨p[K],List.getElem?_eq_some_iff.2 ⟨hkt,rfl⟩⟩;have h150':(n:Int)≤100:=(by omega);have HN:Hid (n=p.length+wFs (p.take K)):=ae (by rcases HC.out with h | h;exact h;omega);have HT:=ae (pz wF p K f hfK);have HTL:=ae (pj wF p (K+1));obtain⟨ao',c',eq',hh1,hh2,hh3⟩:=HP.out;injection eq' with e1 e2 e3;subst e1 e3;rcases hh3 with hh3 | ⟨gb,ob,rfl,hin⟩
    ·subst hh3;simp at hkt
    obtain⟨aoy,boy,cy,cby,hv,q0,q1,q2,q3,q4⟩:=((hin K f hfK).below HW.out).val;have HV:=ae hv;obtain⟨s1,s2,s3,s4⟩:=HS.out f (List.mem_of_getElem? hfK);have HSf:=ae s4;obtain⟨nm,ps,rt,bl,pl⟩:=f;dsimp only at HV q0 q1 q2 q3 q4 s1 s2 s3 HSf
    have HBL:Hid (dy wr bl (.slice boy bl.length cby)):=ae (by
     obtain⟨vp,vb,e,_,h2⟩:=HV.out;injection e with e;have e2:=congrArg (fun a=>a[3]?) e;simp at e2;rw [e2];exact h2)
    have hnz:(bs nm).size=nm.length:=aY nm;have HNZ:=ae hnz;clear hin hfK hv hnz s4;have B7:=ae (ah wr (.cells #[.string (bs nm),.slice aoy ps.length cy,.int .i64 rt,.slice boy bl.length cby,.int .i64 pl] 36));have H7:=ae (heap_alloc_new wr (.cells #[.string (bs nm),.slice aoy ps.length cy,.int .i64 rt,.slice boy bl.length cby,.int .i64 pl] 36));have hl7:=ae (Array.getElem?_eq_some_iff.1 H7.out).1;obtain⟨t0,t1,t2,t3,t4⟩:=jJ H7.out;have hnb:(bs nm).size≤140737488355328:=(by rw [HNZ.out];exact s1);have HW7:=ae (af HW.out B7.out);have HBL7:=ae (HBL.out.below B7.out);have HQ:Hid (((n:Int)+(bl.length:Int)+(ps.length:Int)+((bs nm).size:Int) / 30)=((n+bl.length+ps.length+nm.length / 30:Nat):Int)):=ae (by rw [HNZ.out];omega);have HCF:Hid (nO p (n+bl.length+ps.length+nm.length / 30) (p.length+wFs (p.take K)+wF0 (nm,ps,rt,bl,pl)+wBs (bl.take 0))):=ae (.inl (by have:=HN.out;simp only [wF0,wBs,List.take_zero,List.map_nil,List.sum_nil];omega));have hnn:n+bl.length+ps.length+nm.length / 30≤1000000000000000:=(by omega);clear HBL;go_wp2_with fail
    clear t0 t1 t2 t3 t4 q0 q1 q2 q3 q4 c0 hnb;obtain⟨w0,hw0⟩:∃w0,w0=wr.alloc (.cells #[.string (bs nm),.slice aoy ps.length cy,.int .i64 rt,.slice boy bl.length cby,.int .i64 pl] 36):=⟨_,rfl⟩;rw [←hw0] at H7 HW7 HBL7 hl7 ⊢;clear hw0 B7;obtain⟨n1,hn1⟩:∃n1,n1=n+bl.length+ps.length+nm.length / 30:=⟨_,rfl⟩;rw [←hn1] at HQ HCF hnn;clear hn1;go_loopw [5,8] (fun nv i wr'=>∃(n A:Nat),n≤1000000000000000∧nv= .int .i64 n∧A≤bl.length∧i= .int .i64 A∧Hid (nO p n (p.length+wFs (p.take K)+wF0 (nm,ps,rt,bl,pl)+wBs (bl.take A)))∧Hid (Below w0.heap.size w0 wr')) (fun _ i _=>bl.length - (intOf i).toNat)
    case atStart=>exact⟨n1,0,hnn,by rw [HQ.out],Nat.zero_le _,rfl,HCF,ae (Below.refl _ _)⟩
    case round=>
     obtain⟨n2,A,hn2,rfl,hA,rfl,HCA,HWA⟩:=hrel;obtain⟨t0,t1,t2,t3,t4⟩:=jJ ((HWA.out.block _ hl7.out).trans H7.out);clear t0 t1 t2 t4;obtain⟨ao2,c2',eq2,hh1,hh2,hh3⟩:=HBL7.out;injection eq2 with e1 e2 e3;subst e1 e3;unfold maxLen at hh2;by_cases hat:A < bl.length
     ·have haI:(A:Int) < bl.length:=(by omega);by_cases h150a:n2≤100
      ·have h150a':(n2:Int)≤100:=(by omega);have HN2:Hid (n2=p.length+wFs (p.take K)+wF0 (nm,ps,rt,bl,pl)+wBs (bl.take A)):=ae (by rcases HCA.out with h | h;exact h;omega);obtain⟨b,hbA⟩:∃b,bl[A]? =some b:=⟨bl[A],List.getElem?_eq_some_iff.2 ⟨hat,rfl⟩⟩;have HTA:=ae (pz wB bl A b hbA);have HTLA:=ae (pj wB bl (A+1));rcases hh3 with hh3 | ⟨gc,oc,rfl,hgc,hbl⟩
       ·subst hh3;simp at hat
       obtain⟨vk,kd,kk⟩:=hbl A b hbA;have KD:=ae kd;obtain⟨aok,capk,rfl,lk1,lk2,kins⟩:=kk;have HSb:=ae (HSf.out b (List.mem_of_getElem? hbA));have KI:=ae kins;have HCB:Hid (nO p n2 (p.length+wFs (p.take K)+wF0 (nm,ps,rt,bl,pl)+wBs (bl.take A)+wB (b.take 0))):=ae (.inl (by have:=HN2.out;simp only [wB,List.take_zero,List.map_nil,List.sum_nil];omega));unfold maxLen at lk2;clear kins kd hbl hbA HCA;go_wp2_with fail
       clear t3;go_loopw [5,9] (fun nv i wr''=>∃(n J:Nat),n≤1000000000000000∧nv= .int .i64 n∧J≤b.length∧i= .int .i64 J∧Hid (nO p n (p.length+wFs (p.take K)+wF0 (nm,ps,rt,bl,pl)+wBs (bl.take A)+wB (b.take J)))∧Hid (Below w0.heap.size w0 wr'')) (fun _ i _=>b.length - (intOf i).toNat)
       case atStart=>exact⟨n2,0,hn2,rfl,Nat.zero_le _,rfl,HCB,HWA⟩
       case round=>
        obtain⟨n3,J,hn3,rfl,hJ,rfl,HCJ,HWJ⟩:=hrel;obtain⟨t0,t1,t2,t3,t4⟩:=jJ ((HWJ.out.block _ hl7.out).trans H7.out);clear t0 t1 t2 t4;have kd':=(HWJ.out.cell (p:=⟨gc,oc+A,none⟩) hgc).trans KD.out;have GREAT:Hid (100 < n3→nO p n3 (p.length+wFs (p.take K)+wF0 (nm,ps,rt,bl,pl)+wBs (bl.take (A+1)))):=ae fun h=>by
         rcases HCJ.out with h2 | h2
         ·have g1:=HT.out;have g2:=HTL.out;have g3:=HTA.out;have g4:=pj wI b J;have g5:=HTLA.out;refine .inr ⟨h,?_⟩;unfold total wFs at *;unfold wF wBs wB at *;dsimp only at g1
          omega
         ·exact .inr h2
        by_cases hjt:J < b.length
        ·have hjI:(J:Int) < b.length:=(by omega);by_cases h150b:n3≤100
         ·have h150b':(n3:Int)≤100:=(by omega);have HN3:Hid (n3=p.length+wFs (p.take K)+wF0 (nm,ps,rt,bl,pl)+wBs (bl.take A)+wB (b.take J)):=ae (by rcases HCJ.out with h | h;exact h;omega);obtain⟨y,hyJ⟩:∃y,b[J]? =some y:=⟨b[J],List.getElem?_eq_some_iff.2 ⟨hjt,rfl⟩⟩;have HTJ:=ae (pz wI b J y hyJ);rcases KI.out with hh | ⟨gi,oi,rfl,hin⟩
          ·subst hh;simp at hjt
          obtain⟨aoz,toz,caz,ctz,hv,r0,r1,r2,r3,r4,r5,r6,r7⟩:=((hin J y hyJ).below HWJ.out).val;obtain⟨v1,v2,v3⟩:=HSb.out y (List.mem_of_getElem? hyJ);obtain⟨op,id,nn,ty,ar,tt,na,pp⟩:=y;dsimp only at v1 v2 v3 r0 r1 r2 r3 r4 r5 r6 r7
          have HNA:=ae (aY na);have hnab:(bs na).size≤140737488355328:=(by rw [HNA.out];exact v3);have HQ3:Hid (((n3:Int)+1+(ar.length:Int) / 4+(tt.length:Int) / 4+((bs na).size:Int) / 30)=((n3+1+ar.length / 4+tt.length / 4+na.length / 30:Nat):Int)):=ae (by rw [HNA.out];omega);have HC3:Hid (nO p (n3+1+ar.length / 4+tt.length / 4+na.length / 30) (p.length+wFs (p.take K)+wF0 (nm,ps,rt,bl,pl)+wBs (bl.take A)+wB (b.take (J+1)))):=ae (.inl (by
           have g1:=HN3.out;have g2:=HTJ.out;have g3:wI (op,id,nn,ty,ar,tt,na,pp)=1+ar.length / 4+tt.length / 4+na.length / 30:=rfl;rw [g3] at g2;unfold wB at *;omega))
          have hn4:n3+1+ar.length / 4+tt.length / 4+na.length / 30≤1000000000000000:=(by omega);obtain⟨x0,x1,x2,x3,x4,x5,x6,x7⟩:=ij (heap_alloc_new wr (.cells #[.int .i64 op,.int .i64 id,.int .i64 nn,.int .i64 ty,.slice aoz ar.length caz,.slice toz tt.length ctz,.string (bs na),.int .i64 pp] 47));have HW9:=ae (af HWJ.out (ah wr (.cells #[.int .i64 op,.int .i64 id,.int .i64 nn,.int .i64 ty,.slice aoz ar.length caz,.slice toz tt.length ctz,.string (bs na),.int .i64 pp] 47)));clear hin hyJ hv;go_wp2_with fail
          go_roundw
          case rel=>exact⟨_,J+1,hn4,by rw [HQ3.out],by omega,by go_num,HC3,HW9⟩
          case measure=>simp [intOf];omega
         ·have h150b':¬(n3:Int)≤100:=(by omega);have HE:=ae (GREAT.out (by omega));go_wp2_with fail
          go_roundw
          case rel=>exact⟨n3,A+1,hn3,rfl,by omega,by go_num,HE,HWJ⟩
          case measure=>simp [intOf];omega
        ·obtain rfl:J=b.length:=(by omega);have HE:Hid (nO p n3 (p.length+wFs (p.take K)+wF0 (nm,ps,rt,bl,pl)+wBs (bl.take (A+1)))):=ae (by
          have h2:=HCJ.out;rw [List.take_length] at h2;have g3:=HTA.out;have e:wBs (bl.take (A+1))=wBs (bl.take A)+wB b:=g3;rw [e,←Nat.add_assoc];exact h2)
         go_wp2_with fail
         go_roundw
         case rel=>exact⟨n3,A+1,hn3,rfl,by omega,by go_num,HE,HWJ⟩
         case measure=>simp [intOf];omega
      ·have h150a':¬(n2:Int)≤100:=(by omega);have HE:Hid (nO p n2 (p.length+wFs (p.take (K+1)))):=ae (by
        rcases HCA.out with h2 | h2
        ·have g1:=HT.out;have g2:=HTL.out;have g3:=pj wB bl A;refine .inr ⟨by omega,?_⟩;unfold total wFs at *;unfold wF wBs at *;dsimp only at g1
         omega
        ·exact .inr h2)
       have HWF:=ae (af HW7.out HWA.out);go_wp2_with fail
       go_roundw
       case rel=>exact⟨n2,K+1,hn2,rfl,by omega,by go_num,HE,HWF⟩
       case measure=>simp [intOf];omega
     ·obtain rfl:A=bl.length:=(by omega);have HE:Hid (nO p n2 (p.length+wFs (p.take (K+1)))):=ae (by
       have h2:=HCA.out;rw [List.take_length] at h2;have g1:=HT.out;have e:wFs (p.take (K+1))=wFs (p.take K)+(wF0 (nm,ps,rt,bl,pl)+wBs bl):=g1;rw [e,←Nat.add_assoc,←Nat.add_assoc];exact h2)
      have HWF:=ae (af HW7.out HWA.out);go_wp2_with fail
      go_roundw
      case rel=>exact⟨n2,K+1,hn2,rfl,by omega,by go_num,HE,HWF⟩
      case measure=>simp [intOf];omega
   ·have h150':¬(n:Int)≤100:=(by omega);have HE:Hid (nO p n (total p)):=ae (by
     rcases HC.out with h | h
     ·have:=pj wF p K;exact .inr ⟨by omega,by unfold total wFs at *;omega⟩
     ·exact .inr h)
    go_wp2_with fail
    go_ret;exact⟨⟨n,rfl,HE.out⟩,af B0.out HW.out⟩
  ·obtain rfl:K=p.length:=(by omega);have HE:Hid (nO p n (total p)):=ae (by have:=HC.out;rwa [List.take_length] at this);go_wp2_with fail
   go_ret;exact⟨⟨n,rfl,HE.out⟩,af B0.out HW.out⟩
end Go.Proofs.YtljkgcfnoegibaaGreatDoor
