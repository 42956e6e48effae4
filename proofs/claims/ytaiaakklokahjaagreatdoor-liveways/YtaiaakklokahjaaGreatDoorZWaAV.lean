/- Texts of one chain, joined. -/
import Derived.Test.YtaiaakklokahjaaGreatDoorZWaAU
import Derived.Lib.TrailingZeros
import Derived.Test.YtaiaakklokahjaaGreatDoorRows
import Derived.ProofKit
import Derived.LaidMore
import Derived.OpenShut
import Derived.Stop.Joined
import Derived.ShutString
import Derived.ChangeOld
import Derived.Lib.LaidTab
import Derived.WideKeyPair
set_option maxHeartbeats 2000000
set_option maxRecDepth 20000
namespace Go.Proofs.YtaiaakklokahjaaGreatDoor
open Go Go.RowKit
open G (Tok Er Ins Fun)
theorem da {w:World} {b t:Nat} {a0 a1:Value} (h:w.heap[b]? =some (.cells #[a0,a1] t (0,0))):(w.cell? ⟨b,0,none⟩=some a0∧w.cell? ⟨b,1,none⟩=some a1)∧(w.frozen? ⟨b,0,none⟩=false∧w.frozen? ⟨b,1,none⟩=false)∧b < w.heap.size:=by
 refine⟨⟨?_,?_⟩,⟨?_,?_⟩,(Array.getElem?_eq_some_iff.1 h).1⟩ <;> simp [World.cell?,World.frozen?,h]
theorem Fj (p:List Fun) (i k:Nat):vK p i k=decide ((bh p i).1=(bh p k).1):=rfl
theorem wm (p:List Fun) (po:Option Addr) (pc:Nat) (w:World) (hp:eg w p (.slice po p.length pc)) (hl:p.length≤1000000) (hpm:∀f∈p,f.2.1.length≤1000000):
  Calls Tryz.prog 59 #[.agg #[.slice po p.length pc]] w fun e w'=>e= .returned (.agg #[.int .i64 (fD p).1,.int .i64 (fD p).2])∧Below w.heap.size w w':=by
 have HNm:Hid (fD p=match BS p with
  |some e=>e
  |none=>match findF p gq with
   |none=>(12,0)
   |some m=>if ay m.2.1 2 then(13,m.2.2.2.2)else(0,0)):=aa rfl
 have HDf:Hid (BS p=cD (fun i=>(cD (fun k=>if vK p i k then some ((5:Int),(bh p i).2.2.2.2)else none) i)) p.length):=aa rfl;have HFi:Hid (∀w',Below w.heap.size w w'→Calls Tryz.prog 88 #[.agg #[.slice po p.length pc],.string ⟨#[109,97,105,110]⟩] w' fun e w''=>(∃fv,e= .returned (.tuple #[fv,.bool (findF p gq).isSome])∧bS w'' ((findF p gq).getD jj) fv)∧Below w'.heap.size w' w''):=aa (fun w' b=>mL p gq po pc w' (hp.below b) hl);have HMm:Hid (∀m,findF p gq=some m→m.2.1.length≤1000000):=aa (fun m hm=>by
  obtain⟨i,hi,h2,_⟩:=fI hm;by_cases e:(bh p i).1=gq
  ·rw [if_pos e] at h2;injection h2 with h2;rw [←h2];exact hpm _ (List.mem_of_getElem? (jS hi))
  ·rw [if_neg e] at h2;cases h2)
 have HRd:Hid (∀i,i < p.length→∃g o,po=some ⟨g,o,none⟩∧pd w (bh p i) g (o+i * 5)):=aa (fun i hi=>gB hp hi);clear hp hpm;obtain⟨r,hr⟩:∃r,fD p=r:=⟨_,rfl⟩;rw [hr] at HNm ⊢;clear hr;generalize hn:p.length=n at *;replace hn:=aa hn;have b1:=af w (.cells #[.slice po n pc] 24);have h1:=heap_alloc_new w (.cells #[.slice po n pc] 24);have b2:=af (w.alloc (.cells #[.slice po n pc] 24)) (.cells #[.int .i64 0,.int .i64 0] 59);have hs1:(w.alloc (.cells #[.slice po n pc] 24)).heap.size=w.heap.size+1:=by simp
 have h2:=heap_alloc_new (w.alloc (.cells #[.slice po n pc] 24)) (.cells #[.int .i64 0,.int .i64 0] 59);rw [hs1] at h2;have H1:=aa ((b2.block w.heap.size (by simp)).trans h1);have H2:=aa h2;have B0:=aa (ae b1 b2);clear b1 h1 b2 hs1 h2;go_enter Tryz.func59,Tryz.ntmps59
 go_upto_region 1 with fail
 show Code.wp _ _ _ _ ((w.alloc (.cells #[.slice po n pc] 24)).alloc (.cells #[.int .i64 0,.int .i64 0] 59));generalize (w.alloc (.cells #[.slice po n pc] 24)).alloc (.cells #[.int .i64 0,.int .i64 0] 59)=W at *;have hz2:=(da H2.out).2.2;have hz1:=(bC H1.out).2;go_wp2_with fail
 go_loopw [3] (fun iv wr=>∃I:Nat,I≤n∧iv= .int .i64 I∧Hid (∀i,i < I→∀k,k < i→vK p i k=false)∧Hid (Below W.heap.size W wr)) (fun iv _=>n - (intOf iv).toNat)
 case atStart=>exact⟨0,Nat.zero_le _,rfl,aa (fun j h=>absurd h (Nat.not_lt_zero _)),aa (Below.refl _ _)⟩
 case round=>
  obtain⟨I,hI,rfl,HF,HW⟩:=hrel;have c0:=(HW.out.cell (p:=⟨w.heap.size,0,none⟩) hz1).trans (bC H1.out).1;by_cases hit:I < n
  ·have hiI:(I:Int) < n:=(by omega);have HW0:=aa HW.out;go_wp2_with fail
   clear c0;go_loopw [4] (fun kv wr=>∃K:Nat,K≤I∧kv= .int .i64 K∧Hid (∀k,k < K→vK p I k=false)∧Hid (Below W.heap.size W wr)) (fun kv _=>I - (intOf kv).toNat)
   case atStart=>exact⟨0,Nat.zero_le _,rfl,aa (fun j h=>absurd h (Nat.not_lt_zero _)),aa HW0.out⟩
   case round=>
    clear HW HW0;obtain⟨K,hK,rfl,HG,HW⟩:=hrel;by_cases hkt:K < I
    ·have hkI:(K:Int) < I:=(by omega);have hkN:(K:Int) < n:=(by omega);obtain⟨g,o,rfl,hfr⟩:=HRd.out I hit;obtain⟨g',o',he',hfr'⟩:=HRd.out K (by omega);injection he' with he';injection he' with e1 e2;subst e1 e2;have hgl:=hfr.1;obtain⟨_,_,_,_,_,d0,_,_,_,d4⟩:=hfr.val;obtain⟨_,_,_,_,_,u0,_,_,_,_⟩:=hfr'.val;have HDk:=aa (Fj p I K);obtain⟨a,ha⟩:∃a,(bh p I).1=a:=⟨_,rfl⟩;obtain⟨b,hb⟩:∃b,(bh p K).1=b:=⟨_,rfl⟩;obtain⟨at_,hat⟩:∃at_,(bh p I).2.2.2.2=at_:=⟨_,rfl⟩;rw [ha] at d0 HDk;rw [hb] at u0 HDk;rw [hat] at d4;have hB2:=fun z=>ae HW.out (L5.aD wr z);have hBw:=fun z=>ae B0.out (hB2 z);have c0:=fun z=>((hB2 z).cell (p:=⟨w.heap.size,0,none⟩) hz1).trans (bC H1.out).1;have k0:=fun z=>((hBw z).cell (p:=⟨g,o+I * 5,none⟩) hgl).trans d0;have k4:=fun z=>((hBw z).cell (p:=⟨g,o+I * 5+4,none⟩) hgl).trans d4;have l0:=fun z=>((hBw z).cell (p:=⟨g,o+K * 5,none⟩) hgl).trans u0;replace hB2:=aa hB2;replace hBw:=aa hBw;have HAt:=aa hat;clear hfr hfr' d0 d4 u0 ha hb hat;by_cases hab:a=b
     ·have hbq:((bs a).toList == (bs b).toList)=true:=(by rw [hab];exact xh b);have HR:Hid (r=(5,at_)):=aa (by
       rw [HNm.out];have:BS p=some (5,at_):=by
        rw [HDf.out];refine cX (K:=I) (fun j hj=>cd (fun k hk=> ?_)) hit (cX (K:=K) (fun k hk=> ?_) hkt ?_)
        ·rw [HF.out j hj k hk];rfl
        ·rw [HG.out k hk];rfl
        ·rw [HDk.out,decide_eq_true hab,HAt.out];rfl
       rw [this])
      clear hab;go_wp2_with fail
      refine L5.aM (by kernel_rfl) (by kernel_rfl) ?_;repeat (go_big_quiet_step (fail))
      refine wpQuiet_nil ?_;rintro _ ⟨z,rfl⟩;obtain⟨⟨z0,z1⟩,⟨f0,f1⟩,_⟩:=da (((hB2.out z).block _ hz2).trans H2.out);have HBz:=aa (hBw.out z);have c0':=c0 z;have k4':=k4 z;clear c0 k0 k4 l0 hB2 hBw;generalize L5.bM wr z=wz at *;have HE:Hid (Below w.heap.size w ((wz.setCell ⟨w.heap.size+1,0,none⟩ (.int .i64 5)).setCell ⟨w.heap.size+1,1,none⟩ (.int .i64 at_))):=aa (((HBz.out.setCell (p:=⟨w.heap.size+1,0,none⟩) (Nat.le_succ _) _).setCell (p:=⟨w.heap.size+1,1,none⟩) (Nat.le_succ _) _));go_wp2_with fail
      exact bodyPost_ret (v:= .agg #[.int .i64 5,.int .i64 at_]) (by simp [results,Tryz.results59,go_sem,z0,z1]) rfl ⟨by rw [HR.out],HE.out⟩
     ·have hbq:=Io hab;have HG2:Hid (∀k,k < K+1→vK p I k=false):=aa (fun k hk=>by
       by_cases e:k=K
       ·rw [e,HDk.out,decide_eq_false hab]
       ·exact HG.out k (by omega))
      clear hab;go_wp2_with fail
      refine L5.aM (by kernel_rfl) (by kernel_rfl) ?_;repeat (go_big_quiet_step (fail))
      refine wpQuiet_nil ?_;rintro _ ⟨z,rfl⟩;go_wp2_with fail
      go_roundw
      case rel=>exact⟨K+1,by omega,by go_num,HG2,aa (hB2.out z)⟩
      case measure=>simp [intOf];omega
    ·obtain rfl:K=I:=(by omega);have HF2:Hid (∀i,i < K+1→∀k,k < i→vK p i k=false):=aa (fun i hi k hk=>by
      by_cases e:i=K
      ·subst e;exact HG.out k hk
      ·exact HF.out i (by omega) k hk)
     go_wp2_with fail
     go_roundw
     case rel=>exact⟨K+1,by omega,by go_num,HF2,HW⟩
     case measure=>simp [intOf];omega
  ·obtain rfl:I=n:=(by omega);have HDn:Hid (BS p=none):=aa (by
    rw [HDf.out];exact cd (fun j hj=>cd (fun k hk=>by rw [HF.out j hj k hk];rfl)))
   have HN2:Hid (r=if(findF p gq).isSome then(if ay ((findF p gq).getD jj).2.1 2 then(13,((findF p gq).getD jj).2.2.2.2)else(0,0))else(12,0)):=aa (by
    rw [HNm.out,HDn.out]
    cases findF p gq <;> rfl)
   have HML:Hid (((findF p gq).getD jj).2.1.length≤1000000):=aa (by
    cases hm:findF p gq with
    |none=>exact Nat.zero_le _
    |some m=>exact HMm.out m hm)
   have HC:=aa (HFi.out wr (ae B0.out HW.out));have Bw:=aa (ae B0.out HW.out);obtain⟨m,hm⟩:∃m,(findF p gq).getD jj=m:=⟨_,rfl⟩;obtain⟨fb,hfb⟩:∃fb,(findF p gq).isSome=fb:=⟨_,rfl⟩;rw [hm,hfb] at HC HN2;rw [hm] at HML;have hml:=HML.out;clear hm hfb HMm HFi HNm HDf HDn HML;go_wp2_with fail
   refine HC.out.mono ?_;rintro e w2 ⟨⟨fv,rfl,hfv⟩,b2⟩;obtain⟨ma,mc,mb,md,rfl,X,b3⟩:=dx hfv;have HW3:=aa (ae HW.out (ae b2 b3));have Bw3:=aa (ae Bw.out (ae b2 b3));have X0:=aa X;have HSl:Hid (Sl (w2.alloc (.cells #[.string (bs m.1),.slice ma m.2.1.length mc,.int .i64 m.2.2.1,.slice mb m.2.2.2.1.length md,.int .i64 m.2.2.2.2] 29)) ma m.2.1):=aa (by
    obtain⟨vp,vb,e,⟨l1,l2,l3,hs,_⟩,_⟩:=hfv.below b3;injection e with e;have e1:=congrArg (fun a=>a[1]?) e;simp at e1;rw [l3] at e1;injection e1 with e1;rw [←e1] at hs;exact hs)
   clear HC c0 b2 X b3 hfv;go_upto_region 10 with fail
   show Code.wp _ _ _ _ (w2.alloc (.cells #[.string (bs m.1),.slice ma m.2.1.length mc,.int .i64 m.2.2.1,.slice mb m.2.2.2.1.length md,.int .i64 m.2.2.2.2] 29));generalize w2.alloc (.cells #[.string (bs m.1),.slice ma m.2.1.length mc,.int .i64 m.2.2.1,.slice mb m.2.2.2.1.length md,.int .i64 m.2.2.2.2] 29)=w3 at *;generalize w2.heap.size=q2 at *;obtain⟨x0,x1,x2,x3,x4⟩:_∧_∧_∧_∧_:=⟨X0.out.2 0 _ rfl,X0.out.2 1 _ rfl,X0.out.2 2 _ rfl,X0.out.2 3 _ rfl,X0.out.2 4 _ rfl⟩;obtain⟨⟨z0,z1⟩,⟨f0,f1⟩,_⟩:=da ((HW3.out.block _ hz2).trans H2.out)
   cases hfb:fb with
   |false=>
    have HR:Hid (r=(12,0)):=aa (by rw [HN2.out,hfb];rfl);have HE:Hid (Below w.heap.size w ((w3.setCell ⟨w.heap.size+1,0,none⟩ (.int .i64 12)).setCell ⟨w.heap.size+1,1,none⟩ (.int .i64 0))):=aa (((Bw3.out.setCell (p:=⟨w.heap.size+1,0,none⟩) (Nat.le_succ _) _).setCell (p:=⟨w.heap.size+1,1,none⟩) (Nat.le_succ _) _));go_wp2_with fail
    exact bodyPost_ret (v:= .agg #[.int .i64 12,.int .i64 0]) (by simp [results,Tryz.results59,go_sem,z0,z1]) rfl ⟨by rw [HR.out],HE.out⟩
   |true=>
    have HH:=aa (dr m.2.1 2 ma mc w3 HSl.out (by unfold maxLen;omega))
    cases hh:ay m.2.1 2 with
    |true=>
     rw [hh] at HH;have HR:Hid (r=(13,m.2.2.2.2)):=aa (by rw [HN2.out,hfb,hh];rfl);go_wp2_with fail
     refine HH.out.mono ?_;rintro e w4 ⟨rfl,rfl⟩;clear HH;have HE:Hid (Below w.heap.size w ((w4.setCell ⟨w.heap.size+1,0,none⟩ (.int .i64 13)).setCell ⟨w.heap.size+1,1,none⟩ (.int .i64 m.2.2.2.2))):=aa (((Bw3.out.setCell (p:=⟨w.heap.size+1,0,none⟩) (Nat.le_succ _) _).setCell (p:=⟨w.heap.size+1,1,none⟩) (Nat.le_succ _) _));go_wp2_with fail
     exact bodyPost_ret (v:= .agg #[.int .i64 13,.int .i64 m.2.2.2.2]) (by simp [results,Tryz.results59,go_sem,z0,z1]) rfl ⟨by rw [HR.out],HE.out⟩
    |false=>
     rw [hh] at HH;have HR:Hid (r=(0,0)):=aa (by rw [HN2.out,hfb,hh];rfl);go_wp2_with fail
     refine HH.out.mono ?_;rintro e w4 ⟨rfl,rfl⟩;clear HH;have HE:Hid (Below w.heap.size w ((w4.setCell ⟨w.heap.size+1,0,none⟩ (.int .i64 0)).setCell ⟨w.heap.size+1,1,none⟩ (.int .i64 0))):=aa (((Bw3.out.setCell (p:=⟨w.heap.size+1,0,none⟩) (Nat.le_succ _) _).setCell (p:=⟨w.heap.size+1,1,none⟩) (Nat.le_succ _) _));go_wp2_with fail
     exact bodyPost_ret (v:= .agg #[.int .i64 0,.int .i64 0]) (by simp [results,Tryz.results59,go_sem,z0,z1]) rfl ⟨by rw [HR.out],HE.out⟩
theorem Af {p:List Fun} {f:Fun} {x:Ins} (h:x.1=28) (h2:(decide (f.2.2.1=0) != decide (x.2.2.2.2.1.length=0))=true):dm p f x=13:=by
 unfold dm;rw [if_pos (by rw [decide_eq_true h,h2];rfl)]
theorem vv {p:List Fun} {f:Fun} {x:Ins} (h:(decide (x.1=28) && (decide (f.2.2.1=0) != decide (x.2.2.2.2.1.length=0)))=false) (h2:x.1≠21):dm p f x=0:=by
 unfold dm;rw [if_neg (by rw [h];simp),if_pos h2]
theorem o5 {p:List Fun} {f:Fun} {x:Ins} (h2:x.1=21):dm p f x=if(findF p x.2.2.2.2.2.2.1).isSome then(if((findF p x.2.2.2.2.2.2.1).getD jj).2.2.1≠x.2.2.2.1 then 9 else if((findF p x.2.2.2.2.2.2.1).getD jj).2.1.length≠x.2.2.2.2.1.length then 13 else 0)else 12:=by
 unfold dm;rw [if_neg (by rw [h2];simp),if_neg (by rw [h2];simp)]
 cases findF p x.2.2.2.2.2.2.1 <;> rfl
theorem wL (p:List Fun) (f:Fun) (x:Ins) (po:Option Addr) (pc:Nat) (fv xv:Value) (w:World) (hp:eg w p (.slice po p.length pc)) (hl:p.length≤1000000) (hf:bS w f fv) (hx:ib w x xv):
  Calls Tryz.prog 93 #[.agg #[.slice po p.length pc],fv,xv] w fun e w'=>e= .returned (.int .i64 (dm p f x))∧Below w.heap.size w w':=by
 have HFi:=aa (fun w' (b:Below w.heap.size w w')=>mL p x.2.2.2.2.2.2.1 po pc w' (hp.below b) hl);have HL1:=aa (fun h h2=>Af (p:=p) (f:=f) (x:=x) h h2);have HL2:=aa (fun h h2=>vv (p:=p) (f:=f) (x:=x) h h2);have HL3:=aa (fun h=>o5 (p:=p) (f:=f) (x:=x) h);clear hp;obtain⟨lp,cp,lb,cb,rfl,_,_⟩:=dx hf;obtain⟨xo,zo,xc,zc,rfl,hxa,hxt,hxa1,hxa2,hxt1,hxt2⟩:=id hx;generalize bs f.1=nm at *;generalize hlps:f.2.1.length=lps at *;generalize hrt:f.2.2.1=rt at *;generalize hlbs:f.2.2.2.1.length=lbs at *;generalize f.2.2.2.2=pl at *;generalize hn:p.length=n at *;have b1:=af w (.cells #[.slice po n pc] 24);have h1:=heap_alloc_new w (.cells #[.slice po n pc] 24);have b2:=af (w.alloc (.cells #[.slice po n pc] 24)) (.cells #[.string nm,.slice lp lps cp,.int .i64 rt,.slice lb lbs cb,.int .i64 pl] 29);have X1:=L5.Box.new (w.alloc (.cells #[.slice po n pc] 24)) [.string nm,.slice lp lps cp,.int .i64 rt,.slice lb lbs cb,.int .i64 pl] 29;have hs1:(w.alloc (.cells #[.slice po n pc] 24)).heap.size=w.heap.size+1:=by simp
 rw [hs1] at X1;have b3:=af ((w.alloc (.cells #[.slice po n pc] 24)).alloc (.cells #[.string nm,.slice lp lps cp,.int .i64 rt,.slice lb lbs cb,.int .i64 pl] 29)) (.cells #[.int .i64 x.1,.int .i64 x.2.1,.int .i64 x.2.2.1,.int .i64 x.2.2.2.1,.slice xo x.2.2.2.2.1.length xc,.slice zo x.2.2.2.2.2.1.length zc,.string (bs x.2.2.2.2.2.2.1),.int .i64 x.2.2.2.2.2.2.2] 41);have Y1:=L5.Box.new ((w.alloc (.cells #[.slice po n pc] 24)).alloc (.cells #[.string nm,.slice lp lps cp,.int .i64 rt,.slice lb lbs cb,.int .i64 pl] 29)) [.int .i64 x.1,.int .i64 x.2.1,.int .i64 x.2.2.1,.int .i64 x.2.2.2.1,.slice xo x.2.2.2.2.1.length xc,.slice zo x.2.2.2.2.2.1.length zc,.string (bs x.2.2.2.2.2.2.1),.int .i64 x.2.2.2.2.2.2.2] 41;have hs2:((w.alloc (.cells #[.slice po n pc] 24)).alloc (.cells #[.string nm,.slice lp lps cp,.int .i64 rt,.slice lb lbs cb,.int .i64 pl] 29)).heap.size=w.heap.size+2:=by simp
 rw [hs2] at Y1;have H1:=aa (((ae b2 b3).block w.heap.size (by simp)).trans h1);have X0:Hid (L5.Box (((w.alloc (.cells #[.slice po n pc] 24)).alloc (.cells #[.string nm,.slice lp lps cp,.int .i64 rt,.slice lb lbs cb,.int .i64 pl] 29)).alloc (.cells #[.int .i64 x.1,.int .i64 x.2.1,.int .i64 x.2.2.1,.int .i64 x.2.2.2.1,.slice xo x.2.2.2.2.1.length xc,.slice zo x.2.2.2.2.2.1.length zc,.string (bs x.2.2.2.2.2.2.1),.int .i64 x.2.2.2.2.2.2.2] 41)) (w.heap.size+1) [.string nm,.slice lp lps cp,.int .i64 rt,.slice lb lbs cb,.int .i64 pl]):=aa (X1.below b3);have Y0:Hid (L5.Box (((w.alloc (.cells #[.slice po n pc] 24)).alloc (.cells #[.string nm,.slice lp lps cp,.int .i64 rt,.slice lb lbs cb,.int .i64 pl] 29)).alloc (.cells #[.int .i64 x.1,.int .i64 x.2.1,.int .i64 x.2.2.1,.int .i64 x.2.2.2.1,.slice xo x.2.2.2.2.1.length xc,.slice zo x.2.2.2.2.2.1.length zc,.string (bs x.2.2.2.2.2.2.1),.int .i64 x.2.2.2.2.2.2.2] 41)) (w.heap.size+2) [.int .i64 x.1,.int .i64 x.2.1,.int .i64 x.2.2.1,.int .i64 x.2.2.2.1,.slice xo x.2.2.2.2.1.length xc,.slice zo x.2.2.2.2.2.1.length zc,.string (bs x.2.2.2.2.2.2.1),.int .i64 x.2.2.2.2.2.2.2]):=aa Y1;have B0:=aa (ae b1 (ae b2 b3));clear b1 h1 b2 X1 hs1 b3 Y1 hs2;clear hf hx;go_enter Tryz.func93,Tryz.ntmps93
 go_upto_region 1 with fail
 show Code.wp _ _ _ _ (((w.alloc (.cells #[.slice po n pc] 24)).alloc (.cells #[.string nm,.slice lp lps cp,.int .i64 rt,.slice lb lbs cb,.int .i64 pl] 29)).alloc (.cells #[.int .i64 x.1,.int .i64 x.2.1,.int .i64 x.2.2.1,.int .i64 x.2.2.2.1,.slice xo x.2.2.2.2.1.length xc,.slice zo x.2.2.2.2.2.1.length zc,.string (bs x.2.2.2.2.2.2.1),.int .i64 x.2.2.2.2.2.2.2] 41));generalize ((w.alloc (.cells #[.slice po n pc] 24)).alloc (.cells #[.string nm,.slice lp lps cp,.int .i64 rt,.slice lb lbs cb,.int .i64 pl] 29)).alloc (.cells #[.int .i64 x.1,.int .i64 x.2.1,.int .i64 x.2.2.1,.int .i64 x.2.2.2.1,.slice xo x.2.2.2.2.1.length xc,.slice zo x.2.2.2.2.2.1.length zc,.string (bs x.2.2.2.2.2.2.1),.int .i64 x.2.2.2.2.2.2.2] 41)=W at *;have c0:=(bC H1.out).1;obtain⟨x0,x1,x2,x3,x4⟩:_∧_∧_∧_∧_:=⟨X0.out.2 0 _ rfl,X0.out.2 1 _ rfl,X0.out.2 2 _ rfl,X0.out.2 3 _ rfl,X0.out.2 4 _ rfl⟩;obtain⟨y0,y1,y2,y3,y4,y5,y6,y7⟩:_∧_∧_∧_∧_∧_∧_∧_:=⟨Y0.out.2 0 _ rfl,Y0.out.2 1 _ rfl,Y0.out.2 2 _ rfl,Y0.out.2 3 _ rfl,Y0.out.2 4 _ rfl,Y0.out.2 5 _ rfl,Y0.out.2 6 _ rfl,Y0.out.2 7 _ rfl⟩;have hxl:x.2.2.2.2.1.length≤maxLen:=Nat.le_trans hxa1 hxa2;unfold maxLen at hxl;by_cases h28:x.1=28
 ·have e28:(x.1 == 28)=true:=beq_iff_eq.2 h28;have e21:(x.1 == 21)=false:=beq_eq_false_iff_ne.2 (by omega);by_cases hr0:rt=0
  ·have er:(rt == 0)=true:=beq_iff_eq.2 hr0;by_cases ha0:x.2.2.2.2.1.length=0
   ·have ea:((x.2.2.2.2.1.length:Int) == 0)=true:=beq_iff_eq.2 (by omega);have HR:Hid (0=dm p f x):=aa (HL2.out (by rw [decide_eq_true h28,decide_eq_true hr0,decide_eq_true ha0];rfl) (by omega)).symm;clear h28 hr0 ha0;go_wp2_with fail
    go_ret;exact⟨bD HR.out,B0.out⟩
   ·have ea:((x.2.2.2.2.1.length:Int) == 0)=false:=beq_eq_false_iff_ne.2 (by omega);have HR:Hid (13=dm p f x):=aa (HL1.out h28 (by rw [decide_eq_true hr0,decide_eq_false ha0];rfl)).symm;clear h28 hr0;go_wp2_with fail
    go_ret;exact⟨bD HR.out,B0.out⟩
  ·have er:(rt == 0)=false:=beq_eq_false_iff_ne.2 hr0;by_cases ha0:x.2.2.2.2.1.length=0
   ·have ea:((x.2.2.2.2.1.length:Int) == 0)=true:=beq_iff_eq.2 (by omega);have HR:Hid (13=dm p f x):=aa (HL1.out h28 (by rw [decide_eq_false hr0,decide_eq_true ha0];rfl)).symm;clear h28 ha0;go_wp2_with fail
    go_ret;exact⟨bD HR.out,B0.out⟩
   ·have ea:((x.2.2.2.2.1.length:Int) == 0)=false:=beq_eq_false_iff_ne.2 (by omega);have HR:Hid (0=dm p f x):=aa (HL2.out (by rw [decide_eq_true h28,decide_eq_false hr0,decide_eq_false ha0];rfl) (by omega)).symm;clear h28;go_wp2_with fail
    go_ret;exact⟨bD HR.out,B0.out⟩
 ·have e28:(x.1 == 28)=false:=beq_eq_false_iff_ne.2 h28;by_cases h21:x.1=21
  ·have e21:(x.1 == 21)=true:=beq_iff_eq.2 h21;have HX:=aa (HL3.out h21);have HC:=aa (HFi.out W B0.out);obtain⟨m,hm⟩:∃m,(findF p x.2.2.2.2.2.2.1).getD jj=m:=⟨_,rfl⟩;obtain⟨fb,hfb⟩:∃fb,(findF p x.2.2.2.2.2.2.1).isSome=fb:=⟨_,rfl⟩;rw [hm,hfb] at HC HX;clear hm hfb h28 h21 HL1 HL2 HL3 HFi;go_wp2_with fail
   refine HC.out.mono ?_;rintro e w2 ⟨⟨gv,rfl,hgv⟩,b2⟩;obtain⟨ma,mc,mb,md,rfl,X,b3⟩:=dx hgv;have B3:=aa (ae B0.out (ae b2 b3));have M0:=aa X;have Y3:=aa (Y0.out.below (ae b2 b3));have hml:m.2.1.length≤maxLen:=by
    obtain⟨_,_,e,⟨l1,l2,rfl,_,h8,h9⟩,_⟩:=hgv;exact Nat.le_trans h8 h9
   unfold maxLen at hml;clear HC b2 X b3 hgv c0 x0 x1 x2 x3 x4 y0 y1 y2 y3 y4 y5 y6 y7;go_upto_region 6 with fail
   show Code.wp _ _ _ _ (w2.alloc (.cells #[.string (bs m.1),.slice ma m.2.1.length mc,.int .i64 m.2.2.1,.slice mb m.2.2.2.1.length md,.int .i64 m.2.2.2.2] 29));generalize w2.alloc (.cells #[.string (bs m.1),.slice ma m.2.1.length mc,.int .i64 m.2.2.1,.slice mb m.2.2.2.1.length md,.int .i64 m.2.2.2.2] 29)=w3 at *;generalize w2.heap.size=q2 at *;obtain⟨x0,x1,x2,x3,x4⟩:_∧_∧_∧_∧_:=⟨M0.out.2 0 _ rfl,M0.out.2 1 _ rfl,M0.out.2 2 _ rfl,M0.out.2 3 _ rfl,M0.out.2 4 _ rfl⟩;obtain⟨y0,y1,y2,y3,y4,y5,y6,y7⟩:_∧_∧_∧_∧_∧_∧_∧_:=⟨Y3.out.2 0 _ rfl,Y3.out.2 1 _ rfl,Y3.out.2 2 _ rfl,Y3.out.2 3 _ rfl,Y3.out.2 4 _ rfl,Y3.out.2 5 _ rfl,Y3.out.2 6 _ rfl,Y3.out.2 7 _ rfl⟩
   cases hfb:fb with
   |false=>
    have HR:Hid (12=dm p f x):=aa (by rw [HX.out,hfb];rfl);go_wp2_with fail
    go_ret;exact⟨bD HR.out,B3.out⟩
   |true=>
    by_cases hty:m.2.2.1=x.2.2.2.1
    ·have et:(m.2.2.1 == x.2.2.2.1)=true:=beq_iff_eq.2 hty;by_cases hln:m.2.1.length=x.2.2.2.2.1.length
     ·have el:((m.2.1.length:Int) == (x.2.2.2.2.1.length:Int))=true:=beq_iff_eq.2 (by omega);have HR:Hid (0=dm p f x):=aa (by rw [HX.out,hfb];simp [hty,hln]);clear hty hln;go_wp2_with fail
      go_ret;exact⟨bD HR.out,B3.out⟩
     ·have el:((m.2.1.length:Int) == (x.2.2.2.2.1.length:Int))=false:=beq_eq_false_iff_ne.2 (by omega);have HR:Hid (13=dm p f x):=aa (by rw [HX.out,hfb];simp [hty,hln]);clear hty hln;go_wp2_with fail
      go_ret;exact⟨bD HR.out,B3.out⟩
    ·have et:(m.2.2.1 == x.2.2.2.1)=false:=beq_eq_false_iff_ne.2 hty;have HR:Hid (9=dm p f x):=aa (by rw [HX.out,hfb];simp [hty]);clear hty;go_wp2_with fail
     go_ret;exact⟨bD HR.out,B3.out⟩
  ·have e21:(x.1 == 21)=false:=beq_eq_false_iff_ne.2 h21;have HR:Hid (0=dm p f x):=aa (HL2.out (by rw [decide_eq_false h28];rfl) h21).symm;clear h28 h21;go_wp2_with fail
   go_ret;exact⟨bD HR.out,B0.out⟩
def px (p:List Fun) (x:Ins) (n:Nat):Prop:=(x.1=21→n < ((findF p x.2.2.2.2.2.2.1).getD jj).2.1.length)∧(x.1≠20→x.1≠24→x.1≠28→x.1≠21→n < (L5.takes (L5.num x.1)).length)
theorem vL {p:List Fun} {f:Fun} {x:Ins} {n:Nat} (h:x.1=20∨x.1=24):fh p f x n=x.2.2.2.1:=by unfold fh;rw [if_pos h]
theorem zp {p:List Fun} {f:Fun} {x:Ins} {n:Nat} (h:x.1=28):fh p f x n=f.2.2.1:=by unfold fh;rw [if_neg (by omega),if_pos h]
theorem xB {p:List Fun} {f:Fun} {x:Ins} {n:Nat} (h:x.1=21):fh p f x n=((findF p x.2.2.2.2.2.2.1).getD jj).2.1.getD n 0:=by unfold fh;rw [if_neg (by omega),if_neg (by omega),if_pos h]
theorem vQ {p:List Fun} {f:Fun} {x:Ins} {n:Nat} (h1:x.1≠20) (h2:x.1≠24) (h3:x.1≠28) (h4:x.1≠21):fh p f x n=(L5.takes (L5.num x.1)).getD n 0:=by unfold fh;rw [if_neg (by omega),if_neg h3,if_neg h4]
theorem Bt (p:List Fun) (f:Fun) (x:Ins) (k:Nat) (po:Option Addr) (pc:Nat) (fv xv:Value) (w:World) (hp:eg w p (.slice po p.length pc)) (hl:p.length≤1000000) (hf:bS w f fv) (hx:ib w x xv) (hk:px p x k):
  Calls Tryz.prog 140 #[.agg #[.slice po p.length pc],fv,xv,.int .i64 k] w fun e w'=>e= .returned (.int .i64 (fh p f x k))∧Below w.heap.size w w':=by
 have HFi:=aa (fun w' (b:Below w.heap.size w w')=>mL p x.2.2.2.2.2.2.1 po pc w' (hp.below b) hl);have HL1:=aa (fun h=>vL (p:=p) (f:=f) (x:=x) (n:=k) h);have HL2:=aa (fun h=>zp (p:=p) (f:=f) (x:=x) (n:=k) h);have HL3:=aa (fun h=>xB (p:=p) (f:=f) (x:=x) (n:=k) h);have HL4:=aa (fun h1 h2 h3 h4=>vQ (p:=p) (f:=f) (x:=x) (n:=k) h1 h2 h3 h4);have HK:=aa hk;clear hp hk;obtain⟨lp,cp,lb,cb,rfl,_,_⟩:=dx hf;obtain⟨xo,zo,xc,zc,rfl,hxa,hxt,hxa1,hxa2,hxt1,hxt2⟩:=id hx;generalize bs f.1=nm at *;generalize hlps:f.2.1.length=lps at *;generalize hrt:f.2.2.1=rt at *;generalize hlbs:f.2.2.2.1.length=lbs at *;generalize f.2.2.2.2=pl at *;generalize hn:p.length=n at *;have b1:=af w (.cells #[.slice po n pc] 24);have h1:=heap_alloc_new w (.cells #[.slice po n pc] 24);have b2:=af (w.alloc (.cells #[.slice po n pc] 24)) (.cells #[.string nm,.slice lp lps cp,.int .i64 rt,.slice lb lbs cb,.int .i64 pl] 29);have X1:=L5.Box.new (w.alloc (.cells #[.slice po n pc] 24)) [.string nm,.slice lp lps cp,.int .i64 rt,.slice lb lbs cb,.int .i64 pl] 29;have hs1:(w.alloc (.cells #[.slice po n pc] 24)).heap.size=w.heap.size+1:=by simp
 rw [hs1] at X1;have b3:=af ((w.alloc (.cells #[.slice po n pc] 24)).alloc (.cells #[.string nm,.slice lp lps cp,.int .i64 rt,.slice lb lbs cb,.int .i64 pl] 29)) (.cells #[.int .i64 x.1,.int .i64 x.2.1,.int .i64 x.2.2.1,.int .i64 x.2.2.2.1,.slice xo x.2.2.2.2.1.length xc,.slice zo x.2.2.2.2.2.1.length zc,.string (bs x.2.2.2.2.2.2.1),.int .i64 x.2.2.2.2.2.2.2] 41);have Y1:=L5.Box.new ((w.alloc (.cells #[.slice po n pc] 24)).alloc (.cells #[.string nm,.slice lp lps cp,.int .i64 rt,.slice lb lbs cb,.int .i64 pl] 29)) [.int .i64 x.1,.int .i64 x.2.1,.int .i64 x.2.2.1,.int .i64 x.2.2.2.1,.slice xo x.2.2.2.2.1.length xc,.slice zo x.2.2.2.2.2.1.length zc,.string (bs x.2.2.2.2.2.2.1),.int .i64 x.2.2.2.2.2.2.2] 41;have hs2:((w.alloc (.cells #[.slice po n pc] 24)).alloc (.cells #[.string nm,.slice lp lps cp,.int .i64 rt,.slice lb lbs cb,.int .i64 pl] 29)).heap.size=w.heap.size+2:=by simp
 rw [hs2] at Y1;have H1:=aa (((ae b2 b3).block w.heap.size (by simp)).trans h1);have X0:Hid (L5.Box (((w.alloc (.cells #[.slice po n pc] 24)).alloc (.cells #[.string nm,.slice lp lps cp,.int .i64 rt,.slice lb lbs cb,.int .i64 pl] 29)).alloc (.cells #[.int .i64 x.1,.int .i64 x.2.1,.int .i64 x.2.2.1,.int .i64 x.2.2.2.1,.slice xo x.2.2.2.2.1.length xc,.slice zo x.2.2.2.2.2.1.length zc,.string (bs x.2.2.2.2.2.2.1),.int .i64 x.2.2.2.2.2.2.2] 41)) (w.heap.size+1) [.string nm,.slice lp lps cp,.int .i64 rt,.slice lb lbs cb,.int .i64 pl]):=aa (X1.below b3);have Y0:Hid (L5.Box (((w.alloc (.cells #[.slice po n pc] 24)).alloc (.cells #[.string nm,.slice lp lps cp,.int .i64 rt,.slice lb lbs cb,.int .i64 pl] 29)).alloc (.cells #[.int .i64 x.1,.int .i64 x.2.1,.int .i64 x.2.2.1,.int .i64 x.2.2.2.1,.slice xo x.2.2.2.2.1.length xc,.slice zo x.2.2.2.2.2.1.length zc,.string (bs x.2.2.2.2.2.2.1),.int .i64 x.2.2.2.2.2.2.2] 41)) (w.heap.size+2) [.int .i64 x.1,.int .i64 x.2.1,.int .i64 x.2.2.1,.int .i64 x.2.2.2.1,.slice xo x.2.2.2.2.1.length xc,.slice zo x.2.2.2.2.2.1.length zc,.string (bs x.2.2.2.2.2.2.1),.int .i64 x.2.2.2.2.2.2.2]):=aa Y1;have B0:=aa (ae b1 (ae b2 b3));clear b1 h1 b2 X1 hs1 b3 Y1 hs2;clear hf hx;go_enter Tryz.func140,Tryz.ntmps140
 go_upto_region 1 with fail
 show Code.wp _ _ _ _ (((w.alloc (.cells #[.slice po n pc] 24)).alloc (.cells #[.string nm,.slice lp lps cp,.int .i64 rt,.slice lb lbs cb,.int .i64 pl] 29)).alloc (.cells #[.int .i64 x.1,.int .i64 x.2.1,.int .i64 x.2.2.1,.int .i64 x.2.2.2.1,.slice xo x.2.2.2.2.1.length xc,.slice zo x.2.2.2.2.2.1.length zc,.string (bs x.2.2.2.2.2.2.1),.int .i64 x.2.2.2.2.2.2.2] 41));generalize ((w.alloc (.cells #[.slice po n pc] 24)).alloc (.cells #[.string nm,.slice lp lps cp,.int .i64 rt,.slice lb lbs cb,.int .i64 pl] 29)).alloc (.cells #[.int .i64 x.1,.int .i64 x.2.1,.int .i64 x.2.2.1,.int .i64 x.2.2.2.1,.slice xo x.2.2.2.2.1.length xc,.slice zo x.2.2.2.2.2.1.length zc,.string (bs x.2.2.2.2.2.2.1),.int .i64 x.2.2.2.2.2.2.2] 41)=W at *;have c0:=(bC H1.out).1;obtain⟨x0,x1,x2,x3,x4⟩:_∧_∧_∧_∧_:=⟨X0.out.2 0 _ rfl,X0.out.2 1 _ rfl,X0.out.2 2 _ rfl,X0.out.2 3 _ rfl,X0.out.2 4 _ rfl⟩;obtain⟨y0,y1,y2,y3,y4,y5,y6,y7⟩:_∧_∧_∧_∧_∧_∧_∧_:=⟨Y0.out.2 0 _ rfl,Y0.out.2 1 _ rfl,Y0.out.2 2 _ rfl,Y0.out.2 3 _ rfl,Y0.out.2 4 _ rfl,Y0.out.2 5 _ rfl,Y0.out.2 6 _ rfl,Y0.out.2 7 _ rfl⟩;by_cases h20:x.1=20
 ·have e20:(x.1 == 20)=true:=beq_iff_eq.2 h20;have HR:Hid (x.2.2.2.1=fh p f x k):=aa (HL1.out (.inl h20)).symm;clear h20;go_wp2_with fail
  go_ret;exact⟨bD HR.out,B0.out⟩
 ·have e20:(x.1 == 20)=false:=beq_eq_false_iff_ne.2 h20;by_cases h24:x.1=24
  ·have e24:(x.1 == 24)=true:=beq_iff_eq.2 h24;have HR:Hid (x.2.2.2.1=fh p f x k):=aa (HL1.out (.inr h24)).symm;clear h20 h24;go_wp2_with fail
   go_ret;exact⟨bD HR.out,B0.out⟩
  ·have e24:(x.1 == 24)=false:=beq_eq_false_iff_ne.2 h24;by_cases h28:x.1=28
   ·have e28:(x.1 == 28)=true:=beq_iff_eq.2 h28;have HR:Hid (rt=fh p f x k):=aa (by rw [HL2.out h28]);clear h20 h24 h28;go_wp2_with fail
    go_ret;exact⟨bD HR.out,B0.out⟩
   ·have e28:(x.1 == 28)=false:=beq_eq_false_iff_ne.2 h28;by_cases h21:x.1=21
    ·have e21:(x.1 == 21)=true:=beq_iff_eq.2 h21;have HX:=aa (HL3.out h21);have hkm:=HK.out.1 h21;have HC:=aa (HFi.out W B0.out);obtain⟨m,hm⟩:∃m,(findF p x.2.2.2.2.2.2.1).getD jj=m:=⟨_,rfl⟩;obtain⟨fb,hfb⟩:∃fb,(findF p x.2.2.2.2.2.2.1).isSome=fb:=⟨_,rfl⟩;rw [hm] at HC HX hkm;rw [hfb] at HC;clear hm hfb h20 h24 h28 h21 HL1 HL2 HL3 HL4 HFi HK;go_wp2_with fail
     refine HC.out.mono ?_;rintro e w2 ⟨⟨gv,rfl,hgv⟩,b2⟩;obtain⟨ma,mc,mb,md,rfl,X,b3⟩:=dx hgv;have B3:=aa (ae B0.out (ae b2 b3));have M0:=aa X;have HSl:Hid (Sl (w2.alloc (.cells #[.string (bs m.1),.slice ma m.2.1.length mc,.int .i64 m.2.2.1,.slice mb m.2.2.2.1.length md,.int .i64 m.2.2.2.2] 29)) ma m.2.1):=aa (by
      obtain⟨vp,vb,e,⟨l1,l2,l3,hs,_⟩,_⟩:=hgv.below b3;injection e with e;have e1:=congrArg (fun a=>a[1]?) e;simp at e1;rw [l3] at e1;injection e1 with e1;rw [←e1] at hs;exact hs)
     have hkI:(k:Int) < m.2.1.length:=(by omega);obtain⟨u,hu⟩:∃u,m.2.1[k]? =some u:=⟨_,List.getElem?_eq_getElem hkm⟩;have HR:Hid (u=fh p f x k):=aa (by rw [HX.out,List.getD_eq_getElem?_getD,hu];rfl);clear HC b2 X b3 hgv c0 x0 x1 x2 x3 x4 y0 y1 y2 y3 y4 y5 y6 y7;go_upto_region 9 with fail
     show Code.wp _ _ _ _ (w2.alloc (.cells #[.string (bs m.1),.slice ma m.2.1.length mc,.int .i64 m.2.2.1,.slice mb m.2.2.2.1.length md,.int .i64 m.2.2.2.2] 29));generalize w2.alloc (.cells #[.string (bs m.1),.slice ma m.2.1.length mc,.int .i64 m.2.2.1,.slice mb m.2.2.2.1.length md,.int .i64 m.2.2.2.2] 29)=w3 at *;generalize w2.heap.size=q2 at *;obtain⟨x0,x1,x2,x3,x4⟩:_∧_∧_∧_∧_:=⟨M0.out.2 0 _ rfl,M0.out.2 1 _ rfl,M0.out.2 2 _ rfl,M0.out.2 3 _ rfl,M0.out.2 4 _ rfl⟩;rcases HSl.out with he | ⟨sb,so,rfl,hsb,hsc⟩
     ·rw [he] at hkm;simp at hkm
     have c1:=hsc k u hu;clear hsc hu;go_wp2_with fail
     go_ret;exact⟨bD HR.out,B3.out⟩
    ·have e21:(x.1 == 21)=false:=beq_eq_false_iff_ne.2 h21;have HX:=aa (HL4.out h20 h24 h28 h21);have hkm:=HK.out.2 h20 h24 h28 h21;have HC:=aa (L5.iz x.1 W);obtain⟨u,hu⟩:∃u,(L5.takes (L5.num x.1))[k]? =some u:=⟨_,List.getElem?_eq_getElem hkm⟩;have HR:Hid (u=fh p f x k):=aa (by rw [HX.out,List.getD_eq_getElem?_getD,hu];rfl);clear h20 h24 h28 h21 HL1 HL2 HL3 HL4 HFi HK;go_wp2_with fail
     refine HC.out.mono ?_;rintro e w2 ⟨ao,cap,rfl,hS,b2⟩;have hkI:(k:Int) < (L5.takes (L5.num x.1)).length:=(by omega);have B2:=aa (ae B0.out b2);rcases hS with he | ⟨sb,rfl,hsb,hsc⟩
     ·rw [he] at hkm;simp at hkm
     have c1:=hsc k hkm;have huu:L5.nth (L5.takes (L5.num x.1)) k=u:=(by unfold L5.nth;simp [hu]);rw [huu] at c1;clear huu;clear HC b2 hsc hu c0 x0 x1 x2 x3 x4 y0 y1 y2 y3 y4 y5 y6 y7;generalize (L5.takes (L5.num x.1)).length=tn at *;go_wp2_with fail
     go_ret;exact⟨bD HR.out,B2.out⟩
theorem Ib {f:Nat→Bool} (h:cE f 64≠0):∃t,t < 64∧Lib.ctz 64 (cE f 64)=t∧f t=true∧(∀i,i < t→f i=false)∧cE f 64 &&& (cE f 64 - 1)=cE (fun i=>decide (t < i) && f i) 64:=by
 obtain⟨m,hm,ht⟩:=Lib.ctzFrom_spec 64 (cE f 64) (by omega) (iT f 64);have e:Lib.ctz 64 (cE f 64)=Lib.ctzFrom 64 (cE f 64):=by simp [Lib.ctz,h]
 rw [←e] at hm ht;generalize Lib.ctz 64 (cE f 64)=t at *;have hb:∀i,(cE f 64).testBit i=(decide (i < 64) && f i):=jF f 64;have h1:∀i,(cE f 64).testBit i=if i < t then false else(2 * m+1).testBit (i - t):=fun i=>by
  have:=Nat.testBit_two_pow_mul_add (2 * m+1) (b:=0) (i:=t) (Nat.two_pow_pos t) i;rw [Nat.add_zero,←hm] at this;rw [this];simp
 have h2:∀i,(cE f 64 - 1).testBit i=if i < t then(2 ^ t - 1).testBit i else(2 * m).testBit (i - t):=fun i=>by
  have hp:=Nat.two_pow_pos t;have:=Nat.testBit_two_pow_mul_add (2 * m) (b:=2 ^ t - 1) (i:=t) (by omega) i;rw [←this];congr 1
  rw [hm,Nat.mul_succ];omega
 refine⟨t,ht,rfl,?_,fun i hi=> ?_,Nat.eq_of_testBit_eq fun i=> ?_⟩
 ·have q:=h1 t;rw [hb,if_neg (Nat.lt_irrefl _),Nat.sub_self] at q;simpa [ht,Nat.testBit_zero] using q
 ·have q:=h1 i;rw [hb,if_pos hi] at q;simpa [show i < 64 by omega] using q
 ·rw [Nat.testBit_and,h2,jF (fun i=>decide (t < i) && f i) 64 i];rcases Nat.lt_trichotomy i t with q | q | q
  ·rw [h1,if_pos q];simp [show ¬t < i by omega]
  ·subst q;rw [if_neg (Nat.lt_irrefl _),Nat.sub_self];simp [Nat.testBit_zero]
  ·have e3:=h1 i;rw [if_neg (show ¬i < t by omega)] at e3 ⊢;obtain⟨j,hj⟩:∃j,i - t=j+1:=⟨i - t - 1,by omega⟩;rw [hj,Nat.testBit_succ,show(2 * m+1) / 2=m by omega] at e3;rw [hj,Nat.testBit_succ,show 2 * m / 2=m by omega,←e3,hb];simp [q]
def lK (w:World):Prop:=0 < w.heap.size∧∀j,j < 64→w.cell? ⟨0,j,none⟩=some (.int .u8 (Lib.deBruijn64tab.getD j 0:Nat))
theorem lK.below {w w':World} (h:lK w) (b:Below w.heap.size w w'):lK w':=⟨Nat.lt_of_lt_of_le h.1 b.size,fun j hj=>(b.cell (p:=⟨0,j,none⟩) h.1).trans (h.2 j hj)⟩
theorem KG {x a:Nat} (hx:x < 18446744073709551616) (h0:x≠0) (hlow:x &&& (18446744073709551616 - x)=a):bits .and .u64 (x:Int) (IntKind.u64.wrap (-(x:Int)))=(a:Int):=by
 have e1:IntKind.u64.wrap (-(x:Int))=((18446744073709551616 - x:Nat):Int):=by rw [IntKind.wrap_u64];omega
 rw [e1,uz hx (by omega),hlow]
theorem JB (a:Nat):IntKind.u64.wrap ((a:Int) * 285870213051353865) / 288230376151711744=((a * 285870213051353865 % 18446744073709551616 / 288230376151711744:Nat):Int):=by
 rw [IntKind.wrap_u64];omega
theorem G9 (x p j k:Nat) (w:World) (hb:((x:Int) == 0)=false) (e1:bits .and .u64 (x:Int) (IntKind.u64.wrap (-(x:Int)))=(p:Int)) (e2:IntKind.u64.wrap ((p:Int) * 285870213051353865) / 288230376151711744=(j:Int)) (hj:j < 64) (hk:k < 64) (c:w.cell? ⟨0,j,none⟩=some (.int .u8 k)):
  Calls Tryz.prog 108 #[.int .u64 x] w fun e w'=>e= .returned (.int .i64 k)∧w'=w:=by
 have key:IntKind.u64.wrap (bits .and .u64 (x:Int) (IntKind.u64.wrap (-(x:Int))) * 285870213051353865) / 288230376151711744=(j:Int):=by rw [e1,e2]
 clear e1 e2;go_enter Tryz.func108,Tryz.ntmps108
 go_wp2_with (simp only [key])
 go_ret;exact⟨rfl,rfl⟩
theorem JY (x:Nat) (w:World) (hx:x < 18446744073709551616) (h0:x≠0) (hT:lK w):Calls Tryz.prog 108 #[.int .u64 x] w fun e w'=>e= .returned (.int .i64 (Lib.ctz 64 x:Nat))∧w'=w:=by
 obtain⟨hlow,hk⟩:=Lib.lowest_bit 64 x h0 hx;obtain⟨hi,htab⟩:=Lib.deBruijn64_at _ hk;have c:=hT.2 _ hi;rw [htab] at c;exact G9 x _ _ _ w (beq_eq_false_iff_ne.2 (by omega)) (KG hx h0 hlow) (JB _) hi hk c
theorem qS {B g c W:Nat} {b:Nat→Bool} {w:World} (h:aN w B g c W b) (hW:W≤1000000):
  Calls Tryz.prog 62 #[.slice (some ⟨g,0,none⟩) W c] w fun e w'=>e= .returned (.int .i64 (eK b (64 * W):Nat))∧w'=w:=by
 have HS:=aa h;obtain⟨R,hR⟩:∃R,eK b (64 * W)=R:=⟨_,rfl⟩;have HR:=aa hR;rw [hR];clear h hR;go_enter Tryz.func62,Tryz.ntmps62
 go_wp2_with fail
 go_loopw [3,8] (fun rv iv wr=>∃I R:Nat,I≤W∧iv= .int .i64 I∧rv= .int .i64 R∧Hid (eK b (64 * I)=R)∧wr=w) (fun _ iv _=>W - (intOf iv).toNat)
 case atStart=>exact⟨0,0,Nat.zero_le _,rfl,rfl,aa rfl,rfl⟩
 case round=>
  obtain⟨I,S,hI,rfl,rfl,HC,rfl⟩:=hrel;by_cases hit:I < W
  ·have hiI:(I:Int) < W:=(by omega);have c1:=HS.out.cell hit;have CP:Hid (Calls Tryz.prog 98 #[.int .u64 (wd b I:Int)] wr fun e w'=>e= .returned (.int .i64 (eK (fun i=>b (64 * I+i)) 64:Nat))∧w'=wr):=aa (GK (fun i=>b (64 * I+i)) wr);have hS:=se b (64 * I);rw [HC.out] at hS;have HN:Hid (eK b (64 * (I+1))=S+eK (fun i=>b (64 * I+i)) 64):=aa (by rw [Nat.mul_succ,ur,HC.out]);have hq:=se (fun i=>b (64 * I+i)) 64;generalize (wd b I:Int)=x at *;generalize eK (fun i=>b (64 * I+i)) 64=q at *;go_wp2_with fail
   refine CP.out.mono ?_;rintro e w1 ⟨rfl,rfl⟩;go_wp2_with fail
   go_roundw
   case rel=>exact⟨I+1,S+q,by omega,by go_num,by go_num,HN,trivial⟩
   case measure=>simp [intOf];omega
  ·obtain rfl:I=W:=(by omega);have e:S=R:=(by rw [←HC.out,HR.out]);subst e;go_wp2_with fail
   go_ret;exact⟨rfl,rfl⟩
open Go.ChangeShapes Go.WideShapes Go.ChangeAt Go.RowKit
open L5 (letters tk0 tk1 mk ds word)
theorem own:ownKnob Tryz.prog.godebug=none:=by kernel_rfl
theorem laidOut:laidOutB Tryz.prog=true:=by kernel_rfl
def tP : List (String × DataW Unit) := [("math/bits.deBruijn64tab", Rows.laid_math_bits_deBruijn64tab), ("turntable/ops.rows", Rows.laid_turntable_ops_rows)]
theorem zM : Tryz.prog.globalNamed "turntable/ops.rows" = some 1 := by kernel_rfl
theorem Fh:(Tryz.prog.globals[1]?).map (·.type)=some 185:=by kernel_rfl
theorem lc3:Tryz.prog.cellsOf 3=1:=by kernel_rfl
theorem lc9:Tryz.prog.cellsOf 9=1:=by kernel_rfl
theorem LX:Tryz.prog.cellsOf 143=2:=by kernel_rfl
theorem Kg:Tryz.prog.cellsOf 145=5:=by kernel_rfl
theorem Kz:Tryz.prog.cellsOf 184=64:=by kernel_rfl
theorem lc5:Tryz.prog.cellsOf 5=1:=by kernel_rfl
theorem Jn:Tryz.prog.underlying 184=some (.array 64 5):=by kernel_rfl
theorem Ia:Tryz.prog.underlying 5=some (.int .u8):=by kernel_rfl
def Ig {H:Type} (k:Nat):DataW H:= .agg [.lit (.string (letters k)),.agg [.lit (.int .i64 (tk0 k)),.lit (.int .i64 (tk1 k))],.lit (.int .i64 (mk k)),.lit (.int .i64 (ds k))]
theorem AK {H:Type}:(Rows.laid_turntable_ops_rows:DataW H)= .agg ((List.range 30).map Ig):=by rfl
def rF:List Int:=Lib.deBruijn64tab.map Int.ofNat
theorem qm : Tryz.prog.globalNamed "math/bits.deBruijn64tab" = some 0 := by kernel_rfl
theorem EP:(Tryz.prog.globals[0]?).map (·.type)=some 184:=by kernel_rfl
theorem EJ:(Rows.laid_math_bits_deBruijn64tab:DataW Unit)=Lib.tabData .u8 rF:=by kernel_rfl
theorem FL:∀k,k < 64→rF.getD k 0=((Lib.deBruijn64tab.getD k 0:Nat):Int):=by decide +kernel
section
variable {H:Type} {enc:TypeId × Value→H} {W:World} {base:Nat} {sp:Nat→Bool} {held:Bool}
theorem Lm {cs:List Value} (h:cs.length=5):∃a b c d e,cs= [a,b,c,d,e]:=by
 match cs,h with
 |[a,b,c,d,e],_=>exact⟨a,b,c,d,e,rfl⟩
theorem Jp {s:ByteArray} {bs:List UInt8} (h:s.data.toList=bs):s=⟨bs.toArray⟩:=by
 subst h;rfl
theorem zv {fuel k:Nat} {cs:List Value} {p:List MemPlace} (h:DataW.trod enc Tryz.prog W base sp held fuel 145 cs=some (Ig k,p)):
  cs= [.string (word k),.int .i64 (tk0 k),.int .i64 (tk1 k),.int .i64 (mk k),.int .i64 (ds k)]:=by
 obtain⟨xs,n,_,hx,hl,hlen,hf⟩:=DataW.trod_struct Tryz.underlying145 h;obtain⟨v0,v1,v2,v3,v4,rfl⟩:=Lm (hl.trans Kg);match xs,hlen with
 |[y0,y1,y2,y3],_=>
  have h0:DataW.trod enc Tryz.prog W base sp held n 9 ([v0,v1,v2,v3,v4].take (Tryz.prog.cellsOf 9))=some y0:=hf 0 _ rfl;have h1:DataW.trod enc Tryz.prog W base sp held n 143 ([v1,v2,v3,v4].take (Tryz.prog.cellsOf 143))=some y1:=hf 1 _ rfl;have h2:DataW.trod enc Tryz.prog W base sp held n 3 ([v3,v4].take (Tryz.prog.cellsOf 3))=some y2:=hf 2 _ rfl;have h3:DataW.trod enc Tryz.prog W base sp held n 3 ([v4].take (Tryz.prog.cellsOf 3))=some y3:=hf 3 _ rfl;rw [lc9] at h0;rw [LX] at h1;rw [lc3] at h2 h3;obtain⟨s,e0,rfl,_⟩:=DataW.trod_string Tryz.underlying9 h0;obtain⟨x2,e2,rfl,_⟩:=DataW.trod_int Tryz.underlying3 h2;obtain⟨x3,e3,rfl,_⟩:=DataW.trod_int Tryz.underlying3 h3;obtain⟨zs,m,_,hz,_,hzl,each⟩:=DataW.trod_array Tryz.underlying143 h1;match zs,hzl with
  |[z0,z1],_=>
   have g0:=each 0 (by decide);have g1:=each 1 (by decide);simp only [lc3] at g0 g1;simp at g0 g1;obtain⟨u0,f0,rfl,_⟩:=DataW.trod_int Tryz.underlying3 g0;obtain⟨u1,f1,rfl,_⟩:=DataW.trod_int Tryz.underlying3 g1;subst hz;simp [Ig] at hx e0 e2 e3 f0 f1;obtain⟨⟨q0,⟨q1,q2⟩,q3,q4⟩,_⟩:=hx;subst e0 e2 e3 f0 f1 q1 q2 q3 q4;rw [Jp q0.symm];rfl
end
theorem mi {W:World} (h:laidMetH Tryz.prog tP W):L5.Tab W∧lK W:=by
 rw [MakeChecks.laidMetH_plain _ _ _ (by kernel_rfl)] at h;obtain⟨ps,⟨g1,t1,cs1,f1,p1,q1,hg1,ht1,hv1,hd1,⟨g,t,cs,fuel,p,q,hg,ht,hvar,hd,_,_⟩,_⟩,_,_⟩:=h;obtain rfl:=Option.some.inj (zM.symm.trans hg);obtain rfl:=Option.some.inj (Fh.symm.trans ht);rw [AK] at hd;obtain⟨xs,n,_,hx,hl,hlen,each⟩:=DataW.trod_array Tryz.underlying185 hd;have hxs:xs.map (·.1)=(List.range 30).map Ig:=by
  have:=congrArg Prod.fst hx;simpa using this.symm
 have key:∀k,k < 30→(cs.toList.drop (k * 5)).take 5= [.string (word k),.int .i64 (tk0 k),.int .i64 (tk1 k),.int .i64 (mk k),.int .i64 (ds k)]:=by
  intro k hk;have h1:=each k hk;rw [Kg] at h1;obtain⟨y,hy⟩:∃y,xs[k]? =some y:=⟨_,List.getElem?_eq_getElem (by omega)⟩;have h2:=congrArg (·[k]?) hxs;simp [hy,hk] at h2;rw [hy] at h1;obtain⟨d,pl⟩:=y;simp at h2;subst h2;exact zv h1
 have cell:∀k j v,k < 30→j < 5→((cs.toList.drop (k * 5)).take 5)[j]? =some v→W.cell? ⟨1,k * 5+j,none⟩=some v:=by
  intro k j v hk hj hv;have:=World.var?_cell hg hvar (k * 5+j);rw [this];simpa [List.getElem?_take,List.getElem?_drop,hj] using hv
 refine⟨⟨World.block_lt_of_cell? W _ (cell 0 0 (.string (word 0)) (by omega) (by omega) (by rw [key 0 (by omega)];rfl)),fun k hk=> ?_⟩,?_⟩
 ·exact⟨cell k 0 _ hk (by omega) (by rw [key k hk];rfl),cell k 1 _ hk (by omega) (by rw [key k hk];rfl),cell k 2 _ hk (by omega) (by rw [key k hk];rfl),cell k 3 _ hk (by omega) (by rw [key k hk];rfl),cell k 4 _ hk (by omega) (by rw [key k hk];rfl)⟩
 ·obtain rfl:=Option.some.inj (qm.symm.trans hg1);obtain rfl:=Option.some.inj (EP.symm.trans ht1);rw [EJ] at hd1;have hcs:=Lib.cells_of_tab Jn Ia lc5 Kz hd1;have ht : Lib.TabIs Tryz.prog W "math/bits.deBruijn64tab" .u8 rF := by
   unfold Lib.TabIs;rw [hv1,←hcs]
  have hc:∀k,k < 64→W.cell? ⟨0,k,none⟩=some (.int .u8 (Lib.deBruijn64tab.getD k 0:Nat)):=fun k hk=>by
   rw [←FL k hk];exact ht.cell qm k hk
  exact⟨World.block_lt_of_cell? W _ (hc 0 (by omega)),hc⟩
theorem Ee (os:Os) (args:Array Value):laidMetH Tryz.prog tP ((World.doorLaid Tryz.prog 400 os).forCall (fun _ _=>0) ⟨#[],args,[]⟩).memory:=
 laidMetH_of_parts3 (fuel:=8) (laidMet_of_run' 8 (by kernel_rfl) (by kernel_rfl)) (by kernel_rfl) (by kernel_rfl)
end Go.Proofs.YtaiaakklokahjaaGreatDoor
