/- Texts of one chain, joined. -/
import Derived.Test.YtaiaakklokahjaaGreatDoorZWaAW
set_option maxHeartbeats 1500000
set_option maxRecDepth 20000
namespace Go.Proofs.YtaiaakklokahjaaGreatDoor
open Go Go.RowKit
open G (Tok Er Ins Fun)
def Kept (p:List Fun) (f:Fun):Prop:=((aS f).1=0→Ful f∧Tos f∧0 < f.2.2.2.1.length)∧∀k i,k < f.2.2.2.1.length→i < (ag f k).length→dm p f (au f k i)=0→∀n,n < (au f k i).2.2.2.2.1.length→px p (au f k i) n∧((au f k i).1=20→n < (au f k i).2.2.2.2.2.1.length)
theorem vH (f:Fun) (v:Value) (w:World) (hv:bS w f v) (hF:Ful f) (hg:Gr (aC f)):Calls Tryz.prog 92 #[v] w fun e w'=>∃u,e= .returned u∧vT w' (aC f) u∧Below w.heap.size w w':=by
 have hp:=hg.2;obtain⟨nm,ps,rt,bl,pl⟩:=f;have hv2:=hv;obtain⟨vp,vb,rfl,⟨ao,c,rfl,h1,_⟩,h2⟩:=hv;obtain⟨bo,cb,rfl,_⟩:=h2;exact(wT nm ps rt pl bl ao bo c cb w hv2 hF hg).mono fun e w' ⟨u,he,h,b⟩=>⟨u,he,h.read hp,b⟩
theorem zJ (p:List Fun) (f:Fun) (src:Bool) (po:Option Addr) (pc:Nat) (fv:Value) (w:World) (hp:eg w p (.slice po p.length pc)) (hl:p.length≤1000000) (hv:bS w f fv) (hM:Mod f) (hK:Kept p f):
  Calls Tryz.prog 60 #[.agg #[.slice po p.length pc],fv,.bool src] w fun e w'=>e= .returned (.agg #[.int .i64 (jd p f src).1,.int .i64 (jd p f src).2])∧Below w.heap.size w w':=by
 have HFe:Hid (jd p f src=if(aS f).1≠0 then((aS f).1,f.2.2.2.2)else if fB f=false then(14,f.2.2.2.2)else match gL f src with
  |some e=>e
  |none=>(jN p f).getD (0,0)):=aa rfl
 have HVs:Hid (gL f src=cD (fun k=>cD (fun i=>atC (dG f k i src) (au f k i).2.2.2.2.2.2.2) (ag f k).length) f.2.2.2.1.length):=aa rfl;have HLs:Hid (jN p f=cD (fun k=>cD (fun i=>atC (fm p f k i) (au f k i).2.2.2.2.2.2.2) (ag f k).length) f.2.2.2.1.length):=aa rfl;have CSh:=aa (fun w' (b:Below w.heap.size w w')=>tw f fv w' (hv.below b));have CTk:=aa (fun(k i n:Nat) (tv:Value) (w':World) (b:Below w.heap.size w w') hg ht hk hi hn hW hTo=>A9 p f k i n po pc fv tv w' (hp.below b) hl (hv.below b) hM hg ht hk hi hn hW hTo);have CHd:=aa (fun(x:Ins) (xv:Value) (w':World) (b:Below w.heap.size w w') (hx:ib w' x xv)=>wL p f x po pc fv xv w' (hp.below b) hl (hv.below b) hx);have HB:=aa (fun k=>hM.blk k);have hN:=hM.1;have HP:=aa hp;have HV:=aa hv;obtain⟨r,hr⟩:∃r,jd p f src=r:=⟨_,rfl⟩;rw [hr] at HFe ⊢;clear hr;obtain⟨lp,cp,lb,cb,rfl,_,_⟩:=dx hv;have HRd:Hid (∀k,k < f.2.2.2.1.length→∃g o ao c,lb=some ⟨g,o,none⟩∧g < w.heap.size∧w.cell? ⟨g,o+k,none⟩=some (.slice ao (ag f k).length c)∧iR w (ag f k) (.slice ao (ag f k).length c)):=aa (fun k hk=>eD (ff hv) hk);clear hv hp;generalize hnm:bs f.1=nm at *;generalize hlps:f.2.1.length=lps at *;generalize hrt:f.2.2.1=rt at *;obtain⟨lbs,hlbs⟩:∃n,n=f.2.2.2.1.length:=⟨_,rfl⟩;rw [←hlbs] at HVs HLs hN HRd CSh HV CHd CTk;rw [←hlbs];generalize hpl:f.2.2.2.2=pl at *;generalize hpn:p.length=pn at *;have b1:=af w (.cells #[.slice po pn pc] 24);have h1:=heap_alloc_new w (.cells #[.slice po pn pc] 24);have b2:=af (w.alloc (.cells #[.slice po pn pc] 24)) (.cells #[.string nm,.slice lp lps cp,.int .i64 rt,.slice lb lbs cb,.int .i64 pl] 29);have X1:=L5.Box.new (w.alloc (.cells #[.slice po pn pc] 24)) [.string nm,.slice lp lps cp,.int .i64 rt,.slice lb lbs cb,.int .i64 pl] 29;have hs1:(w.alloc (.cells #[.slice po pn pc] 24)).heap.size=w.heap.size+1:=by simp
 rw [hs1] at X1;have b3:=af ((w.alloc (.cells #[.slice po pn pc] 24)).alloc (.cells #[.string nm,.slice lp lps cp,.int .i64 rt,.slice lb lbs cb,.int .i64 pl] 29)) (.cells #[.int .i64 0,.int .i64 0] 59);have h3:=heap_alloc_new ((w.alloc (.cells #[.slice po pn pc] 24)).alloc (.cells #[.string nm,.slice lp lps cp,.int .i64 rt,.slice lb lbs cb,.int .i64 pl] 29)) (.cells #[.int .i64 0,.int .i64 0] 59);have hs2:((w.alloc (.cells #[.slice po pn pc] 24)).alloc (.cells #[.string nm,.slice lp lps cp,.int .i64 rt,.slice lb lbs cb,.int .i64 pl] 29)).heap.size=w.heap.size+2:=by simp
 rw [hs2] at h3;have H1:=aa (((ae b2 b3).block w.heap.size (by simp)).trans h1);have X0:Hid (L5.Box (((w.alloc (.cells #[.slice po pn pc] 24)).alloc (.cells #[.string nm,.slice lp lps cp,.int .i64 rt,.slice lb lbs cb,.int .i64 pl] 29)).alloc (.cells #[.int .i64 0,.int .i64 0] 59)) (w.heap.size+1) [.string nm,.slice lp lps cp,.int .i64 rt,.slice lb lbs cb,.int .i64 pl]):=aa (X1.below b3);have H3:=aa h3;have B0:=aa (ae b1 (ae b2 b3));clear b1 h1 b2 X1 hs1 b3 h3 hs2 hnm hlps hrt;replace hlbs:=aa hlbs;replace hpl:=aa hpl;replace hpn:=aa hpn;go_enter Tryz.func60,Tryz.ntmps60
 go_upto_region 1 with fail
 show Code.wp _ _ _ _ (((w.alloc (.cells #[.slice po pn pc] 24)).alloc (.cells #[.string nm,.slice lp lps cp,.int .i64 rt,.slice lb lbs cb,.int .i64 pl] 29)).alloc (.cells #[.int .i64 0,.int .i64 0] 59));generalize ((w.alloc (.cells #[.slice po pn pc] 24)).alloc (.cells #[.string nm,.slice lp lps cp,.int .i64 rt,.slice lb lbs cb,.int .i64 pl] 29)).alloc (.cells #[.int .i64 0,.int .i64 0] 59)=W at *;have hz2:=(da H3.out).2.2;have hq0:w.heap.size < W.heap.size:=(bC H1.out).2;obtain⟨x0,x1,x2,x3,x4⟩:_∧_∧_∧_∧_:=⟨X0.out.2 0 _ rfl,X0.out.2 1 _ rfl,X0.out.2 2 _ rfl,X0.out.2 3 _ rfl,X0.out.2 4 _ rfl⟩;have C1:=aa (CSh.out W B0.out);go_wp2_with fail
 refine C1.out.mono ?_;rintro e w1 ⟨rfl,b1⟩;have b2:=af w1 (.cells #[.int .i64 (aS f).1,.int .i64 (aS f).2] 59);have HS:=aa (heap_alloc_new w1 (.cells #[.int .i64 (aS f).1,.int .i64 (aS f).2] 59));have BW2:=aa (ae b1 b2);clear C1 CSh b1 b2 x0 x1 x2 x3 x4;go_upto_region 2 with fail
 show Code.wp _ _ _ _ (w1.alloc (.cells #[.int .i64 (aS f).1,.int .i64 (aS f).2] 59));generalize w1.alloc (.cells #[.int .i64 (aS f).1,.int .i64 (aS f).2] 59)=w2 at *;generalize w1.heap.size=q1 at *;obtain⟨x0,x1,x2,x3,x4⟩:_∧_∧_∧_∧_:=⟨(X0.out.below BW2.out).2 0 _ rfl,(X0.out.below BW2.out).2 1 _ rfl,(X0.out.below BW2.out).2 2 _ rfl,(X0.out.below BW2.out).2 3 _ rfl,(X0.out.below BW2.out).2 4 _ rfl⟩;obtain⟨⟨z0,z1⟩,⟨f0,f1⟩,_⟩:=da ((BW2.out.block _ hz2).trans H3.out);obtain⟨⟨s0,s1⟩,_,_⟩:=da HS.out;by_cases hsh:(aS f).1=0
 ·rw [hsh] at s0;obtain⟨hFul,hTos,h0⟩:=hK.1 hsh;have HFe2:Hid (r=if fB f=false then(14,pl)else match gL f src with
   |some e=>e
   |none=>(jN p f).getD (0,0)):=aa (by rw [HFe.out,hsh];simp)
  have C2:=aa (rX f _ w2 (HV.out.below (ae B0.out BW2.out)) hFul hTos h0);clear HFe
  cases hrb:fB f with
  |false=>
   rw [hrb] at C2;have HR:Hid (r=(14,pl)):=aa (by rw [HFe2.out,hrb];rfl);go_wp2_with fail
   refine C2.out.mono ?_;rintro e w3 ⟨rfl,b3⟩;have BW3:=aa (ae BW2.out b3);clear C2 b3 x0 x1 x2 x3 x4 z0 z1 f0 f1 s0 s1 BW2;obtain⟨x0,x1,x2,x3,x4⟩:_∧_∧_∧_∧_:=⟨(X0.out.below BW3.out).2 0 _ rfl,(X0.out.below BW3.out).2 1 _ rfl,(X0.out.below BW3.out).2 2 _ rfl,(X0.out.below BW3.out).2 3 _ rfl,(X0.out.below BW3.out).2 4 _ rfl⟩;obtain⟨⟨z0,z1⟩,⟨f0,f1⟩,_⟩:=da ((BW3.out.block _ hz2).trans H3.out);have HE:Hid (Below w.heap.size w ((w3.setCell ⟨w.heap.size+2,0,none⟩ (.int .i64 14)).setCell ⟨w.heap.size+2,1,none⟩ (.int .i64 pl))):=aa ((((ae B0.out BW3.out).setCell (p:=⟨w.heap.size+2,0,none⟩) (Nat.le_add_right _ 2) _).setCell (p:=⟨w.heap.size+2,1,none⟩) (Nat.le_add_right _ 2) _));go_wp2_with fail
   exact bodyPost_ret (v:= .agg #[.int .i64 14,.int .i64 pl]) (by simp [results,Tryz.results60,go_sem,z0,z1]) rfl ⟨by rw [HR.out],HE.out⟩
  |true=>
   rw [hrb] at C2;have HFe3:Hid (r=match gL f src with
    |some e=>e
    |none=>(jN p f).getD (0,0)):=aa (by rw [HFe2.out,hrb];rfl)
   go_wp2_with fail
   refine C2.out.mono ?_;rintro e w3 ⟨rfl,b3⟩;have BW3:=aa (ae BW2.out b3);clear C2 b3 x0 x1 x2 x3 x4 z0 z1 f0 f1 s0 s1 BW2 HFe2;go_wp2_with fail
   go_loopw [8] (fun kv wr=>∃k:Nat,k≤lbs∧kv= .int .i64 k∧Hid (∀j,j < k→cD (fun i=>atC (dG f j i src) (au f j i).2.2.2.2.2.2.2) (ag f j).length=none)∧Hid (Below W.heap.size W wr)) (fun kv _=>lbs - (intOf kv).toNat)
   case atStart=>exact⟨0,Nat.zero_le _,rfl,aa (fun j h=>absurd h (Nat.not_lt_zero _)),BW3⟩
   case round=>
    clear BW3;obtain⟨k,hk,rfl,HF,HW⟩:=hrel;obtain⟨x0,x1,x2,x3,x4⟩:_∧_∧_∧_∧_:=⟨(X0.out.below HW.out).2 0 _ rfl,(X0.out.below HW.out).2 1 _ rfl,(X0.out.below HW.out).2 2 _ rfl,(X0.out.below HW.out).2 3 _ rfl,(X0.out.below HW.out).2 4 _ rfl⟩;by_cases hkt:k < lbs
    ·have hkI:(k:Int) < lbs:=(by omega);have hkf:k < f.2.2.2.1.length:=(by have:=hlbs.out;omega);have hbn:=HB.out k;have HW0:=aa HW.out;go_wp2_with fail
     clear x0 x1 x2 x3 x4;go_loopw [9] (fun iv wr=>∃i:Nat,i≤(ag f k).length∧iv= .int .i64 i∧Hid (∀j,j < i→atC (dG f k j src) (au f k j).2.2.2.2.2.2.2=none)∧Hid (Below W.heap.size W wr)) (fun iv _=>(ag f k).length - (intOf iv).toNat)
     case atStart=>exact⟨0,Nat.zero_le _,rfl,aa (fun j h=>absurd h (Nat.not_lt_zero _)),aa HW0.out⟩
     case round=>
      clear HW HW0;obtain⟨i,hi,rfl,HG,HW⟩:=hrel;obtain⟨x0,x1,x2,x3,x4⟩:_∧_∧_∧_∧_:=⟨(X0.out.below HW.out).2 0 _ rfl,(X0.out.below HW.out).2 1 _ rfl,(X0.out.below HW.out).2 2 _ rfl,(X0.out.below HW.out).2 3 _ rfl,(X0.out.below HW.out).2 4 _ rfl⟩;have Bw:=aa (ae B0.out HW.out);obtain⟨g,o,ao,c,rfl,hgl,cu0,hblk⟩:=HRd.out k hkt;have cu:=(Bw.out.cell (p:=⟨g,o+k,none⟩) hgl).trans cu0;replace cu0:=aa cu0;by_cases hil:i < (ag f k).length
      ·have hilI:(i:Int) < (ag f k).length:=(by omega);have CV:=aa (wV f k i src _ wr (HV.out.below Bw.out) hFul hM hkf hil);have HAt:Hid (atC (dG f k i src) (au f k i).2.2.2.2.2.2.2=if dG f k i src≠0 then some (dG f k i src,(au f k i).2.2.2.2.2.2.2)else none):=aa rfl;obtain⟨cv,hcv⟩:∃cv,dG f k i src=cv:=⟨_,rfl⟩;rw [hcv] at CV HAt;by_cases hc0:cv=0
       ·have HG2:Hid (∀j,j < i+1→atC (dG f k j src) (au f k j).2.2.2.2.2.2.2=none):=aa (fun j hj=>by
         by_cases e:j=i
         ·subst e;rw [hcv,HAt.out,hc0];simp
         ·exact HG.out j (by omega))
        rw [hc0] at CV;clear hcv hc0;go_wp2_with fail
        refine CV.out.mono ?_;rintro e w4 ⟨rfl,b4⟩;have HW4:=aa (ae HW.out b4);clear CV b4 x0 x1 x2 x3 x4 cu;go_wp2_with fail
        go_roundw
        case rel=>exact⟨i+1,by omega,by go_num,HG2,HW4⟩
        case measure=>simp [intOf];omega
       ·obtain⟨at_,hat⟩:∃at_,(au f k i).2.2.2.2.2.2.2=at_:=⟨_,rfl⟩;have HR:Hid (r=(cv,at_)):=aa (by
         rw [HFe3.out];have:gL f src=some (cv,at_):=by
          rw [HVs.out];refine cX (K:=k) HF.out hkt (cX (K:=i) HG.out hil ?_);rw [hcv,HAt.out,if_pos hc0,hat]
         rw [this])
        have hcb:(cv == 0)=false:=beq_eq_false_iff_ne.2 hc0;clear hcv;go_wp2_with fail
        refine CV.out.mono ?_;rintro e w4 ⟨rfl,b4⟩;have HW4:=aa (ae HW.out b4);have Bw4:=aa (ae B0.out HW4.out);clear CV b4 x0 x1 x2 x3 x4 HW Bw;obtain⟨x0,x1,x2,x3,x4⟩:_∧_∧_∧_∧_:=⟨(X0.out.below HW4.out).2 0 _ rfl,(X0.out.below HW4.out).2 1 _ rfl,(X0.out.below HW4.out).2 2 _ rfl,(X0.out.below HW4.out).2 3 _ rfl,(X0.out.below HW4.out).2 4 _ rfl⟩;obtain⟨⟨z0,z1⟩,⟨f0,f1⟩,_⟩:=da ((HW4.out.block _ hz2).trans H3.out);obtain⟨g2,o2,rfl,hins⟩:=dy hblk hil;obtain⟨_,_,_,_,_,_,_,_,_,_,_,_,e7⟩:=hins.val;replace e7:=(Bw4.out.cell (p:=⟨g2,o2+i * 8+7,none⟩) hins.1).trans e7;rw [hat] at e7;clear hins cu hat;have cu:=(Bw4.out.cell (p:=⟨g,o+k,none⟩) hgl).trans cu0.out;have HE:Hid (Below w.heap.size w ((w4.setCell ⟨w.heap.size+2,0,none⟩ (.int .i64 cv)).setCell ⟨w.heap.size+2,1,none⟩ (.int .i64 at_))):=aa (((Bw4.out.setCell (p:=⟨w.heap.size+2,0,none⟩) (Nat.le_add_right _ 2) _).setCell (p:=⟨w.heap.size+2,1,none⟩) (Nat.le_add_right _ 2) _));go_wp2_with fail
        exact bodyPost_ret (v:= .agg #[.int .i64 cv,.int .i64 at_]) (by simp [results,Tryz.results60,go_sem,z0,z1]) rfl ⟨by rw [HR.out],HE.out⟩
      ·have hilI:¬(i:Int) < (ag f k).length:=(by omega);have HF2:Hid (∀j,j < k+1→cD (fun i=>atC (dG f j i src) (au f j i).2.2.2.2.2.2.2) (ag f j).length=none):=aa (fun j hj=>by
        by_cases e:j=k
        ·subst e;exact cd (fun i' hi'=>HG.out i' (by omega))
        ·exact HF.out j (by omega))
       go_wp2_with fail
       go_roundw
       case rel=>exact⟨k+1,by omega,by go_num,HF2,HW⟩
       case measure=>simp [intOf];omega
    ·obtain rfl:k=lbs:=(by omega);have HVn:Hid (gL f src=none):=aa (by rw [HVs.out];exact cd HF.out);have HFe4:Hid (r=(jN p f).getD (0,0)):=aa (by rw [HFe3.out,HVn.out]);obtain⟨lbs,hll⟩:∃lbs,lbs=k:=⟨_,rfl⟩;have hGr:=lx hTos h0;have CT:=aa (vH f _ wr (HV.out.below (ae B0.out HW.out)) hFul hGr);clear HVn HFe3 HF hkt hk;go_wp2_with fail
     refine CT.out.mono ?_;rintro e w5 ⟨tv,rfl,htv,b5⟩;have HTb:=aa htv;have BW5:=aa (ae HW.out b5);clear CT htv b5 x0 x1 x2 x3 x4 HW;subst hll;go_wp2_with fail
     go_loopw [12] (fun kv wr=>∃k:Nat,k≤lbs∧kv= .int .i64 k∧Hid (∀j,j < k→cD (fun i=>atC (fm p f j i) (au f j i).2.2.2.2.2.2.2) (ag f j).length=none)∧Hid (Below W.heap.size W wr)∧Hid (Below w5.heap.size w5 wr)) (fun kv _=>lbs - (intOf kv).toNat)
     case atStart=>exact⟨0,Nat.zero_le _,rfl,aa (fun j h=>absurd h (Nat.not_lt_zero _)),BW5,aa (Below.refl _ _)⟩
     case round=>
      clear BW5;obtain⟨k,hk,rfl,HF,HW,HU⟩:=hrel;obtain⟨x0,x1,x2,x3,x4⟩:_∧_∧_∧_∧_:=⟨(X0.out.below HW.out).2 0 _ rfl,(X0.out.below HW.out).2 1 _ rfl,(X0.out.below HW.out).2 2 _ rfl,(X0.out.below HW.out).2 3 _ rfl,(X0.out.below HW.out).2 4 _ rfl⟩;by_cases hkt:k < lbs
      ·have hkI:(k:Int) < lbs:=(by omega);have hkf:k < f.2.2.2.1.length:=(by have:=hlbs.out;omega);have hbn:=HB.out k;have HW0:=aa HW.out;have HU0:=aa HU.out;go_wp2_with fail
       clear x0 x1 x2 x3 x4;go_loopw [13] (fun iv wr=>∃i:Nat,i≤(ag f k).length∧iv= .int .i64 i∧Hid (∀j,j < i→atC (fm p f k j) (au f k j).2.2.2.2.2.2.2=none)∧Hid (Below W.heap.size W wr)∧Hid (Below w5.heap.size w5 wr)) (fun iv _=>(ag f k).length - (intOf iv).toNat)
       case atStart=>exact⟨0,Nat.zero_le _,rfl,aa (fun j h=>absurd h (Nat.not_lt_zero _)),aa HW0.out,aa HU0.out⟩
       case round=>
        clear HW HW0 HU HU0;obtain⟨i,hi,rfl,HG,HW,HU⟩:=hrel;have Bw:=aa (ae B0.out HW.out);obtain⟨g,o,ao,c,rfl,hgl,cu0,hblk⟩:=HRd.out k hkt;replace cu0:=aa cu0;by_cases hil:i < (ag f k).length
        ·have hilI:(i:Int) < (ag f k).length:=(by omega);obtain⟨g2,o2,rfl,hins⟩:=dy hblk hil;obtain⟨xo,zo,xc,zc,hxv,e0,e1,e2,e3,e4,e5,e6,e7⟩:=hins.val;have hg2:=hins.1;have HXv:=aa hxv;have HKp:=aa (hK.2 k i hkf hil);have HTk:=aa (fun n w' (b:Below W.heap.size W w') (b5:Below w5.heap.size w5 w') (hn:n < (au f k i).2.2.2.2.1.length) (h0:dm p f (au f k i)=0)=>CTk.out k i n _ w' (ae B0.out b) hGr (HTb.out.below b5) hkt hil hn (HKp.out h0 n hn).1 (HKp.out h0 n hn).2);have HLk:Hid (fm p f k i=if dm p f (au f k i)≠0 then dm p f (au f k i)else(cD (tZ p f k i) (au f k i).2.2.2.2.1.length).getD 0):=aa rfl;have HTn:Hid (∀n,tZ p f k i n=if fw p f k i n≠0 then some (fw p f k i n)else none):=aa (fun _=>rfl);have hxn:(au f k i).2.2.2.2.1.length≤maxLen:=by
          obtain⟨a1,a2,a3,a4,e,_,_,h3,h4,_⟩:=hxv;exact Nat.le_trans h3 h4
         unfold maxLen at hxn;obtain⟨x,hx⟩:∃x,au f k i=x:=⟨_,rfl⟩;rw [hx] at e0 e1 e2 e3 e4 e5 e6 e7 HXv HTk HLk hxn;have hBz:=fun z=>L5.aD wr z;have hBwz:=fun z=>ae Bw.out (hBz z);have HH:=aa (fun z=>CHd.out x _ (L5.bM wr z) (hBwz z) (HXv.out.below (hBwz z)));have c0:=fun z=>((ae HW.out (hBz z)).cell (p:=⟨w.heap.size,0,none⟩) hq0).trans (bC H1.out).1;have x0:=fun z=>(X0.out.below (ae HW.out (hBz z))).2 0 _ rfl;have x1:=fun z=>(X0.out.below (ae HW.out (hBz z))).2 1 _ rfl;have x2:=fun z=>(X0.out.below (ae HW.out (hBz z))).2 2 _ rfl;have x3:=fun z=>(X0.out.below (ae HW.out (hBz z))).2 3 _ rfl;have x4:=fun z=>(X0.out.below (ae HW.out (hBz z))).2 4 _ rfl;have cu:=fun z=>((hBwz z).cell (p:=⟨g,o+k,none⟩) hgl).trans cu0.out;have d0:=fun z=>((hBwz z).cell (p:=⟨g2,o2+i * 8,none⟩) hg2).trans e0;have d1:=fun z=>((hBwz z).cell (p:=⟨g2,o2+i * 8+1,none⟩) hg2).trans e1;have d2:=fun z=>((hBwz z).cell (p:=⟨g2,o2+i * 8+2,none⟩) hg2).trans e2;have d3:=fun z=>((hBwz z).cell (p:=⟨g2,o2+i * 8+3,none⟩) hg2).trans e3;have d4:=fun z=>((hBwz z).cell (p:=⟨g2,o2+i * 8+4,none⟩) hg2).trans e4;have d5:=fun z=>((hBwz z).cell (p:=⟨g2,o2+i * 8+5,none⟩) hg2).trans e5;have d6:=fun z=>((hBwz z).cell (p:=⟨g2,o2+i * 8+6,none⟩) hg2).trans e6;have d7:=fun z=>((hBwz z).cell (p:=⟨g2,o2+i * 8+7,none⟩) hg2).trans e7;have E4:=aa e4;have E7:=aa e7;have hX3:=(X0.out.below HW.out).2 3 _ rfl;have hCu:=(Bw.out.cell (p:=⟨g,o+k,none⟩) hgl).trans cu0.out;have HBz:=aa hBz;clear e0 e1 e2 e3 e4 e5 e6 e7 hins hxv hBwz hBz HKp;obtain⟨hd,hhd⟩:∃hd,dm p f x=hd:=⟨_,rfl⟩;rw [hhd] at HH HLk HTk;go_wp2_with fail
         refine L5.aM (by kernel_rfl) (by kernel_rfl) ?_;repeat (go_big_quiet_step ((go_at_call 93;exact L5.eT (HH.out _))))
         refine wpQuiet_nil ?_;rintro _ ⟨z,rfl⟩;have HW6:=aa (ae HW.out (HBz.out z));have HU6:=aa (ae HU.out (HBz.out z));clear c0 x0 x1 x2 x3 x4 cu d0 d1 d2 d3 d4 d5 d6 d7 HH HBz hX3 hCu HW HU Bw;generalize L5.bM wr z=w6 at *;go_wp2_with fail
         have HSt:Hid ((hd=0∧hd=0∧∀j,j < 0→fw p f k i j=0)∨(hd≠0∧hd=fm p f k i)):=aa (by
          by_cases h0:hd=0
          ·exact .inl ⟨h0,h0,fun j h=>absurd h (Nat.not_lt_zero _)⟩
          ·exact .inr ⟨h0,by rw [HLk.out,if_pos h0]⟩)
         have HAt:Hid (atC (fm p f k i) (au f k i).2.2.2.2.2.2.2=if fm p f k i≠0 then some (fm p f k i,(au f k i).2.2.2.2.2.2.2)else none):=aa rfl;rw [hx] at HAt;have HX:=aa hx;clear hx hhd;obtain⟨an,han⟩:∃an,x.2.2.2.2.1.length=an:=⟨_,rfl⟩;rw [han] at HLk HTk E4 hxn;have HAn:=aa han;clear han;go_loopw [14,15] (fun cv nv wr=>∃(cc:Int) (n:Nat),n≤an∧cv= .int .i64 cc∧nv= .int .i64 n∧Hid ((cc=0∧hd=0∧∀j,j < n→fw p f k i j=0)∨(cc≠0∧cc=fm p f k i))∧Hid (Below W.heap.size W wr)∧Hid (Below w5.heap.size w5 wr)) (fun _ nv _=>an - (intOf nv).toNat)
         case atStart=>exact⟨hd,0,Nat.zero_le _,rfl,rfl,HSt,HW6,HU6⟩
         case round=>
          clear HSt HW6 HU6;obtain⟨cc,n,hna,rfl,rfl,HSt,HW,HU⟩:=hrel;have Bw:=aa (ae B0.out HW.out);have c0:=(HW.out.cell (p:=⟨w.heap.size,0,none⟩) hq0).trans (bC H1.out).1;obtain⟨x0,x1,x2,x3,x4⟩:_∧_∧_∧_∧_:=⟨(X0.out.below HW.out).2 0 _ rfl,(X0.out.below HW.out).2 1 _ rfl,(X0.out.below HW.out).2 2 _ rfl,(X0.out.below HW.out).2 3 _ rfl,(X0.out.below HW.out).2 4 _ rfl⟩;have cu:=(Bw.out.cell (p:=⟨g,o+k,none⟩) hgl).trans cu0.out;have e4:=(Bw.out.cell (p:=⟨g2,o2+i * 8+4,none⟩) hg2).trans E4.out;have e7:=(Bw.out.cell (p:=⟨g2,o2+i * 8+7,none⟩) hg2).trans E7.out;rcases HSt.out with ⟨hc0,hh0,hall⟩ | ⟨hc0,hlk⟩
          ·subst hc0;have HAll:=aa hall;clear hall HSt;by_cases hnt:n < an
           ·have hnI:(n:Int) < an:=(by omega);have CT:=aa (HTk.out n wr HW.out HU.out hnt hh0);obtain⟨tc,htc⟩:∃tc,fw p f k i n=tc:=⟨_,rfl⟩;rw [htc] at CT;have HSt2:Hid ((tc=0∧hd=0∧∀j,j < n+1→fw p f k i j=0)∨(tc≠0∧tc=fm p f k i)):=aa (by
             by_cases h0:tc=0
             ·refine .inl ⟨h0,hh0,fun j hj=> ?_⟩;by_cases e:j=n
              ·rw [e,htc,h0]
              ·exact HAll.out j (by omega)
             ·refine .inr ⟨h0,?_⟩;rw [HLk.out,hh0];have:cD (tZ p f k i) an=some tc:=cX (K:=n) (fun j hj=>by rw [HTn.out,HAll.out j hj];simp) hnt (by rw [HTn.out,htc,if_pos h0]);rw [this];rfl)
            clear htc hh0;go_wp2_with fail
            refine CT.out.mono ?_;rintro e w7 ⟨rfl,b7⟩;have HW7:=aa (ae HW.out b7);have HU7:=aa (ae HU.out b7);clear CT b7 c0 x0 x1 x2 x3 x4 cu e4 e7;go_wp2_with fail
            go_roundw
            case rel=>exact⟨tc,n+1,by omega,rfl,by go_num,HSt2,HW7,HU7⟩
            case measure=>simp [intOf];omega
           ·have hnI:¬(n:Int) < an:=(by omega);have HG2:Hid (∀j,j < i+1→atC (fm p f k j) (au f k j).2.2.2.2.2.2.2=none):=aa (fun j hj=>by
             by_cases e:j=i
             ·subst e;have hl0:fm p f k j=0:=by
               rw [HLk.out,hh0];have:cD (tZ p f k j) an=none:=cd (fun j' hj'=>by rw [HTn.out,HAll.out j' (by omega)];simp);rw [this];rfl
              rw [HX.out,HAt.out,hl0];simp
             ·exact HG.out j (by omega))
            clear hh0;go_wp2_with fail
            go_roundw
            case rel=>exact⟨i+1,by omega,by go_num,HG2,HW,HU⟩
            case measure=>simp [intOf];omega
          ·have hcb:(cc == 0)=false:=beq_eq_false_iff_ne.2 hc0;obtain⟨at_,hat⟩:∃at_,x.2.2.2.2.2.2.2=at_:=⟨_,rfl⟩;have HR:Hid (r=(cc,at_)):=aa (by
            rw [HFe4.out];have:jN p f=some (cc,at_):=by
             rw [HLs.out];refine cX (K:=k) HF.out hkt (cX (K:=i) HG.out hil ?_);rw [HX.out,HAt.out,←hlk,if_pos hc0,hat]
            rw [this];rfl)
           rw [hat] at e7;obtain⟨⟨z0,z1⟩,⟨f0,f1⟩,_⟩:=da ((HW.out.block _ hz2).trans H3.out);clear hat hlk HSt;by_cases hnt:n < an
           ·have hnI:(n:Int) < an:=(by omega);have HE:Hid (Below w.heap.size w ((wr.setCell ⟨w.heap.size+2,0,none⟩ (.int .i64 cc)).setCell ⟨w.heap.size+2,1,none⟩ (.int .i64 at_))):=aa (((Bw.out.setCell (p:=⟨w.heap.size+2,0,none⟩) (Nat.le_add_right _ 2) _).setCell (p:=⟨w.heap.size+2,1,none⟩) (Nat.le_add_right _ 2) _));go_wp2_with fail
            exact bodyPost_ret (v:= .agg #[.int .i64 cc,.int .i64 at_]) (by simp [results,Tryz.results60,go_sem,z0,z1]) rfl ⟨by rw [HR.out],HE.out⟩
           ·have hnI:¬(n:Int) < an:=(by omega);have HE:Hid (Below w.heap.size w ((wr.setCell ⟨w.heap.size+2,0,none⟩ (.int .i64 cc)).setCell ⟨w.heap.size+2,1,none⟩ (.int .i64 at_))):=aa (((Bw.out.setCell (p:=⟨w.heap.size+2,0,none⟩) (Nat.le_add_right _ 2) _).setCell (p:=⟨w.heap.size+2,1,none⟩) (Nat.le_add_right _ 2) _));go_wp2_with fail
            exact bodyPost_ret (v:= .agg #[.int .i64 cc,.int .i64 at_]) (by simp [results,Tryz.results60,go_sem,z0,z1]) rfl ⟨by rw [HR.out],HE.out⟩
        ·have hilI:¬(i:Int) < (ag f k).length:=(by omega);have HF2:Hid (∀j,j < k+1→cD (fun i=>atC (fm p f j i) (au f j i).2.2.2.2.2.2.2) (ag f j).length=none):=aa (fun j hj=>by
          by_cases e:j=k
          ·subst e;exact cd (fun i' hi'=>HG.out i' (by omega))
          ·exact HF.out j (by omega))
         obtain⟨x0,x1,x2,x3,x4⟩:_∧_∧_∧_∧_:=⟨(X0.out.below HW.out).2 0 _ rfl,(X0.out.below HW.out).2 1 _ rfl,(X0.out.below HW.out).2 2 _ rfl,(X0.out.below HW.out).2 3 _ rfl,(X0.out.below HW.out).2 4 _ rfl⟩;have cu:=(Bw.out.cell (p:=⟨g,o+k,none⟩) hgl).trans cu0.out;go_wp2_with fail
         go_roundw
         case rel=>exact⟨k+1,by omega,by go_num,HF2,HW,HU⟩
         case measure=>simp [intOf];omega
      ·obtain rfl:k=lbs:=(by omega);have HR:Hid (r=(0,0)):=aa (by rw [HFe4.out,HLs.out,cd HF.out];rfl);have Bw:=aa (ae B0.out HW.out);obtain⟨⟨z0,z1⟩,⟨f0,f1⟩,_⟩:=da ((HW.out.block _ hz2).trans H3.out);have HE:Hid (Below w.heap.size w ((wr.setCell ⟨w.heap.size+2,0,none⟩ (.int .i64 0)).setCell ⟨w.heap.size+2,1,none⟩ (.int .i64 0))):=aa (((Bw.out.setCell (p:=⟨w.heap.size+2,0,none⟩) (Nat.le_add_right _ 2) _).setCell (p:=⟨w.heap.size+2,1,none⟩) (Nat.le_add_right _ 2) _));go_wp2_with fail
       exact bodyPost_ret (v:= .agg #[.int .i64 0,.int .i64 0]) (by simp [results,Tryz.results60,go_sem,z0,z1]) rfl ⟨by rw [HR.out],HE.out⟩
 ·have hsb:((aS f).1 == 0)=false:=beq_eq_false_iff_ne.2 hsh;have HR:Hid (r=((aS f).1,pl)):=aa (by rw [HFe.out,if_pos hsh]);have HE:Hid (Below w.heap.size w ((w2.setCell ⟨w.heap.size+2,0,none⟩ (.int .i64 (aS f).1)).setCell ⟨w.heap.size+2,1,none⟩ (.int .i64 pl))):=aa ((((ae B0.out BW2.out).setCell (p:=⟨w.heap.size+2,0,none⟩) (Nat.le_add_right _ 2) _).setCell (p:=⟨w.heap.size+2,1,none⟩) (Nat.le_add_right _ 2) _));go_wp2_with fail
  exact bodyPost_ret (v:= .agg #[.int .i64 (aS f).1,.int .i64 pl]) (by simp [results,Tryz.results60,go_sem,z0,z1]) rfl ⟨by rw [HR.out],HE.out⟩
open Mix (Up)
theorem Ea:∀(p:List Fun) (i m:Nat),(aT i m p).1≠0→∃j:Nat,(aT i m p).2=j∧i≤j∧j < i+p.length:=by
 intro p;induction p with
 |nil=>intro i m h;simp [aT] at h
 |cons f r ih=>
  intro i m h;by_cases hi:i=32
  ·subst hi;exact⟨32,by rw [kW],Nat.le_refl _,by simp⟩
  ·by_cases hh:dE f≠0
   ·exact⟨i,by rw [kS m r hi hh],Nat.le_refl _,by simp⟩
   ·have hh':dE f=0:=(by simpa using hh);by_cases hb:(fT m f.2.2.2.1).2≠0
    ·exact⟨i,by rw [nZ r hi hh' hb],Nat.le_refl _,by simp⟩
    ·have hb':(fT m f.2.2.2.1).2=0:=(by simpa using hb);rw [pr r hi hh' hb'] at h ⊢;obtain⟨j,h1,h2,h3⟩:=ih (i+1) _ h;exact⟨j,h1,by omega,by simp;omega⟩
def Ev (B:Nat) (w:World) (v:Value):Prop:=∃b,v= .pointer (some ⟨b,0,none⟩)∧B≤b∧w.heap[b]? =some (.cells #[.int .i64 0,.int .i64 0] 59 (0,0))
theorem Ev.below {B:Nat} {w w':World} {v:Value} (h:Ev B w v) (b:Below w.heap.size w w'):Ev B w' v:=by
 obtain⟨q,e,hb,hq⟩:=h;exact⟨q,e,hb,(b.block q (Array.getElem?_eq_some_iff.1 hq).1).trans hq⟩
def Up.LB (B:Nat):Up:=⟨fun v w=>Ev B w v,fun _ _ _ b h=>h.below b⟩
def KX (pv fv ev sv:Value) (q g o i B:Nat) (src:Bool) (t:Tmp):Up:=match t with
 |37=>Up.eq pv
 |38=>Up.eq (.pointer (some ⟨q,0,none⟩))
 |39=>Up.eq sv
 |40=>Up.eq (.int .i64 i)
 |41=>Up.eq (.pointer (some ⟨g,o+i * 5,none⟩))
 |42=>Up.eq fv
 |43=>Up.eq (.bool src)
 |44=>Up.eq ev
 |8=>Up.LB B
 |_=>Up.any
theorem uw (p:List Fun) (src:Bool) (po:Option Addr) (pc:Nat) (w:World) (hp:eg w p (.slice po p.length pc)) (hl:p.length≤1000000) (hO:∀f∈p,OkF f) (hM:∀f∈p,Mod f∧f.2.1.length≤1000000) (hK:(aT 0 0 p).1=0→∀f∈p,Kept p f):
  Calls Tryz.prog 30 #[.agg #[.slice po p.length pc],.bool src] w fun e w'=>e= .returned (.agg #[.int .i64 (iY p src).1,.int .i64 (iY p src).2])∧Below w.heap.size w w':=by
 have HCp:Hid (iY p src=if(aT 0 0 p).1≠0 then((aT 0 0 p).1,(bh p (aT 0 0 p).2.toNat).2.2.2.2)else if(fD p).1≠0 then fD p else(cD (kq p src) p.length).getD (0,0)):=aa rfl;have HFo:Hid (∀i,kq p src i=if(jd p (bh p i) src).1≠0 then some (jd p (bh p i) src)else none):=aa (fun _=>rfl);have CW:=aa (fun w' (b:Below w.heap.size w w')=>vR p po pc w' (hp.below b) hO);have CN:=aa (fun w' (b:Below w.heap.size w w')=>wm p po pc w' (hp.below b) hl (fun f hf=>(hM f hf).2));have CFn:=aa (fun i (hi:i < p.length) (h0:(aT 0 0 p).1=0) fv w' (b:Below w.heap.size w w') (hv:bS w' (bh p i) fv)=>zJ p (bh p i) src po pc fv w' (hp.below b) hl hv (hM _ (List.mem_of_getElem? (jS hi))).1 (hK h0 _ (List.mem_of_getElem? (jS hi))));have HRd:Hid (∀i,i < p.length→∃g o,po=some ⟨g,o,none⟩∧pd w (bh p i) g (o+i * 5)):=aa (fun i hi=>gB hp hi);have HWa:=aa (Ea p 0 0);clear hp hO hM hK;obtain⟨r,hr⟩:∃r,iY p src=r:=⟨_,rfl⟩;rw [hr] at HCp ⊢;clear hr;generalize hpn:p.length=pn at *;have b1:=af w (.cells #[.slice po pn pc] 24);have h1:=heap_alloc_new w (.cells #[.slice po pn pc] 24);have b2:=af (w.alloc (.cells #[.slice po pn pc] 24)) (.cells #[.int .i64 0,.int .i64 0] 59);have hs1:(w.alloc (.cells #[.slice po pn pc] 24)).heap.size=w.heap.size+1:=by simp
 have h2:=heap_alloc_new (w.alloc (.cells #[.slice po pn pc] 24)) (.cells #[.int .i64 0,.int .i64 0] 59);rw [hs1] at h2;have H1:=aa ((b2.block w.heap.size (by simp)).trans h1);have H3:=aa h2;have B0:=aa (ae b1 b2);clear b1 h1 b2 hs1 h2;replace hpn:=aa hpn;go_enter Tryz.func30,Tryz.ntmps30
 go_upto_region 1 with fail
 show Code.wp _ _ _ _ ((w.alloc (.cells #[.slice po pn pc] 24)).alloc (.cells #[.int .i64 0,.int .i64 0] 59));generalize (w.alloc (.cells #[.slice po pn pc] 24)).alloc (.cells #[.int .i64 0,.int .i64 0] 59)=W at *;have hz2:=(da H3.out).2.2;have hq0:w.heap.size < W.heap.size:=(bC H1.out).2;have c0:=(bC H1.out).1;have C1:=aa (CW.out W B0.out);go_wp2_with fail
 refine C1.out.mono ?_;rintro e w1 ⟨rfl,b1⟩;obtain⟨wc,hwc⟩:∃wc,aT 0 0 p=wc:=⟨_,rfl⟩;rw [hwc] at HCp HWa CFn ⊢;have b2:=af w1 (.cells #[.int .i64 wc.1,.int .i64 wc.2] 59);have HS:=aa (heap_alloc_new w1 (.cells #[.int .i64 wc.1,.int .i64 wc.2] 59));have BW2:=aa (ae b1 b2);clear C1 CW b1 b2 c0 hwc;go_upto_region 2 with fail
 show Code.wp _ _ _ _ (w1.alloc (.cells #[.int .i64 wc.1,.int .i64 wc.2] 59));generalize w1.alloc (.cells #[.int .i64 wc.1,.int .i64 wc.2] 59)=w2 at *;generalize w1.heap.size=q1 at *;obtain⟨⟨z0,z1⟩,⟨f0,f1⟩,_⟩:=da ((BW2.out.block _ hz2).trans H3.out);obtain⟨⟨s0,s1⟩,_,hsl⟩:=da HS.out;have c0:=(BW2.out.cell (p:=⟨w.heap.size,0,none⟩) hq0).trans (bC H1.out).1;by_cases hw0:wc.1=0
 ·have HCp2:Hid (r=if(fD p).1≠0 then fD p else(cD (kq p src) pn).getD (0,0)):=aa (by rw [HCp.out,if_neg (by simpa using hw0)]);rw [hw0] at s0;have C2:=aa (CN.out w2 (ae B0.out BW2.out));obtain⟨nc,hnc⟩:∃nc,fD p=nc:=⟨_,rfl⟩;rw [hnc] at C2 HCp2;clear HCp CN HWa hnc;go_wp2_with fail
  refine C2.out.mono ?_;rintro e w3 ⟨rfl,b3⟩;have b4:=af w3 (.cells #[.int .i64 nc.1,.int .i64 nc.2] 59);have HS2:=aa (heap_alloc_new w3 (.cells #[.int .i64 nc.1,.int .i64 nc.2] 59));have BW4:=aa (ae BW2.out (ae b3 b4));clear C2 b3 b4 c0 s0 s1 z0 z1 f0 f1 hsl HS BW2;go_upto_region 5 with fail
  show Code.wp _ _ _ _ (w3.alloc (.cells #[.int .i64 nc.1,.int .i64 nc.2] 59));generalize w3.alloc (.cells #[.int .i64 nc.1,.int .i64 nc.2] 59)=w4 at *;generalize w3.heap.size=q3 at *;obtain⟨⟨z0,z1⟩,⟨f0,f1⟩,_⟩:=da ((BW4.out.block _ hz2).trans H3.out);obtain⟨⟨s0,s1⟩,_,hsl⟩:=da HS2.out;by_cases hn0:nc.1=0
  ·rw [hn0] at s0;have HCp3:Hid (r=(cD (kq p src) pn).getD (0,0)):=aa (by rw [HCp2.out,if_neg (by simpa using hn0)]);clear HCp2;go_wp2_with fail
   clear s0 s1 z0 z1 f0 f1 hsl;go_loopw [7] (fun iv wr=>∃i:Nat,i≤pn∧iv= .int .i64 i∧Hid (∀j,j < i→kq p src j=none)∧Hid (Below W.heap.size W wr)) (fun iv _=>pn - (intOf iv).toNat)
   case atStart=>exact⟨0,Nat.zero_le _,rfl,aa (fun j h=>absurd h (Nat.not_lt_zero _)),BW4⟩
   case round=>
    clear BW4;obtain⟨i,hi,rfl,HF,HW⟩:=hrel;have c0:=(HW.out.cell (p:=⟨w.heap.size,0,none⟩) hq0).trans (bC H1.out).1;by_cases hit:i < pn
    ·have hiI:(i:Int) < pn:=(by omega);obtain⟨g,o,rfl,hfr⟩:=HRd.out i hit;obtain⟨ha,hb,hc,hdd,hfv,d0,d1,d2,d3,d4⟩:=hfr.val;have hgl:=hfr.1;have Bw:=aa (ae B0.out HW.out);have CF:=aa (fun w' (b:Below wr.heap.size wr w')=>CFn.out i hit hw0 _ w' (ae Bw.out b) (hfv.below (ae Bw.out b)));have HFi:=aa (HFo.out i);obtain⟨e0,he0⟩:∃e0,jd p (bh p i) src=e0:=⟨_,rfl⟩;rw [he0] at CF HFi;obtain⟨fx,hh⟩:∃fx,bh p i=fx:=⟨_,rfl⟩;rw [hh] at d0 d1 d2 d3 d4 CF;have cs:=fun(w':World) (b:Below wr.heap.size wr w')=>((ae HW.out b).cell (p:=⟨w.heap.size,0,none⟩) hq0).trans (bC H1.out).1;have ds:=fun(w':World) (b:Below wr.heap.size wr w')=>And.intro (((ae Bw.out b).cell (p:=⟨g,o+i * 5,none⟩) hgl).trans d0) (And.intro (((ae Bw.out b).cell (p:=⟨g,o+i * 5+1,none⟩) hgl).trans d1) (And.intro (((ae Bw.out b).cell (p:=⟨g,o+i * 5+2,none⟩) hgl).trans d2) (And.intro (((ae Bw.out b).cell (p:=⟨g,o+i * 5+3,none⟩) hgl).trans d3) (((ae Bw.out b).cell (p:=⟨g,o+i * 5+4,none⟩) hgl).trans d4))));clear hfv hfr d0 d1 d2 d3 d4 he0 hh;go_upto_region 10 with fail
     clear c0;refine Mix.jB (KX (.agg #[.slice (some ⟨g,o,none⟩) pn pc]) (.agg #[.string (bs fx.1),.slice ha fx.2.1.length hc,.int .i64 fx.2.2.1,.slice hb fx.2.2.2.1.length hdd,.int .i64 fx.2.2.2.2]) (.agg #[.int .i64 e0.1,.int .i64 e0.2]) (.slice (some ⟨g,o,none⟩) pn pc) w.heap.size g o i wr.heap.size src) 9 _ rfl rfl (by kernel_rfl) (by kernel_rfl) (by kernel_rfl) ?_;refine Mix.aj rfl (aq (.agg #[.slice (some ⟨g,o,none⟩) pn pc]) rfl) ?_ ?_
     ·intro w b k;have c0:=cs w b;clear k;simp [go_sem,c0];exact⟨Below.refl _ _,fun d hd=>by cases hd;rfl⟩
     rintro v ⟨_,_,h⟩;obtain rfl:v=(.agg #[.slice (some ⟨g,o,none⟩) pn pc]):=h _ rfl;clear h;simp only [Act.put,sU1,sU2,sU3];refine Mix.aj rfl (aq (.pointer (some ⟨w.heap.size,0,none⟩)) rfl) ?_ ?_
     ·intro w b k;clear k;simp [go_sem];exact⟨Below.refl _ _,fun d hd=>by cases hd;rfl⟩
     rintro v ⟨_,_,h⟩;obtain rfl:v=(.pointer (some ⟨w.heap.size,0,none⟩)):=h _ rfl;clear h;simp only [Act.put,sU1,sU2,sU3];refine Mix.aj rfl (aq (.slice (some ⟨g,o,none⟩) pn pc) rfl) ?_ ?_
     ·intro w b k;have c0:=cs w b;clear k;simp [go_sem,c0];exact⟨Below.refl _ _,fun d hd=>by cases hd;rfl⟩
     rintro v ⟨_,_,h⟩;obtain rfl:v=(.slice (some ⟨g,o,none⟩) pn pc):=h _ rfl;clear h;simp only [Act.put,sU1,sU2,sU3];refine Mix.aj rfl (aq (.int .i64 i) rfl) ?_ ?_
     ·intro w b k;clear k;simp [go_sem];exact⟨Below.refl _ _,fun d hd=>by cases hd;rfl⟩
     rintro v ⟨_,_,h⟩;obtain rfl:v=(.int .i64 i):=h _ rfl;clear h;simp only [Act.put,sU1,sU2,sU3];refine Mix.aj rfl (aq (.pointer (some ⟨g,o+i * 5,none⟩)) rfl) ?_ ?_
     ·intro w b k;clear k;simp [go_sem,hiI];exact⟨Below.refl _ _,fun d hd=>by cases hd;rfl⟩
     rintro v ⟨_,_,h⟩;obtain rfl:v=(.pointer (some ⟨g,o+i * 5,none⟩)):=h _ rfl;clear h;simp only [Act.put,sU1,sU2,sU3];refine Mix.aj rfl (aq (.agg #[.string (bs fx.1),.slice ha fx.2.1.length hc,.int .i64 fx.2.2.1,.slice hb fx.2.2.2.1.length hdd,.int .i64 fx.2.2.2.2]) rfl) ?_ ?_
     ·intro w b k;obtain⟨d0,d1,d2,d3,d4⟩:=ds w b;clear k;simp [go_sem,d0,d1,d2,d3,d4];exact⟨Below.refl _ _,fun d hd=>by cases hd;rfl⟩
     rintro v ⟨_,_,h⟩;obtain rfl:v=(.agg #[.string (bs fx.1),.slice ha fx.2.1.length hc,.int .i64 fx.2.2.1,.slice hb fx.2.2.2.1.length hdd,.int .i64 fx.2.2.2.2]):=h _ rfl;clear h;simp only [Act.put,sU1,sU2,sU3];refine Mix.aj rfl (aq (.bool src) rfl) ?_ ?_
     ·intro w b k;clear k;simp [go_sem];exact⟨Below.refl _ _,fun d hd=>by cases hd;rfl⟩
     rintro v ⟨_,_,h⟩;obtain rfl:v=(.bool src):=h _ rfl;clear h;simp only [Act.put,sU1,sU2,sU3];refine Mix.aj rfl (aq (.agg #[.int .i64 e0.1,.int .i64 e0.2]) rfl) ?_ ?_
     ·intro w b k;clear k;simp [go_sem];exact Calls.mono (CF.out w b) fun e w' ⟨he,hb⟩=>⟨_,he,hb,fun d hd=>by cases hd;rfl⟩
     rintro v ⟨_,_,h⟩;obtain rfl:v=(.agg #[.int .i64 e0.1,.int .i64 e0.2]):=h _ rfl;clear h;simp only [Act.put,sU1,sU2,sU3];refine Mix.aj rfl ⟨.pointer (some ⟨wr.heap.size,0,none⟩),_,af wr (.cells #[.int .i64 0,.int .i64 0] 59),fun d hd=>by cases hd;exact⟨_,rfl,Nat.le_refl _,heap_alloc_new _ _⟩⟩ ?_ ?_
     ·intro w b k;clear k;simp [go_sem];exact⟨af _ _,fun d hd=>by cases hd;exact⟨_,rfl,b.size,heap_alloc_new _ _⟩⟩
     rintro p8 -;simp only [Act.put,sU1,sU2,sU3];refine Mix.iG ?_;intro w4 b4 hk;obtain⟨q4,rfl,hqB,hq4⟩:Ev wr.heap.size w4 p8:=hk 8 (by simp [Mix.add]) p8 rfl;clear hk;refine⟨rfl,fun K hK=> ?_⟩;obtain⟨⟨z0,z1⟩,⟨f0,f1⟩,_⟩:=da hq4;unfold Oper.wp;simp [go_sem,z0,z1,f0,f1];refine hK _ _ ?_;have HZ5:Hid (((w4.setCell ⟨q4,0,none⟩ (.int .i64 e0.1)).setCell ⟨q4,1,none⟩ (.int .i64 e0.2)).heap[q4]? =some (.cells #[.int .i64 e0.1,.int .i64 e0.2] 59 (0,0))):=aa (by
      rw [heap_setCell_same _ q4 1 _ 59 _ ((heap_setCell_same w4 q4 0 _ 59 _ hq4).trans rfl)];rfl)
     have B5:Hid (Below wr.heap.size wr ((w4.setCell ⟨q4,0,none⟩ (.int .i64 e0.1)).setCell ⟨q4,1,none⟩ (.int .i64 e0.2))):=aa ((b4.setCell (p:=⟨q4,0,none⟩) hqB _).setCell (p:=⟨q4,1,none⟩) hqB _);generalize ((w4.setCell ⟨q4,0,none⟩ (.int .i64 e0.1)).setCell ⟨q4,1,none⟩ (.int .i64 e0.2))=w5 at *;clear hK z0 z1 f0 f1 hq4 b4 cs ds CF;have HW5:=aa (ae HW.out B5.out);obtain⟨⟨s0,s1⟩,_,_⟩:=da HZ5.out;by_cases he0:e0.1=0
     ·have HF2:Hid (∀j,j < i+1→kq p src j=none):=aa (fun j hj=>by
       by_cases e:j=i
       ·rw [e,HFi.out,he0];simp
       ·exact HF.out j (by omega))
      rw [he0] at s0;clear he0;go_wp2_with fail
      go_roundw
      case rel=>exact⟨i+1,by omega,by go_num,HF2,HW5⟩
      case measure=>simp [intOf];omega
     ·have heb:(e0.1 == 0)=false:=beq_eq_false_iff_ne.2 he0;have HR:Hid (r=e0):=aa (by
       rw [HCp3.out,cX (K:=i) HF.out hit (by rw [HFi.out,if_pos he0])];rfl)
      obtain⟨⟨z0,z1⟩,⟨f0,f1⟩,_⟩:=da ((HW5.out.block _ hz2).trans H3.out);have HE:Hid (Below w.heap.size w ((w5.setCell ⟨w.heap.size+1,0,none⟩ (.int .i64 e0.1)).setCell ⟨w.heap.size+1,1,none⟩ (.int .i64 e0.2))):=aa ((((ae B0.out HW5.out).setCell (p:=⟨w.heap.size+1,0,none⟩) (Nat.le_succ _) _).setCell (p:=⟨w.heap.size+1,1,none⟩) (Nat.le_succ _) _));go_wp2_with fail
      exact bodyPost_ret (v:= .agg #[.int .i64 e0.1,.int .i64 e0.2]) (by simp [results,Tryz.results30,go_sem,z0,z1]) rfl ⟨by rw [HR.out],HE.out⟩
    ·obtain rfl:i=pn:=(by omega);have HR:Hid (r=(0,0)):=aa (by rw [HCp3.out,cd HF.out];rfl);obtain⟨⟨z0,z1⟩,⟨f0,f1⟩,_⟩:=da ((HW.out.block _ hz2).trans H3.out);have HE:Hid (Below w.heap.size w ((wr.setCell ⟨w.heap.size+1,0,none⟩ (.int .i64 0)).setCell ⟨w.heap.size+1,1,none⟩ (.int .i64 0))):=aa ((((ae B0.out HW.out).setCell (p:=⟨w.heap.size+1,0,none⟩) (Nat.le_succ _) _).setCell (p:=⟨w.heap.size+1,1,none⟩) (Nat.le_succ _) _));go_wp2_with fail
     exact bodyPost_ret (v:= .agg #[.int .i64 0,.int .i64 0]) (by simp [results,Tryz.results30,go_sem,z0,z1]) rfl ⟨by rw [HR.out],HE.out⟩
  ·have hnb:(nc.1 == 0)=false:=beq_eq_false_iff_ne.2 hn0;have HR:Hid (r=nc):=aa (by rw [HCp2.out,if_pos hn0]);have HE:Hid (Below w.heap.size w ((w4.setCell ⟨w.heap.size+1,0,none⟩ (.int .i64 nc.1)).setCell ⟨w.heap.size+1,1,none⟩ (.int .i64 nc.2))):=aa ((((ae B0.out BW4.out).setCell (p:=⟨w.heap.size+1,0,none⟩) (Nat.le_succ _) _).setCell (p:=⟨w.heap.size+1,1,none⟩) (Nat.le_succ _) _));go_wp2_with fail
   exact bodyPost_ret (v:= .agg #[.int .i64 nc.1,.int .i64 nc.2]) (by simp [results,Tryz.results30,go_sem,z0,z1]) rfl ⟨by rw [HR.out],HE.out⟩
 ·have hwb:(wc.1 == 0)=false:=beq_eq_false_iff_ne.2 hw0;obtain⟨J,hJ,_,hJl⟩:=HWa.out hw0;have hJ2:J < pn:=by omega
  have hJI:(J:Int) < pn:=by omega
  obtain⟨g,o,rfl,hfr⟩:=HRd.out J hJ2;obtain⟨_,_,_,_,_,_,_,_,_,d4⟩:=hfr.val;have Bw:=aa (ae B0.out BW2.out);replace d4:=(Bw.out.cell (p:=⟨g,o+J * 5+4,none⟩) hfr.1).trans d4;obtain⟨at_,hat⟩:∃at_,(bh p J).2.2.2.2=at_:=⟨_,rfl⟩;rw [hat] at d4;have HR:Hid (r=(wc.1,at_)):=aa (by rw [HCp.out,if_pos hw0,hJ,Int.toNat_natCast,hat]);rw [hJ] at s1 ⊢;have HE:Hid (Below w.heap.size w ((w2.setCell ⟨w.heap.size+1,0,none⟩ (.int .i64 wc.1)).setCell ⟨w.heap.size+1,1,none⟩ (.int .i64 at_)).drew):=aa (((Bw.out.setCell (p:=⟨w.heap.size+1,0,none⟩) (Nat.le_succ _) _).setCell (p:=⟨w.heap.size+1,1,none⟩) (Nat.le_succ _) _).drew);clear hfr hJ hat HCp HWa hJl;go_wp2_with fail
  go_region
  all_goals
   go_wp2_with fail
   exact bodyPost_ret (v:= .agg #[.int .i64 wc.1,.int .i64 at_]) (by simp [results,Tryz.results30,go_sem,z0,z1]) rfl ⟨by rw [HR.out],HE.out⟩
end Go.Proofs.YtaiaakklokahjaaGreatDoor
