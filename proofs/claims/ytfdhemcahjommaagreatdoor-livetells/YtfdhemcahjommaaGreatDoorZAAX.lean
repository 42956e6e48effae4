/- Texts of one chain, joined. -/
import Derived.Test.YtfdhemcahjommaaGreatDoorZAAW
set_option maxHeartbeats 1500000
set_option maxRecDepth 20000
namespace Go.Proofs.YtfdhemcahjommaaGreatDoor
open Go Go.RowKit
open G (Tok Er Ins Fun)
def Kept (p:List Fun) (f:Fun):Prop:=((aU f).1=0→Ful f∧Tos f∧0 < f.2.2.2.1.length)∧∀k i,k < f.2.2.2.1.length→i < (ah f k).length→dy p f (ay f k i)=0→∀n,n < (ay f k i).2.2.2.2.1.length→pB p (ay f k i) n∧((ay f k i).1=20→n < (ay f k i).2.2.2.2.2.1.length)
theorem wR (f:Fun) (v:Value) (w:World) (hv:bG w f v) (hF:Ful f) (hg:Gr (aC f)):Calls Tryz.prog 58 #[v] w fun e w'=>∃u,e= .returned u∧xx w' (aC f) u∧Below w.heap.size w w':=by
 have hp:=hg.2;obtain⟨nm,ps,rt,bl,pl⟩:=f;have hv2:=hv;obtain⟨vp,vb,rfl,⟨ao,c,rfl,h1,_⟩,h2⟩:=hv;obtain⟨bo,cb,rfl,_⟩:=h2;exact(xA nm ps rt pl bl ao bo c cb w hv2 hF hg).mono fun e w' ⟨u,he,h,b⟩=>⟨u,he,h.read hp,b⟩
theorem AR (p:List Fun) (f:Fun) (src:Bool) (po:Option Addr) (pc:Nat) (fv:Value) (w:World) (hp:eg w p (.slice po p.length pc)) (hl:p.length≤1000000) (hv:bG w f fv) (hM:Mod f) (hK:Kept p f):
  Calls Tryz.prog 39 #[.agg #[.slice po p.length pc],fv,.bool src] w fun e w'=>e= .returned (.agg #[.int .i64 (jl p f src).1,.int .i64 (jl p f src).2])∧Below w.heap.size w w':=by
 have HFe:Hid (jl p f src=if(aU f).1≠0 then((aU f).1,f.2.2.2.2)else if fE f=false then(14,f.2.2.2.2)else match gS f src with
  |some e=>e
  |none=>(jZ p f).getD (0,0)):=ae rfl
 have HVs:Hid (gS f src=cJ (fun k=>cJ (fun i=>atC (dR f k i src) (ay f k i).2.2.2.2.2.2.2) (ah f k).length) f.2.2.2.1.length):=ae rfl;have HLs:Hid (jZ p f=cJ (fun k=>cJ (fun i=>atC (fA p f k i) (ay f k i).2.2.2.2.2.2.2) (ah f k).length) f.2.2.2.1.length):=ae rfl;have CSh:=ae (fun w' (b:Below w.heap.size w w')=>ui f fv w' (hv.below b));have CTk:=ae (fun(k i n:Nat) (tv:Value) (w':World) (b:Below w.heap.size w w') hg ht hk hi hn hW hTo=>AZ p f k i n po pc fv tv w' (hp.below b) hl (hv.below b) hM hg ht hk hi hn hW hTo);have CHd:=ae (fun(x:Ins) (xv:Value) (w':World) (b:Below w.heap.size w w') (hx:iB w' x xv)=>vN p f x po pc fv xv w' (hp.below b) hl (hv.below b) hx);have HB:=ae (fun k=>hM.blk k);have hN:=hM.1;have HP:=ae hp;have HV:=ae hv;obtain⟨r,hr⟩:∃r,jl p f src=r:=⟨_,rfl⟩;rw [hr] at HFe ⊢;clear hr;obtain⟨lp,cp,lb,cb,rfl,_,_⟩:=cG hv;have HRd:Hid (∀k,k < f.2.2.2.1.length→∃g o ao c,lb=some ⟨g,o,none⟩∧g < w.heap.size∧w.cell? ⟨g,o+k,none⟩=some (.slice ao (ah f k).length c)∧gR w (ah f k) (.slice ao (ah f k).length c)):=ae (fun k hk=>df (dF hv) hk);clear hv hp;generalize hnm:bs f.1=nm at *;generalize hlps:f.2.1.length=lps at *;generalize hrt:f.2.2.1=rt at *;obtain⟨lbs,hlbs⟩:∃n,n=f.2.2.2.1.length:=⟨_,rfl⟩;rw [←hlbs] at HVs HLs hN HRd CSh HV CHd CTk;rw [←hlbs];generalize hpl:f.2.2.2.2=pl at *;generalize hpn:p.length=pn at *;have b1:=ag w (.cells #[.slice po pn pc] 24);have h1:=heap_alloc_new w (.cells #[.slice po pn pc] 24);have b2:=ag (w.alloc (.cells #[.slice po pn pc] 24)) (.cells #[.string nm,.slice lp lps cp,.int .i64 rt,.slice lb lbs cb,.int .i64 pl] 28);have X1:=L5.Box.new (w.alloc (.cells #[.slice po pn pc] 24)) [.string nm,.slice lp lps cp,.int .i64 rt,.slice lb lbs cb,.int .i64 pl] 28;have hs1:(w.alloc (.cells #[.slice po pn pc] 24)).heap.size=w.heap.size+1:=by simp
 rw [hs1] at X1;have b3:=ag ((w.alloc (.cells #[.slice po pn pc] 24)).alloc (.cells #[.string nm,.slice lp lps cp,.int .i64 rt,.slice lb lbs cb,.int .i64 pl] 28)) (.cells #[.int .i64 0,.int .i64 0] 55);have h3:=heap_alloc_new ((w.alloc (.cells #[.slice po pn pc] 24)).alloc (.cells #[.string nm,.slice lp lps cp,.int .i64 rt,.slice lb lbs cb,.int .i64 pl] 28)) (.cells #[.int .i64 0,.int .i64 0] 55);have hs2:((w.alloc (.cells #[.slice po pn pc] 24)).alloc (.cells #[.string nm,.slice lp lps cp,.int .i64 rt,.slice lb lbs cb,.int .i64 pl] 28)).heap.size=w.heap.size+2:=by simp
 rw [hs2] at h3;have H1:=ae (((af b2 b3).block w.heap.size (by simp)).trans h1);have X0:Hid (L5.Box (((w.alloc (.cells #[.slice po pn pc] 24)).alloc (.cells #[.string nm,.slice lp lps cp,.int .i64 rt,.slice lb lbs cb,.int .i64 pl] 28)).alloc (.cells #[.int .i64 0,.int .i64 0] 55)) (w.heap.size+1) [.string nm,.slice lp lps cp,.int .i64 rt,.slice lb lbs cb,.int .i64 pl]):=ae (X1.below b3);have H3:=ae h3;have B0:=ae (af b1 (af b2 b3));clear b1 h1 b2 X1 hs1 b3 h3 hs2 hnm hlps hrt;replace hlbs:=ae hlbs;replace hpl:=ae hpl;replace hpn:=ae hpn;go_enter Tryz.func39,Tryz.ntmps39
 go_upto_region 1 with fail
 show Code.wp _ _ _ _ (((w.alloc (.cells #[.slice po pn pc] 24)).alloc (.cells #[.string nm,.slice lp lps cp,.int .i64 rt,.slice lb lbs cb,.int .i64 pl] 28)).alloc (.cells #[.int .i64 0,.int .i64 0] 55));generalize ((w.alloc (.cells #[.slice po pn pc] 24)).alloc (.cells #[.string nm,.slice lp lps cp,.int .i64 rt,.slice lb lbs cb,.int .i64 pl] 28)).alloc (.cells #[.int .i64 0,.int .i64 0] 55)=W at *;have hz2:=(dr H3.out).2.2;have hq0:w.heap.size < W.heap.size:=(bF H1.out).2;obtain⟨x0,x1,x2,x3,x4⟩:_∧_∧_∧_∧_:=⟨X0.out.2 0 _ rfl,X0.out.2 1 _ rfl,X0.out.2 2 _ rfl,X0.out.2 3 _ rfl,X0.out.2 4 _ rfl⟩;have C1:=ae (CSh.out W B0.out);go_wp2_with fail
 refine C1.out.mono ?_;rintro e w1 ⟨rfl,b1⟩;have b2:=ag w1 (.cells #[.int .i64 (aU f).1,.int .i64 (aU f).2] 55);have HS:=ae (heap_alloc_new w1 (.cells #[.int .i64 (aU f).1,.int .i64 (aU f).2] 55));have BW2:=ae (af b1 b2);clear C1 CSh b1 b2 x0 x1 x2 x3 x4;go_upto_region 2 with fail
 show Code.wp _ _ _ _ (w1.alloc (.cells #[.int .i64 (aU f).1,.int .i64 (aU f).2] 55));generalize w1.alloc (.cells #[.int .i64 (aU f).1,.int .i64 (aU f).2] 55)=w2 at *;generalize w1.heap.size=q1 at *;obtain⟨x0,x1,x2,x3,x4⟩:_∧_∧_∧_∧_:=⟨(X0.out.below BW2.out).2 0 _ rfl,(X0.out.below BW2.out).2 1 _ rfl,(X0.out.below BW2.out).2 2 _ rfl,(X0.out.below BW2.out).2 3 _ rfl,(X0.out.below BW2.out).2 4 _ rfl⟩;obtain⟨⟨z0,z1⟩,⟨f0,f1⟩,_⟩:=dr ((BW2.out.block _ hz2).trans H3.out);obtain⟨⟨s0,s1⟩,_,_⟩:=dr HS.out;by_cases hsh:(aU f).1=0
 ·rw [hsh] at s0;obtain⟨hFul,hTos,h0⟩:=hK.1 hsh;have HFe2:Hid (r=if fE f=false then(14,pl)else match gS f src with
   |some e=>e
   |none=>(jZ p f).getD (0,0)):=ae (by rw [HFe.out,hsh];simp)
  have C2:=ae (sw f _ w2 (HV.out.below (af B0.out BW2.out)) hFul hTos h0);clear HFe
  cases hrb:fE f with
  |false=>
   rw [hrb] at C2;have HR:Hid (r=(14,pl)):=ae (by rw [HFe2.out,hrb];rfl);go_wp2_with fail
   refine C2.out.mono ?_;rintro e w3 ⟨rfl,b3⟩;have BW3:=ae (af BW2.out b3);clear C2 b3 x0 x1 x2 x3 x4 z0 z1 f0 f1 s0 s1 BW2;obtain⟨x0,x1,x2,x3,x4⟩:_∧_∧_∧_∧_:=⟨(X0.out.below BW3.out).2 0 _ rfl,(X0.out.below BW3.out).2 1 _ rfl,(X0.out.below BW3.out).2 2 _ rfl,(X0.out.below BW3.out).2 3 _ rfl,(X0.out.below BW3.out).2 4 _ rfl⟩;obtain⟨⟨z0,z1⟩,⟨f0,f1⟩,_⟩:=dr ((BW3.out.block _ hz2).trans H3.out);have HE:Hid (Below w.heap.size w ((w3.setCell ⟨w.heap.size+2,0,none⟩ (.int .i64 14)).setCell ⟨w.heap.size+2,1,none⟩ (.int .i64 pl))):=ae ((((af B0.out BW3.out).setCell (p:=⟨w.heap.size+2,0,none⟩) (Nat.le_add_right _ 2) _).setCell (p:=⟨w.heap.size+2,1,none⟩) (Nat.le_add_right _ 2) _));go_wp2_with fail
   exact bodyPost_ret (v:= .agg #[.int .i64 14,.int .i64 pl]) (by simp [results,Tryz.results39,go_sem,z0,z1]) rfl ⟨by rw [HR.out],HE.out⟩
  |true=>
   rw [hrb] at C2;have HFe3:Hid (r=match gS f src with
    |some e=>e
    |none=>(jZ p f).getD (0,0)):=ae (by rw [HFe2.out,hrb];rfl)
   go_wp2_with fail
   refine C2.out.mono ?_;rintro e w3 ⟨rfl,b3⟩;have BW3:=ae (af BW2.out b3);clear C2 b3 x0 x1 x2 x3 x4 z0 z1 f0 f1 s0 s1 BW2 HFe2;go_wp2_with fail
   go_loopw [8] (fun kv wr=>∃k:Nat,k≤lbs∧kv= .int .i64 k∧Hid (∀j,j < k→cJ (fun i=>atC (dR f j i src) (ay f j i).2.2.2.2.2.2.2) (ah f j).length=none)∧Hid (Below W.heap.size W wr)) (fun kv _=>lbs - (intOf kv).toNat)
   case atStart=>exact⟨0,Nat.zero_le _,rfl,ae (fun j h=>absurd h (Nat.not_lt_zero _)),BW3⟩
   case round=>
    clear BW3;obtain⟨k,hk,rfl,HF,HW⟩:=hrel;obtain⟨x0,x1,x2,x3,x4⟩:_∧_∧_∧_∧_:=⟨(X0.out.below HW.out).2 0 _ rfl,(X0.out.below HW.out).2 1 _ rfl,(X0.out.below HW.out).2 2 _ rfl,(X0.out.below HW.out).2 3 _ rfl,(X0.out.below HW.out).2 4 _ rfl⟩;by_cases hkt:k < lbs
    ·have hkI:(k:Int) < lbs:=(by omega);have hkf:k < f.2.2.2.1.length:=(by have:=hlbs.out;omega);have hbn:=HB.out k;have HW0:=ae HW.out;go_wp2_with fail
     clear x0 x1 x2 x3 x4;go_loopw [9] (fun iv wr=>∃i:Nat,i≤(ah f k).length∧iv= .int .i64 i∧Hid (∀j,j < i→atC (dR f k j src) (ay f k j).2.2.2.2.2.2.2=none)∧Hid (Below W.heap.size W wr)) (fun iv _=>(ah f k).length - (intOf iv).toNat)
     case atStart=>exact⟨0,Nat.zero_le _,rfl,ae (fun j h=>absurd h (Nat.not_lt_zero _)),ae HW0.out⟩
     case round=>
      clear HW HW0;obtain⟨i,hi,rfl,HG,HW⟩:=hrel;obtain⟨x0,x1,x2,x3,x4⟩:_∧_∧_∧_∧_:=⟨(X0.out.below HW.out).2 0 _ rfl,(X0.out.below HW.out).2 1 _ rfl,(X0.out.below HW.out).2 2 _ rfl,(X0.out.below HW.out).2 3 _ rfl,(X0.out.below HW.out).2 4 _ rfl⟩;have Bw:=ae (af B0.out HW.out);obtain⟨g,o,ao,c,rfl,hgl,cu0,hblk⟩:=HRd.out k hkt;have cu:=(Bw.out.cell (p:=⟨g,o+k,none⟩) hgl).trans cu0;replace cu0:=ae cu0;by_cases hil:i < (ah f k).length
      ·have hilI:(i:Int) < (ah f k).length:=(by omega);have CV:=ae (xb f k i src _ wr (HV.out.below Bw.out) hFul hM hkf hil);have HAt:Hid (atC (dR f k i src) (ay f k i).2.2.2.2.2.2.2=if dR f k i src≠0 then some (dR f k i src,(ay f k i).2.2.2.2.2.2.2)else none):=ae rfl;obtain⟨cv,hcv⟩:∃cv,dR f k i src=cv:=⟨_,rfl⟩;rw [hcv] at CV HAt;by_cases hc0:cv=0
       ·have HG2:Hid (∀j,j < i+1→atC (dR f k j src) (ay f k j).2.2.2.2.2.2.2=none):=ae (fun j hj=>by
         by_cases e:j=i
         ·subst e;rw [hcv,HAt.out,hc0];simp
         ·exact HG.out j (by omega))
        rw [hc0] at CV;clear hcv hc0;go_wp2_with fail
        refine CV.out.mono ?_;rintro e w4 ⟨rfl,b4⟩;have HW4:=ae (af HW.out b4);clear CV b4 x0 x1 x2 x3 x4 cu;go_wp2_with fail
        go_roundw
        case rel=>exact⟨i+1,by omega,by go_num,HG2,HW4⟩
        case measure=>simp [intOf];omega
       ·obtain⟨at_,hat⟩:∃at_,(ay f k i).2.2.2.2.2.2.2=at_:=⟨_,rfl⟩;have HR:Hid (r=(cv,at_)):=ae (by
         rw [HFe3.out];have:gS f src=some (cv,at_):=by
          rw [HVs.out];refine dk (K:=k) HF.out hkt (dk (K:=i) HG.out hil ?_);rw [hcv,HAt.out,if_pos hc0,hat]
         rw [this])
        have hcb:(cv == 0)=false:=beq_eq_false_iff_ne.2 hc0;clear hcv;go_wp2_with fail
        refine CV.out.mono ?_;rintro e w4 ⟨rfl,b4⟩;have HW4:=ae (af HW.out b4);have Bw4:=ae (af B0.out HW4.out);clear CV b4 x0 x1 x2 x3 x4 HW Bw;obtain⟨x0,x1,x2,x3,x4⟩:_∧_∧_∧_∧_:=⟨(X0.out.below HW4.out).2 0 _ rfl,(X0.out.below HW4.out).2 1 _ rfl,(X0.out.below HW4.out).2 2 _ rfl,(X0.out.below HW4.out).2 3 _ rfl,(X0.out.below HW4.out).2 4 _ rfl⟩;obtain⟨⟨z0,z1⟩,⟨f0,f1⟩,_⟩:=dr ((HW4.out.block _ hz2).trans H3.out);obtain⟨g2,o2,rfl,hins⟩:=ef hblk hil;obtain⟨_,_,_,_,_,_,_,_,_,_,_,_,e7⟩:=hins.val;replace e7:=(Bw4.out.cell (p:=⟨g2,o2+i * 8+7,none⟩) hins.1).trans e7;rw [hat] at e7;clear hins cu hat;have cu:=(Bw4.out.cell (p:=⟨g,o+k,none⟩) hgl).trans cu0.out;have HE:Hid (Below w.heap.size w ((w4.setCell ⟨w.heap.size+2,0,none⟩ (.int .i64 cv)).setCell ⟨w.heap.size+2,1,none⟩ (.int .i64 at_))):=ae (((Bw4.out.setCell (p:=⟨w.heap.size+2,0,none⟩) (Nat.le_add_right _ 2) _).setCell (p:=⟨w.heap.size+2,1,none⟩) (Nat.le_add_right _ 2) _));go_wp2_with fail
        exact bodyPost_ret (v:= .agg #[.int .i64 cv,.int .i64 at_]) (by simp [results,Tryz.results39,go_sem,z0,z1]) rfl ⟨by rw [HR.out],HE.out⟩
      ·have hilI:¬(i:Int) < (ah f k).length:=(by omega);have HF2:Hid (∀j,j < k+1→cJ (fun i=>atC (dR f j i src) (ay f j i).2.2.2.2.2.2.2) (ah f j).length=none):=ae (fun j hj=>by
        by_cases e:j=k
        ·subst e;exact cz (fun i' hi'=>HG.out i' (by omega))
        ·exact HF.out j (by omega))
       go_wp2_with fail
       go_roundw
       case rel=>exact⟨k+1,by omega,by go_num,HF2,HW⟩
       case measure=>simp [intOf];omega
    ·obtain rfl:k=lbs:=(by omega);have HVn:Hid (gS f src=none):=ae (by rw [HVs.out];exact cz HF.out);have HFe4:Hid (r=(jZ p f).getD (0,0)):=ae (by rw [HFe3.out,HVn.out]);obtain⟨lbs,hll⟩:∃lbs,lbs=k:=⟨_,rfl⟩;have hGr:=mh hTos h0;have CT:=ae (wR f _ wr (HV.out.below (af B0.out HW.out)) hFul hGr);clear HVn HFe3 HF hkt hk;go_wp2_with fail
     refine CT.out.mono ?_;rintro e w5 ⟨tv,rfl,htv,b5⟩;have HTb:=ae htv;have BW5:=ae (af HW.out b5);clear CT htv b5 x0 x1 x2 x3 x4 HW;subst hll;go_wp2_with fail
     go_loopw [12] (fun kv wr=>∃k:Nat,k≤lbs∧kv= .int .i64 k∧Hid (∀j,j < k→cJ (fun i=>atC (fA p f j i) (ay f j i).2.2.2.2.2.2.2) (ah f j).length=none)∧Hid (Below W.heap.size W wr)∧Hid (Below w5.heap.size w5 wr)) (fun kv _=>lbs - (intOf kv).toNat)
     case atStart=>exact⟨0,Nat.zero_le _,rfl,ae (fun j h=>absurd h (Nat.not_lt_zero _)),BW5,ae (Below.refl _ _)⟩
     case round=>
      clear BW5;obtain⟨k,hk,rfl,HF,HW,HU⟩:=hrel;obtain⟨x0,x1,x2,x3,x4⟩:_∧_∧_∧_∧_:=⟨(X0.out.below HW.out).2 0 _ rfl,(X0.out.below HW.out).2 1 _ rfl,(X0.out.below HW.out).2 2 _ rfl,(X0.out.below HW.out).2 3 _ rfl,(X0.out.below HW.out).2 4 _ rfl⟩;by_cases hkt:k < lbs
      ·have hkI:(k:Int) < lbs:=(by omega);have hkf:k < f.2.2.2.1.length:=(by have:=hlbs.out;omega);have hbn:=HB.out k;have HW0:=ae HW.out;have HU0:=ae HU.out;go_wp2_with fail
       clear x0 x1 x2 x3 x4;go_loopw [13] (fun iv wr=>∃i:Nat,i≤(ah f k).length∧iv= .int .i64 i∧Hid (∀j,j < i→atC (fA p f k j) (ay f k j).2.2.2.2.2.2.2=none)∧Hid (Below W.heap.size W wr)∧Hid (Below w5.heap.size w5 wr)) (fun iv _=>(ah f k).length - (intOf iv).toNat)
       case atStart=>exact⟨0,Nat.zero_le _,rfl,ae (fun j h=>absurd h (Nat.not_lt_zero _)),ae HW0.out,ae HU0.out⟩
       case round=>
        clear HW HW0 HU HU0;obtain⟨i,hi,rfl,HG,HW,HU⟩:=hrel;have Bw:=ae (af B0.out HW.out);obtain⟨g,o,ao,c,rfl,hgl,cu0,hblk⟩:=HRd.out k hkt;replace cu0:=ae cu0;by_cases hil:i < (ah f k).length
        ·have hilI:(i:Int) < (ah f k).length:=(by omega);obtain⟨g2,o2,rfl,hins⟩:=ef hblk hil;obtain⟨xo,zo,xc,zc,hxv,e0,e1,e2,e3,e4,e5,e6,e7⟩:=hins.val;have hg2:=hins.1;have HXv:=ae hxv;have HKp:=ae (hK.2 k i hkf hil);have HTk:=ae (fun n w' (b:Below W.heap.size W w') (b5:Below w5.heap.size w5 w') (hn:n < (ay f k i).2.2.2.2.1.length) (h0:dy p f (ay f k i)=0)=>CTk.out k i n _ w' (af B0.out b) hGr (HTb.out.below b5) hkt hil hn (HKp.out h0 n hn).1 (HKp.out h0 n hn).2);have HLk:Hid (fA p f k i=if dy p f (ay f k i)≠0 then dy p f (ay f k i)else(cJ (vA p f k i) (ay f k i).2.2.2.2.1.length).getD 0):=ae rfl;have HTn:Hid (∀n,vA p f k i n=if fu p f k i n≠0 then some (fu p f k i n)else none):=ae (fun _=>rfl);have hxn:(ay f k i).2.2.2.2.1.length≤maxLen:=by
          obtain⟨a1,a2,a3,a4,e,_,_,h3,h4,_⟩:=hxv;exact Nat.le_trans h3 h4
         unfold maxLen at hxn;obtain⟨x,hx⟩:∃x,ay f k i=x:=⟨_,rfl⟩;rw [hx] at e0 e1 e2 e3 e4 e5 e6 e7 HXv HTk HLk hxn;have hBz:=fun z=>L5.aE wr z;have hBwz:=fun z=>af Bw.out (hBz z);have HH:=ae (fun z=>CHd.out x _ (L5.bz wr z) (hBwz z) (HXv.out.below (hBwz z)));have c0:=fun z=>((af HW.out (hBz z)).cell (p:=⟨w.heap.size,0,none⟩) hq0).trans (bF H1.out).1;have x0:=fun z=>(X0.out.below (af HW.out (hBz z))).2 0 _ rfl;have x1:=fun z=>(X0.out.below (af HW.out (hBz z))).2 1 _ rfl;have x2:=fun z=>(X0.out.below (af HW.out (hBz z))).2 2 _ rfl;have x3:=fun z=>(X0.out.below (af HW.out (hBz z))).2 3 _ rfl;have x4:=fun z=>(X0.out.below (af HW.out (hBz z))).2 4 _ rfl;have cu:=fun z=>((hBwz z).cell (p:=⟨g,o+k,none⟩) hgl).trans cu0.out;have d0:=fun z=>((hBwz z).cell (p:=⟨g2,o2+i * 8,none⟩) hg2).trans e0;have d1:=fun z=>((hBwz z).cell (p:=⟨g2,o2+i * 8+1,none⟩) hg2).trans e1;have d2:=fun z=>((hBwz z).cell (p:=⟨g2,o2+i * 8+2,none⟩) hg2).trans e2;have d3:=fun z=>((hBwz z).cell (p:=⟨g2,o2+i * 8+3,none⟩) hg2).trans e3;have d4:=fun z=>((hBwz z).cell (p:=⟨g2,o2+i * 8+4,none⟩) hg2).trans e4;have d5:=fun z=>((hBwz z).cell (p:=⟨g2,o2+i * 8+5,none⟩) hg2).trans e5;have d6:=fun z=>((hBwz z).cell (p:=⟨g2,o2+i * 8+6,none⟩) hg2).trans e6;have d7:=fun z=>((hBwz z).cell (p:=⟨g2,o2+i * 8+7,none⟩) hg2).trans e7;have E4:=ae e4;have E7:=ae e7;have hX3:=(X0.out.below HW.out).2 3 _ rfl;have hCu:=(Bw.out.cell (p:=⟨g,o+k,none⟩) hgl).trans cu0.out;have HBz:=ae hBz;clear e0 e1 e2 e3 e4 e5 e6 e7 hins hxv hBwz hBz HKp;obtain⟨hd,hhd⟩:∃hd,dy p f x=hd:=⟨_,rfl⟩;rw [hhd] at HH HLk HTk;go_wp2_with fail
         refine L5.aM (by kernel_rfl) (by kernel_rfl) ?_;repeat (go_big_quiet_step ((go_at_call 59;exact L5.cY (HH.out _))))
         refine wpQuiet_nil ?_;rintro _ ⟨z,rfl⟩;have HW6:=ae (af HW.out (HBz.out z));have HU6:=ae (af HU.out (HBz.out z));clear c0 x0 x1 x2 x3 x4 cu d0 d1 d2 d3 d4 d5 d6 d7 HH HBz hX3 hCu HW HU Bw;generalize L5.bz wr z=w6 at *;go_wp2_with fail
         have HSt:Hid ((hd=0∧hd=0∧∀j,j < 0→fu p f k i j=0)∨(hd≠0∧hd=fA p f k i)):=ae (by
          by_cases h0:hd=0
          ·exact .inl ⟨h0,h0,fun j h=>absurd h (Nat.not_lt_zero _)⟩
          ·exact .inr ⟨h0,by rw [HLk.out,if_pos h0]⟩)
         have HAt:Hid (atC (fA p f k i) (ay f k i).2.2.2.2.2.2.2=if fA p f k i≠0 then some (fA p f k i,(ay f k i).2.2.2.2.2.2.2)else none):=ae rfl;rw [hx] at HAt;have HX:=ae hx;clear hx hhd;obtain⟨an,han⟩:∃an,x.2.2.2.2.1.length=an:=⟨_,rfl⟩;rw [han] at HLk HTk E4 hxn;have HAn:=ae han;clear han;go_loopw [14,15] (fun cv nv wr=>∃(cc:Int) (n:Nat),n≤an∧cv= .int .i64 cc∧nv= .int .i64 n∧Hid ((cc=0∧hd=0∧∀j,j < n→fu p f k i j=0)∨(cc≠0∧cc=fA p f k i))∧Hid (Below W.heap.size W wr)∧Hid (Below w5.heap.size w5 wr)) (fun _ nv _=>an - (intOf nv).toNat)
         case atStart=>exact⟨hd,0,Nat.zero_le _,rfl,rfl,HSt,HW6,HU6⟩
         case round=>
          clear HSt HW6 HU6;obtain⟨cc,n,hna,rfl,rfl,HSt,HW,HU⟩:=hrel;have Bw:=ae (af B0.out HW.out);have c0:=(HW.out.cell (p:=⟨w.heap.size,0,none⟩) hq0).trans (bF H1.out).1;obtain⟨x0,x1,x2,x3,x4⟩:_∧_∧_∧_∧_:=⟨(X0.out.below HW.out).2 0 _ rfl,(X0.out.below HW.out).2 1 _ rfl,(X0.out.below HW.out).2 2 _ rfl,(X0.out.below HW.out).2 3 _ rfl,(X0.out.below HW.out).2 4 _ rfl⟩;have cu:=(Bw.out.cell (p:=⟨g,o+k,none⟩) hgl).trans cu0.out;have e4:=(Bw.out.cell (p:=⟨g2,o2+i * 8+4,none⟩) hg2).trans E4.out;have e7:=(Bw.out.cell (p:=⟨g2,o2+i * 8+7,none⟩) hg2).trans E7.out;rcases HSt.out with ⟨hc0,hh0,hall⟩ | ⟨hc0,hlk⟩
          ·subst hc0;have HAll:=ae hall;clear hall HSt;by_cases hnt:n < an
           ·have hnI:(n:Int) < an:=(by omega);have CT:=ae (HTk.out n wr HW.out HU.out hnt hh0);obtain⟨tc,htc⟩:∃tc,fu p f k i n=tc:=⟨_,rfl⟩;rw [htc] at CT;have HSt2:Hid ((tc=0∧hd=0∧∀j,j < n+1→fu p f k i j=0)∨(tc≠0∧tc=fA p f k i)):=ae (by
             by_cases h0:tc=0
             ·refine .inl ⟨h0,hh0,fun j hj=> ?_⟩;by_cases e:j=n
              ·rw [e,htc,h0]
              ·exact HAll.out j (by omega)
             ·refine .inr ⟨h0,?_⟩;rw [HLk.out,hh0];have:cJ (vA p f k i) an=some tc:=dk (K:=n) (fun j hj=>by rw [HTn.out,HAll.out j hj];simp) hnt (by rw [HTn.out,htc,if_pos h0]);rw [this];rfl)
            clear htc hh0;go_wp2_with fail
            refine CT.out.mono ?_;rintro e w7 ⟨rfl,b7⟩;have HW7:=ae (af HW.out b7);have HU7:=ae (af HU.out b7);clear CT b7 c0 x0 x1 x2 x3 x4 cu e4 e7;go_wp2_with fail
            go_roundw
            case rel=>exact⟨tc,n+1,by omega,rfl,by go_num,HSt2,HW7,HU7⟩
            case measure=>simp [intOf];omega
           ·have hnI:¬(n:Int) < an:=(by omega);have HG2:Hid (∀j,j < i+1→atC (fA p f k j) (ay f k j).2.2.2.2.2.2.2=none):=ae (fun j hj=>by
             by_cases e:j=i
             ·subst e;have hl0:fA p f k j=0:=by
               rw [HLk.out,hh0];have:cJ (vA p f k j) an=none:=cz (fun j' hj'=>by rw [HTn.out,HAll.out j' (by omega)];simp);rw [this];rfl
              rw [HX.out,HAt.out,hl0];simp
             ·exact HG.out j (by omega))
            clear hh0;go_wp2_with fail
            go_roundw
            case rel=>exact⟨i+1,by omega,by go_num,HG2,HW,HU⟩
            case measure=>simp [intOf];omega
          ·have hcb:(cc == 0)=false:=beq_eq_false_iff_ne.2 hc0;obtain⟨at_,hat⟩:∃at_,x.2.2.2.2.2.2.2=at_:=⟨_,rfl⟩;have HR:Hid (r=(cc,at_)):=ae (by
            rw [HFe4.out];have:jZ p f=some (cc,at_):=by
             rw [HLs.out];refine dk (K:=k) HF.out hkt (dk (K:=i) HG.out hil ?_);rw [HX.out,HAt.out,←hlk,if_pos hc0,hat]
            rw [this];rfl)
           rw [hat] at e7;obtain⟨⟨z0,z1⟩,⟨f0,f1⟩,_⟩:=dr ((HW.out.block _ hz2).trans H3.out);clear hat hlk HSt;by_cases hnt:n < an
           ·have hnI:(n:Int) < an:=(by omega);have HE:Hid (Below w.heap.size w ((wr.setCell ⟨w.heap.size+2,0,none⟩ (.int .i64 cc)).setCell ⟨w.heap.size+2,1,none⟩ (.int .i64 at_))):=ae (((Bw.out.setCell (p:=⟨w.heap.size+2,0,none⟩) (Nat.le_add_right _ 2) _).setCell (p:=⟨w.heap.size+2,1,none⟩) (Nat.le_add_right _ 2) _));go_wp2_with fail
            exact bodyPost_ret (v:= .agg #[.int .i64 cc,.int .i64 at_]) (by simp [results,Tryz.results39,go_sem,z0,z1]) rfl ⟨by rw [HR.out],HE.out⟩
           ·have hnI:¬(n:Int) < an:=(by omega);have HE:Hid (Below w.heap.size w ((wr.setCell ⟨w.heap.size+2,0,none⟩ (.int .i64 cc)).setCell ⟨w.heap.size+2,1,none⟩ (.int .i64 at_))):=ae (((Bw.out.setCell (p:=⟨w.heap.size+2,0,none⟩) (Nat.le_add_right _ 2) _).setCell (p:=⟨w.heap.size+2,1,none⟩) (Nat.le_add_right _ 2) _));go_wp2_with fail
            exact bodyPost_ret (v:= .agg #[.int .i64 cc,.int .i64 at_]) (by simp [results,Tryz.results39,go_sem,z0,z1]) rfl ⟨by rw [HR.out],HE.out⟩
        ·have hilI:¬(i:Int) < (ah f k).length:=(by omega);have HF2:Hid (∀j,j < k+1→cJ (fun i=>atC (fA p f j i) (ay f j i).2.2.2.2.2.2.2) (ah f j).length=none):=ae (fun j hj=>by
          by_cases e:j=k
          ·subst e;exact cz (fun i' hi'=>HG.out i' (by omega))
          ·exact HF.out j (by omega))
         obtain⟨x0,x1,x2,x3,x4⟩:_∧_∧_∧_∧_:=⟨(X0.out.below HW.out).2 0 _ rfl,(X0.out.below HW.out).2 1 _ rfl,(X0.out.below HW.out).2 2 _ rfl,(X0.out.below HW.out).2 3 _ rfl,(X0.out.below HW.out).2 4 _ rfl⟩;have cu:=(Bw.out.cell (p:=⟨g,o+k,none⟩) hgl).trans cu0.out;go_wp2_with fail
         go_roundw
         case rel=>exact⟨k+1,by omega,by go_num,HF2,HW,HU⟩
         case measure=>simp [intOf];omega
      ·obtain rfl:k=lbs:=(by omega);have HR:Hid (r=(0,0)):=ae (by rw [HFe4.out,HLs.out,cz HF.out];rfl);have Bw:=ae (af B0.out HW.out);obtain⟨⟨z0,z1⟩,⟨f0,f1⟩,_⟩:=dr ((HW.out.block _ hz2).trans H3.out);have HE:Hid (Below w.heap.size w ((wr.setCell ⟨w.heap.size+2,0,none⟩ (.int .i64 0)).setCell ⟨w.heap.size+2,1,none⟩ (.int .i64 0))):=ae (((Bw.out.setCell (p:=⟨w.heap.size+2,0,none⟩) (Nat.le_add_right _ 2) _).setCell (p:=⟨w.heap.size+2,1,none⟩) (Nat.le_add_right _ 2) _));go_wp2_with fail
       exact bodyPost_ret (v:= .agg #[.int .i64 0,.int .i64 0]) (by simp [results,Tryz.results39,go_sem,z0,z1]) rfl ⟨by rw [HR.out],HE.out⟩
 ·have hsb:((aU f).1 == 0)=false:=beq_eq_false_iff_ne.2 hsh;have HR:Hid (r=((aU f).1,pl)):=ae (by rw [HFe.out,if_pos hsh]);have HE:Hid (Below w.heap.size w ((w2.setCell ⟨w.heap.size+2,0,none⟩ (.int .i64 (aU f).1)).setCell ⟨w.heap.size+2,1,none⟩ (.int .i64 pl))):=ae ((((af B0.out BW2.out).setCell (p:=⟨w.heap.size+2,0,none⟩) (Nat.le_add_right _ 2) _).setCell (p:=⟨w.heap.size+2,1,none⟩) (Nat.le_add_right _ 2) _));go_wp2_with fail
  exact bodyPost_ret (v:= .agg #[.int .i64 (aU f).1,.int .i64 pl]) (by simp [results,Tryz.results39,go_sem,z0,z1]) rfl ⟨by rw [HR.out],HE.out⟩
open Mix (Up)
theorem EN:∀(p:List Fun) (i m:Nat),(aW i m p).1≠0→∃j:Nat,(aW i m p).2=j∧i≤j∧j < i+p.length:=by
 intro p;induction p with
 |nil=>intro i m h;simp [aW] at h
 |cons f r ih=>
  intro i m h;by_cases hi:i=32
  ·subst hi;exact⟨32,by rw [kO],Nat.le_refl _,by simp⟩
  ·by_cases hh:dN f≠0
   ·exact⟨i,by rw [kP m r hi hh],Nat.le_refl _,by simp⟩
   ·have hh':dN f=0:=(by simpa using hh);by_cases hb:(gy m f.2.2.2.1).2≠0
    ·exact⟨i,by rw [oz r hi hh' hb],Nat.le_refl _,by simp⟩
    ·have hb':(gy m f.2.2.2.1).2=0:=(by simpa using hb);rw [oW r hi hh' hb'] at h ⊢;obtain⟨j,h1,h2,h3⟩:=ih (i+1) _ h;exact⟨j,h1,by omega,by simp;omega⟩
def Cw (B:Nat) (w:World) (v:Value):Prop:=∃b,v= .pointer (some ⟨b,0,none⟩)∧B≤b∧w.heap[b]? =some (.cells #[.int .i64 0,.int .i64 0] 55 (0,0))
theorem Cw.below {B:Nat} {w w':World} {v:Value} (h:Cw B w v) (b:Below w.heap.size w w'):Cw B w' v:=by
 obtain⟨q,e,hb,hq⟩:=h;exact⟨q,e,hb,(b.block q (Array.getElem?_eq_some_iff.1 hq).1).trans hq⟩
def Up.LL (B:Nat):Up:=⟨fun v w=>Cw B w v,fun _ _ _ b h=>h.below b⟩
def Kh (pv fv ev sv:Value) (q g o i B:Nat) (src:Bool) (t:Tmp):Up:=match t with
 |37=>Up.eq pv
 |38=>Up.eq (.pointer (some ⟨q,0,none⟩))
 |39=>Up.eq sv
 |40=>Up.eq (.int .i64 i)
 |41=>Up.eq (.pointer (some ⟨g,o+i * 5,none⟩))
 |42=>Up.eq fv
 |43=>Up.eq (.bool src)
 |44=>Up.eq ev
 |8=>Up.LL B
 |_=>Up.any
theorem tz (p:List Fun) (src:Bool) (po:Option Addr) (pc:Nat) (w:World) (hp:eg w p (.slice po p.length pc)) (hl:p.length≤1000000) (hO:∀f∈p,OkF f) (hM:∀f∈p,Mod f∧f.2.1.length≤1000000) (hK:(aW 0 0 p).1=0→∀f∈p,Kept p f):
  Calls Tryz.prog 24 #[.agg #[.slice po p.length pc],.bool src] w fun e w'=>e= .returned (.agg #[.int .i64 (iN p src).1,.int .i64 (iN p src).2])∧Below w.heap.size w w':=by
 have HCp:Hid (iN p src=if(aW 0 0 p).1≠0 then((aW 0 0 p).1,(bh p (aW 0 0 p).2.toNat).2.2.2.2)else if(fG p).1≠0 then fG p else(cJ (kE p src) p.length).getD (0,0)):=ae rfl;have HFo:Hid (∀i,kE p src i=if(jl p (bh p i) src).1≠0 then some (jl p (bh p i) src)else none):=ae (fun _=>rfl);have CW:=ae (fun w' (b:Below w.heap.size w w')=>xf p po pc w' (hp.below b) hO);have CN:=ae (fun w' (b:Below w.heap.size w w')=>vF p po pc w' (hp.below b) hl (fun f hf=>(hM f hf).2));have CFn:=ae (fun i (hi:i < p.length) (h0:(aW 0 0 p).1=0) fv w' (b:Below w.heap.size w w') (hv:bG w' (bh p i) fv)=>AR p (bh p i) src po pc fv w' (hp.below b) hl hv (hM _ (List.mem_of_getElem? (kb hi))).1 (hK h0 _ (List.mem_of_getElem? (kb hi))));have HRd:Hid (∀i,i < p.length→∃g o,po=some ⟨g,o,none⟩∧om w (bh p i) g (o+i * 5)):=ae (fun i hi=>gC hp hi);have HWa:=ae (EN p 0 0);clear hp hO hM hK;obtain⟨r,hr⟩:∃r,iN p src=r:=⟨_,rfl⟩;rw [hr] at HCp ⊢;clear hr;generalize hpn:p.length=pn at *;have b1:=ag w (.cells #[.slice po pn pc] 24);have h1:=heap_alloc_new w (.cells #[.slice po pn pc] 24);have b2:=ag (w.alloc (.cells #[.slice po pn pc] 24)) (.cells #[.int .i64 0,.int .i64 0] 55);have hs1:(w.alloc (.cells #[.slice po pn pc] 24)).heap.size=w.heap.size+1:=by simp
 have h2:=heap_alloc_new (w.alloc (.cells #[.slice po pn pc] 24)) (.cells #[.int .i64 0,.int .i64 0] 55);rw [hs1] at h2;have H1:=ae ((b2.block w.heap.size (by simp)).trans h1);have H3:=ae h2;have B0:=ae (af b1 b2);clear b1 h1 b2 hs1 h2;replace hpn:=ae hpn;go_enter Tryz.func24,Tryz.ntmps24
 go_upto_region 1 with fail
 show Code.wp _ _ _ _ ((w.alloc (.cells #[.slice po pn pc] 24)).alloc (.cells #[.int .i64 0,.int .i64 0] 55));generalize (w.alloc (.cells #[.slice po pn pc] 24)).alloc (.cells #[.int .i64 0,.int .i64 0] 55)=W at *;have hz2:=(dr H3.out).2.2;have hq0:w.heap.size < W.heap.size:=(bF H1.out).2;have c0:=(bF H1.out).1;have C1:=ae (CW.out W B0.out);go_wp2_with fail
 refine C1.out.mono ?_;rintro e w1 ⟨rfl,b1⟩;obtain⟨wc,hwc⟩:∃wc,aW 0 0 p=wc:=⟨_,rfl⟩;rw [hwc] at HCp HWa CFn ⊢;have b2:=ag w1 (.cells #[.int .i64 wc.1,.int .i64 wc.2] 55);have HS:=ae (heap_alloc_new w1 (.cells #[.int .i64 wc.1,.int .i64 wc.2] 55));have BW2:=ae (af b1 b2);clear C1 CW b1 b2 c0 hwc;go_upto_region 2 with fail
 show Code.wp _ _ _ _ (w1.alloc (.cells #[.int .i64 wc.1,.int .i64 wc.2] 55));generalize w1.alloc (.cells #[.int .i64 wc.1,.int .i64 wc.2] 55)=w2 at *;generalize w1.heap.size=q1 at *;obtain⟨⟨z0,z1⟩,⟨f0,f1⟩,_⟩:=dr ((BW2.out.block _ hz2).trans H3.out);obtain⟨⟨s0,s1⟩,_,hsl⟩:=dr HS.out;have c0:=(BW2.out.cell (p:=⟨w.heap.size,0,none⟩) hq0).trans (bF H1.out).1;by_cases hw0:wc.1=0
 ·have HCp2:Hid (r=if(fG p).1≠0 then fG p else(cJ (kE p src) pn).getD (0,0)):=ae (by rw [HCp.out,if_neg (by simpa using hw0)]);rw [hw0] at s0;have C2:=ae (CN.out w2 (af B0.out BW2.out));obtain⟨nc,hnc⟩:∃nc,fG p=nc:=⟨_,rfl⟩;rw [hnc] at C2 HCp2;clear HCp CN HWa hnc;go_wp2_with fail
  refine C2.out.mono ?_;rintro e w3 ⟨rfl,b3⟩;have b4:=ag w3 (.cells #[.int .i64 nc.1,.int .i64 nc.2] 55);have HS2:=ae (heap_alloc_new w3 (.cells #[.int .i64 nc.1,.int .i64 nc.2] 55));have BW4:=ae (af BW2.out (af b3 b4));clear C2 b3 b4 c0 s0 s1 z0 z1 f0 f1 hsl HS BW2;go_upto_region 5 with fail
  show Code.wp _ _ _ _ (w3.alloc (.cells #[.int .i64 nc.1,.int .i64 nc.2] 55));generalize w3.alloc (.cells #[.int .i64 nc.1,.int .i64 nc.2] 55)=w4 at *;generalize w3.heap.size=q3 at *;obtain⟨⟨z0,z1⟩,⟨f0,f1⟩,_⟩:=dr ((BW4.out.block _ hz2).trans H3.out);obtain⟨⟨s0,s1⟩,_,hsl⟩:=dr HS2.out;by_cases hn0:nc.1=0
  ·rw [hn0] at s0;have HCp3:Hid (r=(cJ (kE p src) pn).getD (0,0)):=ae (by rw [HCp2.out,if_neg (by simpa using hn0)]);clear HCp2;go_wp2_with fail
   clear s0 s1 z0 z1 f0 f1 hsl;go_loopw [7] (fun iv wr=>∃i:Nat,i≤pn∧iv= .int .i64 i∧Hid (∀j,j < i→kE p src j=none)∧Hid (Below W.heap.size W wr)) (fun iv _=>pn - (intOf iv).toNat)
   case atStart=>exact⟨0,Nat.zero_le _,rfl,ae (fun j h=>absurd h (Nat.not_lt_zero _)),BW4⟩
   case round=>
    clear BW4;obtain⟨i,hi,rfl,HF,HW⟩:=hrel;have c0:=(HW.out.cell (p:=⟨w.heap.size,0,none⟩) hq0).trans (bF H1.out).1;by_cases hit:i < pn
    ·have hiI:(i:Int) < pn:=(by omega);obtain⟨g,o,rfl,hfr⟩:=HRd.out i hit;obtain⟨ha,hb,hc,hdd,hfv,d0,d1,d2,d3,d4⟩:=hfr.val;have hgl:=hfr.1;have Bw:=ae (af B0.out HW.out);have CF:=ae (fun w' (b:Below wr.heap.size wr w')=>CFn.out i hit hw0 _ w' (af Bw.out b) (hfv.below (af Bw.out b)));have HFi:=ae (HFo.out i);obtain⟨e0,he0⟩:∃e0,jl p (bh p i) src=e0:=⟨_,rfl⟩;rw [he0] at CF HFi;obtain⟨fx,hh⟩:∃fx,bh p i=fx:=⟨_,rfl⟩;rw [hh] at d0 d1 d2 d3 d4 CF;have cs:=fun(w':World) (b:Below wr.heap.size wr w')=>((af HW.out b).cell (p:=⟨w.heap.size,0,none⟩) hq0).trans (bF H1.out).1;have ds:=fun(w':World) (b:Below wr.heap.size wr w')=>And.intro (((af Bw.out b).cell (p:=⟨g,o+i * 5,none⟩) hgl).trans d0) (And.intro (((af Bw.out b).cell (p:=⟨g,o+i * 5+1,none⟩) hgl).trans d1) (And.intro (((af Bw.out b).cell (p:=⟨g,o+i * 5+2,none⟩) hgl).trans d2) (And.intro (((af Bw.out b).cell (p:=⟨g,o+i * 5+3,none⟩) hgl).trans d3) (((af Bw.out b).cell (p:=⟨g,o+i * 5+4,none⟩) hgl).trans d4))));clear hfv hfr d0 d1 d2 d3 d4 he0 hh;go_upto_region 10 with fail
     clear c0;refine Mix.jN (Kh (.agg #[.slice (some ⟨g,o,none⟩) pn pc]) (.agg #[.string (bs fx.1),.slice ha fx.2.1.length hc,.int .i64 fx.2.2.1,.slice hb fx.2.2.2.1.length hdd,.int .i64 fx.2.2.2.2]) (.agg #[.int .i64 e0.1,.int .i64 e0.2]) (.slice (some ⟨g,o,none⟩) pn pc) w.heap.size g o i wr.heap.size src) 9 _ rfl rfl (by kernel_rfl) (by kernel_rfl) (by kernel_rfl) ?_;refine Mix.aj rfl (al (.agg #[.slice (some ⟨g,o,none⟩) pn pc]) rfl) ?_ ?_
     ·intro w b k;have c0:=cs w b;clear k;simp [go_sem,c0];exact⟨Below.refl _ _,fun d hd=>by cases hd;rfl⟩
     rintro v ⟨_,_,h⟩;obtain rfl:v=(.agg #[.slice (some ⟨g,o,none⟩) pn pc]):=h _ rfl;clear h;simp only [Act.put,sU1,sU2,sU3];refine Mix.aj rfl (al (.pointer (some ⟨w.heap.size,0,none⟩)) rfl) ?_ ?_
     ·intro w b k;clear k;simp [go_sem];exact⟨Below.refl _ _,fun d hd=>by cases hd;rfl⟩
     rintro v ⟨_,_,h⟩;obtain rfl:v=(.pointer (some ⟨w.heap.size,0,none⟩)):=h _ rfl;clear h;simp only [Act.put,sU1,sU2,sU3];refine Mix.aj rfl (al (.slice (some ⟨g,o,none⟩) pn pc) rfl) ?_ ?_
     ·intro w b k;have c0:=cs w b;clear k;simp [go_sem,c0];exact⟨Below.refl _ _,fun d hd=>by cases hd;rfl⟩
     rintro v ⟨_,_,h⟩;obtain rfl:v=(.slice (some ⟨g,o,none⟩) pn pc):=h _ rfl;clear h;simp only [Act.put,sU1,sU2,sU3];refine Mix.aj rfl (al (.int .i64 i) rfl) ?_ ?_
     ·intro w b k;clear k;simp [go_sem];exact⟨Below.refl _ _,fun d hd=>by cases hd;rfl⟩
     rintro v ⟨_,_,h⟩;obtain rfl:v=(.int .i64 i):=h _ rfl;clear h;simp only [Act.put,sU1,sU2,sU3];refine Mix.aj rfl (al (.pointer (some ⟨g,o+i * 5,none⟩)) rfl) ?_ ?_
     ·intro w b k;clear k;simp [go_sem,hiI];exact⟨Below.refl _ _,fun d hd=>by cases hd;rfl⟩
     rintro v ⟨_,_,h⟩;obtain rfl:v=(.pointer (some ⟨g,o+i * 5,none⟩)):=h _ rfl;clear h;simp only [Act.put,sU1,sU2,sU3];refine Mix.aj rfl (al (.agg #[.string (bs fx.1),.slice ha fx.2.1.length hc,.int .i64 fx.2.2.1,.slice hb fx.2.2.2.1.length hdd,.int .i64 fx.2.2.2.2]) rfl) ?_ ?_
     ·intro w b k;obtain⟨d0,d1,d2,d3,d4⟩:=ds w b;clear k;simp [go_sem,d0,d1,d2,d3,d4];exact⟨Below.refl _ _,fun d hd=>by cases hd;rfl⟩
     rintro v ⟨_,_,h⟩;obtain rfl:v=(.agg #[.string (bs fx.1),.slice ha fx.2.1.length hc,.int .i64 fx.2.2.1,.slice hb fx.2.2.2.1.length hdd,.int .i64 fx.2.2.2.2]):=h _ rfl;clear h;simp only [Act.put,sU1,sU2,sU3];refine Mix.aj rfl (al (.bool src) rfl) ?_ ?_
     ·intro w b k;clear k;simp [go_sem];exact⟨Below.refl _ _,fun d hd=>by cases hd;rfl⟩
     rintro v ⟨_,_,h⟩;obtain rfl:v=(.bool src):=h _ rfl;clear h;simp only [Act.put,sU1,sU2,sU3];refine Mix.aj rfl (al (.agg #[.int .i64 e0.1,.int .i64 e0.2]) rfl) ?_ ?_
     ·intro w b k;clear k;simp [go_sem];exact Calls.mono (CF.out w b) fun e w' ⟨he,hb⟩=>⟨_,he,hb,fun d hd=>by cases hd;rfl⟩
     rintro v ⟨_,_,h⟩;obtain rfl:v=(.agg #[.int .i64 e0.1,.int .i64 e0.2]):=h _ rfl;clear h;simp only [Act.put,sU1,sU2,sU3];refine Mix.aj rfl ⟨.pointer (some ⟨wr.heap.size,0,none⟩),_,ag wr (.cells #[.int .i64 0,.int .i64 0] 55),fun d hd=>by cases hd;exact⟨_,rfl,Nat.le_refl _,heap_alloc_new _ _⟩⟩ ?_ ?_
     ·intro w b k;clear k;simp [go_sem];exact⟨ag _ _,fun d hd=>by cases hd;exact⟨_,rfl,b.size,heap_alloc_new _ _⟩⟩
     rintro p8 -;simp only [Act.put,sU1,sU2,sU3];refine Mix.fQ ?_;intro w4 b4 hk;obtain⟨q4,rfl,hqB,hq4⟩:Cw wr.heap.size w4 p8:=hk 8 (by simp [Mix.add]) p8 rfl;clear hk;refine⟨rfl,fun K hK=> ?_⟩;obtain⟨⟨z0,z1⟩,⟨f0,f1⟩,_⟩:=dr hq4;unfold Oper.wp;simp [go_sem,z0,z1,f0,f1];refine hK _ _ ?_;have HZ5:Hid (((w4.setCell ⟨q4,0,none⟩ (.int .i64 e0.1)).setCell ⟨q4,1,none⟩ (.int .i64 e0.2)).heap[q4]? =some (.cells #[.int .i64 e0.1,.int .i64 e0.2] 55 (0,0))):=ae (by
      rw [heap_setCell_same _ q4 1 _ 55 _ ((heap_setCell_same w4 q4 0 _ 55 _ hq4).trans rfl)];rfl)
     have B5:Hid (Below wr.heap.size wr ((w4.setCell ⟨q4,0,none⟩ (.int .i64 e0.1)).setCell ⟨q4,1,none⟩ (.int .i64 e0.2))):=ae ((b4.setCell (p:=⟨q4,0,none⟩) hqB _).setCell (p:=⟨q4,1,none⟩) hqB _);generalize ((w4.setCell ⟨q4,0,none⟩ (.int .i64 e0.1)).setCell ⟨q4,1,none⟩ (.int .i64 e0.2))=w5 at *;clear hK z0 z1 f0 f1 hq4 b4 cs ds CF;have HW5:=ae (af HW.out B5.out);obtain⟨⟨s0,s1⟩,_,_⟩:=dr HZ5.out;by_cases he0:e0.1=0
     ·have HF2:Hid (∀j,j < i+1→kE p src j=none):=ae (fun j hj=>by
       by_cases e:j=i
       ·rw [e,HFi.out,he0];simp
       ·exact HF.out j (by omega))
      rw [he0] at s0;clear he0;go_wp2_with fail
      go_roundw
      case rel=>exact⟨i+1,by omega,by go_num,HF2,HW5⟩
      case measure=>simp [intOf];omega
     ·have heb:(e0.1 == 0)=false:=beq_eq_false_iff_ne.2 he0;have HR:Hid (r=e0):=ae (by
       rw [HCp3.out,dk (K:=i) HF.out hit (by rw [HFi.out,if_pos he0])];rfl)
      obtain⟨⟨z0,z1⟩,⟨f0,f1⟩,_⟩:=dr ((HW5.out.block _ hz2).trans H3.out);have HE:Hid (Below w.heap.size w ((w5.setCell ⟨w.heap.size+1,0,none⟩ (.int .i64 e0.1)).setCell ⟨w.heap.size+1,1,none⟩ (.int .i64 e0.2))):=ae ((((af B0.out HW5.out).setCell (p:=⟨w.heap.size+1,0,none⟩) (Nat.le_succ _) _).setCell (p:=⟨w.heap.size+1,1,none⟩) (Nat.le_succ _) _));go_wp2_with fail
      exact bodyPost_ret (v:= .agg #[.int .i64 e0.1,.int .i64 e0.2]) (by simp [results,Tryz.results24,go_sem,z0,z1]) rfl ⟨by rw [HR.out],HE.out⟩
    ·obtain rfl:i=pn:=(by omega);have HR:Hid (r=(0,0)):=ae (by rw [HCp3.out,cz HF.out];rfl);obtain⟨⟨z0,z1⟩,⟨f0,f1⟩,_⟩:=dr ((HW.out.block _ hz2).trans H3.out);have HE:Hid (Below w.heap.size w ((wr.setCell ⟨w.heap.size+1,0,none⟩ (.int .i64 0)).setCell ⟨w.heap.size+1,1,none⟩ (.int .i64 0))):=ae ((((af B0.out HW.out).setCell (p:=⟨w.heap.size+1,0,none⟩) (Nat.le_succ _) _).setCell (p:=⟨w.heap.size+1,1,none⟩) (Nat.le_succ _) _));go_wp2_with fail
     exact bodyPost_ret (v:= .agg #[.int .i64 0,.int .i64 0]) (by simp [results,Tryz.results24,go_sem,z0,z1]) rfl ⟨by rw [HR.out],HE.out⟩
  ·have hnb:(nc.1 == 0)=false:=beq_eq_false_iff_ne.2 hn0;have HR:Hid (r=nc):=ae (by rw [HCp2.out,if_pos hn0]);have HE:Hid (Below w.heap.size w ((w4.setCell ⟨w.heap.size+1,0,none⟩ (.int .i64 nc.1)).setCell ⟨w.heap.size+1,1,none⟩ (.int .i64 nc.2))):=ae ((((af B0.out BW4.out).setCell (p:=⟨w.heap.size+1,0,none⟩) (Nat.le_succ _) _).setCell (p:=⟨w.heap.size+1,1,none⟩) (Nat.le_succ _) _));go_wp2_with fail
   exact bodyPost_ret (v:= .agg #[.int .i64 nc.1,.int .i64 nc.2]) (by simp [results,Tryz.results24,go_sem,z0,z1]) rfl ⟨by rw [HR.out],HE.out⟩
 ·have hwb:(wc.1 == 0)=false:=beq_eq_false_iff_ne.2 hw0;obtain⟨J,hJ,_,hJl⟩:=HWa.out hw0;have hJ2:J < pn:=by omega
  have hJI:(J:Int) < pn:=by omega
  obtain⟨g,o,rfl,hfr⟩:=HRd.out J hJ2;obtain⟨_,_,_,_,_,_,_,_,_,d4⟩:=hfr.val;have Bw:=ae (af B0.out BW2.out);replace d4:=(Bw.out.cell (p:=⟨g,o+J * 5+4,none⟩) hfr.1).trans d4;obtain⟨at_,hat⟩:∃at_,(bh p J).2.2.2.2=at_:=⟨_,rfl⟩;rw [hat] at d4;have HR:Hid (r=(wc.1,at_)):=ae (by rw [HCp.out,if_pos hw0,hJ,Int.toNat_natCast,hat]);rw [hJ] at s1 ⊢;have HE:Hid (Below w.heap.size w ((w2.setCell ⟨w.heap.size+1,0,none⟩ (.int .i64 wc.1)).setCell ⟨w.heap.size+1,1,none⟩ (.int .i64 at_)).drew):=ae (((Bw.out.setCell (p:=⟨w.heap.size+1,0,none⟩) (Nat.le_succ _) _).setCell (p:=⟨w.heap.size+1,1,none⟩) (Nat.le_succ _) _).drew);clear hfr hJ hat HCp HWa hJl;go_wp2_with fail
  go_region
  all_goals
   go_wp2_with fail
   exact bodyPost_ret (v:= .agg #[.int .i64 wc.1,.int .i64 at_]) (by simp [results,Tryz.results24,go_sem,z0,z1]) rfl ⟨by rw [HR.out],HE.out⟩
end Go.Proofs.YtfdhemcahjommaaGreatDoor
