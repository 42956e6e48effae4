/- Texts of one chain, joined. -/
import Derived.Test.YtljkgcfnoegibaaGreatDoorWcAO
import Derived.Test.YtljkgcfnoegibaaGreatDoorWcBC
set_option maxHeartbeats 1500000
set_option maxRecDepth 20000
namespace Go.Proofs.YtljkgcfnoegibaaGreatDoor
open Go Go.RowKit
open G (Tok Er Ins Fun)
def Kept (p:List Fun) (f:Fun):Prop:=((shapedF f).1=0→Ful f∧Tos f∧0 < f.2.2.2.1.length)∧∀k i,k < f.2.2.2.1.length→i < (blkN f k).length→headX p f (insN f k i)=0→∀n,n < (insN f k i).2.2.2.2.1.length→WantIn p (insN f k i) n∧((insN f k i).1=20→n < (insN f k i).2.2.2.2.2.1.length)
theorem rtable_any (f:Fun) (v:Value) (w:World) (hv:FunV w f v) (hF:Ful f) (hg:Gr (succsF f)):Calls Tryz.prog 45 #[v] w fun e w'=>∃u,e= .returned u∧TabL w' (succsF f) u∧Below w.heap.size w w':=by
 have hp:=hg.2
 obtain⟨nm,ps,rt,bl,pl⟩:=f
 have hv2:=hv
 obtain⟨vp,vb,rfl,⟨ao,c,rfl,h1,_⟩,h2⟩:=hv
 obtain⟨bo,cb,rfl,_⟩:=h2
 exact(rtable_try nm ps rt pl bl ao bo c cb w hv2 hF hg).mono fun e w' ⟨u,he,h,b⟩=>⟨u,he,h.read hp,b⟩
theorem rfunc_any (p:List Fun) (f:Fun) (src:Bool) (po:Option Addr) (pc:Nat) (fv:Value) (w:World) (hp:ProgR w p (.slice po p.length pc)) (hl:p.length≤1000000) (hv:FunV w f fv) (hM:Mod f) (hK:Kept p f):
  Calls Tryz.prog 26 #[.agg #[.slice po p.length pc],fv,.bool src] w fun e w'=>e= .returned (.agg #[.int .i64 (funcE p f src).1,.int .i64 (funcE p f src).2])∧Below w.heap.size w w':=by
 have HFe:Hid (funcE p f src=if(shapedF f).1≠0 then((shapedF f).1,f.2.2.2.2)else if reachB f=false then(14,f.2.2.2.2)else match valuesF f src with
  |some e=>e
  |none=>(looksF p f).getD (0,0)):=hide rfl
 have HVs:Hid (valuesF f src=fstN (fun k=>fstN (fun i=>atC (valC f k i src) (insN f k i).2.2.2.2.2.2.2) (blkN f k).length) f.2.2.2.1.length):=hide rfl
 have HLs:Hid (looksF p f=fstN (fun k=>fstN (fun i=>atC (lookC p f k i) (insN f k i).2.2.2.2.2.2.2) (blkN f k).length) f.2.2.2.1.length):=hide rfl
 have CSh:=hide (fun w' (b:Below w.heap.size w w')=>rshaped_any f fv w' (hv.below b))
 have CTk:=hide (fun(k i n:Nat) (tv:Value) (w':World) (b:Below w.heap.size w w') hg ht hk hi hn hW hTo=>rtake_any p f k i n po pc fv tv w' (hp.below b) hl (hv.below b) hM hg ht hk hi hn hW hTo)
 have CHd:=hide (fun(x:Ins) (xv:Value) (w':World) (b:Below w.heap.size w w') (hx:InsV w' x xv)=>rheadX_any p f x po pc fv xv w' (hp.below b) hl (hv.below b) hx)
 have HB:=hide (fun k=>hM.blk k)
 have hN:=hM.1
 have HP:=hide hp
 have HV:=hide hv
 obtain⟨r,hr⟩:∃r,funcE p f src=r:=⟨_,rfl⟩
 rw [hr] at HFe ⊢
 clear hr
 obtain⟨lp,cp,lb,cb,rfl,_,_⟩:=fun_box hv
 have HRd:Hid (∀k,k < f.2.2.2.1.length→∃g o ao c,lb=some ⟨g,o,none⟩∧g < w.heap.size∧w.cell? ⟨g,o+k,none⟩=some (.slice ao (blkN f k).length c)∧BlkR w (blkN f k) (.slice ao (blkN f k).length c)):=hide (fun k hk=>blks_row (fun_blks hv) hk)
 clear hv hp
 generalize hnm:bs f.1=nm at *
 generalize hlps:f.2.1.length=lps at *
 generalize hrt:f.2.2.1=rt at *
 obtain⟨lbs,hlbs⟩:∃n,n=f.2.2.2.1.length:=⟨_,rfl⟩
 rw [←hlbs] at HVs HLs hN HRd CSh HV CHd CTk
 rw [←hlbs]
 generalize hpl:f.2.2.2.2=pl at *
 generalize hpn:p.length=pn at *
 have b1:=below_box w (.cells #[.slice po pn pc] 24)
 have h1:=heap_alloc_new w (.cells #[.slice po pn pc] 24)
 have b2:=below_box (w.alloc (.cells #[.slice po pn pc] 24)) (.cells #[.string nm,.slice lp lps cp,.int .i64 rt,.slice lb lbs cb,.int .i64 pl] 36)
 have X1:=L5.Box.new (w.alloc (.cells #[.slice po pn pc] 24)) [.string nm,.slice lp lps cp,.int .i64 rt,.slice lb lbs cb,.int .i64 pl] 36
 have hs1:(w.alloc (.cells #[.slice po pn pc] 24)).heap.size=w.heap.size+1:=by simp
 rw [hs1] at X1
 have b3:=below_box ((w.alloc (.cells #[.slice po pn pc] 24)).alloc (.cells #[.string nm,.slice lp lps cp,.int .i64 rt,.slice lb lbs cb,.int .i64 pl] 36)) (.cells #[.int .i64 0,.int .i64 0] 29)
 have h3:=heap_alloc_new ((w.alloc (.cells #[.slice po pn pc] 24)).alloc (.cells #[.string nm,.slice lp lps cp,.int .i64 rt,.slice lb lbs cb,.int .i64 pl] 36)) (.cells #[.int .i64 0,.int .i64 0] 29)
 have hs2:((w.alloc (.cells #[.slice po pn pc] 24)).alloc (.cells #[.string nm,.slice lp lps cp,.int .i64 rt,.slice lb lbs cb,.int .i64 pl] 36)).heap.size=w.heap.size+2:=by simp
 rw [hs2] at h3
 have H1:=hide (((below_step b2 b3).block w.heap.size (by simp)).trans h1)
 have X0:Hid (L5.Box (((w.alloc (.cells #[.slice po pn pc] 24)).alloc (.cells #[.string nm,.slice lp lps cp,.int .i64 rt,.slice lb lbs cb,.int .i64 pl] 36)).alloc (.cells #[.int .i64 0,.int .i64 0] 29)) (w.heap.size+1) [.string nm,.slice lp lps cp,.int .i64 rt,.slice lb lbs cb,.int .i64 pl]):=hide (X1.below b3)
 have H3:=hide h3
 have B0:=hide (below_step b1 (below_step b2 b3))
 clear b1 h1 b2 X1 hs1 b3 h3 hs2 hnm hlps hrt
 replace hlbs:=hide hlbs
 replace hpl:=hide hpl
 replace hpn:=hide hpn
 go_enter Tryz.func26,Tryz.ntmps26
 go_upto_region 1 with fail
 show Code.wp _ _ _ _ (((w.alloc (.cells #[.slice po pn pc] 24)).alloc (.cells #[.string nm,.slice lp lps cp,.int .i64 rt,.slice lb lbs cb,.int .i64 pl] 36)).alloc (.cells #[.int .i64 0,.int .i64 0] 29))
 generalize ((w.alloc (.cells #[.slice po pn pc] 24)).alloc (.cells #[.string nm,.slice lp lps cp,.int .i64 rt,.slice lb lbs cb,.int .i64 pl] 36)).alloc (.cells #[.int .i64 0,.int .i64 0] 29)=W at *
 have hz2:=(two_at H3.out).2.2
 have hq0:w.heap.size < W.heap.size:=(one_at H1.out).2
 obtain⟨x0,x1,x2,x3,x4⟩:_∧_∧_∧_∧_:=⟨X0.out.2 0 _ rfl,X0.out.2 1 _ rfl,X0.out.2 2 _ rfl,X0.out.2 3 _ rfl,X0.out.2 4 _ rfl⟩
 have C1:=hide (CSh.out W B0.out)
 go_wp2_with fail
 refine C1.out.mono ?_;rintro e w1 ⟨rfl,b1⟩
 have b2:=below_box w1 (.cells #[.int .i64 (shapedF f).1,.int .i64 (shapedF f).2] 29)
 have HS:=hide (heap_alloc_new w1 (.cells #[.int .i64 (shapedF f).1,.int .i64 (shapedF f).2] 29))
 have BW2:=hide (below_step b1 b2)
 clear C1 CSh b1 b2 x0 x1 x2 x3 x4
 go_upto_region 2 with fail
 show Code.wp _ _ _ _ (w1.alloc (.cells #[.int .i64 (shapedF f).1,.int .i64 (shapedF f).2] 29))
 generalize w1.alloc (.cells #[.int .i64 (shapedF f).1,.int .i64 (shapedF f).2] 29)=w2 at *
 generalize w1.heap.size=q1 at *
 obtain⟨x0,x1,x2,x3,x4⟩:_∧_∧_∧_∧_:=⟨(X0.out.below BW2.out).2 0 _ rfl,(X0.out.below BW2.out).2 1 _ rfl,(X0.out.below BW2.out).2 2 _ rfl,(X0.out.below BW2.out).2 3 _ rfl,(X0.out.below BW2.out).2 4 _ rfl⟩
 obtain⟨⟨z0,z1⟩,⟨f0,f1⟩,_⟩:=two_at ((BW2.out.block _ hz2).trans H3.out)
 obtain⟨⟨s0,s1⟩,_,_⟩:=two_at HS.out
 by_cases hsh:(shapedF f).1=0
 ·rw [hsh] at s0
  obtain⟨hFul,hTos,h0⟩:=hK.1 hsh
  have HFe2:Hid (r=if reachB f=false then(14,pl)else match valuesF f src with
   |some e=>e
   |none=>(looksF p f).getD (0,0)):=hide (by rw [HFe.out,hsh];simp)
  have C2:=hide (rreached_any f _ w2 (HV.out.below (below_step B0.out BW2.out)) hFul hTos h0)
  clear HFe
  cases hrb:reachB f with
  |false=>
   rw [hrb] at C2
   have HR:Hid (r=(14,pl)):=hide (by rw [HFe2.out,hrb];rfl)
   go_wp2_with fail
   refine C2.out.mono ?_;rintro e w3 ⟨rfl,b3⟩
   have BW3:=hide (below_step BW2.out b3)
   clear C2 b3 x0 x1 x2 x3 x4 z0 z1 f0 f1 s0 s1 BW2
   obtain⟨x0,x1,x2,x3,x4⟩:_∧_∧_∧_∧_:=⟨(X0.out.below BW3.out).2 0 _ rfl,(X0.out.below BW3.out).2 1 _ rfl,(X0.out.below BW3.out).2 2 _ rfl,(X0.out.below BW3.out).2 3 _ rfl,(X0.out.below BW3.out).2 4 _ rfl⟩
   obtain⟨⟨z0,z1⟩,⟨f0,f1⟩,_⟩:=two_at ((BW3.out.block _ hz2).trans H3.out)
   have HE:Hid (Below w.heap.size w ((w3.setCell ⟨w.heap.size+2,0,none⟩ (.int .i64 14)).setCell ⟨w.heap.size+2,1,none⟩ (.int .i64 pl))):=hide ((((below_step B0.out BW3.out).setCell (p:=⟨w.heap.size+2,0,none⟩) (Nat.le_add_right _ 2) _).setCell (p:=⟨w.heap.size+2,1,none⟩) (Nat.le_add_right _ 2) _))
   go_wp2_with fail
   exact bodyPost_ret (v:= .agg #[.int .i64 14,.int .i64 pl]) (by simp [results,Tryz.results26,go_sem,z0,z1]) rfl ⟨by rw [HR.out],HE.out⟩
  |true=>
   rw [hrb] at C2
   have HFe3:Hid (r=match valuesF f src with
    |some e=>e
    |none=>(looksF p f).getD (0,0)):=hide (by rw [HFe2.out,hrb];rfl)
   go_wp2_with fail
   refine C2.out.mono ?_;rintro e w3 ⟨rfl,b3⟩
   have BW3:=hide (below_step BW2.out b3)
   clear C2 b3 x0 x1 x2 x3 x4 z0 z1 f0 f1 s0 s1 BW2 HFe2
   go_wp2_with fail
   go_loopw [8] (fun kv wr=>∃k:Nat,k≤lbs∧kv= .int .i64 k∧Hid (∀j,j < k→fstN (fun i=>atC (valC f j i src) (insN f j i).2.2.2.2.2.2.2) (blkN f j).length=none)∧Hid (Below W.heap.size W wr)) (fun kv _=>lbs - (intOf kv).toNat)
   case atStart=>exact⟨0,Nat.zero_le _,rfl,hide (fun j h=>absurd h (Nat.not_lt_zero _)),BW3⟩
   case round=>
    clear BW3
    obtain⟨k,hk,rfl,HF,HW⟩:=hrel
    obtain⟨x0,x1,x2,x3,x4⟩:_∧_∧_∧_∧_:=⟨(X0.out.below HW.out).2 0 _ rfl,(X0.out.below HW.out).2 1 _ rfl,(X0.out.below HW.out).2 2 _ rfl,(X0.out.below HW.out).2 3 _ rfl,(X0.out.below HW.out).2 4 _ rfl⟩
    by_cases hkt:k < lbs
    ·have hkI:(k:Int) < lbs:=by omega
     have hkf:k < f.2.2.2.1.length:=by have:=hlbs.out;omega
     have hbn:=HB.out k
     have HW0:=hide HW.out
     go_wp2_with fail
     clear x0 x1 x2 x3 x4
     go_loopw [9] (fun iv wr=>∃i:Nat,i≤(blkN f k).length∧iv= .int .i64 i∧Hid (∀j,j < i→atC (valC f k j src) (insN f k j).2.2.2.2.2.2.2=none)∧Hid (Below W.heap.size W wr)) (fun iv _=>(blkN f k).length - (intOf iv).toNat)
     case atStart=>exact⟨0,Nat.zero_le _,rfl,hide (fun j h=>absurd h (Nat.not_lt_zero _)),hide HW0.out⟩
     case round=>
      clear HW HW0
      obtain⟨i,hi,rfl,HG,HW⟩:=hrel
      obtain⟨x0,x1,x2,x3,x4⟩:_∧_∧_∧_∧_:=⟨(X0.out.below HW.out).2 0 _ rfl,(X0.out.below HW.out).2 1 _ rfl,(X0.out.below HW.out).2 2 _ rfl,(X0.out.below HW.out).2 3 _ rfl,(X0.out.below HW.out).2 4 _ rfl⟩
      have Bw:=hide (below_step B0.out HW.out)
      obtain⟨g,o,ao,c,rfl,hgl,cu0,hblk⟩:=HRd.out k hkt
      have cu:=(Bw.out.cell (p:=⟨g,o+k,none⟩) hgl).trans cu0
      replace cu0:=hide cu0
      by_cases hil:i < (blkN f k).length
      ·have hilI:(i:Int) < (blkN f k).length:=by omega
       have CV:=hide (rvalue_any f k i src _ wr (HV.out.below Bw.out) hFul hM hkf hil)
       have HAt:Hid (atC (valC f k i src) (insN f k i).2.2.2.2.2.2.2=if valC f k i src≠0 then some (valC f k i src,(insN f k i).2.2.2.2.2.2.2)else none):=hide rfl
       obtain⟨cv,hcv⟩:∃cv,valC f k i src=cv:=⟨_,rfl⟩
       rw [hcv] at CV HAt
       by_cases hc0:cv=0
       ·have HG2:Hid (∀j,j < i+1→atC (valC f k j src) (insN f k j).2.2.2.2.2.2.2=none):=hide (fun j hj=>by
         by_cases e:j=i
         ·subst e;rw [hcv,HAt.out,hc0];simp
         ·exact HG.out j (by omega))
        rw [hc0] at CV
        clear hcv hc0
        go_wp2_with fail
        refine CV.out.mono ?_;rintro e w4 ⟨rfl,b4⟩
        have HW4:=hide (below_step HW.out b4)
        clear CV b4 x0 x1 x2 x3 x4 cu
        go_wp2_with fail
        go_roundw
        case rel=>exact⟨i+1,by omega,by go_num,HG2,HW4⟩
        case measure=>simp [intOf];omega
       ·obtain⟨at_,hat⟩:∃at_,(insN f k i).2.2.2.2.2.2.2=at_:=⟨_,rfl⟩
        have HR:Hid (r=(cv,at_)):=hide (by
         rw [HFe3.out]
         have:valuesF f src=some (cv,at_):=by
          rw [HVs.out]
          refine fstN_some (K:=k) HF.out hkt (fstN_some (K:=i) HG.out hil ?_)
          rw [hcv,HAt.out,if_pos hc0,hat]
         rw [this])
        have hcb:(cv == 0)=false:=beq_eq_false_iff_ne.2 hc0
        clear hcv
        go_wp2_with fail
        refine CV.out.mono ?_;rintro e w4 ⟨rfl,b4⟩
        have HW4:=hide (below_step HW.out b4)
        have Bw4:=hide (below_step B0.out HW4.out)
        clear CV b4 x0 x1 x2 x3 x4 HW Bw
        obtain⟨x0,x1,x2,x3,x4⟩:_∧_∧_∧_∧_:=⟨(X0.out.below HW4.out).2 0 _ rfl,(X0.out.below HW4.out).2 1 _ rfl,(X0.out.below HW4.out).2 2 _ rfl,(X0.out.below HW4.out).2 3 _ rfl,(X0.out.below HW4.out).2 4 _ rfl⟩
        obtain⟨⟨z0,z1⟩,⟨f0,f1⟩,_⟩:=two_at ((HW4.out.block _ hz2).trans H3.out)
        obtain⟨g2,o2,rfl,hins⟩:=blk_ins hblk hil
        obtain⟨_,_,_,_,_,_,_,_,_,_,_,_,e7⟩:=hins.val
        replace e7:=(Bw4.out.cell (p:=⟨g2,o2+i * 8+7,none⟩) hins.1).trans e7
        rw [hat] at e7
        clear hins cu hat
        have cu:=(Bw4.out.cell (p:=⟨g,o+k,none⟩) hgl).trans cu0.out
        have HE:Hid (Below w.heap.size w ((w4.setCell ⟨w.heap.size+2,0,none⟩ (.int .i64 cv)).setCell ⟨w.heap.size+2,1,none⟩ (.int .i64 at_))):=hide (((Bw4.out.setCell (p:=⟨w.heap.size+2,0,none⟩) (Nat.le_add_right _ 2) _).setCell (p:=⟨w.heap.size+2,1,none⟩) (Nat.le_add_right _ 2) _))
        go_wp2_with fail
        exact bodyPost_ret (v:= .agg #[.int .i64 cv,.int .i64 at_]) (by simp [results,Tryz.results26,go_sem,z0,z1]) rfl ⟨by rw [HR.out],HE.out⟩
      ·have hilI:¬(i:Int) < (blkN f k).length:=by omega
       have HF2:Hid (∀j,j < k+1→fstN (fun i=>atC (valC f j i src) (insN f j i).2.2.2.2.2.2.2) (blkN f j).length=none):=hide (fun j hj=>by
        by_cases e:j=k
        ·subst e;exact fstN_none (fun i' hi'=>HG.out i' (by omega))
        ·exact HF.out j (by omega))
       go_wp2_with fail
       go_roundw
       case rel=>exact⟨k+1,by omega,by go_num,HF2,HW⟩
       case measure=>simp [intOf];omega
    ·obtain rfl:k=lbs:=by omega
     have HVn:Hid (valuesF f src=none):=hide (by rw [HVs.out];exact fstN_none HF.out)
     have HFe4:Hid (r=(looksF p f).getD (0,0)):=hide (by rw [HFe3.out,HVn.out])
     obtain⟨lbs,hll⟩:∃lbs,lbs=k:=⟨_,rfl⟩
     have hGr:=gr_succs hTos h0
     have CT:=hide (rtable_any f _ wr (HV.out.below (below_step B0.out HW.out)) hFul hGr)
     clear HVn HFe3 HF hkt hk
     go_wp2_with fail
     refine CT.out.mono ?_;rintro e w5 ⟨tv,rfl,htv,b5⟩
     have HTb:=hide htv
     have BW5:=hide (below_step HW.out b5)
     clear CT htv b5 x0 x1 x2 x3 x4 HW
     subst hll
     go_wp2_with fail
     go_loopw [12] (fun kv wr=>∃k:Nat,k≤lbs∧kv= .int .i64 k∧Hid (∀j,j < k→fstN (fun i=>atC (lookC p f j i) (insN f j i).2.2.2.2.2.2.2) (blkN f j).length=none)∧Hid (Below W.heap.size W wr)∧Hid (Below w5.heap.size w5 wr)) (fun kv _=>lbs - (intOf kv).toNat)
     case atStart=>exact⟨0,Nat.zero_le _,rfl,hide (fun j h=>absurd h (Nat.not_lt_zero _)),BW5,hide (Below.refl _ _)⟩
     case round=>
      clear BW5
      obtain⟨k,hk,rfl,HF,HW,HU⟩:=hrel
      obtain⟨x0,x1,x2,x3,x4⟩:_∧_∧_∧_∧_:=⟨(X0.out.below HW.out).2 0 _ rfl,(X0.out.below HW.out).2 1 _ rfl,(X0.out.below HW.out).2 2 _ rfl,(X0.out.below HW.out).2 3 _ rfl,(X0.out.below HW.out).2 4 _ rfl⟩
      by_cases hkt:k < lbs
      ·have hkI:(k:Int) < lbs:=by omega
       have hkf:k < f.2.2.2.1.length:=by have:=hlbs.out;omega
       have hbn:=HB.out k
       have HW0:=hide HW.out
       have HU0:=hide HU.out
       go_wp2_with fail
       clear x0 x1 x2 x3 x4
       go_loopw [13] (fun iv wr=>∃i:Nat,i≤(blkN f k).length∧iv= .int .i64 i∧Hid (∀j,j < i→atC (lookC p f k j) (insN f k j).2.2.2.2.2.2.2=none)∧Hid (Below W.heap.size W wr)∧Hid (Below w5.heap.size w5 wr)) (fun iv _=>(blkN f k).length - (intOf iv).toNat)
       case atStart=>exact⟨0,Nat.zero_le _,rfl,hide (fun j h=>absurd h (Nat.not_lt_zero _)),hide HW0.out,hide HU0.out⟩
       case round=>
        clear HW HW0 HU HU0
        obtain⟨i,hi,rfl,HG,HW,HU⟩:=hrel
        have Bw:=hide (below_step B0.out HW.out)
        obtain⟨g,o,ao,c,rfl,hgl,cu0,hblk⟩:=HRd.out k hkt
        replace cu0:=hide cu0
        by_cases hil:i < (blkN f k).length
        ·have hilI:(i:Int) < (blkN f k).length:=by omega
         obtain⟨g2,o2,rfl,hins⟩:=blk_ins hblk hil
         obtain⟨xo,zo,xc,zc,hxv,e0,e1,e2,e3,e4,e5,e6,e7⟩:=hins.val
         have hg2:=hins.1
         have HXv:=hide hxv
         have HKp:=hide (hK.2 k i hkf hil)
         have HTk:=hide (fun n w' (b:Below W.heap.size W w') (b5:Below w5.heap.size w5 w') (hn:n < (insN f k i).2.2.2.2.1.length) (h0:headX p f (insN f k i)=0)=>CTk.out k i n _ w' (below_step B0.out b) hGr (HTb.out.below b5) hkt hil hn (HKp.out h0 n hn).1 (HKp.out h0 n hn).2)
         have HLk:Hid (lookC p f k i=if headX p f (insN f k i)≠0 then headX p f (insN f k i)else(fstN (takN p f k i) (insN f k i).2.2.2.2.1.length).getD 0):=hide rfl
         have HTn:Hid (∀n,takN p f k i n=if takC p f k i n≠0 then some (takC p f k i n)else none):=hide (fun _=>rfl)
         have hxn:(insN f k i).2.2.2.2.1.length≤maxLen:=by
          obtain⟨a1,a2,a3,a4,e,_,_,h3,h4,_⟩:=hxv
          exact Nat.le_trans h3 h4
         unfold maxLen at hxn
         obtain⟨x,hx⟩:∃x,insN f k i=x:=⟨_,rfl⟩
         rw [hx] at e0 e1 e2 e3 e4 e5 e6 e7 HXv HTk HLk hxn
         have hBz:=fun z=>L5.grewTo_below wr z
         have hBwz:=fun z=>below_step Bw.out (hBz z)
         have HH:=hide (fun z=>CHd.out x _ (L5.grewTo wr z) (hBwz z) (HXv.out.below (hBwz z)))
         have c0:=fun z=>((below_step HW.out (hBz z)).cell (p:=⟨w.heap.size,0,none⟩) hq0).trans (one_at H1.out).1
         have x0:=fun z=>(X0.out.below (below_step HW.out (hBz z))).2 0 _ rfl
         have x1:=fun z=>(X0.out.below (below_step HW.out (hBz z))).2 1 _ rfl
         have x2:=fun z=>(X0.out.below (below_step HW.out (hBz z))).2 2 _ rfl
         have x3:=fun z=>(X0.out.below (below_step HW.out (hBz z))).2 3 _ rfl
         have x4:=fun z=>(X0.out.below (below_step HW.out (hBz z))).2 4 _ rfl
         have cu:=fun z=>((hBwz z).cell (p:=⟨g,o+k,none⟩) hgl).trans cu0.out
         have d0:=fun z=>((hBwz z).cell (p:=⟨g2,o2+i * 8,none⟩) hg2).trans e0
         have d1:=fun z=>((hBwz z).cell (p:=⟨g2,o2+i * 8+1,none⟩) hg2).trans e1
         have d2:=fun z=>((hBwz z).cell (p:=⟨g2,o2+i * 8+2,none⟩) hg2).trans e2
         have d3:=fun z=>((hBwz z).cell (p:=⟨g2,o2+i * 8+3,none⟩) hg2).trans e3
         have d4:=fun z=>((hBwz z).cell (p:=⟨g2,o2+i * 8+4,none⟩) hg2).trans e4
         have d5:=fun z=>((hBwz z).cell (p:=⟨g2,o2+i * 8+5,none⟩) hg2).trans e5
         have d6:=fun z=>((hBwz z).cell (p:=⟨g2,o2+i * 8+6,none⟩) hg2).trans e6
         have d7:=fun z=>((hBwz z).cell (p:=⟨g2,o2+i * 8+7,none⟩) hg2).trans e7
         have E4:=hide e4
         have E7:=hide e7
         have hX3:=(X0.out.below HW.out).2 3 _ rfl
         have hCu:=(Bw.out.cell (p:=⟨g,o+k,none⟩) hgl).trans cu0.out
         have HBz:=hide hBz
         clear e0 e1 e2 e3 e4 e5 e6 e7 hins hxv hBwz hBz HKp
         obtain⟨hd,hhd⟩:∃hd,headX p f x=hd:=⟨_,rfl⟩
         rw [hhd] at HH HLk HTk
         go_wp2_with fail
         refine L5.region_grew (by kernel_rfl) (by kernel_rfl) ?_
         repeat (go_big_quiet_step ((go_at_call 46;exact L5.calls_grew (HH.out _))))
         refine wpQuiet_nil ?_
         rintro _ ⟨z,rfl⟩
         have HW6:=hide (below_step HW.out (HBz.out z))
         have HU6:=hide (below_step HU.out (HBz.out z))
         clear c0 x0 x1 x2 x3 x4 cu d0 d1 d2 d3 d4 d5 d6 d7 HH HBz hX3 hCu HW HU Bw
         generalize L5.grewTo wr z=w6 at *
         go_wp2_with fail
         have HSt:Hid ((hd=0∧hd=0∧∀j,j < 0→takC p f k i j=0)∨(hd≠0∧hd=lookC p f k i)):=hide (by
          by_cases h0:hd=0
          ·exact .inl ⟨h0,h0,fun j h=>absurd h (Nat.not_lt_zero _)⟩
          ·exact .inr ⟨h0,by rw [HLk.out,if_pos h0]⟩)
         have HAt:Hid (atC (lookC p f k i) (insN f k i).2.2.2.2.2.2.2=if lookC p f k i≠0 then some (lookC p f k i,(insN f k i).2.2.2.2.2.2.2)else none):=hide rfl
         rw [hx] at HAt
         have HX:=hide hx
         clear hx hhd
         obtain⟨an,han⟩:∃an,x.2.2.2.2.1.length=an:=⟨_,rfl⟩
         rw [han] at HLk HTk E4 hxn
         have HAn:=hide han
         clear han
         go_loopw [14,15] (fun cv nv wr=>∃(cc:Int) (n:Nat),n≤an∧cv= .int .i64 cc∧nv= .int .i64 n∧Hid ((cc=0∧hd=0∧∀j,j < n→takC p f k i j=0)∨(cc≠0∧cc=lookC p f k i))∧Hid (Below W.heap.size W wr)∧Hid (Below w5.heap.size w5 wr)) (fun _ nv _=>an - (intOf nv).toNat)
         case atStart=>exact⟨hd,0,Nat.zero_le _,rfl,rfl,HSt,HW6,HU6⟩
         case round=>
          clear HSt HW6 HU6
          obtain⟨cc,n,hna,rfl,rfl,HSt,HW,HU⟩:=hrel
          have Bw:=hide (below_step B0.out HW.out)
          have c0:=(HW.out.cell (p:=⟨w.heap.size,0,none⟩) hq0).trans (one_at H1.out).1
          obtain⟨x0,x1,x2,x3,x4⟩:_∧_∧_∧_∧_:=⟨(X0.out.below HW.out).2 0 _ rfl,(X0.out.below HW.out).2 1 _ rfl,(X0.out.below HW.out).2 2 _ rfl,(X0.out.below HW.out).2 3 _ rfl,(X0.out.below HW.out).2 4 _ rfl⟩
          have cu:=(Bw.out.cell (p:=⟨g,o+k,none⟩) hgl).trans cu0.out
          have e4:=(Bw.out.cell (p:=⟨g2,o2+i * 8+4,none⟩) hg2).trans E4.out
          have e7:=(Bw.out.cell (p:=⟨g2,o2+i * 8+7,none⟩) hg2).trans E7.out
          rcases HSt.out with ⟨hc0,hh0,hall⟩ | ⟨hc0,hlk⟩
          ·subst hc0
           have HAll:=hide hall
           clear hall HSt
           by_cases hnt:n < an
           ·have hnI:(n:Int) < an:=by omega
            have CT:=hide (HTk.out n wr HW.out HU.out hnt hh0)
            obtain⟨tc,htc⟩:∃tc,takC p f k i n=tc:=⟨_,rfl⟩
            rw [htc] at CT
            have HSt2:Hid ((tc=0∧hd=0∧∀j,j < n+1→takC p f k i j=0)∨(tc≠0∧tc=lookC p f k i)):=hide (by
             by_cases h0:tc=0
             ·refine .inl ⟨h0,hh0,fun j hj=> ?_⟩
              by_cases e:j=n
              ·rw [e,htc,h0]
              ·exact HAll.out j (by omega)
             ·refine .inr ⟨h0,?_⟩
              rw [HLk.out,hh0]
              have:fstN (takN p f k i) an=some tc:=fstN_some (K:=n) (fun j hj=>by rw [HTn.out,HAll.out j hj];simp) hnt (by rw [HTn.out,htc,if_pos h0])
              rw [this];rfl)
            clear htc hh0
            go_wp2_with fail
            refine CT.out.mono ?_;rintro e w7 ⟨rfl,b7⟩
            have HW7:=hide (below_step HW.out b7)
            have HU7:=hide (below_step HU.out b7)
            clear CT b7 c0 x0 x1 x2 x3 x4 cu e4 e7
            go_wp2_with fail
            go_roundw
            case rel=>exact⟨tc,n+1,by omega,rfl,by go_num,HSt2,HW7,HU7⟩
            case measure=>simp [intOf];omega
           ·have hnI:¬(n:Int) < an:=by omega
            have HG2:Hid (∀j,j < i+1→atC (lookC p f k j) (insN f k j).2.2.2.2.2.2.2=none):=hide (fun j hj=>by
             by_cases e:j=i
             ·subst e
              have hl0:lookC p f k j=0:=by
               rw [HLk.out,hh0]
               have:fstN (takN p f k j) an=none:=fstN_none (fun j' hj'=>by rw [HTn.out,HAll.out j' (by omega)];simp)
               rw [this];rfl
              rw [HX.out,HAt.out,hl0];simp
             ·exact HG.out j (by omega))
            clear hh0
            go_wp2_with fail
            go_roundw
            case rel=>exact⟨i+1,by omega,by go_num,HG2,HW,HU⟩
            case measure=>simp [intOf];omega
          ·have hcb:(cc == 0)=false:=beq_eq_false_iff_ne.2 hc0
           obtain⟨at_,hat⟩:∃at_,x.2.2.2.2.2.2.2=at_:=⟨_,rfl⟩
           have HR:Hid (r=(cc,at_)):=hide (by
            rw [HFe4.out]
            have:looksF p f=some (cc,at_):=by
             rw [HLs.out]
             refine fstN_some (K:=k) HF.out hkt (fstN_some (K:=i) HG.out hil ?_)
             rw [HX.out,HAt.out,←hlk,if_pos hc0,hat]
            rw [this];rfl)
           rw [hat] at e7
           obtain⟨⟨z0,z1⟩,⟨f0,f1⟩,_⟩:=two_at ((HW.out.block _ hz2).trans H3.out)
           clear hat hlk HSt
           by_cases hnt:n < an
           ·have hnI:(n:Int) < an:=by omega
            have HE:Hid (Below w.heap.size w ((wr.setCell ⟨w.heap.size+2,0,none⟩ (.int .i64 cc)).setCell ⟨w.heap.size+2,1,none⟩ (.int .i64 at_))):=hide (((Bw.out.setCell (p:=⟨w.heap.size+2,0,none⟩) (Nat.le_add_right _ 2) _).setCell (p:=⟨w.heap.size+2,1,none⟩) (Nat.le_add_right _ 2) _))
            go_wp2_with fail
            exact bodyPost_ret (v:= .agg #[.int .i64 cc,.int .i64 at_]) (by simp [results,Tryz.results26,go_sem,z0,z1]) rfl ⟨by rw [HR.out],HE.out⟩
           ·have hnI:¬(n:Int) < an:=by omega
            have HE:Hid (Below w.heap.size w ((wr.setCell ⟨w.heap.size+2,0,none⟩ (.int .i64 cc)).setCell ⟨w.heap.size+2,1,none⟩ (.int .i64 at_))):=hide (((Bw.out.setCell (p:=⟨w.heap.size+2,0,none⟩) (Nat.le_add_right _ 2) _).setCell (p:=⟨w.heap.size+2,1,none⟩) (Nat.le_add_right _ 2) _))
            go_wp2_with fail
            exact bodyPost_ret (v:= .agg #[.int .i64 cc,.int .i64 at_]) (by simp [results,Tryz.results26,go_sem,z0,z1]) rfl ⟨by rw [HR.out],HE.out⟩
        ·have hilI:¬(i:Int) < (blkN f k).length:=by omega
         have HF2:Hid (∀j,j < k+1→fstN (fun i=>atC (lookC p f j i) (insN f j i).2.2.2.2.2.2.2) (blkN f j).length=none):=hide (fun j hj=>by
          by_cases e:j=k
          ·subst e;exact fstN_none (fun i' hi'=>HG.out i' (by omega))
          ·exact HF.out j (by omega))
         obtain⟨x0,x1,x2,x3,x4⟩:_∧_∧_∧_∧_:=⟨(X0.out.below HW.out).2 0 _ rfl,(X0.out.below HW.out).2 1 _ rfl,(X0.out.below HW.out).2 2 _ rfl,(X0.out.below HW.out).2 3 _ rfl,(X0.out.below HW.out).2 4 _ rfl⟩
         have cu:=(Bw.out.cell (p:=⟨g,o+k,none⟩) hgl).trans cu0.out
         go_wp2_with fail
         go_roundw
         case rel=>exact⟨k+1,by omega,by go_num,HF2,HW,HU⟩
         case measure=>simp [intOf];omega
      ·obtain rfl:k=lbs:=by omega
       have HR:Hid (r=(0,0)):=hide (by rw [HFe4.out,HLs.out,fstN_none HF.out];rfl)
       have Bw:=hide (below_step B0.out HW.out)
       obtain⟨⟨z0,z1⟩,⟨f0,f1⟩,_⟩:=two_at ((HW.out.block _ hz2).trans H3.out)
       have HE:Hid (Below w.heap.size w ((wr.setCell ⟨w.heap.size+2,0,none⟩ (.int .i64 0)).setCell ⟨w.heap.size+2,1,none⟩ (.int .i64 0))):=hide (((Bw.out.setCell (p:=⟨w.heap.size+2,0,none⟩) (Nat.le_add_right _ 2) _).setCell (p:=⟨w.heap.size+2,1,none⟩) (Nat.le_add_right _ 2) _))
       go_wp2_with fail
       exact bodyPost_ret (v:= .agg #[.int .i64 0,.int .i64 0]) (by simp [results,Tryz.results26,go_sem,z0,z1]) rfl ⟨by rw [HR.out],HE.out⟩
 ·have hsb:((shapedF f).1 == 0)=false:=beq_eq_false_iff_ne.2 hsh
  have HR:Hid (r=((shapedF f).1,pl)):=hide (by rw [HFe.out,if_pos hsh])
  have HE:Hid (Below w.heap.size w ((w2.setCell ⟨w.heap.size+2,0,none⟩ (.int .i64 (shapedF f).1)).setCell ⟨w.heap.size+2,1,none⟩ (.int .i64 pl))):=hide ((((below_step B0.out BW2.out).setCell (p:=⟨w.heap.size+2,0,none⟩) (Nat.le_add_right _ 2) _).setCell (p:=⟨w.heap.size+2,1,none⟩) (Nat.le_add_right _ 2) _))
  go_wp2_with fail
  exact bodyPost_ret (v:= .agg #[.int .i64 (shapedF f).1,.int .i64 pl]) (by simp [results,Tryz.results26,go_sem,z0,z1]) rfl ⟨by rw [HR.out],HE.out⟩
end Go.Proofs.YtljkgcfnoegibaaGreatDoor
