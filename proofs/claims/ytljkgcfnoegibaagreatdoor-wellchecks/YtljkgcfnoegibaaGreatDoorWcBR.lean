/- Texts of one chain, joined. -/
import Derived.Test.YtljkgcfnoegibaaGreatDoorWcAR
import Derived.Test.YtljkgcfnoegibaaGreatDoorWcBF
import Derived.Test.YtljkgcfnoegibaaGreatDoorWcBQ
set_option maxHeartbeats 2000000
set_option maxRecDepth 20000
namespace Go.Proofs.YtljkgcfnoegibaaGreatDoor
open Go Go.RowKit
open G (Tok Er Ins Fun)
theorem whole11_any (p:List Fun) (src:Bool) (po:Option Addr) (pc:Nat) (w:World) (hp:ProgR w p (.slice po p.length pc)) (hl:p.length≤1000000) (hO:∀f∈p,OkF f) (hM:∀f∈p,Mod f∧f.2.1.length≤1000000) (hTb:Tb w) (hTL:L5.Tab w) (hTG:Tab w)
  (hK:(wholeF 0 0 p).1=0→∀f∈p,Kept p f∧KeyF f∧∀k,k < f.2.2.2.1.length→∀i,i < (blkN f k).length→KeyX (insN f k i)∧checkC (insN f k i)=0):
  Calls Tryz.prog 23 #[.agg #[.slice po p.length pc],.bool src] w fun e w'=>e= .returned (.agg #[.int .i64 (checkP p src).1,.int .i64 (checkP p src).2])∧Below w.heap.size w w':=by
 have HCp:Hid (checkP p src=if(wholeF 0 0 p).1≠0 then((wholeF 0 0 p).1,(funN p (wholeF 0 0 p).2.toNat).2.2.2.2)else if(namesF p).1≠0 then namesF p else(fstN (funcO p src) p.length).getD (0,0)):=hide rfl
 have HFo:Hid (∀i,funcO p src i=if(funcE p (funN p i) src).1≠0 then some (funcE p (funN p i) src)else none):=hide (fun _=>rfl)
 have CW:=hide (fun w' (b:Below w.heap.size w w')=>whole_try p po pc w' (hp.below b) (hTb.below b) hO)
 have CN:=hide (fun w' (b:Below w.heap.size w w')=>names11_any p po pc w' (hp.below b) hl (fun f hf=>(hM f hf).2))
 have CFn:=hide (fun i (hi:i < p.length) (h0:(wholeF 0 0 p).1=0) fv w' (b:Below w.heap.size w w') (hv:FunV w' (funN p i) fv)=>func11_any p (funN p i) src po pc fv w' (hp.below b) hl hv (hM _ (List.mem_of_getElem? (funN_at hi))).1 (hTL.below b) (hTG.below b) (hK h0 _ (List.mem_of_getElem? (funN_at hi))).1 (hK h0 _ (List.mem_of_getElem? (funN_at hi))).2.1 (hK h0 _ (List.mem_of_getElem? (funN_at hi))).2.2)
 have HRd:Hid (∀i,i < p.length→∃g o,po=some ⟨g,o,none⟩∧FunR w (funN p i) g (o+i * 5)):=hide (fun i hi=>prog_fun hp hi)
 have HWa:=hide (whole_at p 0 0)
 clear hp hO hM hK hTb hTL hTG
 obtain⟨r,hr⟩:∃r,checkP p src=r:=⟨_,rfl⟩
 rw [hr] at HCp ⊢
 clear hr
 generalize hpn:p.length=pn at *
 obtain⟨b0,h1,h2⟩:=box2 w (.cells #[.slice po pn pc] 24) (.cells #[.int .i64 0,.int .i64 0] 29)
 have H1:=hide h1
 have H3:=hide h2
 have B0:=hide b0
 clear b0 h1 h2
 replace hpn:=hide hpn
 go_enter Tryz.func23,Tryz.ntmps23
 go_upto_region 1 with fail
 show Code.wp _ _ _ _ ((w.alloc (.cells #[.slice po pn pc] 24)).alloc (.cells #[.int .i64 0,.int .i64 0] 29))
 generalize (w.alloc (.cells #[.slice po pn pc] 24)).alloc (.cells #[.int .i64 0,.int .i64 0] 29)=W at *
 have hz2:=(two_at H3.out).2.2
 have hq0:w.heap.size < W.heap.size:=(one_at H1.out).2
 have c0:=(one_at H1.out).1
 have C1:=hide (CW.out W B0.out)
 go_wp2_with fail
 refine C1.out.mono ?_;rintro e w1 ⟨rfl,b1⟩
 obtain⟨⟨wc1,wc2⟩,hwc⟩:∃wc,wholeF 0 0 p=wc:=⟨_,rfl⟩
 rw [hwc] at HCp HWa CFn ⊢
 dsimp only at HCp HWa CFn ⊢
 have b2:=below_box w1 (.cells #[.int .i64 wc1,.int .i64 wc2] 29)
 have HS:=hide (heap_alloc_new w1 (.cells #[.int .i64 wc1,.int .i64 wc2] 29))
 have BW2:=hide (below_step b1 b2)
 clear C1 CW b1 b2 c0 hwc
 go_upto_region 2 with fail
 show Code.wp _ _ _ _ (w1.alloc (.cells #[.int .i64 wc1,.int .i64 wc2] 29))
 generalize w1.alloc (.cells #[.int .i64 wc1,.int .i64 wc2] 29)=w2 at *
 generalize w1.heap.size=q1 at *
 obtain⟨⟨z0,z1⟩,⟨f0,f1⟩,_⟩:=two_at ((BW2.out.block _ hz2).trans H3.out)
 obtain⟨⟨s0,s1⟩,_,hsl⟩:=two_at HS.out
 have c0:=(BW2.out.cell (p:=⟨w.heap.size,0,none⟩) hq0).trans (one_at H1.out).1
 by_cases hw0:wc1=0
 ·have HCp2:Hid (r=if(namesF p).1≠0 then namesF p else(fstN (funcO p src) pn).getD (0,0)):=hide (by rw [HCp.out,if_neg (by simpa using hw0)])
  replace CFn:=hide (fun i hi=>CFn.out i hi hw0)
  subst hw0
  have C2:=hide (CN.out w2 (below_step B0.out BW2.out))
  obtain⟨⟨nc1,nc2⟩,hnc⟩:∃nc,namesF p=nc:=⟨_,rfl⟩
  rw [hnc] at C2 HCp2
  dsimp only at C2 HCp2
  clear HCp CN HWa hnc
  go_wp2_with fail
  refine C2.out.mono ?_;rintro e w3 ⟨rfl,b3⟩
  have b4:=below_box w3 (.cells #[.int .i64 nc1,.int .i64 nc2] 29)
  have HS2:=hide (heap_alloc_new w3 (.cells #[.int .i64 nc1,.int .i64 nc2] 29))
  have BW4:=hide (below_step BW2.out (below_step b3 b4))
  clear C2 b3 b4 c0 s0 s1 z0 z1 f0 f1 hsl HS BW2
  go_upto_region 5 with fail
  show Code.wp _ _ _ _ (w3.alloc (.cells #[.int .i64 nc1,.int .i64 nc2] 29))
  generalize w3.alloc (.cells #[.int .i64 nc1,.int .i64 nc2] 29)=w4 at *
  generalize w3.heap.size=q3 at *
  obtain⟨⟨z0,z1⟩,⟨f0,f1⟩,_⟩:=two_at ((BW4.out.block _ hz2).trans H3.out)
  obtain⟨⟨s0,s1⟩,_,hsl⟩:=two_at HS2.out
  by_cases hn0:nc1=0
  ·have HCp3:Hid (r=(fstN (funcO p src) pn).getD (0,0)):=hide (by rw [HCp2.out,if_neg (by simpa using hn0)])
   subst hn0
   have c0:=(BW4.out.cell (p:=⟨w.heap.size,0,none⟩) hq0).trans (one_at H1.out).1
   clear HCp2
   go_wp2_with fail
   clear s0 s1 z0 z1 f0 f1 hsl c0
   go_loopw [35] (fun iv wr=>∃i:Nat,i≤pn∧iv= .int .i64 i∧Hid (∀j,j < i→funcO p src j=none)∧Hid (Below W.heap.size W wr)) (fun iv _=>pn - (intOf iv).toNat)
   case atStart=>exact⟨0,Nat.zero_le _,rfl,hide (fun j h=>absurd h (Nat.not_lt_zero _)),BW4⟩
   case round=>
    clear BW4
    obtain⟨i,hi,rfl,HF,HW⟩:=hrel
    by_cases hit:i < pn
    ·have hiI:(i:Int) < pn:=by omega
     obtain⟨g,o,rfl,hfr⟩:=HRd.out i hit
     obtain⟨ha,hb,hc,hdd,hfv,d0,d1,d2,d3,d4⟩:=hfr.val
     have hgl:=hfr.1
     have Bw:=hide (below_step B0.out HW.out)
     have CF:=hide (fun w' (b:Below wr.heap.size wr w')=>CFn.out i hit _ w' (below_step Bw.out b) (hfv.below (below_step Bw.out b)))
     have HFi:=hide (HFo.out i)
     obtain⟨e0,he0⟩:∃e0,funcE p (funN p i) src=e0:=⟨_,rfl⟩
     rw [he0] at CF HFi
     obtain⟨fx,hh⟩:∃fx,funN p i=fx:=⟨_,rfl⟩
     rw [hh] at d0 d1 d2 d3 d4 CF
     replace d0:=(Bw.out.cell (p:=⟨g,o+i * 5,none⟩) hgl).trans d0
     replace d1:=(Bw.out.cell (p:=⟨g,o+i * 5+1,none⟩) hgl).trans d1
     replace d2:=(Bw.out.cell (p:=⟨g,o+i * 5+2,none⟩) hgl).trans d2
     replace d3:=(Bw.out.cell (p:=⟨g,o+i * 5+3,none⟩) hgl).trans d3
     replace d4:=(Bw.out.cell (p:=⟨g,o+i * 5+4,none⟩) hgl).trans d4
     clear hfv hfr he0 hh
     generalize fx.2.1.length=fl at *
     generalize fx.2.2.2.1.length=fbl at *
     generalize bs fx.1=fnm at *
     have b5:=below_box wr (.cells #[.string fnm,.slice ha fl hc,.int .i64 fx.2.2.1,.slice hb fbl hdd,.int .i64 fx.2.2.2.2] 36)
     have Y5:=hide (heap_alloc_new wr (.cells #[.string fnm,.slice ha fl hc,.int .i64 fx.2.2.1,.slice hb fbl hdd,.int .i64 fx.2.2.2.2] 36))
     have HC5:=hide (CF.out _ b5)
     have HW5:=hide (below_step HW.out b5)
     clear b5 CF
     go_upto_region 10 with fail
     show Code.wp _ _ _ _ (wr.alloc (.cells #[.string fnm,.slice ha fl hc,.int .i64 fx.2.2.1,.slice hb fbl hdd,.int .i64 fx.2.2.2.2] 36))
     generalize wr.alloc (.cells #[.string fnm,.slice ha fl hc,.int .i64 fx.2.2.1,.slice hb fbl hdd,.int .i64 fx.2.2.2.2] 36)=w5 at *
     generalize wr.heap.size=q5 at *
     clear d0 d1 d2 d3 d4
     have c0:=(HW5.out.cell (p:=⟨w.heap.size,0,none⟩) hq0).trans (one_at H1.out).1
     obtain⟨⟨y0,y1,y2,y3,y4⟩,_,_⟩:=five_at Y5.out
     go_wp2_with fail
     refine HC5.out.mono ?_;rintro e w6 ⟨rfl,b6⟩
     have b7:=below_box w6 (.cells #[.int .i64 e0.1,.int .i64 e0.2] 29)
     have Y7:=hide (heap_alloc_new w6 (.cells #[.int .i64 e0.1,.int .i64 e0.2] 29))
     have HW7:=hide (below_step (below_step HW5.out b6) b7)
     clear b6 b7 c0 y0 y1 y2 y3 y4 HC5
     go_upto_region 11 with fail
     show Code.wp _ _ _ _ (w6.alloc (.cells #[.int .i64 e0.1,.int .i64 e0.2] 29))
     generalize w6.alloc (.cells #[.int .i64 e0.1,.int .i64 e0.2] 29)=w7 at *
     generalize w6.heap.size=q7 at *
     obtain⟨⟨s0,s1⟩,_,_⟩:=two_at Y7.out
     by_cases he0:e0.1=0
     ·have HF2:Hid (∀j,j < i+1→funcO p src j=none):=hide (fun j hj=>by
       by_cases e:j=i
       ·rw [e,HFi.out,he0];simp
       ·exact HF.out j (by omega))
      rw [he0] at s0
      clear he0
      go_wp2_with fail
      go_roundw
      case rel=>exact⟨i+1,by omega,by go_num,HF2,HW7⟩
      case measure=>simp [intOf];omega
     ·have heb:(e0.1 == 0)=false:=beq_eq_false_iff_ne.2 he0
      have HR:Hid (r=e0):=hide (by
       rw [HCp3.out,fstN_some (K:=i) HF.out hit (by rw [HFi.out,if_pos he0])];rfl)
      obtain⟨⟨z0,z1⟩,⟨f0,f1⟩,_⟩:=two_at ((HW7.out.block _ hz2).trans H3.out)
      have HE:Hid (Below w.heap.size w ((w7.setCell ⟨w.heap.size+1,0,none⟩ (.int .i64 e0.1)).setCell ⟨w.heap.size+1,1,none⟩ (.int .i64 e0.2))):=hide ((((below_step B0.out HW7.out).setCell (p:=⟨w.heap.size+1,0,none⟩) (Nat.le_succ _) _).setCell (p:=⟨w.heap.size+1,1,none⟩) (Nat.le_succ _) _))
      go_wp2_with fail
      exact bodyPost_ret (v:= .agg #[.int .i64 e0.1,.int .i64 e0.2]) (by simp [results,Tryz.results23,go_sem,z0,z1]) rfl ⟨by rw [HR.out],HE.out⟩
    ·obtain rfl:i=pn:=by omega
     have HR:Hid (r=(0,0)):=hide (by rw [HCp3.out,fstN_none HF.out];rfl)
     obtain⟨⟨z0,z1⟩,⟨f0,f1⟩,_⟩:=two_at ((HW.out.block _ hz2).trans H3.out)
     have HE:Hid (Below w.heap.size w ((wr.setCell ⟨w.heap.size+1,0,none⟩ (.int .i64 0)).setCell ⟨w.heap.size+1,1,none⟩ (.int .i64 0))):=hide ((((below_step B0.out HW.out).setCell (p:=⟨w.heap.size+1,0,none⟩) (Nat.le_succ _) _).setCell (p:=⟨w.heap.size+1,1,none⟩) (Nat.le_succ _) _))
     go_wp2_with fail
     exact bodyPost_ret (v:= .agg #[.int .i64 0,.int .i64 0]) (by simp [results,Tryz.results23,go_sem,z0,z1]) rfl ⟨by rw [HR.out],HE.out⟩
  ·have hnb:(nc1 == 0)=false:=beq_eq_false_iff_ne.2 hn0
   have HR:Hid (r=(nc1,nc2)):=hide (by rw [HCp2.out,if_pos hn0])
   have HE:Hid (Below w.heap.size w ((w4.setCell ⟨w.heap.size+1,0,none⟩ (.int .i64 nc1)).setCell ⟨w.heap.size+1,1,none⟩ (.int .i64 nc2))):=hide ((((below_step B0.out BW4.out).setCell (p:=⟨w.heap.size+1,0,none⟩) (Nat.le_succ _) _).setCell (p:=⟨w.heap.size+1,1,none⟩) (Nat.le_succ _) _))
   go_wp2_with fail
   exact bodyPost_ret (v:= .agg #[.int .i64 nc1,.int .i64 nc2]) (by simp [results,Tryz.results23,go_sem,z0,z1]) rfl ⟨by rw [HR.out],HE.out⟩
 ·have hwb:(wc1 == 0)=false:=beq_eq_false_iff_ne.2 hw0
  obtain⟨J,hJ,_,hJl⟩:=HWa.out hw0
  have hJ2:J < pn:=by omega
  have hJI:(J:Int) < pn:=by omega
  obtain⟨g,o,rfl,hfr⟩:=HRd.out J hJ2
  obtain⟨_,_,_,_,_,_,_,_,_,d4⟩:=hfr.val
  have Bw:=hide (below_step B0.out BW2.out)
  replace d4:=(Bw.out.cell (p:=⟨g,o+J * 5+4,none⟩) hfr.1).trans d4
  obtain⟨at_,hat⟩:∃at_,(funN p J).2.2.2.2=at_:=⟨_,rfl⟩
  rw [hat] at d4
  have HR:Hid (r=(wc1,at_)):=hide (by rw [HCp.out,if_pos hw0,hJ,Int.toNat_natCast,hat])
  rw [hJ] at s1 ⊢
  have HE:Hid (Below w.heap.size w ((w2.setCell ⟨w.heap.size+1,0,none⟩ (.int .i64 wc1)).setCell ⟨w.heap.size+1,1,none⟩ (.int .i64 at_)).drew):=hide (((Bw.out.setCell (p:=⟨w.heap.size+1,0,none⟩) (Nat.le_succ _) _).setCell (p:=⟨w.heap.size+1,1,none⟩) (Nat.le_succ _) _).drew)
  clear hfr hJ hat HCp HWa hJl
  go_wp2_with fail
  go_region
  all_goals
   go_wp2_with fail
   exact bodyPost_ret (v:= .agg #[.int .i64 wc1,.int .i64 at_]) (by simp [results,Tryz.results23,go_sem,z0,z1]) rfl ⟨by rw [HR.out],HE.out⟩
theorem source11_any (p:List Fun) (po:Option Addr) (pc:Nat) (w:World) (hp:ProgR w p (.slice po p.length pc)) (hl:p.length≤1000000) (hO:∀f∈p,OkF f) (hM:∀f∈p,Mod f∧f.2.1.length≤1000000) (hTb:Tb w) (hTL:L5.Tab w) (hTG:Tab w)
  (hK:(wholeF 0 0 p).1=0→∀f∈p,Kept p f∧KeyF f∧∀k,k < f.2.2.2.1.length→∀i,i < (blkN f k).length→KeyX (insN f k i)∧checkC (insN f k i)=0):
  Calls Tryz.prog 9 #[.agg #[.slice po p.length pc]] w fun e w'=>e= .returned (.agg #[.int .i64 (checkP p true).1,.int .i64 (checkP p true).2])∧Below w.heap.size w w':=by
 have CW:=hide (fun w' (b:Below w.heap.size w w')=>whole11_any p true po pc w' (hp.below b) hl hO hM (hTb.below b) (hTL.below b) (hTG.below b) hK)
 clear hp hO hM hTb hTL hTG hK
 obtain⟨⟨r1,r2⟩,hr⟩:∃r,checkP p true=r:=⟨_,rfl⟩
 rw [hr] at CW ⊢
 clear hr
 generalize p.length=pn at *
 obtain⟨b0,h1,h2⟩:=box2 w (.cells #[.slice po pn pc] 24) (.cells #[.int .i64 0,.int .i64 0] 29)
 have H1:=hide h1
 have H3:=hide h2
 have B0:=hide b0
 clear b0 h1 h2
 go_enter Tryz.func9,Tryz.ntmps9
 go_upto_region 1 with fail
 show Code.wp _ _ _ _ ((w.alloc (.cells #[.slice po pn pc] 24)).alloc (.cells #[.int .i64 0,.int .i64 0] 29))
 generalize (w.alloc (.cells #[.slice po pn pc] 24)).alloc (.cells #[.int .i64 0,.int .i64 0] 29)=W at *
 have c0:=(one_at H1.out).1
 have C1:=hide (CW.out W B0.out)
 clear CW
 go_wp2_with fail
 refine C1.out.mono ?_;rintro e w1 ⟨rfl,b1⟩
 have B1:=hide (below_step B0.out b1)
 have K3:=hide ((b1.block _ (Array.getElem?_eq_some_iff.1 H3.out).1).trans H3.out)
 clear b1 c0 C1
 obtain⟨⟨z0,z1⟩,⟨f0,f1⟩,_⟩:=two_at K3.out
 have HE:Hid (Below w.heap.size w ((w1.setCell ⟨w.heap.size+1,0,none⟩ (.int .i64 r1)).setCell ⟨w.heap.size+1,1,none⟩ (.int .i64 r2))):=hide (((B1.out.setCell (p:=⟨w.heap.size+1,0,none⟩) (Nat.le_succ _) _).setCell (p:=⟨w.heap.size+1,1,none⟩) (Nat.le_succ _) _))
 go_wp2_with fail
 exact bodyPost_ret (v:= .agg #[.int .i64 r1,.int .i64 r2]) (by simp [results,Tryz.results9,go_sem,z0,z1]) rfl ⟨rfl,HE.out⟩
theorem made11_any (p:List Fun) (po:Option Addr) (pc:Nat) (w:World) (hp:ProgR w p (.slice po p.length pc)) (hl:p.length≤1000000) (hO:∀f∈p,OkF f) (hM:∀f∈p,Mod f∧f.2.1.length≤1000000) (hTb:Tb w) (hTL:L5.Tab w) (hTG:Tab w)
  (hK:(wholeF 0 0 p).1=0→∀f∈p,Kept p f∧KeyF f∧∀k,k < f.2.2.2.1.length→∀i,i < (blkN f k).length→KeyX (insN f k i)∧checkC (insN f k i)=0):
  Calls Tryz.prog 11 #[.agg #[.slice po p.length pc]] w fun e w'=>e= .returned (.agg #[.int .i64 (checkP p false).1,.int .i64 (checkP p false).2])∧Below w.heap.size w w':=by
 have CW:=hide (fun w' (b:Below w.heap.size w w')=>whole11_any p false po pc w' (hp.below b) hl hO hM (hTb.below b) (hTL.below b) (hTG.below b) hK)
 clear hp hO hM hTb hTL hTG hK
 obtain⟨⟨r1,r2⟩,hr⟩:∃r,checkP p false=r:=⟨_,rfl⟩
 rw [hr] at CW ⊢
 clear hr
 generalize p.length=pn at *
 obtain⟨b0,h1,h2⟩:=box2 w (.cells #[.slice po pn pc] 24) (.cells #[.int .i64 0,.int .i64 0] 29)
 have H1:=hide h1
 have H3:=hide h2
 have B0:=hide b0
 clear b0 h1 h2
 go_enter Tryz.func11,Tryz.ntmps11
 go_upto_region 1 with fail
 show Code.wp _ _ _ _ ((w.alloc (.cells #[.slice po pn pc] 24)).alloc (.cells #[.int .i64 0,.int .i64 0] 29))
 generalize (w.alloc (.cells #[.slice po pn pc] 24)).alloc (.cells #[.int .i64 0,.int .i64 0] 29)=W at *
 have c0:=(one_at H1.out).1
 have C1:=hide (CW.out W B0.out)
 clear CW
 go_wp2_with fail
 refine C1.out.mono ?_;rintro e w1 ⟨rfl,b1⟩
 have B1:=hide (below_step B0.out b1)
 have K3:=hide ((b1.block _ (Array.getElem?_eq_some_iff.1 H3.out).1).trans H3.out)
 clear b1 c0 C1
 obtain⟨⟨z0,z1⟩,⟨f0,f1⟩,_⟩:=two_at K3.out
 have HE:Hid (Below w.heap.size w ((w1.setCell ⟨w.heap.size+1,0,none⟩ (.int .i64 r1)).setCell ⟨w.heap.size+1,1,none⟩ (.int .i64 r2))):=hide (((B1.out.setCell (p:=⟨w.heap.size+1,0,none⟩) (Nat.le_succ _) _).setCell (p:=⟨w.heap.size+1,1,none⟩) (Nat.le_succ _) _))
 go_wp2_with fail
 exact bodyPost_ret (v:= .agg #[.int .i64 r1,.int .i64 r2]) (by simp [results,Tryz.results11,go_sem,z0,z1]) rfl ⟨rfl,HE.out⟩
end Go.Proofs.YtljkgcfnoegibaaGreatDoor
namespace Go.Proofs.YtljkgcfnoegibaaGreatDoor.Mix
open Go Go.RowKit
section
variable (P:Program) (ops:Array Oper) (W:World) (F:Tmp→Up)
def wpAnyT (md:Region.Mode) (n:Nat) (L0:Array Bool) (Q:Act→(Tmp→Prop)→Prop):Nat→Array Bool→Act→(Tmp→Prop)→Prop
 |0,listed,a,S=>((∀j∈Region.ready md ops listed,j=n)∧Region.ready md ops listed≠ []∧listed=L0)∧Q a S
 |fuel+1,listed,a,S=>Region.ready md ops listed≠ []∧∀i∈Region.ready md ops listed,mOp P ops W F i (wpAnyT md n L0 Q fuel (listed.setIfInBounds i true)) a S
end
section
variable {P:Program} {ops:Array Oper} {W:World} {F:Tmp→Up} {md:Region.Mode} {n:Nat} {L0:Array Bool}
theorem wpAny_of_T {Q:Act→(Tmp→Prop)→Prop} {Q':Exit→Act→World→Prop} {o:Oper} {m:Nat} (ho:ops[n]? =some o)
  (hQ:∀a S w,Below W.heap.size W w→AllK F S a w→Q a S→Region.wanted o (yielded ops a.tmps)=true∧∀K:Act→World→Prop,(∀a' w',wpAny P md ops Q' m (L0.setIfInBounds n true) a' w'→K a' w')→o.wp P a w K Q'):
  ∀(fuel:Nat) (listed:Array Bool) (a:Act) (S:Tmp→Prop) (w:World),Below W.heap.size W w→AllK F S a w→wpAnyT P ops W F md n L0 Q fuel listed a S→wpAny P md ops Q' (m+1+fuel) listed a w
 |0,listed,a,S,w,hC,hA,h=>⟨fun h0=>absurd h0 h.1.2.1,fun i hi=>by
   obtain rfl:=h.1.1 i hi
   obtain⟨hw,hk⟩:=hQ a S w hC hA h.2
   unfold wpOp
   simp only [ho]
   rw [if_pos hw]
   exact .inl (hk _ (fun a' w' q=>by rw [h.1.2.2];exact q))⟩
 |fuel+1,listed,a,S,w,hC,hA,h=>⟨fun h0=>absurd h0 h.1,fun i hi=>by
   have hh:=h.2 i hi
   unfold mOp at hh
   unfold wpOp
   split
   ·rename_i ho';simp only [ho'] at hh;exact wpAny_of_T ho hQ fuel _ _ _ _ hC hA hh
   ·rename_i o' ho'
    simp only [ho'] at hh
    unfold body at hh
    split
    ·rename_i hw
     rw [if_pos hw] at hh
     exact .inl (wp_of_body hC hA (fun a' S' w' c k q=>wpAny_of_T ho hQ fuel _ _ _ _ c k q) hh.1 hh.2)
    ·rename_i hw
     rw [if_neg hw] at hh
     exact wpAny_of_T ho hQ fuel _ _ _ _ hC hA.del hh⟩
def Cl (md:Region.Mode) (ops:Array Oper) (listed:Array Bool):Prop:=∀(j:Nat) (oj:Oper),ops[j]? =some oj→listed.getD j false=true→∀e∈oj.after,Region.binds md e=true→listed.getD e.on false=true
theorem Cl.set {listed:Array Bool} {i:Nat} (h:Cl md ops listed) (hr:i∈Region.ready md ops listed):Cl md ops (listed.setIfInBounds i true):=by
 intro j oj hoj hj e he hb
 obtain⟨_,o,ho,hall⟩:=mem_ready.1 hr
 by_cases hij:i=j
 ·subst hij
  rw [ho] at hoj
  injection hoj with hoj
  subst hoj
  exact getD_set_true (hall e he hb)
 ·rw [getD_set_ne false hij] at hj
  exact getD_set_true (h j oj hoj hj e he hb)
def Waits (md:Region.Mode) (ops:Array Oper) (on:Oper) (i:Nat):Prop:=∃e∈on.after,Region.binds md e=true∧(e.on=i∨∃ok,ops[e.on]? =some ok∧∃e'∈ok.after,Region.binds md e'=true∧e'.on=i)
theorem wpAnyT_first {Q:Act→(Tmp→Prop)→Prop} {i:Nat} {oi on:Oper} (hi:ops[i]? =some oi) (hn:ops[n]? =some on) (hlast:Waits md ops on i) (hsel:∀(j:Nat) (o:Oper) cs b,ops[j]? =some o→o.op≠ .select cs b):
  ∀(fuel:Nat) (listed:Array Bool) (a:Act) (S:Tmp→Prop),Cl md ops listed→
   (∀j oj,ops[j]? =some oj→j≠i→listed.getD j true=false→(∀e∈oj.after,Region.binds md e=true→e.on≠i)→oi.apart ops oj=true)→
   i∈Region.ready md ops listed→(Region.wanted oi (yielded ops a.tmps)=true→∃v,Valid W F oi.dst v)→
   body P ops W F oi (wpAnyT P ops W F md n L0 Q fuel (listed.setIfInBounds i true)) a S→wpAnyT P ops W F md n L0 Q (fuel+1) listed a S:=by
 intro fuel
 induction fuel with
 |zero=>
  intro listed a S hcl _ hr hex H
  refine⟨fun h=>(by rw [h] at hr;cases hr),fun j hj=> ?_⟩
  by_cases hji:j=i
  ·subst hji;unfold mOp;simp only [hi];exact H
  ·have hno:=ready_mono hj hji
   have hall:∀j∈Region.ready md ops (listed.setIfInBounds i true),j=n:=by
    unfold body at H
    split at H
    ·rename_i hw
     obtain⟨v,hv⟩:=hex hw
     exact(H.2 v hv).1.1
    ·exact H.1.1
   obtain rfl:=hall j hno
   exfalso
   obtain⟨hjun,oj,hoj,hal⟩:=mem_ready.1 hj
   rw [hn] at hoj
   injection hoj with hoj
   subst hoj
   obtain⟨e,he,hb,heq⟩:=hlast
   have h1:=hal e he hb
   have h0:=(mem_ready.1 hr).1
   replace h1:listed.getD i false=true:=by
    rcases heq with heq | ⟨ok,hok,e',he',hb',heq'⟩
    ·rw [heq] at h1;exact h1
    ·have:=hcl _ ok hok h1 e' he' hb'
     rw [heq'] at this
     exact this
   rcases Nat.lt_or_ge i listed.size with h' | h'
   ·simp [h'] at h0 h1;rw [h0] at h1;cases h1
   ·simp [Array.getElem?_eq_none h'] at h1
 |succ fuel ih=>
  intro listed a S hcl hfree hr hex H
  refine⟨fun h=>(by rw [h] at hr;cases hr),fun j hj=> ?_⟩
  by_cases hji:j=i
  ·subst hji;unfold mOp;simp only [hi];exact H
  ·obtain⟨hjun,oj,hoj,hall⟩:=mem_ready.1 hj
   have hnot:∀e∈oj.after,Region.binds md e=true→e.on≠i:=fun e he hb heq=>by
    have h1:=hall e he hb
    have h0:=(mem_ready.1 hr).1
    rw [heq] at h1
    rcases Nat.lt_or_ge i listed.size with h' | h'
    ·simp [h'] at h0 h1;rw [h0] at h1;cases h1
    ·simp [Array.getElem?_eq_none h'] at h1
   have hap:=hfree j oj hoj hji hjun hnot
   obtain⟨_,_,h3⟩:=Oper.apart_spec hap
   have H1:body P ops W F oi (fun a' S'=>body P ops W F oj (wpAnyT P ops W F md n L0 Q fuel ((listed.setIfInBounds i true).setIfInBounds j true)) a' S') a S:=body_mono (fun a' S' h=>by
    have:=h.2 j (ready_mono hj hji)
    unfold mOp at this
    simp only [hoj] at this
    exact this) H
   have H2:=body_swap hap (fun cs b=>hsel i oi cs b hi) (fun cs b=>hsel j oj cs b hoj) hex H1
   have H3:=wanted_body (A:=fun a'=>Region.wanted oi (yielded ops a'.tmps)=true→∃v,Valid W F oi.dst v) (fun u=>by rw [wanted_put oi a oj.dst u h3];exact hex) H2
   have hfree':∀k ok,ops[k]? =some ok→k≠i→(listed.setIfInBounds j true).getD k true=false→
     (∀e∈ok.after,Region.binds md e=true→e.on≠i)→oi.apart ops ok=true:=fun k ok hk hki hun hno=>by
    refine hfree k ok hk hki ?_ hno
    by_cases hjk:j=k
    ·subst hjk;exact hjun
    ·rw [getD_set_ne true hjk] at hun;exact hun
   unfold mOp
   simp only [hoj]
   refine body_mono (fun a' S' h=>ih (listed.setIfInBounds j true) a' S' (hcl.set hj) hfree' (ready_mono hr (Ne.symm hji)) h.1 ?_) H3
   rw [Array.setIfInBounds_comm _ _ hji]
   exact h.2
def pre (sz k:Nat):Array Bool:=(List.range k).foldl (fun l i=>l.setIfInBounds i true) (Array.replicate sz false)
theorem pre_succ (sz k:Nat):pre sz (k+1)=(pre sz k).setIfInBounds k true:=by
 unfold pre
 rw [List.range_succ,List.foldl_append]
 rfl
theorem pre_at (sz:Nat):∀(k j:Nat),j < k→(pre sz k).getD j true=true:=by
 intro k
 induction k with
 |zero=>intro j h;omega
 |succ k ih=>
  intro j h
  rw [pre_succ]
  by_cases e:k=j
  ·subst e
   by_cases hb:k < (pre sz k).size
   ·simp [hb]
   ·simp [hb]
  ·rw [getD_set_ne true e]
   exact ih j (by omega)
theorem pre_un (sz:Nat) (k:Nat) (hk:k < sz):(pre sz k).getD k false=false:=by
 have h:∀(m:Nat),m≤k→(pre sz m).getD k false=false:=by
  intro m
  induction m with
  |zero=>intro _;simp [pre,hk]
  |succ m ih=>
   intro hm
   rw [pre_succ,getD_set_ne false (by omega)]
   exact ih (by omega)
 exact h k (Nat.le_refl _)
theorem wpAnyT_lex {Q:Act→(Tmp→Prop)→Prop} {on:Oper} {m:Nat} (hsz:ops.size=n+1+m) (hn:ops[n]? =some on) (hs:Region.noSelect ops=true) (hlast:∀i,i < n→Waits md ops on i)
  (htail:∀(j:Nat) (oj:Oper),n < j→ops[j]? =some oj→∃e∈oj.after,Region.binds md e=true∧e.on=n):∀(l:List Oper) (k:Nat) (a:Act) (S:Tmp→Prop),Cl md ops (pre ops.size k)→k+l.length=n→(∀j,j < l.length→l[j]? =ops[k+j]?)→
  Region.lexFrom md ops (l.length+1+m) k (pre ops.size k)=true→wpMix P ops W F Q l a S→wpAnyT P ops W F md n (pre ops.size n) Q l.length (pre ops.size k) a S
 |[],k,_,_,_,hk,_,hB,h=>by
  have hkn:k=n:=by simpa using hk
  subst hkn
  have e:([]:List Oper).length+1+m=m+1:=by simp;omega
  rw [e,Region.lexFrom] at hB
  simp only [Bool.and_eq_true] at hB
  obtain⟨⟨hr,_⟩,_⟩:=hB
  have hr':k∈Region.ready md ops (pre ops.size k):=by simpa using hr
  refine⟨⟨fun j hj=> ?_,fun h0=>(by rw [h0] at hr';cases hr'),rfl⟩,h⟩
  refine Classical.byContradiction fun hne=> ?_
  obtain⟨hjun,oj,hoj,hall⟩:=mem_ready.1 hj
  rcases Nat.lt_or_ge j k with hlt | hge
  ·rw [pre_at _ _ _ hlt] at hjun;cases hjun
  ·obtain⟨e,he,hb,heq⟩:=htail j oj (by omega) hoj
   have h1:=hall e he hb
   rw [heq,pre_un _ _ (by omega)] at h1
   cases h1
 |o :: l,k,a,S,hcl,hk,hl,hB,h=>by
  have h0:ops[k]? =some o:=by simpa using (hl 0 (by simp)).symm
  have e:(o :: l).length+1+m=(l.length+1+m)+1:=by simp;omega
  rw [e,Region.lexFrom] at hB
  simp only [List.length_cons] at hk
  simp only [Bool.and_eq_true] at hB
  obtain⟨⟨hr,hf⟩,hB'⟩:=hB
  refine wpAnyT_first h0 hn (hlast k (by omega)) (Region.noSelect_spec hs) l.length (pre ops.size k) a S hcl (Region.free_spec h0 hf) (by simpa using hr) h.1 ?_
  have hcl':=hcl.set (by simpa using hr:k∈Region.ready md ops (pre ops.size k))
  rw [←pre_succ] at hB' hcl' ⊢
  exact body_mono (fun a' S' q=>wpAnyT_lex hsz hn hs hlast htail l (k+1) _ _ hcl' (by omega) (fun j hj=>by have:=hl (j+1) (by simp;omega);simpa [Nat.add_assoc,Nat.add_comm 1 j] using this) hB' q) h.2
theorem wpAny_one {Q:Exit→Act→World→Prop} {m i:Nat} {L:Array Bool} {a:Act} {w:World} {o:Oper} (hr:Region.ready md ops L= [i]) (ho:ops[i]? =some o) (hw:Region.wanted o (yielded ops a.tmps)=true)
  (h:∀K:Act→World→Prop,(∀a' w',wpAny P md ops Q m (L.setIfInBounds i true) a' w'→K a' w')→o.wp P a w K Q):wpAny P md ops Q (m+1) L a w:=
 ⟨fun h0=>(by rw [hr] at h0;cases h0),fun j hj=>by
  rw [hr] at hj
  obtain rfl:j=i:=by simpa using hj
  unfold wpOp
  simp only [ho]
  rw [if_pos hw]
  exact .inl (h _ (fun a' w' q=>q))⟩
theorem wpAny_end {Q:Exit→Act→World→Prop} {L:Array Bool} {a:Act} {w:World} (hr:Region.ready md ops L= []) (h:Q .normal a w):wpAny P md ops Q 0 L a w:=⟨hr,h⟩
theorem wp_region_tail {id:Nat} {Q:Exit→Act→World→Prop} {a:Act} {l:List Oper} (F:Tmp→Up) (n m:Nat) (o:Oper) (hn:l.length=n+1+m) (ho:l[n]? =some o) (hm:P.follows .mixedOrders=true) (hB:Region.lexB .any l.toArray=true)
  (hL:(List.range n).all (fun i=>o.after.any fun e=>Region.binds .any e && (e.on == i || (match l[e.on]? with | some ok=>ok.after.any fun e'=>Region.binds .any e' && e'.on == i | none=>false)))=true) (hT:(l.drop (n+1)).all (fun oj=>oj.after.any fun e=>Region.binds .any e && e.on == n)=true)
  (h:wpMix P l.toArray W F (fun a' S=>∀w',Below W.heap.size W w'→AllK F S a' w'→Region.wanted o (yielded l.toArray a'.tmps)=true∧∀K:Act→World→Prop,(∀a'' w'',wpAny P .any l.toArray Q m ((pre l.toArray.size n).setIfInBounds n true) a'' w''→K a'' w'')→o.wp P a' w' K Q) (l.take n) a (fun _=>False)):(Code.region id l.toArray true).wp P Q a W:=by
 simp only [Region.lexB,Bool.and_eq_true] at hB
 have hsz:l.toArray.size=n+1+m:=by simpa using hn
 refine wp_region_any hm ?_
 have hoA:l.toArray[n]? =some o:=by simpa using ho
 have e0:l.toArray.size=m+1+n:=by omega
 rw [e0]
 have hlen:(l.take n).length=n:=by rw [List.length_take];omega
 have hlast:∀i,i < n→Waits .any l.toArray o i:=fun i hi=>by
  have:=List.all_eq_true.1 hL i (by simpa using hi)
  obtain⟨e,he,h2⟩:=Array.any_eq_true'.1 this
  simp only [Bool.and_eq_true,Bool.or_eq_true,beq_iff_eq] at h2
  refine⟨e,he,h2.1,?_⟩
  rcases h2.2 with h3 | h3
  ·exact .inl h3
  ·right
   split at h3
   ·rename_i ok hok
    obtain⟨e',he',h4⟩:=Array.any_eq_true'.1 h3
    simp only [Bool.and_eq_true,beq_iff_eq] at h4
    exact⟨ok,by simpa using hok,e',he',h4.1,h4.2⟩
   ·cases h3
 have htail:∀(j:Nat) (oj:Oper),n < j→l.toArray[j]? =some oj→∃e∈oj.after,Region.binds .any e=true∧e.on=n:=fun j oj hj hoj=>by
  have hm':oj∈l.drop (n+1):=by
   rw [List.mem_iff_getElem?]
   refine⟨j - (n+1),?_⟩
   rw [List.getElem?_drop,show n+1+(j - (n+1))=j by omega]
   simpa using hoj
  have:=List.all_eq_true.1 hT oj hm'
  obtain⟨e,he,h2⟩:=Array.any_eq_true'.1 this
  simp only [Bool.and_eq_true,beq_iff_eq] at h2
  exact⟨e,he,h2.1,h2.2⟩
 refine wpAny_of_T (W:=W) (F:=F) (n:=n) (L0:=pre l.toArray.size n) (Q:=fun a' S=>∀w',Below W.heap.size W w'→AllK F S a' w'→Region.wanted o (yielded l.toArray a'.tmps)=true∧∀K:Act→World→Prop,(∀a'' w'',wpAny P .any l.toArray Q m ((pre l.toArray.size n).setIfInBounds n true) a'' w''→K a'' w'')→o.wp P a' w' K Q) hoA (fun _ _ w' hC hA h=>h w' hC hA) n _ _ (fun _=>False) _ (Below.refl _ _).drew (fun t ht=>ht.elim) ?_
 have hB2:=hB.2
 have:=wpAnyT_lex (P:=P) (W:=W) (F:=F) (md:= .any) (n:=n) (m:=m) hsz hoA hB.1 hlast htail (l.take n) 0 a (fun _=>False) (fun j oj _ hj=>by
  exfalso
  simp only [pre,List.range_zero,List.foldl_nil,Array.getD_eq_getD_getElem?,Array.getElem?_replicate] at hj
  split at hj <;> simp at hj) (by omega) (fun j hj=>by
  rw [Nat.zero_add,List.getElem?_take,if_pos (by omega)];simp) (by rw [hlen,show n+1+m=l.toArray.size by omega];exact hB2) h
 rw [hlen] at this
 have e1:pre l.toArray.size 0=Array.replicate (m+1+n) false:=by rw [←e0];rfl
 rw [e1] at this
 exact this
end
end Go.Proofs.YtljkgcfnoegibaaGreatDoor.Mix
namespace Go.Proofs.YtljkgcfnoegibaaGreatDoor
open Go Go.RowKit
open G (Tok Er Ins Fun)
theorem Tryz.infoC3:(Tryz.prog.info? 3).map (fun i=>(i.zero,i.size,i.bytes))=some (some (.int .i64 0),1,8):=by kernel_rfl
theorem Tryz.infoC45:(Tryz.prog.info? 45).map (fun i=>(i.zero,i.size,i.bytes))=some (some (.slice none 0 0),1,24):=by kernel_rfl
theorem Tryz.infoC47:(Tryz.prog.info? 47).map (fun i=>(i.zero,i.size,i.bytes))=some (some (.agg #[.int .i64 0,.int .i64 0,.int .i64 0,.int .i64 0,.slice none 0 0,.slice none 0 0,.string ⟨#[]⟩,.int .i64 0]),8,104):=by kernel_rfl
theorem Tryz.undC33:Tryz.prog.underlying 33=some (.slice 3):=by kernel_rfl
theorem Tryz.undC34:Tryz.prog.underlying 34=some (.slice 45):=by kernel_rfl
theorem Tryz.undC45:Tryz.prog.underlying 45=some (.slice 47):=by kernel_rfl
theorem Tryz.nilC33 (c:Nat) (w:World):Sem.run Tryz.prog (binOp BinOp.eql 33 (Value.slice none 0 c) (Value.slice none 0 0)) w= .ok (.bool true) w:=by kernel_rfl
theorem Tryz.somC33 (a:Addr) (n c:Nat) (w:World):Sem.run Tryz.prog (binOp BinOp.eql 33 (Value.slice (some a) n c) (Value.slice none 0 0)) w= .ok (.bool false) w:=by kernel_rfl
theorem Tryz.nilC34 (c:Nat) (w:World):Sem.run Tryz.prog (binOp BinOp.eql 34 (Value.slice none 0 c) (Value.slice none 0 0)) w= .ok (.bool true) w:=by kernel_rfl
theorem Tryz.somC34 (a:Addr) (n c:Nat) (w:World):Sem.run Tryz.prog (binOp BinOp.eql 34 (Value.slice (some a) n c) (Value.slice none 0 0)) w= .ok (.bool false) w:=by kernel_rfl
theorem Tryz.nilC45 (c:Nat) (w:World):Sem.run Tryz.prog (binOp BinOp.eql 45 (Value.slice none 0 c) (Value.slice none 0 0)) w= .ok (.bool true) w:=by kernel_rfl
theorem Tryz.somC45 (a:Addr) (n c:Nat) (w:World):Sem.run Tryz.prog (binOp BinOp.eql 45 (Value.slice (some a) n c) (Value.slice none 0 0)) w= .ok (.bool false) w:=by kernel_rfl
theorem cloneI (ao:Option Addr) (n c:Nat) (ys:List Value) (w:World) (hl:ys.length=n * 1) (h:n=0∨∃g o,ao=some ⟨g,o,none⟩∧g < w.heap.size∧∀j u,ys[j]? =some u→w.cell? ⟨g,o+j,none⟩=some u) (h1:∀u∈ys,u.oneCell'=true) (hn:n≤1000000):
  Calls Tryz.prog 50 #[.slice ao n c] w fun e w'=>∃v,e= .returned v∧w'.ownsRow w.heap.size 3 1 v n ys∧Below w.heap.size w w':=by
 obtain⟨i0,hi0,hz0,hz1,hz2⟩:=info_parts Tryz.infoC3
 cases ao with
 |none=>
  have hn0:n=0:=by
   rcases h with h | ⟨g,o,e,_⟩
   ·exact h
   ·cases e
  subst hn0
  have hy:ys= []:=List.length_eq_zero_iff.1 (by simpa using hl)
  subst hy
  have hnl:=Tryz.nilC33 c
  have HO:=hide (World.ownsRow_nil w w.heap.size 3 1)
  go_enter Tryz.func50,Tryz.ntmps50
  go_wp2_with fail
  go_ret
  exact⟨_,rfl,HO.out,Below.refl _ _⟩
 |some ad=>
  have hsm:=Tryz.somC33 ad n c
  have b1:=below_box w (.cells #[] 3)
  have hcl:∀j u,ys[j]? =some u→(w.alloc (.cells #[] 3)).cell? (ad.add j)=some u:=by
   intro j u hj
   rcases h with h | ⟨g,o,e,hg,hc⟩
   ·subst h
    have hy:ys= []:=List.length_eq_zero_iff.1 (by simpa using hl)
    rw [hy] at hj;simp at hj
   ·injection e with e
    subst e
    rw [Addr.add_lit]
    exact(b1.cell (p:=⟨g,o+j,none⟩) hg).trans (hc j u hj)
  have HC:=hide hcl
  have HO:Hid ((w.alloc (.cells #[] 3)).ownsRow w.heap.size 3 1 (.slice (some ⟨w.heap.size,0,none⟩) 0 0) 0 []):=hide (by
   refine⟨rfl,.inr ⟨w.heap.size,0,#[],rfl,Nat.le_refl _,heap_alloc_new w _,Nat.le_refl _,Nat.zero_le _,rfl,rfl⟩⟩)
  have B1:=hide b1
  clear hcl b1 h
  go_enter Tryz.func50,Tryz.ntmps50
  go_wp2_with (first | (at_builtin;refine wpList_append_own _ rfl (.tmp 5) (.tmp 6) 33 rfl w.heap.size 3 i0 _ 1 8 Tryz.undC33 hi0 hz0 hz1 hz2 rfl (by decide) _ _ _ rfl HO.out ad n c ys rfl hl HC.out h1 (by unfold maxLen;omega) (by omega) (by simp) ?_;intro v2 w2 own2 grow2 hnil2;refine Hid.out ?_) | fail)
  have HW:Hid (w2.ownsRow w.heap.size 3 1 v2 n ys∧Below w.heap.size w w2):=hide ⟨by simpa using own2,B1.out.trans (grown_below grow2 (by simp) (Nat.le_refl _))⟩
  clear own2 grow2 hnil2
  refine hide ?_
  go_wp2_with fail
  go_ret
  exact⟨_,rfl,HW.out.1,HW.out.2⟩
theorem cloneB (ao:Option Addr) (n c:Nat) (ys:List Value) (w:World) (hl:ys.length=n * 1) (h:n=0∨∃g o,ao=some ⟨g,o,none⟩∧g < w.heap.size∧∀j u,ys[j]? =some u→w.cell? ⟨g,o+j,none⟩=some u) (h1:∀u∈ys,u.oneCell'=true) (hn:n≤1000000):
  Calls Tryz.prog 51 #[.slice ao n c] w fun e w'=>∃v,e= .returned v∧w'.ownsRow w.heap.size 45 1 v n ys∧Below w.heap.size w w':=by
 obtain⟨i0,hi0,hz0,hz1,hz2⟩:=info_parts Tryz.infoC45
 cases ao with
 |none=>
  have hn0:n=0:=by
   rcases h with h | ⟨g,o,e,_⟩
   ·exact h
   ·cases e
  subst hn0
  have hy:ys= []:=List.length_eq_zero_iff.1 (by simpa using hl)
  subst hy
  have hnl:=Tryz.nilC34 c
  have HO:=hide (World.ownsRow_nil w w.heap.size 45 1)
  go_enter Tryz.func51,Tryz.ntmps51
  go_wp2_with fail
  go_ret
  exact⟨_,rfl,HO.out,Below.refl _ _⟩
 |some ad=>
  have hsm:=Tryz.somC34 ad n c
  have b1:=below_box w (.cells #[] 45)
  have hcl:∀j u,ys[j]? =some u→(w.alloc (.cells #[] 45)).cell? (ad.add j)=some u:=by
   intro j u hj
   rcases h with h | ⟨g,o,e,hg,hc⟩
   ·subst h
    have hy:ys= []:=List.length_eq_zero_iff.1 (by simpa using hl)
    rw [hy] at hj;simp at hj
   ·injection e with e
    subst e
    rw [Addr.add_lit]
    exact(b1.cell (p:=⟨g,o+j,none⟩) hg).trans (hc j u hj)
  have HC:=hide hcl
  have HO:Hid ((w.alloc (.cells #[] 45)).ownsRow w.heap.size 45 1 (.slice (some ⟨w.heap.size,0,none⟩) 0 0) 0 []):=hide (by
   refine⟨rfl,.inr ⟨w.heap.size,0,#[],rfl,Nat.le_refl _,heap_alloc_new w _,Nat.le_refl _,Nat.zero_le _,rfl,rfl⟩⟩)
  have B1:=hide b1
  clear hcl b1 h
  go_enter Tryz.func51,Tryz.ntmps51
  go_wp2_with (first | (at_builtin;refine wpList_append_own _ rfl (.tmp 5) (.tmp 6) 34 rfl w.heap.size 45 i0 _ 1 24 Tryz.undC34 hi0 hz0 hz1 hz2 rfl (by decide) _ _ _ rfl HO.out ad n c ys rfl hl HC.out h1 (by unfold maxLen;omega) (by omega) (by simp) ?_;intro v2 w2 own2 grow2 hnil2;refine Hid.out ?_) | fail)
  have HW:Hid (w2.ownsRow w.heap.size 45 1 v2 n ys∧Below w.heap.size w w2):=hide ⟨by simpa using own2,B1.out.trans (grown_below grow2 (by simp) (Nat.le_refl _))⟩
  clear own2 grow2 hnil2
  refine hide ?_
  go_wp2_with fail
  go_ret
  exact⟨_,rfl,HW.out.1,HW.out.2⟩
theorem cloneX (ao:Option Addr) (n c:Nat) (ys:List Value) (w:World) (hl:ys.length=n * 8) (h:n=0∨∃g o,ao=some ⟨g,o,none⟩∧g < w.heap.size∧∀j u,ys[j]? =some u→w.cell? ⟨g,o+j,none⟩=some u) (h1:∀u∈ys,u.oneCell'=true) (hn:n≤1000000):
  Calls Tryz.prog 52 #[.slice ao n c] w fun e w'=>∃v,e= .returned v∧w'.ownsRow w.heap.size 47 8 v n ys∧Below w.heap.size w w':=by
 obtain⟨i0,hi0,hz0,hz1,hz2⟩:=info_parts Tryz.infoC47
 cases ao with
 |none=>
  have hn0:n=0:=by
   rcases h with h | ⟨g,o,e,_⟩
   ·exact h
   ·cases e
  subst hn0
  have hy:ys= []:=List.length_eq_zero_iff.1 (by simpa using hl)
  subst hy
  have hnl:=Tryz.nilC45 c
  have HO:=hide (World.ownsRow_nil w w.heap.size 47 8)
  go_enter Tryz.func52,Tryz.ntmps52
  go_wp2_with fail
  go_ret
  exact⟨_,rfl,HO.out,Below.refl _ _⟩
 |some ad=>
  have hsm:=Tryz.somC45 ad n c
  have b1:=below_box w (.cells #[] 47)
  have hcl:∀j u,ys[j]? =some u→(w.alloc (.cells #[] 47)).cell? (ad.add j)=some u:=by
   intro j u hj
   rcases h with h | ⟨g,o,e,hg,hc⟩
   ·subst h
    have hy:ys= []:=List.length_eq_zero_iff.1 (by simpa using hl)
    rw [hy] at hj;simp at hj
   ·injection e with e
    subst e
    rw [Addr.add_lit]
    exact(b1.cell (p:=⟨g,o+j,none⟩) hg).trans (hc j u hj)
  have HC:=hide hcl
  have HO:Hid ((w.alloc (.cells #[] 47)).ownsRow w.heap.size 47 8 (.slice (some ⟨w.heap.size,0,none⟩) 0 0) 0 []):=hide (by
   refine⟨rfl,.inr ⟨w.heap.size,0,#[],rfl,Nat.le_refl _,heap_alloc_new w _,Nat.le_refl _,Nat.zero_le _,rfl,rfl⟩⟩)
  have B1:=hide b1
  clear hcl b1 h
  go_enter Tryz.func52,Tryz.ntmps52
  go_wp2_with (first | (at_builtin;refine wpList_append_own _ rfl (.tmp 5) (.tmp 6) 45 rfl w.heap.size 47 i0 _ 8 104 Tryz.undC45 hi0 hz0 hz1 hz2 rfl (by decide) _ _ _ rfl HO.out ad n c ys rfl hl HC.out h1 (by unfold maxLen;omega) (by omega) (by simp) ?_;intro v2 w2 own2 grow2 hnil2;refine Hid.out ?_) | fail)
  have HW:Hid (w2.ownsRow w.heap.size 47 8 v2 n ys∧Below w.heap.size w w2):=hide ⟨by simpa using own2,B1.out.trans (grown_below grow2 (by simp) (Nat.le_refl _))⟩
  clear own2 grow2 hnil2
  refine hide ?_
  go_wp2_with fail
  go_ret
  exact⟨_,rfl,HW.out.1,HW.out.2⟩
end Go.Proofs.YtljkgcfnoegibaaGreatDoor
