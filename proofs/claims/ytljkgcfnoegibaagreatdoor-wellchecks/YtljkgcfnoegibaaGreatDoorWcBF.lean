/- Texts of one chain, joined. -/
import Derived.Test.YtljkgcfnoegibaaGreatDoorWcBD
import Derived.Test.YtljkgcfnoegibaaGreatDoorWcBE
set_option maxHeartbeats 1500000
set_option maxRecDepth 20000
namespace Go.Proofs.YtljkgcfnoegibaaGreatDoor
open Go Go.RowKit
open G (Tok Er Ins Fun)
open Mix (Up)
theorem whole_at:∀(p:List Fun) (i m:Nat),(wholeF i m p).1≠0→∃j:Nat,(wholeF i m p).2=j∧i≤j∧j < i+p.length:=by
 intro p
 induction p with
 |nil=>intro i m h;simp [wholeF] at h
 |cons f r ih=>
  intro i m h
  by_cases hi:i=32
  ·subst hi
   exact⟨32,by rw [whole_many],Nat.le_refl _,by simp⟩
  ·by_cases hh:headC f≠0
   ·exact⟨i,by rw [whole_head m r hi hh],Nat.le_refl _,by simp⟩
   ·have hh':headC f=0:=by simpa using hh
    by_cases hb:(runB m f.2.2.2.1).2≠0
    ·exact⟨i,by rw [whole_body r hi hh' hb],Nat.le_refl _,by simp⟩
    ·have hb':(runB m f.2.2.2.1).2=0:=by simpa using hb
     rw [whole_next r hi hh' hb'] at h ⊢
     obtain⟨j,h1,h2,h3⟩:=ih (i+1) _ h
     exact⟨j,h1,by omega,by simp;omega⟩
def BoxE (B:Nat) (w:World) (v:Value):Prop:=∃b,v= .pointer (some ⟨b,0,none⟩)∧B≤b∧w.heap[b]? =some (.cells #[.int .i64 0,.int .i64 0] 29 (0,0))
theorem BoxE.below {B:Nat} {w w':World} {v:Value} (h:BoxE B w v) (b:Below w.heap.size w w'):BoxE B w' v:=by
 obtain⟨q,e,hb,hq⟩:=h
 exact⟨q,e,hb,(b.block q (Array.getElem?_eq_some_iff.1 hq).1).trans hq⟩
def Up.boxe (B:Nat):Up:=⟨fun v w=>BoxE B w v,fun _ _ _ b h=>h.below b⟩
def chkUp (pv fv ev sv:Value) (q g o i B:Nat) (src:Bool) (t:Tmp):Up:=match t with
 |37=>Up.eq pv
 |38=>Up.eq (.pointer (some ⟨q,0,none⟩))
 |39=>Up.eq sv
 |40=>Up.eq (.int .i64 i)
 |41=>Up.eq (.pointer (some ⟨g,o+i * 5,none⟩))
 |42=>Up.eq fv
 |43=>Up.eq (.bool src)
 |44=>Up.eq ev
 |8=>Up.boxe B
 |_=>Up.any
theorem rcheckP_any (p:List Fun) (src:Bool) (po:Option Addr) (pc:Nat) (w:World) (hp:ProgR w p (.slice po p.length pc)) (hl:p.length≤1000000) (hO:∀f∈p,OkF f) (hM:∀f∈p,Mod f∧f.2.1.length≤1000000) (hK:(wholeF 0 0 p).1=0→∀f∈p,Kept p f):
  Calls Tryz.prog 10 #[.agg #[.slice po p.length pc],.bool src] w fun e w'=>e= .returned (.agg #[.int .i64 (checkP p src).1,.int .i64 (checkP p src).2])∧Below w.heap.size w w':=by
 have HCp:Hid (checkP p src=if(wholeF 0 0 p).1≠0 then((wholeF 0 0 p).1,(funN p (wholeF 0 0 p).2.toNat).2.2.2.2)else if(namesF p).1≠0 then namesF p else(fstN (funcO p src) p.length).getD (0,0)):=hide rfl
 have HFo:Hid (∀i,funcO p src i=if(funcE p (funN p i) src).1≠0 then some (funcE p (funN p i) src)else none):=hide (fun _=>rfl)
 have CW:=hide (fun w' (b:Below w.heap.size w w')=>rwhole_try p po pc w' (hp.below b) hO)
 have CN:=hide (fun w' (b:Below w.heap.size w w')=>rnames_any p po pc w' (hp.below b) hl (fun f hf=>(hM f hf).2))
 have CFn:=hide (fun i (hi:i < p.length) (h0:(wholeF 0 0 p).1=0) fv w' (b:Below w.heap.size w w') (hv:FunV w' (funN p i) fv)=>rfunc_any p (funN p i) src po pc fv w' (hp.below b) hl hv (hM _ (List.mem_of_getElem? (funN_at hi))).1 (hK h0 _ (List.mem_of_getElem? (funN_at hi))))
 have HRd:Hid (∀i,i < p.length→∃g o,po=some ⟨g,o,none⟩∧FunR w (funN p i) g (o+i * 5)):=hide (fun i hi=>prog_fun hp hi)
 have HWa:=hide (whole_at p 0 0)
 clear hp hO hM hK
 obtain⟨r,hr⟩:∃r,checkP p src=r:=⟨_,rfl⟩
 rw [hr] at HCp ⊢
 clear hr
 generalize hpn:p.length=pn at *
 have b1:=below_box w (.cells #[.slice po pn pc] 24)
 have h1:=heap_alloc_new w (.cells #[.slice po pn pc] 24)
 have b2:=below_box (w.alloc (.cells #[.slice po pn pc] 24)) (.cells #[.int .i64 0,.int .i64 0] 29)
 have hs1:(w.alloc (.cells #[.slice po pn pc] 24)).heap.size=w.heap.size+1:=by simp
 have h2:=heap_alloc_new (w.alloc (.cells #[.slice po pn pc] 24)) (.cells #[.int .i64 0,.int .i64 0] 29)
 rw [hs1] at h2
 have H1:=hide ((b2.block w.heap.size (by simp)).trans h1)
 have H3:=hide h2
 have B0:=hide (below_step b1 b2)
 clear b1 h1 b2 hs1 h2
 replace hpn:=hide hpn
 go_enter Tryz.func10,Tryz.ntmps10
 go_upto_region 1 with fail
 show Code.wp _ _ _ _ ((w.alloc (.cells #[.slice po pn pc] 24)).alloc (.cells #[.int .i64 0,.int .i64 0] 29))
 generalize (w.alloc (.cells #[.slice po pn pc] 24)).alloc (.cells #[.int .i64 0,.int .i64 0] 29)=W at *
 have hz2:=(two_at H3.out).2.2
 have hq0:w.heap.size < W.heap.size:=(one_at H1.out).2
 have c0:=(one_at H1.out).1
 have C1:=hide (CW.out W B0.out)
 go_wp2_with fail
 refine C1.out.mono ?_;rintro e w1 ⟨rfl,b1⟩
 obtain⟨wc,hwc⟩:∃wc,wholeF 0 0 p=wc:=⟨_,rfl⟩
 rw [hwc] at HCp HWa CFn ⊢
 have b2:=below_box w1 (.cells #[.int .i64 wc.1,.int .i64 wc.2] 29)
 have HS:=hide (heap_alloc_new w1 (.cells #[.int .i64 wc.1,.int .i64 wc.2] 29))
 have BW2:=hide (below_step b1 b2)
 clear C1 CW b1 b2 c0 hwc
 go_upto_region 2 with fail
 show Code.wp _ _ _ _ (w1.alloc (.cells #[.int .i64 wc.1,.int .i64 wc.2] 29))
 generalize w1.alloc (.cells #[.int .i64 wc.1,.int .i64 wc.2] 29)=w2 at *
 generalize w1.heap.size=q1 at *
 obtain⟨⟨z0,z1⟩,⟨f0,f1⟩,_⟩:=two_at ((BW2.out.block _ hz2).trans H3.out)
 obtain⟨⟨s0,s1⟩,_,hsl⟩:=two_at HS.out
 have c0:=(BW2.out.cell (p:=⟨w.heap.size,0,none⟩) hq0).trans (one_at H1.out).1
 by_cases hw0:wc.1=0
 ·have HCp2:Hid (r=if(namesF p).1≠0 then namesF p else(fstN (funcO p src) pn).getD (0,0)):=hide (by rw [HCp.out,if_neg (by simpa using hw0)])
  rw [hw0] at s0
  have C2:=hide (CN.out w2 (below_step B0.out BW2.out))
  obtain⟨nc,hnc⟩:∃nc,namesF p=nc:=⟨_,rfl⟩
  rw [hnc] at C2 HCp2
  clear HCp CN HWa hnc
  go_wp2_with fail
  refine C2.out.mono ?_;rintro e w3 ⟨rfl,b3⟩
  have b4:=below_box w3 (.cells #[.int .i64 nc.1,.int .i64 nc.2] 29)
  have HS2:=hide (heap_alloc_new w3 (.cells #[.int .i64 nc.1,.int .i64 nc.2] 29))
  have BW4:=hide (below_step BW2.out (below_step b3 b4))
  clear C2 b3 b4 c0 s0 s1 z0 z1 f0 f1 hsl HS BW2
  go_upto_region 5 with fail
  show Code.wp _ _ _ _ (w3.alloc (.cells #[.int .i64 nc.1,.int .i64 nc.2] 29))
  generalize w3.alloc (.cells #[.int .i64 nc.1,.int .i64 nc.2] 29)=w4 at *
  generalize w3.heap.size=q3 at *
  obtain⟨⟨z0,z1⟩,⟨f0,f1⟩,_⟩:=two_at ((BW4.out.block _ hz2).trans H3.out)
  obtain⟨⟨s0,s1⟩,_,hsl⟩:=two_at HS2.out
  by_cases hn0:nc.1=0
  ·rw [hn0] at s0
   have HCp3:Hid (r=(fstN (funcO p src) pn).getD (0,0)):=hide (by rw [HCp2.out,if_neg (by simpa using hn0)])
   clear HCp2
   go_wp2_with fail
   clear s0 s1 z0 z1 f0 f1 hsl
   go_loopw [7] (fun iv wr=>∃i:Nat,i≤pn∧iv= .int .i64 i∧Hid (∀j,j < i→funcO p src j=none)∧Hid (Below W.heap.size W wr)) (fun iv _=>pn - (intOf iv).toNat)
   case atStart=>exact⟨0,Nat.zero_le _,rfl,hide (fun j h=>absurd h (Nat.not_lt_zero _)),BW4⟩
   case round=>
    clear BW4
    obtain⟨i,hi,rfl,HF,HW⟩:=hrel
    have c0:=(HW.out.cell (p:=⟨w.heap.size,0,none⟩) hq0).trans (one_at H1.out).1
    by_cases hit:i < pn
    ·have hiI:(i:Int) < pn:=by omega
     obtain⟨g,o,rfl,hfr⟩:=HRd.out i hit
     obtain⟨ha,hb,hc,hdd,hfv,d0,d1,d2,d3,d4⟩:=hfr.val
     have hgl:=hfr.1
     have Bw:=hide (below_step B0.out HW.out)
     have CF:=hide (fun w' (b:Below wr.heap.size wr w')=>CFn.out i hit hw0 _ w' (below_step Bw.out b) (hfv.below (below_step Bw.out b)))
     have HFi:=hide (HFo.out i)
     obtain⟨e0,he0⟩:∃e0,funcE p (funN p i) src=e0:=⟨_,rfl⟩
     rw [he0] at CF HFi
     obtain⟨fx,hh⟩:∃fx,funN p i=fx:=⟨_,rfl⟩
     rw [hh] at d0 d1 d2 d3 d4 CF
     have cs:=fun(w':World) (b:Below wr.heap.size wr w')=>((below_step HW.out b).cell (p:=⟨w.heap.size,0,none⟩) hq0).trans (one_at H1.out).1
     have ds:=fun(w':World) (b:Below wr.heap.size wr w')=>And.intro (((below_step Bw.out b).cell (p:=⟨g,o+i * 5,none⟩) hgl).trans d0) (And.intro (((below_step Bw.out b).cell (p:=⟨g,o+i * 5+1,none⟩) hgl).trans d1) (And.intro (((below_step Bw.out b).cell (p:=⟨g,o+i * 5+2,none⟩) hgl).trans d2) (And.intro (((below_step Bw.out b).cell (p:=⟨g,o+i * 5+3,none⟩) hgl).trans d3) (((below_step Bw.out b).cell (p:=⟨g,o+i * 5+4,none⟩) hgl).trans d4))))
     clear hfv hfr d0 d1 d2 d3 d4 he0 hh
     go_upto_region 10 with fail
     clear c0
     refine Mix.wp_region_last (chkUp (.agg #[.slice (some ⟨g,o,none⟩) pn pc]) (.agg #[.string (bs fx.1),.slice ha fx.2.1.length hc,.int .i64 fx.2.2.1,.slice hb fx.2.2.2.1.length hdd,.int .i64 fx.2.2.2.2]) (.agg #[.int .i64 e0.1,.int .i64 e0.2]) (.slice (some ⟨g,o,none⟩) pn pc) w.heap.size g o i wr.heap.size src) 9 _ rfl rfl (by kernel_rfl) (by kernel_rfl) (by kernel_rfl) ?_
     refine Mix.mix_step rfl (valid_eq (.agg #[.slice (some ⟨g,o,none⟩) pn pc]) rfl) ?_ ?_
     ·intro w b k
      have c0:=cs w b
      clear k
      simp [go_sem,c0]
      exact⟨Below.refl _ _,fun d hd=>by cases hd;rfl⟩
     rintro v ⟨_,_,h⟩
     obtain rfl:v=(.agg #[.slice (some ⟨g,o,none⟩) pn pc]):=h _ rfl
     clear h
     simp only [Act.put,sU1,sU2,sU3]
     refine Mix.mix_step rfl (valid_eq (.pointer (some ⟨w.heap.size,0,none⟩)) rfl) ?_ ?_
     ·intro w b k
      clear k
      simp [go_sem]
      exact⟨Below.refl _ _,fun d hd=>by cases hd;rfl⟩
     rintro v ⟨_,_,h⟩
     obtain rfl:v=(.pointer (some ⟨w.heap.size,0,none⟩)):=h _ rfl
     clear h
     simp only [Act.put,sU1,sU2,sU3]
     refine Mix.mix_step rfl (valid_eq (.slice (some ⟨g,o,none⟩) pn pc) rfl) ?_ ?_
     ·intro w b k
      have c0:=cs w b
      clear k
      simp [go_sem,c0]
      exact⟨Below.refl _ _,fun d hd=>by cases hd;rfl⟩
     rintro v ⟨_,_,h⟩
     obtain rfl:v=(.slice (some ⟨g,o,none⟩) pn pc):=h _ rfl
     clear h
     simp only [Act.put,sU1,sU2,sU3]
     refine Mix.mix_step rfl (valid_eq (.int .i64 i) rfl) ?_ ?_
     ·intro w b k
      clear k
      simp [go_sem]
      exact⟨Below.refl _ _,fun d hd=>by cases hd;rfl⟩
     rintro v ⟨_,_,h⟩
     obtain rfl:v=(.int .i64 i):=h _ rfl
     clear h
     simp only [Act.put,sU1,sU2,sU3]
     refine Mix.mix_step rfl (valid_eq (.pointer (some ⟨g,o+i * 5,none⟩)) rfl) ?_ ?_
     ·intro w b k
      clear k
      simp [go_sem,hiI]
      exact⟨Below.refl _ _,fun d hd=>by cases hd;rfl⟩
     rintro v ⟨_,_,h⟩
     obtain rfl:v=(.pointer (some ⟨g,o+i * 5,none⟩)):=h _ rfl
     clear h
     simp only [Act.put,sU1,sU2,sU3]
     refine Mix.mix_step rfl (valid_eq (.agg #[.string (bs fx.1),.slice ha fx.2.1.length hc,.int .i64 fx.2.2.1,.slice hb fx.2.2.2.1.length hdd,.int .i64 fx.2.2.2.2]) rfl) ?_ ?_
     ·intro w b k
      obtain⟨d0,d1,d2,d3,d4⟩:=ds w b
      clear k
      simp [go_sem,d0,d1,d2,d3,d4]
      exact⟨Below.refl _ _,fun d hd=>by cases hd;rfl⟩
     rintro v ⟨_,_,h⟩
     obtain rfl:v=(.agg #[.string (bs fx.1),.slice ha fx.2.1.length hc,.int .i64 fx.2.2.1,.slice hb fx.2.2.2.1.length hdd,.int .i64 fx.2.2.2.2]):=h _ rfl
     clear h
     simp only [Act.put,sU1,sU2,sU3]
     refine Mix.mix_step rfl (valid_eq (.bool src) rfl) ?_ ?_
     ·intro w b k
      clear k
      simp [go_sem]
      exact⟨Below.refl _ _,fun d hd=>by cases hd;rfl⟩
     rintro v ⟨_,_,h⟩
     obtain rfl:v=(.bool src):=h _ rfl
     clear h
     simp only [Act.put,sU1,sU2,sU3]
     refine Mix.mix_step rfl (valid_eq (.agg #[.int .i64 e0.1,.int .i64 e0.2]) rfl) ?_ ?_
     ·intro w b k
      clear k
      simp [go_sem]
      exact Calls.mono (CF.out w b) fun e w' ⟨he,hb⟩=>⟨_,he,hb,fun d hd=>by cases hd;rfl⟩
     rintro v ⟨_,_,h⟩
     obtain rfl:v=(.agg #[.int .i64 e0.1,.int .i64 e0.2]):=h _ rfl
     clear h
     simp only [Act.put,sU1,sU2,sU3]
     refine Mix.mix_step rfl ⟨.pointer (some ⟨wr.heap.size,0,none⟩),_,below_box wr (.cells #[.int .i64 0,.int .i64 0] 29),fun d hd=>by cases hd;exact⟨_,rfl,Nat.le_refl _,heap_alloc_new _ _⟩⟩ ?_ ?_
     ·intro w b k
      clear k
      simp [go_sem]
      exact⟨below_box _ _,fun d hd=>by cases hd;exact⟨_,rfl,b.size,heap_alloc_new _ _⟩⟩
     rintro p8 -
     simp only [Act.put,sU1,sU2,sU3]
     refine Mix.mix_nil ?_
     intro w4 b4 hk
     obtain⟨q4,rfl,hqB,hq4⟩:BoxE wr.heap.size w4 p8:=hk 8 (by simp [Mix.add]) p8 rfl
     clear hk
     refine⟨rfl,fun K hK=> ?_⟩
     obtain⟨⟨z0,z1⟩,⟨f0,f1⟩,_⟩:=two_at hq4
     unfold Oper.wp
     simp [go_sem,z0,z1,f0,f1]
     refine hK _ _ ?_
     have HZ5:Hid (((w4.setCell ⟨q4,0,none⟩ (.int .i64 e0.1)).setCell ⟨q4,1,none⟩ (.int .i64 e0.2)).heap[q4]? =some (.cells #[.int .i64 e0.1,.int .i64 e0.2] 29 (0,0))):=hide (by
      rw [heap_setCell_same _ q4 1 _ 29 _ ((heap_setCell_same w4 q4 0 _ 29 _ hq4).trans rfl)]
      rfl)
     have B5:Hid (Below wr.heap.size wr ((w4.setCell ⟨q4,0,none⟩ (.int .i64 e0.1)).setCell ⟨q4,1,none⟩ (.int .i64 e0.2))):=hide ((b4.setCell (p:=⟨q4,0,none⟩) hqB _).setCell (p:=⟨q4,1,none⟩) hqB _)
     generalize ((w4.setCell ⟨q4,0,none⟩ (.int .i64 e0.1)).setCell ⟨q4,1,none⟩ (.int .i64 e0.2))=w5 at *
     clear hK z0 z1 f0 f1 hq4 b4 cs ds CF
     have HW5:=hide (below_step HW.out B5.out)
     obtain⟨⟨s0,s1⟩,_,_⟩:=two_at HZ5.out
     by_cases he0:e0.1=0
     ·have HF2:Hid (∀j,j < i+1→funcO p src j=none):=hide (fun j hj=>by
       by_cases e:j=i
       ·rw [e,HFi.out,he0];simp
       ·exact HF.out j (by omega))
      rw [he0] at s0
      clear he0
      go_wp2_with fail
      go_roundw
      case rel=>exact⟨i+1,by omega,by go_num,HF2,HW5⟩
      case measure=>simp [intOf];omega
     ·have heb:(e0.1 == 0)=false:=beq_eq_false_iff_ne.2 he0
      have HR:Hid (r=e0):=hide (by
       rw [HCp3.out,fstN_some (K:=i) HF.out hit (by rw [HFi.out,if_pos he0])];rfl)
      obtain⟨⟨z0,z1⟩,⟨f0,f1⟩,_⟩:=two_at ((HW5.out.block _ hz2).trans H3.out)
      have HE:Hid (Below w.heap.size w ((w5.setCell ⟨w.heap.size+1,0,none⟩ (.int .i64 e0.1)).setCell ⟨w.heap.size+1,1,none⟩ (.int .i64 e0.2))):=hide ((((below_step B0.out HW5.out).setCell (p:=⟨w.heap.size+1,0,none⟩) (Nat.le_succ _) _).setCell (p:=⟨w.heap.size+1,1,none⟩) (Nat.le_succ _) _))
      go_wp2_with fail
      exact bodyPost_ret (v:= .agg #[.int .i64 e0.1,.int .i64 e0.2]) (by simp [results,Tryz.results10,go_sem,z0,z1]) rfl ⟨by rw [HR.out],HE.out⟩
    ·obtain rfl:i=pn:=by omega
     have HR:Hid (r=(0,0)):=hide (by rw [HCp3.out,fstN_none HF.out];rfl)
     obtain⟨⟨z0,z1⟩,⟨f0,f1⟩,_⟩:=two_at ((HW.out.block _ hz2).trans H3.out)
     have HE:Hid (Below w.heap.size w ((wr.setCell ⟨w.heap.size+1,0,none⟩ (.int .i64 0)).setCell ⟨w.heap.size+1,1,none⟩ (.int .i64 0))):=hide ((((below_step B0.out HW.out).setCell (p:=⟨w.heap.size+1,0,none⟩) (Nat.le_succ _) _).setCell (p:=⟨w.heap.size+1,1,none⟩) (Nat.le_succ _) _))
     go_wp2_with fail
     exact bodyPost_ret (v:= .agg #[.int .i64 0,.int .i64 0]) (by simp [results,Tryz.results10,go_sem,z0,z1]) rfl ⟨by rw [HR.out],HE.out⟩
  ·have hnb:(nc.1 == 0)=false:=beq_eq_false_iff_ne.2 hn0
   have HR:Hid (r=nc):=hide (by rw [HCp2.out,if_pos hn0])
   have HE:Hid (Below w.heap.size w ((w4.setCell ⟨w.heap.size+1,0,none⟩ (.int .i64 nc.1)).setCell ⟨w.heap.size+1,1,none⟩ (.int .i64 nc.2))):=hide ((((below_step B0.out BW4.out).setCell (p:=⟨w.heap.size+1,0,none⟩) (Nat.le_succ _) _).setCell (p:=⟨w.heap.size+1,1,none⟩) (Nat.le_succ _) _))
   go_wp2_with fail
   exact bodyPost_ret (v:= .agg #[.int .i64 nc.1,.int .i64 nc.2]) (by simp [results,Tryz.results10,go_sem,z0,z1]) rfl ⟨by rw [HR.out],HE.out⟩
 ·have hwb:(wc.1 == 0)=false:=beq_eq_false_iff_ne.2 hw0
  obtain⟨J,hJ,_,hJl⟩:=HWa.out hw0
  have hJ2:J < pn:=by omega
  have hJI:(J:Int) < pn:=by omega
  obtain⟨g,o,rfl,hfr⟩:=HRd.out J hJ2
  obtain⟨_,_,_,_,_,_,_,_,_,d4⟩:=hfr.val
  have Bw:=hide (below_step B0.out BW2.out)
  replace d4:=(Bw.out.cell (p:=⟨g,o+J * 5+4,none⟩) hfr.1).trans d4
  obtain⟨at_,hat⟩:∃at_,(funN p J).2.2.2.2=at_:=⟨_,rfl⟩
  rw [hat] at d4
  have HR:Hid (r=(wc.1,at_)):=hide (by rw [HCp.out,if_pos hw0,hJ,Int.toNat_natCast,hat])
  rw [hJ] at s1 ⊢
  have HE:Hid (Below w.heap.size w ((w2.setCell ⟨w.heap.size+1,0,none⟩ (.int .i64 wc.1)).setCell ⟨w.heap.size+1,1,none⟩ (.int .i64 at_)).drew):=hide (((Bw.out.setCell (p:=⟨w.heap.size+1,0,none⟩) (Nat.le_succ _) _).setCell (p:=⟨w.heap.size+1,1,none⟩) (Nat.le_succ _) _).drew)
  clear hfr hJ hat HCp HWa hJl
  go_wp2_with fail
  go_region
  all_goals
   go_wp2_with fail
   exact bodyPost_ret (v:= .agg #[.int .i64 wc.1,.int .i64 at_]) (by simp [results,Tryz.results10,go_sem,z0,z1]) rfl ⟨by rw [HR.out],HE.out⟩
theorem runI_iff (b:List Ins):∀m,m≤4096→((runI m b).2=0↔(∀x∈b,checkC x=0)∧m+b.length≤4096)∧((runI m b).2=0→(runI m b).1=m+b.length):=by
 induction b with
 |nil=>intro m hm;simp [runI,hm]
 |cons x b ih=>
  intro m hm
  by_cases h1:m=4096
  ·subst h1
   simp only [runI,if_true,List.length_cons]
   exact⟨⟨fun k=>(by cases k),fun k=>(by omega)⟩,fun k=>(by cases k)⟩
  ·by_cases h2:checkC x=0
   ·rw [runI,if_neg h1,if_neg (by simp [h2])]
    obtain⟨i1,i2⟩:=ih (m+1) (by omega)
    refine⟨?_,fun k=>by rw [i2 k,List.length_cons];omega⟩
    rw [i1]
    simp only [List.mem_cons,forall_eq_or_imp,h2,true_and,List.length_cons]
    constructor <;> rintro ⟨a,b⟩ <;> exact⟨a,by omega⟩
   ·rw [runI,if_neg h1,if_pos h2]
    refine⟨⟨fun k=>absurd k h2,fun k=>absurd (k.1 x (by simp)) h2⟩,fun k=>absurd k h2⟩
def szB (l:List (List Ins)):Nat:=(l.map List.length).sum
theorem runB_iff (l:List (List Ins)):∀m,m≤4096→((runB m l).2=0↔(∀b∈l,∀x∈b,checkC x=0)∧m+szB l≤4096)∧((runB m l).2=0→(runB m l).1=m+szB l):=by
 induction l with
 |nil=>intro m hm;simp [runB,szB,hm]
 |cons b l ih=>
  intro m hm
  obtain⟨j1,j2⟩:=runI_iff b m hm
  have hs:szB (b :: l)=b.length+szB l:=by simp [szB]
  by_cases h1:(runI m b).2=0
  ·rw [runB,if_neg (by simp [h1]),j2 h1]
   obtain⟨k1,k2⟩:=j1.1 h1
   obtain⟨i1,i2⟩:=ih (m+b.length) k2
   rw [hs]
   refine⟨?_,fun k=>by rw [i2 k];omega⟩
   rw [i1]
   simp only [List.mem_cons,forall_eq_or_imp]
   constructor
   ·rintro ⟨a,c⟩;exact⟨⟨k1,a⟩,by omega⟩
   ·rintro ⟨⟨_,a⟩,c⟩;exact⟨a,by omega⟩
  ·rw [runB,if_pos h1,hs]
   refine⟨⟨fun k=>absurd k h1,fun k=>absurd (j1.2 ⟨k.1 b (by simp),by omega⟩) h1⟩,fun k=>absurd k h1⟩
def szP (p:List Fun):Nat:=(p.map fun x=>szB x.2.2.2.1).sum
theorem whole_iff (p:List Fun):∀i m,i≤32→m≤4096→((wholeF i m p).1=0↔(∀f∈p,headC f=0∧∀b∈f.2.2.2.1,∀x∈b,checkC x=0)∧i+p.length≤32∧m+szP p≤4096)∧((wholeF i m p).1=0→wholeF i m p=(0,0)):=by
 induction p with
 |nil=>intro i m h1 h2;simp [wholeF,szP,h1,h2]
 |cons f p ih=>
  intro i m h1 h2
  have hs:szP (f :: p)=szB f.2.2.2.1+szP p:=by simp [szP]
  obtain⟨j1,j2⟩:=runB_iff f.2.2.2.1 m h2
  rw [hs]
  by_cases k1:i=32
  ·subst k1
   rw [whole_many,List.length_cons]
   exact⟨⟨fun k=>(by cases k),fun k=>(by omega)⟩,fun k=>(by cases k)⟩
  by_cases k2:headC f=0
  ·by_cases k3:(runB m f.2.2.2.1).2=0
   ·rw [whole_next p k1 k2 k3,j2 k3]
    obtain⟨b1,b2⟩:=j1.1 k3
    obtain⟨i1,i2⟩:=ih (i+1) (m+szB f.2.2.2.1) (by omega) b2
    refine⟨?_,i2⟩
    rw [i1]
    simp only [List.mem_cons,forall_eq_or_imp,List.length_cons]
    constructor
    ·rintro ⟨a,c,d⟩;exact⟨⟨⟨k2,b1⟩,a⟩,by omega,by omega⟩
    ·rintro ⟨⟨_,a⟩,c,d⟩;exact⟨a,by omega,by omega⟩
   ·rw [whole_body p k1 k2 k3]
    refine⟨⟨fun k=>absurd k k3,fun k=>absurd (j1.2 ⟨(k.1 f (by simp)).2,by omega⟩) k3⟩,fun k=>absurd k k3⟩
  ·rw [whole_head m p k1 k2]
   refine⟨⟨fun k=>absurd k k2,fun k=>absurd (k.1 f (by simp)).1 k2⟩,fun k=>absurd k k2⟩
def Shp (f:Fun):Prop:=f.2.2.2.1.length≤1000000∧(∀b∈f.2.2.2.1,∀x∈b,x.2.2.2.2.2.1.length≤1000000)∧(shapedF f).1=0
theorem shp_pos {f:Fun} (h:Shp f):0 < f.2.2.2.1.length:=by
 have h3:=h.2.2
 unfold shapedF at h3
 split at h3
 ·cases h3
 ·omega
theorem shp_blk {f:Fun} (h:Shp f):∀b∈f.2.2.2.1,b.length≠0∧blkGo f.2.2.2.1.length b.length 0 b=0:=by
 have h0:=shp_pos h
 have h3:=h.2.2
 unfold shapedF at h3
 rw [if_neg (by omega)] at h3
 intro b hb
 have:=shapedGo_zero _ _ _ h3 b hb
 unfold blkE at this
 split at this
 ·cases this
 ·exact⟨by assumption,this⟩
theorem shp_ful {f:Fun} (h:Shp f):Ful f:=by
 refine⟨Nat.le_trans h.1 (by omega),fun b hb=>⟨fun e=>(shp_blk h b hb).1 (by rw [e];rfl),fun x hx=> ?_⟩⟩
 exact Nat.le_trans (h.2.1 b hb x hx) (by omega)
theorem shp_tos {f:Fun} (h:Shp f):Tos f:=by
 intro j
 by_cases hj:j < f.2.2.2.1.length
 ·have hb:f.2.2.2.1[j]? =some f.2.2.2.1[j]:=List.getElem?_eq_getElem hj
  obtain⟨h1,h2⟩:=shp_blk h _ (List.mem_of_getElem? hb)
  obtain⟨x,hx,hl,_⟩:=(shp_ful h).last (List.mem_of_getElem? hb)
  rw [nextF_at hb,hl]
  obtain⟨k1,k2⟩:=blkGo_zero _ _ _ _ h2 _ x hx
  have hend:endsB x.1=true:=by rw [k1];simp;omega
  have hop:x.1≠20:=by
   intro e
   rw [e] at hend
   simp [endsB] at hend
  have hbt:badT f.2.2.2.1.length x.2.2.2.2.2.1=false:=by
   unfold badI at k2
   simpa [hop] using k2
  intro m hm
  have hm2:m∈x.2.2.2.2.2.1:=by rw [←hasL_mem,hasL_once,hasL_mem] at hm;exact hm
  unfold badT at hbt
  have:=List.any_eq_false.1 hbt m hm2
  simp at this
  omega
 ·have e:nextF f j= []:=by
   unfold nextF
   rw [List.getD_eq_getElem?_getD,List.getElem?_eq_none (by omega)];rfl
  rw [e]
  intro m hm
  cases hm
theorem check_cnt {x:Ins} (h:checkC x=0):cntOk x.1 x.2.2.2.2.1.length x.2.2.2.2.2.1.length=true:=by
 cases hc:cntOk x.1 x.2.2.2.2.1.length x.2.2.2.2.2.1.length with
 |true=>rfl
 |false=>
  exfalso
  unfold checkC at h
  rw [hc] at h
  by_cases h1:(opOk x.1 && L5.may x.1 x.2.2.2.1)=false
  ·rw [if_pos h1] at h;cases h
  ·rw [if_neg h1] at h
   by_cases h2:numOk x.1 x.2.1 x.2.2.2.1=false
   ·rw [if_pos h2] at h;cases h
   ·rw [if_neg h2,if_pos rfl] at h;cases h
theorem takes_if:(L5.takes (L5.num 27)).length=1:=by decide +kernel
theorem want_in {p:List Fun} {f:Fun} {x:Ins} {n:Nat} (hc:checkC x=0) (hh:headX p f x=0) (hn:n < x.2.2.2.2.1.length):WantIn p x n∧(x.1=20→n < x.2.2.2.2.2.1.length):=by
 have hk:=check_cnt hc
 refine⟨⟨fun h21=> ?_,fun h20 h24 h28 h21=> ?_⟩,fun h20=> ?_⟩
 ·rw [headX_call h21] at hh
  cases hs:(findF p x.2.2.2.2.2.2.1).isSome with
  |false=>rw [hs] at hh;simp at hh
  |true=>
   rw [hs,if_pos rfl] at hh
   by_cases h1:((findF p x.2.2.2.2.2.2.1).getD fun0).2.2.1≠x.2.2.2.1
   ·rw [if_pos h1] at hh;cases hh
   ·rw [if_neg h1] at hh
    by_cases h2:((findF p x.2.2.2.2.2.2.1).getD fun0).2.1.length≠x.2.2.2.2.1.length
    ·rw [if_pos h2] at hh;cases hh
    ·have h3:((findF p x.2.2.2.2.2.2.1).getD fun0).2.1.length=x.2.2.2.2.1.length:=by simpa using h2
     omega
 ·unfold cntOk at hk
  rw [if_neg h20,if_neg h21,if_neg h24] at hk
  by_cases h26:x.1=26
  ·rw [if_pos h26] at hk;simp at hk;rw [hk.1] at hn;simp at hn
  ·rw [if_neg h26] at hk
   by_cases h27:x.1=27
   ·rw [if_pos h27] at hk
    simp at hk
    rw [h27,takes_if]
    omega
   ·rw [if_neg h27,if_neg h28] at hk
    simp at hk
    have:=hk.1
    unfold tkN at this
    omega
 ·unfold cntOk at hk
  rw [if_pos h20] at hk
  simp at hk
  omega
theorem kept_of {p:List Fun} (hW:(wholeF 0 0 p).1=0) (hN:∀f∈p,f.2.2.2.1.length≤1000000∧∀b∈f.2.2.2.1,∀x∈b,x.2.2.2.2.2.1.length≤1000000):∀f∈p,Kept p f:=by
 intro f hf
 have hc:=(((whole_iff p 0 0 (by omega) (by omega)).1.1 hW).1 f hf).2
 refine⟨fun hS=> ?_,fun k i hk hi hh n hn=> ?_⟩
 ·have h:Shp f:=⟨(hN f hf).1,(hN f hf).2,hS⟩
  exact⟨shp_ful h,shp_tos h,shp_pos h⟩
 ·exact want_in (hc _ (List.mem_of_getElem? (blkN_at hk)) _ (List.mem_of_getElem? (insN_at hi))) hh hn
theorem fstN_succ {α:Type} (g:Nat→Option α) (n:Nat):fstN g (n+1)=(fstN g n).or (g n):=by
 unfold fstN
 rw [List.range_succ,List.findSome?_append]
 cases h:g n <;> simp [List.findSome?,h]
theorem fstN_congr {α:Type} {g h:Nat→Option α} {n:Nat} (e:∀j,j < n→g j=h j):fstN g n=fstN h n:=by
 induction n with
 |zero=>rfl
 |succ n ih=>rw [fstN_succ,fstN_succ,ih (fun j hj=>e j (by omega)),e n (by omega)]
theorem scanF_first (f:Fun) (id:Int):scanF f id 0 0=none:=by
 unfold scanF
 apply fstN_none
 intro k hk
 have hk0:k=0:=by omega
 subst hk0
 simp [limB,scanB,fstN]
theorem scanF_step {f:Fun} {id:Int} {K J:Nat} (hK:K < f.2.2.2.1.length) (hJ:J < (blkN f K).length):scanF f id K (J+1)=(scanF f id K J).or (scanG f id K J):=by
 unfold scanF
 rw [Nat.min_eq_left (by omega),fstN_succ,fstN_succ]
 have e:fstN (fun k=>scanB f id k (limB f K (J+1) k)) K=fstN (fun k=>scanB f id k (limB f K J k)) K:=fstN_congr fun k hk=>by simp [limB,hk]
 have e1:scanB f id K (limB f K (J+1) K)=(scanB f id K (limB f K J K)).or (scanG f id K J):=by
  simp only [limB,Nat.lt_irrefl,if_false]
  unfold scanB
  rw [Nat.min_eq_left (by omega),Nat.min_eq_left (by omega),fstN_succ]
 rw [e,e1,Option.or_assoc]
theorem scanF_next {f:Fun} {id:Int} {K:Nat} (hK:K < f.2.2.2.1.length):scanF f id (K+1) 0=scanF f id K (blkN f K).length:=by
 have e:fstN (fun k=>scanB f id k (limB f (K+1) 0 k)) (K+1)=fstN (fun k=>scanB f id k (limB f K (blkN f K).length k)) (K+1):=by
  refine fstN_congr fun k hk=> ?_
  have h1:limB f (K+1) 0 k=(blkN f k).length:=by simp [limB,hk]
  have h2:limB f K (blkN f K).length k=(blkN f k).length:=by
   by_cases hkk:k < K
   ·simp [limB,hkk]
   ·have:k=K:=by omega
    subst this
    simp [limB]
  rw [h1,h2]
 unfold scanF
 rw [show min (K+1) f.2.2.2.1.length=K+1 by omega,←e]
 by_cases h:K+1 < f.2.2.2.1.length
 ·rw [show min (K+1+1) f.2.2.2.1.length=K+1+1 by omega,fstN_succ]
  have h0:scanB f id (K+1) (limB f (K+1) 0 (K+1))=none:=by simp [limB,scanB,fstN]
  rw [h0]
  simp
 ·rw [show min (K+1+1) f.2.2.2.1.length=K+1 by omega]
def plF (f:Fun) (id:Int) (K J:Nat):Option (Int × Int × Int):=if isPar f id then some (0,-1,f.2.1.getD id.toNat 0)else(scanF f id K J).map fun m=>(m.1,m.2.1,m.2.2.1)
theorem scanF_is {f:Fun} {id:Int} {K J:Nat} {m:Plc} (h:scanF f id K J=some m):∃k i,k < f.2.2.2.1.length∧i < (blkN f k).length∧hitX id (insN f k i)=true∧m=((k:Int),(i:Int),mkX (insN f k i),true):=by
 obtain⟨k,hk,h1,_⟩:=fstN_at h
 obtain⟨i,hi,h2,_⟩:=fstN_at h1
 unfold scanG at h2
 split at h2
 ·rename_i hh
  cases h2
  exact⟨k,i,by omega,by omega,hh,rfl⟩
 ·cases h2
theorem made_pl (f:Fun) (id:Int) (K J:Nat):madeF f id K J=match plF f id K J with
  |some m=>(m.1,m.2.1,m.2.2,true)
  |none=>(0,0,0,false):=by
 unfold madeF plF
 split
 ·rfl
 ·cases h:scanF f id K J with
  |none=>rfl
  |some m=>
   obtain⟨k,i,_,_,_,rfl⟩:=scanF_is h
   rfl
theorem plF_is {f:Fun} {id:Int} {K J:Nat} {m:Int × Int × Int} (h:plF f id K J=some m):(isPar f id=true∧m=(0,-1,f.2.1.getD id.toNat 0))∨∃k i,k < f.2.2.2.1.length∧i < (blkN f k).length∧hitX id (insN f k i)=true∧m=((k:Int),(i:Int),mkX (insN f k i)):=by
 unfold plF at h
 split at h
 ·rename_i hp
  cases h
  exact .inl ⟨hp,rfl⟩
 ·right
  cases h1:scanF f id K J with
  |none=>simp [h1] at h
  |some m'=>
   obtain⟨k,i,a,b,c,rfl⟩:=scanF_is h1
   simp [h1] at h
   exact⟨k,i,a,b,c,h.symm⟩
theorem plF_first (f:Fun) (id:Int):plF f id 0 0=if isPar f id then some (0,-1,f.2.1.getD id.toNat 0)else none:=by
 unfold plF
 rw [scanF_first]
 rfl
theorem plF_step {f:Fun} {id:Int} {K J:Nat} (hK:K < f.2.2.2.1.length) (hJ:J < (blkN f K).length):plF f id K (J+1)=(plF f id K J).or (if hitX id (insN f K J)then some ((K:Int),(J:Int),mkX (insN f K J))else none):=by
 unfold plF
 split
 ·simp
 ·rw [scanF_step hK hJ]
  cases scanF f id K J with
  |some m=>simp
  |none=>
   simp only [Option.none_or,Option.map_none,scanG]
   split <;> rfl
theorem plF_next {f:Fun} {id:Int} {K:Nat} (hK:K < f.2.2.2.1.length):plF f id (K+1) 0=plF f id K (blkN f K).length:=by
 unfold plF
 rw [scanF_next hK]
def Once (f:Fun) (K J:Nat):Prop:=∀k i,(k < K∨k=K∧i < J)→k < f.2.2.2.1.length→i < (blkN f k).length→mkX (insN f k i)≠0→plF f (insN f k i).2.1 k i=none
theorem hit_iff {id:Int} {x:Ins}:hitX id x=true↔x.2.1=id∧mkX x≠0:=by
 unfold hitX
 simp
theorem plF_put {f:Fun} {K J:Nat} (hK:K < f.2.2.2.1.length) (hJ:J < (blkN f K).length) (h0:mkX (insN f K J)≠0) (hn:plF f (insN f K J).2.1 K J=none) (id:Int):plF f id K (J+1)=if id=(insN f K J).2.1 then some ((K:Int),(J:Int),mkX (insN f K J))else plF f id K J:=by
 rw [plF_step hK hJ]
 by_cases h:id=(insN f K J).2.1
 ·subst h
  rw [hn,if_pos rfl,if_pos (hit_iff.2 ⟨rfl,h0⟩)]
  rfl
 ·rw [if_neg h,if_neg (fun hh=>h (hit_iff.1 hh).1.symm)]
  simp
theorem plF_stay {f:Fun} {K J:Nat} (hK:K < f.2.2.2.1.length) (hJ:J < (blkN f K).length) (h0:mkX (insN f K J)=0) (id:Int):plF f id K (J+1)=plF f id K J:=by
 rw [plF_step hK hJ,if_neg (fun hh=>(hit_iff.1 hh).2 h0)]
 simp
def bigL (f:Fun) (K J:Nat):List Ins:=(f.2.2.2.1.take K).flatten ++ (blkN f K).take J
def tyL (f:Fun) (id:Int) (l:List Ins):Option Int:=l.foldl (fun a x=>if hitX id x then some (mkX x)else a) (if isPar f id then some (f.2.1.getD id.toNat 0)else none)
theorem bigL_first (f:Fun):bigL f 0 0= []:=by simp [bigL]
theorem bigL_step {f:Fun} {K J:Nat} (hJ:J < (blkN f K).length):bigL f K (J+1)=bigL f K J ++ [insN f K J]:=by
 unfold bigL
 rw [List.take_add_one,insN_at hJ]
 simp
theorem bigL_next {f:Fun} {K:Nat} (hK:K < f.2.2.2.1.length):bigL f (K+1) 0=bigL f K (blkN f K).length:=by
 unfold bigL
 rw [List.take_add_one,blkN_at hK]
 simp
theorem tyL_snoc (f:Fun) (id:Int) (l:List Ins) (x:Ins):tyL f id (l ++ [x])=if hitX id x then some (mkX x)else tyL f id l:=by
 simp [tyL,List.foldl_append]
theorem ty_once_row {f:Fun} {id:Int} {K:Nat} (hK:K < f.2.2.2.1.length) (h0:tyL f id (bigL f K 0)=(plF f id K 0).map (·.2.2)):∀J,J≤(blkN f K).length→Once f K J→tyL f id (bigL f K J)=(plF f id K J).map (·.2.2):=by
 intro J
 induction J with
 |zero=>intro _ _;exact h0
 |succ J ih=>
  intro hJ hO
  have hJ':J < (blkN f K).length:=by omega
  have e:=ih (by omega) (fun k i hki=>hO k i (by omega))
  rw [bigL_step hJ',tyL_snoc,plF_step hK hJ',e]
  by_cases hh:hitX id (insN f K J)=true
  ·have hn:=hO K J (by omega) hK hJ' (hit_iff.1 hh).2
   rw [(hit_iff.1 hh).1] at hn
   rw [if_pos hh,if_pos hh,hn]
   rfl
  ·rw [if_neg hh,if_neg hh]
   simp
theorem ty_once {f:Fun} {id:Int}:∀K,K≤f.2.2.2.1.length→Once f K 0→tyL f id (bigL f K 0)=(plF f id K 0).map (·.2.2):=by
 intro K
 induction K with
 |zero=>
  intro _ _
  rw [bigL_first,plF_first]
  unfold tyL
  simp only [List.foldl_nil]
  split <;> rfl
 |succ K ih=>
  intro hK hO
  have e:=ih (by omega) (fun k i hki=>hO k i (by omega))
  rw [bigL_next (by omega),plF_next (by omega)]
  exact ty_once_row (by omega) e _ (Nat.le_refl _) (fun k i hki=>hO k i (by omega))
theorem full_nodup:∀(l m:List Int),l.Nodup→(∀x∈l,x∈m)→m.length≤l.length→m.Nodup∧∀x∈m,x∈l:=by
 intro l
 induction l with
 |nil=>
  intro m _ _ hl
  have:m= []:=List.length_eq_zero_iff.1 (by simpa using hl)
  subst this
  simp
 |cons a l ih=>
  intro m hn hs hl
  obtain⟨s,t,rfl⟩:=List.append_of_mem (hs a (by simp))
  rw [List.nodup_cons] at hn
  obtain⟨h1,h2⟩:=ih (s ++ t) hn.2 (fun x hx=>by
   have:=hs x (by simp [hx])
   simp only [List.mem_append,List.mem_cons] at this ⊢
   rcases this with h | h | h
   ·exact .inl h
   ·subst h;exact absurd hx hn.1
   ·exact .inr h) (by simp at hl ⊢;omega)
  have ha:a ∉ s ++ t:=fun h=>hn.1 (h2 a h)
  refine⟨?_,fun x hx=> ?_⟩
  ·have:(a :: (s ++ t)).Nodup:=List.nodup_cons.2 ⟨ha,h1⟩
   exact List.perm_middle.symm.nodup this
  ·simp only [List.mem_append,List.mem_cons] at hx
   rcases hx with h | h | h
   ·exact List.mem_cons_of_mem _ (h2 x (by simp [h]))
   ·simp [h]
   ·exact List.mem_cons_of_mem _ (h2 x (by simp [h]))
def leftB (ps tt:List Int) (j:Nat):Bool:=hasL ps (tt.getD j 0) && !hasL (tt.take j) (tt.getD j 0)
def joinB (ps tt:List Int):Bool:=(List.range tt.length).all (leftB ps tt) && decide (tt.length=ps.length)
theorem nodup_take {tt:List Int} (h:∀j,j < tt.length→hasL (tt.take j) (tt.getD j 0)=false):tt.Nodup:=by
 unfold List.Nodup
 rw [List.pairwise_iff_getElem]
 intro i j hi hj hij e
 have h1:=h j hj
 rw [hasL_no] at h1
 apply h1
 have h2:tt.getD j 0=tt[j]:=by rw [List.getD_eq_getElem?_getD,List.getElem?_eq_getElem hj];rfl
 rw [h2,←e]
 exact List.mem_take_iff_getElem.2 ⟨i,by omega,rfl⟩
theorem join_iff {ps tt:List Int} (hp:ps.Nodup):joinB ps tt=(decide (tt.length=ps.length) && ps.all fun b=>hasL tt b):=by
 rw [Bool.eq_iff_iff]
 unfold joinB
 simp only [Bool.and_eq_true,List.all_eq_true,decide_eq_true_eq,List.mem_range,leftB,Bool.not_eq_true']
 constructor
 ·rintro ⟨h,hl⟩
  have hn:=nodup_take (fun j hj=>(h j hj).2)
  have hs:∀x∈tt,x∈ps:=by
   intro x hx
   obtain⟨j,hj,rfl⟩:=List.mem_iff_getElem.1 hx
   have:=hasL_mem.1 (h j hj).1
   rwa [List.getD_eq_getElem?_getD,List.getElem?_eq_getElem hj] at this
  obtain⟨_,h2⟩:=full_nodup tt ps hn hs (by omega)
  exact⟨hl,fun x hx=>hasL_mem.2 (h2 x hx)⟩
 ·rintro ⟨hl,h⟩
  obtain⟨h1,h2⟩:=full_nodup ps tt hp (fun x hx=>hasL_mem.1 (h x hx)) (by omega)
  refine⟨fun j hj=> ?_,hl⟩
  have e:tt.getD j 0=tt[j]:=by rw [List.getD_eq_getElem?_getD,List.getElem?_eq_getElem hj];rfl
  exact⟨hasL_mem.2 (h2 _ (by rw [e];exact List.getElem_mem hj)),take_fresh h1 (by rw [List.getElem?_eq_getElem hj,e])⟩
theorem preds_at {f:Fun} {k:Nat} (hk:k < f.2.2.2.1.length):(predsF f)[k]? =some (predTo f k f.2.2.2.1.length):=by
 unfold predsF
 rw [List.getElem?_map,List.getElem?_range hk]
 rfl
theorem preds_getD {f:Fun} {k:Nat} (hk:k < f.2.2.2.1.length):(predsF f).getD k []=predTo f k f.2.2.2.1.length:=by
 rw [List.getD_eq_getElem?_getD,preds_at hk]
 rfl
theorem predTo_nodup (f:Fun) (b k:Nat):(predTo f b k).Nodup:=by
 unfold predTo
 unfold List.Nodup
 rw [List.pairwise_map]
 refine List.Pairwise.imp ?_ ((List.pairwise_lt_range (n:=k)).sublist List.filter_sublist)
 intro a c h e
 simp at e
 omega
theorem predTo_num (f:Fun) (b k:Nat):Num k (predTo f b k):=by
 intro m hm
 unfold predTo at hm
 simp only [List.mem_map,List.mem_filter,List.mem_range] at hm
 obtain⟨a,⟨h,_⟩,rfl⟩:=hm
 simp
 omega
theorem phi_join {f:Fun} {k i:Nat} (hk:k < f.2.2.2.1.length):phiF f k i=((decide (i=0) || decide ((insN f k (i - 1)).1=20)) && joinB (predTo f k f.2.2.2.1.length) (insN f k i).2.2.2.2.2.1):=by
 unfold phiF
 rw [join_iff (predTo_nodup f k _),preds_getD hk,Bool.and_assoc]
theorem join_num {f:Fun} {k:Nat} {tt:List Int} (h:joinB (predTo f k f.2.2.2.1.length) tt=true):Num f.2.2.2.1.length tt:=by
 unfold joinB at h
 simp only [Bool.and_eq_true,List.all_eq_true,decide_eq_true_eq,List.mem_range,leftB,Bool.not_eq_true'] at h
 intro x hx
 obtain⟨j,hj,rfl⟩:=List.mem_iff_getElem.1 hx
 have:=hasL_mem.1 (h.1 j hj).1
 rw [List.getD_eq_getElem?_getD,List.getElem?_eq_getElem hj] at this
 exact predTo_num f k _ _ this
theorem order_le {f:Fun} (hT:Tos f) (h0:0 < f.2.2.2.1.length):(orderF f).length≤f.2.2.2.1.length:=fit_len _ _ (order_num hT h0).1 (order_num hT h0).2
theorem reach_all {f:Fun} (hT:Tos f) (h0:0 < f.2.2.2.1.length) (h:reachB f=true) {k:Nat} (hk:k < f.2.2.2.1.length):All (succsF f) k:=by
 unfold reachB at h
 simp only [Bool.and_eq_true,decide_eq_true_eq] at h
 rw [←mem_order hT h0]
 obtain⟨h1,h2⟩:=order_num hT h0
 refine(full_nodup (orderF f) ((List.range f.2.2.2.1.length).map Int.ofNat) h1 (fun x hx=> ?_) (by simp;omega)).2 _ ?_
 ·have:=h2 x hx
  simp only [List.mem_map,List.mem_range]
  exact⟨x.toNat,by omega,by simp;omega⟩
 ·simp only [List.mem_map,List.mem_range]
  exact⟨k,hk,rfl⟩
def befB (f:Fun) (a:Int × Int) (b:Int × Int):Bool:=if a.1=b.1 then decide (a.2 < b.2)else aheadB (succsF f) a.1 b.1
def tkC (f:Fun) (v t:Int) (b:Int × Int):Int:=match plF f v f.2.2.2.1.length 0 with
 |none=>8
 |some m=>if m.2.2≠t then 9 else if befB f (m.1,m.2.1) b then 0 else 10
def fromX (f:Fun) (k i n:Nat):Int × Int:=if(insN f k i).1=20 then((insN f k i).2.2.2.2.2.1.getD n 0,((blkN f ((insN f k i).2.2.2.2.2.1.getD n 0).toNat).length:Int))else((k:Int),(i:Int))
theorem tk_eq {p:List Fun} {f:Fun} {k i n:Nat} (hT:Tos f) (h0:0 < f.2.2.2.1.length) (hR:reachB f=true) (hk:k < f.2.2.2.1.length)
  (hphi:(insN f k i).1=20→0≤(insN f k i).2.2.2.2.2.1.getD n 0∧(insN f k i).2.2.2.2.2.1.getD n 0 < f.2.2.2.1.length):
  tkC f ((insN f k i).2.2.2.2.1.getD n 0) (wantX p f (insN f k i) n) (fromX f k i n)=takC p f k i n:=by
 have hG:=gr_succs hT h0
 unfold tkC takC
 simp only [made_pl]
 cases hm:plF f ((insN f k i).2.2.2.2.1.getD n 0) f.2.2.2.1.length 0 with
 |none=>simp
 |some m=>
  simp only [Bool.true_eq_false,if_false]
  split
  ·rfl
  ·rcases plF_is hm with ⟨_,rfl⟩ | ⟨b,j,hb,hj,_,rfl⟩
   ·rw [if_pos (show(-1:Int) < 0 by omega)]
    have hbef:befB f (0,-1) (fromX f k i n)=true:=by
     unfold befB fromX
     split
     ·rename_i h20
      obtain⟨g1,g2⟩:=hphi h20
      generalize (insN f k i).2.2.2.2.2.1.getD n 0=q at g1 g2
      split
      ·simp;omega
      ·rw [ahead_iff hG]
       obtain⟨Q,rfl⟩:∃Q:Nat,q=Q:=⟨q.toNat,by omega⟩
       exact Ahd.first (reach_all hT h0 hR (by omega))
     ·split
      ·simp;omega
      ·rw [ahead_iff hG]
       exact Ahd.first (reach_all hT h0 hR hk)
    rw [if_pos hbef]
   ·rw [if_neg (show ¬((j:Int) < 0) by omega)]
    unfold befB fromX
    by_cases h20:(insN f k i).1=20
    ·obtain⟨g1,g2⟩:=hphi h20
     rw [if_pos h20,if_pos h20]
     generalize (insN f k i).2.2.2.2.2.1.getD n 0=q at g1 g2
     obtain⟨Q,rfl⟩:∃Q:Nat,q=Q:=⟨q.toNat,by omega⟩
     by_cases hbq:(b:Int)=Q
     ·have:b=Q:=by omega
      subst this
      have ha:aheadB (succsF f) b b=true:=(ahead_iff hG _ _).2 (Ahd.refl (reach_all hT h0 hR hb))
      simp [ha,hj]
     ·simp [hbq]
    ·rw [if_neg h20,if_neg h20]
     by_cases hbk:(b:Int)=k
     ·simp only [hbk,if_true,decide_true,Bool.true_and,ne_eq,not_true_eq_false,decide_false,Bool.false_and]
      by_cases hji:(j:Int) < i
      ·simp [hji];omega
      ·simp [hji];omega
     ·simp only [hbk,if_false,decide_false,Bool.false_and,ne_eq,not_false_eq_true,decide_true,Bool.true_and]
      cases aheadB (succsF f) b k <;> simp
end Go.Proofs.YtljkgcfnoegibaaGreatDoor
