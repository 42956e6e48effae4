/- Texts of one chain, joined. -/
import Derived.Test.YtljkgcfnoegibaaGreatDoorWtAD
import Derived.Test.YtljkgcfnoegibaaGreatDoorWtAJ
import Derived.Test.YtljkgcfnoegibaaGreatDoorWtBV
import Derived.Test.YtljkgcfnoegibaaGreatDoorRows
import Derived.ProofKit
import Derived.LaidMore
import Derived.OpenShut
import Derived.Stop.Joined
import Derived.ShutString
import Derived.ChangeOld
import Derived.Below
import Derived.Lib.LaidTab
import Derived.Lib.SmallJoins
import Derived.WideKeyPair
set_option maxHeartbeats 2000000
set_option maxRecDepth 20000
namespace Go.Proofs.YtljkgcfnoegibaaGreatDoor
open Go Go.RowKit Go.Maps
open G (Tok Er Ins Fun)
open Mix (Up)
theorem rsame_val (f:Fun) (v u:Value) (w:World) (hv:FunV w f v) (hu:FunV w f u):Calls Tryz.prog 14 #[v,u] w fun e w'=>e= .returned (.bool true)∧Below w.heap.size w w':=by
 obtain⟨nm,ps,rt,bl,pl⟩:=f
 obtain⟨_,_,rfl,⟨ao,ca,rfl,ha,la,lb⟩,hB⟩:=hv
 obtain⟨_,_,rfl,⟨uo,cu,rfl,hU,_,_⟩,hC⟩:=hu
 obtain⟨bo,cb,rfl,h1,h2,h3⟩:=hB
 obtain⟨vo,cv,rfl,k1,k2,k3⟩:=hC
 exact rsame_fun nm ps rt pl pl bl bl rfl ao bo uo vo ca cb cu cv w (Nat.le_trans la lb) (Nat.le_trans h1 h2) ha ⟨bo,cb,rfl,h1,h2,h3⟩ hU ⟨vo,cv,rfl,k1,k2,k3⟩
def TyV (f:Fun) (id T:Int) (w:World) (v:Value):Prop:=∃b,v= .map (some b)∧IMap w b (f.2.1.length+(mkL (bigL f f.2.2.2.1.length 0)).length) (fun a=>tyL f a (bigL f f.2.2.2.1.length 0))∧(tyL f id (bigL f f.2.2.2.1.length 0)).getD 0=T
theorem TyV.below {f:Fun} {id T:Int} {w w':World} {v:Value} (h:TyV f id T w v) (b:Below w.heap.size w w'):TyV f id T w' v:=by
 obtain⟨m,rfl,h1,h2⟩:=h
 exact⟨m,rfl,NMap.below h1 b,h2⟩
def tywUp (q g o i pn pc:Nat) (fv:Value) (f:Fun) (id T:Int) (t:Tmp):Up:=match t with
 |55=>Up.eq (.pointer (some ⟨q,0,none⟩))
 |56=>Up.eq (.slice (some ⟨g,o,none⟩) pn pc)
 |57=>Up.eq (.int .i64 i)
 |58=>Up.eq (.pointer (some ⟨g,o+i * 5,none⟩))
 |59=>Up.eq fv
 |60=>⟨fun v w=>TyV f id T w v,fun _ _ _ b h=>h.below b⟩
 |61=>Up.eq (.int .i64 id)
 |62=>Up.eq (.int .i64 T)
 |63=>Up.eq (.pointer (some ⟨q,0,none⟩))
 |64=>Up.eq (.slice (some ⟨g,o,none⟩) pn pc)
 |65=>Up.eq (.int .i64 i)
 |66=>Up.eq (.pointer (some ⟨g,o+i * 5,none⟩))
 |67=>Up.eq fv
 |68=>Up.eq (.int .i64 id)
 |69=>Up.eq (.int .i64 T)
 |70=>Up.eq (.bool false)
 |_=>Up.any
theorem ty_once_of {p:List Fun} (h:(checkP p false).1=0) {i:Nat} (hi:i < p.length) (id:Int):(tyL (funN p i) id (bigL (funN p i) (funN p i).2.2.2.1.length 0)).getD 0=typeF (funN p i) id:=by
 obtain⟨_,_,h3⟩:=check_ok h
 obtain⟨_,_,c,_⟩:=func_ok (h3 i hi)
 rw [ty_once _ (Nat.le_refl _) (once_of c _ _)]
 unfold typeF
 rw [made_pl]
 cases plF (funN p i) id (funN p i).2.2.2.1.length 0 <;> rfl
theorem lawB (p:List Fun) (nm:List UInt8) (id:Int) (po:Option Addr) (pc:Nat) (w:World) (hp:ProgR w p (.slice po p.length pc)) (gp:∀y∈p,GxF y) (fp:Few p.length) (hid:Wf6 id) (hT:Tb w):
  Calls Tryz.prog 4 #[.agg #[.slice po p.length pc],.string (bs nm),.int .i64 id] w fun e w'=>e= .returned (.bool true)∧Below w.heap.size w w':=by
 have hfl:∀(a b:Value) (w:World),(Instr.field 29 (.agg #[a,b]) 0).run Tryz.prog w= .ok a w:=fun _ _ _=>rfl
 have CL:=hide (fun w' (b:Below w.heap.size w w')=>light11_any p po pc w' (hp.below b) fp (fun f hf=>(gp f hf).sh11))
 have CWk:=hide (fun w' (b:Below w.heap.size w w')=>works11_any w' (hT.below b))
 have CCh:=hide (fun(h:lgtP p=true) w' (b:Below w.heap.size w w')=>rcheckP_any p false po pc w' (hp.below b) (lgt_cnd h gp).1.1 (lgt_cnd h gp).1.2.1 (lgt_cnd h gp).1.2.2.1 (fun hW f hf=>((lgt_cnd h gp).1.2.2.2 hW f hf).1))
 have HKp:Hid (∀(h:lgtP p=true) (hc:(checkP p false).1=0),∀f∈p,(shapedF f).1=0∧Kept p f∧KeyF f):=hide (fun h hc f hf=>by
  obtain⟨a,_,c⟩:=check_ok hc
  obtain⟨i,hi,rfl⟩:=List.getElem_of_mem hf
  have hfi:=c i hi
  rw [show funN p i=p[i] from by unfold funN;simp [hi]] at hfi
  have:=(lgt_cnd h gp).1.2.2.2 a _ hf
  exact⟨(func_ok hfi).1,this.1,this.2.1⟩)
 have CFd:=hide (fun(h:lgtP p=true) (hc:(checkP p false).1=0) w' (b:Below w.heap.size w w')=>find11_any p nm po pc w' (hp.below b) (lgt_cnd h gp).1.1 (apF_of (lgt_cnd h gp).2 (fun f hf=>⟨(HKp.out h hc f hf).1,(HKp.out h hc f hf).2.1⟩)))
 have CRf:=hide (fun(h:lgtP p=true) w' (b:Below w.heap.size w w')=>rfind_any p nm po pc w' (hp.below b) (lgt_cnd h gp).1.1)
 have HRd:Hid (∀i,i < p.length→∃g o,po=some ⟨g,o,none⟩∧FunR w (funN p i) g (o+i * 5)):=hide (fun i hi=>prog_fun hp hi)
 have CTyA:=hide (fun(h:lgtP p=true) (hc:(checkP p false).1=0) i (hi:i < p.length) fv w' (b:Below w.heap.size w w') (hv:FunV w' (funN p i) fv)=>types12_any (funN p i) fv w' hv (hT.below b).2.2 ((lgt_cnd h gp).1.2.2.1 _ (funN_mem hi)).1 (HKp.out h hc _ (funN_mem hi)).2.2)
 have CTfA:=hide (fun(h:lgtP p=true) i (hi:i < p.length) fv w' (_:Below w.heap.size w w') (hv:FunV w' (funN p i) fv)=>rtype_any (funN p i) id fv w' hv ((lgt_cnd h gp).1.2.2.1 _ (funN_mem hi)).1)
 have HTy:=hide (fun(hc:(checkP p false).1=0) i (hi:i < p.length)=>ty_once_of hc hi id)
 have HLn:Hid (lgtP p=true→p.length≤100):=hide (fun h=>(lgt_siz h).1)
 have HId:=hide hid
 clear hp gp fp hT HKp hid
 obtain⟨pn,hpn⟩:∃n,p.length=n:=⟨_,rfl⟩
 rw [hpn] at CL CCh CFd CRf HRd CTyA CTfA HTy HLn ⊢
 clear hpn
 obtain⟨bnm,hnm⟩:∃s,bs nm=s:=⟨_,rfl⟩
 rw [hnm] at CFd CRf ⊢
 clear hnm
 have b0:=below_box w (.cells #[.slice po pn pc] 24)
 have H0:=hide (heap_alloc_new w (.cells #[.slice po pn pc] 24))
 have B0:=hide b0
 clear b0
 go_enter Tryz.func4,Tryz.ntmps4
 go_upto_region 1 with fail
 show Code.wp _ _ _ _ (w.alloc (.cells #[.slice po pn pc] 24))
 generalize w.alloc (.cells #[.slice po pn pc] 24)=W at *
 have c0:=(one_at H0.out).1
 go_wp2_with fail
 refine(CL.out W B0.out).mono ?_;rintro e w1 ⟨rfl,b1⟩
 have B1:=hide (below_step B0.out b1)
 have K0:=hide ((b1.block _ (Array.getElem?_eq_some_iff.1 H0.out).1).trans H0.out)
 clear b1 c0 CL H0 B0
 cases hL:lgtP p with
 |false=>
  rw [if_neg (by simp)]
  clear CCh CFd CRf HRd CTyA CTfA HTy hL
  go_wp2_with fail
  refine(CWk.out w1 B1.out).mono ?_;rintro e w2 ⟨rfl,b2⟩
  have B2:=hide (below_step B1.out b2)
  clear b2
  go_wp2_with fail
  go_ret
  exact⟨rfl,B2.out⟩
 |true=>
  rw [if_pos rfl]
  replace CCh:=hide (CCh.out hL)
  replace CFd:=hide (CFd.out hL)
  replace CRf:=hide (CRf.out hL)
  replace CTyA:=hide (CTyA.out hL)
  replace CTfA:=hide (CTfA.out hL)
  have hpl:pn≤100:=HLn.out hL
  clear hL HLn
  have c0:=(one_at K0.out).1
  by_cases hlen:(100:Int) < bnm.size
  ·clear CCh CFd CRf HRd CTyA CTfA HTy
   go_wp2_with fail
   refine(CWk.out w1 B1.out).mono ?_;rintro e w2 ⟨rfl,b2⟩
   have B2:=hide (below_step B1.out b2)
   clear b2
   go_wp2_with fail
   go_ret
   exact⟨rfl,B2.out⟩
  ·have C1:=hide (CCh.out w1 B1.out)
   obtain⟨⟨s1,s2⟩,hs⟩:∃s,checkP p false=s:=⟨_,rfl⟩
   rw [hs] at C1 CFd CTyA HTy
   clear hs CCh
   go_wp2_with fail
   refine C1.out.mono ?_;rintro e w2 ⟨rfl,b2⟩
   have B2:=hide (below_step B1.out b2)
   have K2:=hide ((b2.block _ (Array.getElem?_eq_some_iff.1 K0.out).1).trans K0.out)
   clear b2 C1 c0 B1 K0
   by_cases hs1:s1=0
   ·replace CFd:=hide (CFd.out hs1)
    replace CTyA:=hide (CTyA.out hs1)
    replace HTy:=hide (HTy.out hs1)
    subst hs1
    have c0:=(one_at K2.out).1
    have C2:=hide (CFd.out w2 B2.out)
    obtain⟨rb,hrb⟩:∃r,(findF p nm).isSome=r:=⟨_,rfl⟩
    obtain⟨ff,hff⟩:∃r,(findF p nm).getD fun0=r:=⟨_,rfl⟩
    rw [hrb,hff] at C2 CRf
    clear hrb hff CFd
    go_wp2_with fail
    refine C2.out.mono ?_;rintro e w3 ⟨⟨fv,rfl,hfv⟩,b3⟩
    obtain⟨lp,cp,lb,cb,rfl,_,_⟩:=fun_box hfv
    have b4:=below_box w3 (.cells #[.string (bs ff.1),.slice lp ff.2.1.length cp,.int .i64 ff.2.2.1,.slice lb ff.2.2.2.1.length cb,.int .i64 ff.2.2.2.2] 36)
    have D4:=hide (heap_alloc_new w3 (.cells #[.string (bs ff.1),.slice lp ff.2.1.length cp,.int .i64 ff.2.2.1,.slice lb ff.2.2.2.1.length cb,.int .i64 ff.2.2.2.2] 36))
    have HF4:=hide (hfv.below b4)
    have B4:=hide (below_step B2.out (below_step b3 b4))
    have K4:=hide (((below_step b3 b4).block _ (Array.getElem?_eq_some_iff.1 K2.out).1).trans K2.out)
    clear b3 b4 hfv c0 C2 K2 B2
    obtain⟨fnm,hfn⟩:∃n,bs ff.1=n:=⟨_,rfl⟩
    obtain⟨fl,hfl2⟩:∃n,ff.2.1.length=n:=⟨_,rfl⟩
    obtain⟨fr,hfr⟩:∃n,ff.2.2.1=n:=⟨_,rfl⟩
    obtain⟨fb,hfb⟩:∃n,ff.2.2.2.1.length=n:=⟨_,rfl⟩
    obtain⟨fq,hfq⟩:∃n,ff.2.2.2.2=n:=⟨_,rfl⟩
    rw [hfn,hfl2,hfr,hfb,hfq] at D4 HF4 B4 K4 ⊢
    go_upto_region 4 with fail
    show Code.wp _ _ _ _ (w3.alloc (.cells #[.string fnm,.slice lp fl cp,.int .i64 fr,.slice lb fb cb,.int .i64 fq] 36))
    generalize w3.alloc (.cells #[.string fnm,.slice lp fl cp,.int .i64 fr,.slice lb fb cb,.int .i64 fq] 36)=W4 at *
    generalize w3.heap.size=q3 at *
    have c0:=(one_at K4.out).1
    have C3:=hide (CRf.out W4 B4.out)
    clear CRf
    go_wp2_with fail
    refine C3.out.mono ?_;rintro e w5 ⟨⟨gv,rfl,hgv⟩,b5⟩
    obtain⟨lp2,cp2,lb2,cb2,rfl,_,_⟩:=fun_box hgv
    have b6:=below_box w5 (.cells #[.string (bs ff.1),.slice lp2 ff.2.1.length cp2,.int .i64 ff.2.2.1,.slice lb2 ff.2.2.2.1.length cb2,.int .i64 ff.2.2.2.2] 36)
    have D6:=hide (heap_alloc_new w5 (.cells #[.string (bs ff.1),.slice lp2 ff.2.1.length cp2,.int .i64 ff.2.2.1,.slice lb2 ff.2.2.2.1.length cb2,.int .i64 ff.2.2.2.2] 36))
    have HG6:=hide (hgv.below b6)
    have HF6:=hide (HF4.out.below (below_step b5 b6))
    have B6:=hide (below_step B4.out (below_step b5 b6))
    have K6:=hide (((below_step b5 b6).block _ (Array.getElem?_eq_some_iff.1 K4.out).1).trans K4.out)
    have E6:=hide (((below_step b5 b6).block _ (Array.getElem?_eq_some_iff.1 D4.out).1).trans D4.out)
    clear b5 b6 hgv c0 C3 K4 B4 D4 HF4
    rw [hfn,hfl2,hfr,hfb,hfq] at D6 HG6 HF6 B6 K6 E6 ⊢
    clear hfn hfl2 hfr hfb hfq
    go_upto_region 5 with fail
    show Code.wp _ _ _ _ (w5.alloc (.cells #[.string fnm,.slice lp2 fl cp2,.int .i64 fr,.slice lb2 fb cb2,.int .i64 fq] 36))
    generalize w5.alloc (.cells #[.string fnm,.slice lp2 fl cp2,.int .i64 fr,.slice lb2 fb cb2,.int .i64 fq] 36)=W6 at *
    generalize w5.heap.size=q5 at *
    obtain⟨⟨x0,x1,x2,x3,x4⟩,_,_⟩:=five_at E6.out
    obtain⟨⟨y0,y1,y2,y3,y4⟩,_,_⟩:=five_at D6.out
    have C4:=hide (rsame_val ff _ _ W6 HF6.out HG6.out)
    have hbb:(rb != rb)=false:=by cases rb <;> rfl
    have hbb2:(rb == rb)=true:=by cases rb <;> rfl
    go_wp2_with fail
    refine C4.out.mono ?_;rintro e w7 ⟨rfl,b7⟩
    have B7:=hide (below_step B6.out b7)
    have K7:=hide ((b7.block _ (Array.getElem?_eq_some_iff.1 K6.out).1).trans K6.out)
    clear b7 x0 x1 x2 x3 x4 y0 y1 y2 y3 y4 C4 HF6 HG6 D6 E6 K6 B6 hbb hbb2
    go_wp2_with fail
    go_loopw [11] (fun iv wr=>∃i:Nat,i≤pn∧iv= .int .i64 i∧Hid (Below w7.heap.size w7 wr)) (fun iv _=>pn - (intOf iv).toNat)
    case atStart=>exact⟨0,Nat.zero_le _,rfl,hide (Below.refl _ _)⟩
    case round=>
     obtain⟨i,hi,rfl,HW⟩:=hrel
     have Kr:=hide ((HW.out.block _ (Array.getElem?_eq_some_iff.1 K7.out).1).trans K7.out)
     have c0:=(one_at Kr.out).1
     by_cases hit:i < pn
     ·have hiI:(i:Int) < pn:=by omega
      obtain⟨g,o,rfl,hfr⟩:=HRd.out i hit
      obtain⟨ha,hb,hc,hdd,hfv,d0,d1,d2,d3,d4⟩:=hfr.val
      have hgl:=hfr.1
      have Bw:=hide (below_step B7.out HW.out)
      obtain⟨T,hTd⟩:∃T,typeF (funN p i) id=T:=⟨_,rfl⟩
      have HTi:=hide (HTy.out i hit)
      rw [hTd] at HTi
      have CTy0:=hide (fun w' (b:Below wr.heap.size wr w')=>CTyA.out i hit _ w' (below_step Bw.out b) (hfv.below (below_step Bw.out b)))
      have CTf:=hide (fun w' (b:Below wr.heap.size wr w')=>CTfA.out i hit _ w' (below_step Bw.out b) (hfv.below (below_step Bw.out b)))
      rw [hTd] at CTf
      obtain⟨fx,hh⟩:∃fx,funN p i=fx:=⟨_,rfl⟩
      rw [hh] at d0 d1 d2 d3 d4 CTy0 CTf HTi
      have CTy:Hid (∀w',Below wr.heap.size wr w'→Calls Tryz.prog 15 #[(.agg #[.string (bs fx.1),.slice ha fx.2.1.length hc,.int .i64 fx.2.2.1,.slice hb fx.2.2.2.1.length hdd,.int .i64 fx.2.2.2.2])] w' fun e w''=>∃v,e= .returned v∧Below w'.heap.size w' w''∧TyV fx id T w'' v):=hide (fun w' b=>(CTy0.out w' b).mono fun e w'' ⟨m,he,_,hm,hb⟩=>⟨_,he,hb,m,rfl,hm,HTi.out⟩)
      have cs:=fun(w':World) (b:Below wr.heap.size wr w')=>(b.cell (p:=⟨w.heap.size,0,none⟩) (one_at Kr.out).2).trans (one_at Kr.out).1
      have ds:=fun(w':World) (b:Below wr.heap.size wr w')=>And.intro (((below_step Bw.out b).cell (p:=⟨g,o+i * 5,none⟩) hgl).trans d0) (And.intro (((below_step Bw.out b).cell (p:=⟨g,o+i * 5+1,none⟩) hgl).trans d1) (And.intro (((below_step Bw.out b).cell (p:=⟨g,o+i * 5+2,none⟩) hgl).trans d2) (And.intro (((below_step Bw.out b).cell (p:=⟨g,o+i * 5+3,none⟩) hgl).trans d3) (((below_step Bw.out b).cell (p:=⟨g,o+i * 5+4,none⟩) hgl).trans d4))))
      clear hfv hfr d0 d1 d2 d3 d4 hTd hh CTy0 HTi
      go_upto_region 10 with fail
      clear c0
      refine Mix.wp_region_mix (tywUp w.heap.size g o i pn pc (.agg #[.string (bs fx.1),.slice ha fx.2.1.length hc,.int .i64 fx.2.2.1,.slice hb fx.2.2.2.1.length hdd,.int .i64 fx.2.2.2.2]) fx id T) (by kernel_rfl) (by kernel_rfl) ?_
      refine Mix.mix_step rfl (valid_eq (.pointer (some ⟨w.heap.size,0,none⟩)) rfl) ?_ ?_
      ·intro w b k
       clear k
       simp [go_sem]
       exact⟨Below.refl _ _,fun d hd=>by cases hd;rfl⟩
      rintro v ⟨_,_,h⟩
      obtain rfl:v=(.pointer (some ⟨w.heap.size,0,none⟩)):=h _ rfl
      clear h
      simp only [Act.put,sU1,sU2,sU3]
      refine Mix.mix_step rfl (valid_eq (.slice (some ⟨g,o,none⟩) pn pc) rfl) ?_ ?_
      ·intro w b k
       have c0:=cs w b
       clear k
       simp [go_sem,c0]
       exact⟨Below.refl _ _,fun d hd=>by cases hd;rfl⟩
      rintro v ⟨_,_,h⟩
      obtain rfl:v=(.slice (some ⟨g,o,none⟩) pn pc):=h _ rfl
      clear h
      simp only [Act.put,sU1,sU2,sU3]
      refine Mix.mix_step rfl (valid_eq (.int .i64 i) rfl) ?_ ?_
      ·intro w b k
       clear k
       simp [go_sem]
       exact⟨Below.refl _ _,fun d hd=>by cases hd;rfl⟩
      rintro v ⟨_,_,h⟩
      obtain rfl:v=(.int .i64 i):=h _ rfl
      clear h
      simp only [Act.put,sU1,sU2,sU3]
      refine Mix.mix_step rfl (valid_eq (.pointer (some ⟨g,o+i * 5,none⟩)) rfl) ?_ ?_
      ·intro w b k
       clear k
       simp [go_sem,hiI]
       exact⟨Below.refl _ _,fun d hd=>by cases hd;rfl⟩
      rintro v ⟨_,_,h⟩
      obtain rfl:v=(.pointer (some ⟨g,o+i * 5,none⟩)):=h _ rfl
      clear h
      simp only [Act.put,sU1,sU2,sU3]
      refine Mix.mix_step rfl (valid_eq (.agg #[.string (bs fx.1),.slice ha fx.2.1.length hc,.int .i64 fx.2.2.1,.slice hb fx.2.2.2.1.length hdd,.int .i64 fx.2.2.2.2]) rfl) ?_ ?_
      ·intro w b k
       obtain⟨d0,d1,d2,d3,d4⟩:=ds w b
       clear k
       simp [go_sem,d0,d1,d2,d3,d4]
       exact⟨Below.refl _ _,fun d hd=>by cases hd;rfl⟩
      rintro v ⟨_,_,h⟩
      obtain rfl:v=(.agg #[.string (bs fx.1),.slice ha fx.2.1.length hc,.int .i64 fx.2.2.1,.slice hb fx.2.2.2.1.length hdd,.int .i64 fx.2.2.2.2]):=h _ rfl
      clear h
      simp only [Act.put,sU1,sU2,sU3]
      refine Mix.mix_step rfl (valid_of (CTy.out wr (Below.refl _ _))) ?_ ?_
      ·intro w b k
       clear k
       simp [go_sem]
       exact Calls.mono (CTy.out w b) fun e w' ⟨v,he,hb,hf⟩=>⟨v,he,hb,fun d hd=>by cases hd;exact hf⟩
      rintro p60 -
      simp only [Act.put,sU1,sU2,sU3]
      refine Mix.mix_step rfl (valid_eq (.int .i64 id) rfl) ?_ ?_
      ·intro w b k
       clear k
       simp [go_sem]
       exact⟨Below.refl _ _,fun d hd=>by cases hd;rfl⟩
      rintro v ⟨_,_,h⟩
      obtain rfl:v=(.int .i64 id):=h _ rfl
      clear h
      simp only [Act.put,sU1,sU2,sU3]
      refine Mix.mix_step rfl (valid_eq (.int .i64 T) rfl) ?_ ?_
      ·intro w b k
       have f60:TyV fx id T w p60:=k 60 (by decide +kernel) (by simp [Mix.add]) p60 rfl
       obtain⟨bm,rfl,hbm⟩:=f60
       have hl0:=imap_run hbm.1 id HId.out T hbm.2
       clear k
       simp [go_sem,hl0]
       exact⟨Below.refl _ _,fun d hd=>by cases hd;rfl⟩
      rintro v ⟨_,_,h⟩
      obtain rfl:v=(.int .i64 T):=h _ rfl
      clear h
      simp only [Act.put,sU1,sU2,sU3]
      refine Mix.mix_step rfl (valid_eq (.pointer (some ⟨w.heap.size,0,none⟩)) rfl) ?_ ?_
      ·intro w b k
       clear k
       simp [go_sem]
       exact⟨Below.refl _ _,fun d hd=>by cases hd;rfl⟩
      rintro v ⟨_,_,h⟩
      obtain rfl:v=(.pointer (some ⟨w.heap.size,0,none⟩)):=h _ rfl
      clear h
      simp only [Act.put,sU1,sU2,sU3]
      refine Mix.mix_step rfl (valid_eq (.slice (some ⟨g,o,none⟩) pn pc) rfl) ?_ ?_
      ·intro w b k
       have c0:=cs w b
       clear k
       simp [go_sem,c0]
       exact⟨Below.refl _ _,fun d hd=>by cases hd;rfl⟩
      rintro v ⟨_,_,h⟩
      obtain rfl:v=(.slice (some ⟨g,o,none⟩) pn pc):=h _ rfl
      clear h
      simp only [Act.put,sU1,sU2,sU3]
      refine Mix.mix_step rfl (valid_eq (.int .i64 i) rfl) ?_ ?_
      ·intro w b k
       clear k
       simp [go_sem]
       exact⟨Below.refl _ _,fun d hd=>by cases hd;rfl⟩
      rintro v ⟨_,_,h⟩
      obtain rfl:v=(.int .i64 i):=h _ rfl
      clear h
      simp only [Act.put,sU1,sU2,sU3]
      refine Mix.mix_step rfl (valid_eq (.pointer (some ⟨g,o+i * 5,none⟩)) rfl) ?_ ?_
      ·intro w b k
       clear k
       simp [go_sem,hiI]
       exact⟨Below.refl _ _,fun d hd=>by cases hd;rfl⟩
      rintro v ⟨_,_,h⟩
      obtain rfl:v=(.pointer (some ⟨g,o+i * 5,none⟩)):=h _ rfl
      clear h
      simp only [Act.put,sU1,sU2,sU3]
      refine Mix.mix_step rfl (valid_eq (.agg #[.string (bs fx.1),.slice ha fx.2.1.length hc,.int .i64 fx.2.2.1,.slice hb fx.2.2.2.1.length hdd,.int .i64 fx.2.2.2.2]) rfl) ?_ ?_
      ·intro w b k
       obtain⟨d0,d1,d2,d3,d4⟩:=ds w b
       clear k
       simp [go_sem,d0,d1,d2,d3,d4]
       exact⟨Below.refl _ _,fun d hd=>by cases hd;rfl⟩
      rintro v ⟨_,_,h⟩
      obtain rfl:v=(.agg #[.string (bs fx.1),.slice ha fx.2.1.length hc,.int .i64 fx.2.2.1,.slice hb fx.2.2.2.1.length hdd,.int .i64 fx.2.2.2.2]):=h _ rfl
      clear h
      simp only [Act.put,sU1,sU2,sU3]
      refine Mix.mix_step rfl (valid_eq (.int .i64 id) rfl) ?_ ?_
      ·intro w b k
       clear k
       simp [go_sem]
       exact⟨Below.refl _ _,fun d hd=>by cases hd;rfl⟩
      rintro v ⟨_,_,h⟩
      obtain rfl:v=(.int .i64 id):=h _ rfl
      clear h
      simp only [Act.put,sU1,sU2,sU3]
      refine Mix.mix_step rfl (valid_eq (.int .i64 T) rfl) ?_ ?_
      ·intro w b k
       clear k
       simp [go_sem]
       exact Calls.mono (CTf.out w b) fun e w' ⟨he,hb⟩=>⟨_,he,hb,fun d hd=>by cases hd;rfl⟩
      rintro v ⟨_,_,h⟩
      obtain rfl:v=(.int .i64 T):=h _ rfl
      clear h
      simp only [Act.put,sU1,sU2,sU3]
      refine Mix.mix_step rfl (valid_eq (.bool false) rfl) ?_ ?_
      ·intro w b k
       clear k
       simp [go_sem]
       exact⟨Below.refl _ _,fun d hd=>by cases hd;rfl⟩
      rintro v ⟨_,_,h⟩
      obtain rfl:v=(.bool false):=h _ rfl
      clear h
      simp only [Act.put,sU1,sU2,sU3]
      refine Mix.mix_nil ?_
      intro w9 b9 hk
      clear hk cs ds
      have H9:=hide (below_step HW.out b9)
      clear b9
      go_wp2_with fail
      go_roundw
      case rel=>exact⟨i+1,by omega,by go_num,H9⟩
      case measure=>simp [intOf];omega
     ·have hge:¬((i:Int) < (pn:Int)):=by omega
      clear hit
      go_wp2_with fail
      refine(CWk.out wr (below_step B7.out HW.out)).mono ?_;rintro e w8 ⟨rfl,b8⟩
      have B8:=hide (below_step (below_step B7.out HW.out) b8)
      clear b8
      go_wp2_with fail
      go_ret
      exact⟨rfl,B8.out⟩
   ·clear CFd CRf HRd CTyA CTfA HTy
    have hs0:(s1 != 0)=true:=bne_iff_ne.2 hs1
    go_wp2_with fail
    refine(CWk.out w2 B2.out).mono ?_;rintro e w3 ⟨rfl,b3⟩
    have B3:=hide (below_step B2.out b3)
    clear b3
    go_wp2_with fail
    go_ret
    exact⟨rfl,B3.out⟩
theorem lawBs (p:List Fun) (s:ByteArray) (id:Int) (po:Option Addr) (pc:Nat) (w:World) (hp:ProgR w p (.slice po p.length pc)) (gp:∀y∈p,GxF y) (fp:Few p.length) (hid:Wf6 id) (hT:Tb w):
  Calls Tryz.prog 4 #[.agg #[.slice po p.length pc],.string s,.int .i64 id] w fun e w'=>e= .returned (.bool true)∧Below w.heap.size w w':=by
 have h:=lawB p s.data.toList id po pc w hp gp fp hid hT
 rw [bs_of] at h
 exact h
open Go.ChangeShapes Go.WideShapes Go.ChangeAt Go.RowKit
open L5 (letters tk0 tk1 mk ds word)
theorem own:ownKnob Tryz.prog.godebug=none:=by kernel_rfl
theorem laidOut:laidOutB Tryz.prog=true:=by kernel_rfl
def laid2 : List (String × DataW Unit) := [("turntable/ops.rows", Rows.laid_turntable_ops_rows), ("turntable/shape.slotBits", Rows.laid_turntable_shape_slotBits)]
theorem rowsNamed : Tryz.prog.globalNamed "turntable/ops.rows" = some 0 := by kernel_rfl
theorem rowsType:(Tryz.prog.globals[0]?).map (·.type)=some 128:=by kernel_rfl
theorem lc3:Tryz.prog.cellsOf 3=1:=by kernel_rfl
theorem lc9:Tryz.prog.cellsOf 9=1:=by kernel_rfl
theorem lc86:Tryz.prog.cellsOf 89=2:=by kernel_rfl
theorem lc88:Tryz.prog.cellsOf 91=5:=by kernel_rfl
theorem lc117:Tryz.prog.cellsOf 174=16:=by kernel_rfl
def rowD {H:Type} (k:Nat):DataW H:= .agg [.lit (.string (letters k)),.agg [.lit (.int .i64 (tk0 k)),.lit (.int .i64 (tk1 k))],.lit (.int .i64 (mk k)),.lit (.int .i64 (ds k))]
theorem laid_rows {H:Type}:(Rows.laid_turntable_ops_rows:DataW H)= .agg ((List.range 30).map rowD):=by rfl
def bitsTab:List Int:= [1,2,4,8,16,32,64,128,256,512,1024,2048,4096,8192,16384,32768]
theorem bitsNamed : Tryz.prog.globalNamed "turntable/shape.slotBits" = some 1 := by kernel_rfl
theorem bitsType:(Tryz.prog.globals[1]?).map (·.type)=some 174:=by kernel_rfl
theorem bitsData:(Rows.laid_turntable_shape_slotBits:DataW Unit)=Lib.tabData .i64 bitsTab:=by kernel_rfl
theorem bits_pw:∀k,k < 16→bitsTab.getD k 0=L3.pw k:=by decide
section
variable {H:Type} {enc:TypeId × Value→H} {W:World} {base:Nat} {sp:Nat→Bool} {held:Bool}
theorem five {cs:List Value} (h:cs.length=5):∃a b c d e,cs= [a,b,c,d,e]:=by
 match cs,h with
 |[a,b,c,d,e],_=>exact⟨a,b,c,d,e,rfl⟩
theorem str_of {s:ByteArray} {bs:List UInt8} (h:s.data.toList=bs):s=⟨bs.toArray⟩:=by
 subst h;rfl
theorem row_cells {fuel k:Nat} {cs:List Value} {p:List MemPlace} (h:DataW.trod enc Tryz.prog W base sp held fuel 91 cs=some (rowD k,p)):
  cs= [.string (word k),.int .i64 (tk0 k),.int .i64 (tk1 k),.int .i64 (mk k),.int .i64 (ds k)]:=by
 obtain⟨xs,n,_,hx,hl,hlen,hf⟩:=DataW.trod_struct Tryz.underlying91 h
 obtain⟨v0,v1,v2,v3,v4,rfl⟩:=five (hl.trans lc88)
 match xs,hlen with
 |[y0,y1,y2,y3],_=>
  have h0:DataW.trod enc Tryz.prog W base sp held n 9 ([v0,v1,v2,v3,v4].take (Tryz.prog.cellsOf 9))=some y0:=hf 0 _ rfl
  have h1:DataW.trod enc Tryz.prog W base sp held n 89 ([v1,v2,v3,v4].take (Tryz.prog.cellsOf 89))=some y1:=hf 1 _ rfl
  have h2:DataW.trod enc Tryz.prog W base sp held n 3 ([v3,v4].take (Tryz.prog.cellsOf 3))=some y2:=hf 2 _ rfl
  have h3:DataW.trod enc Tryz.prog W base sp held n 3 ([v4].take (Tryz.prog.cellsOf 3))=some y3:=hf 3 _ rfl
  rw [lc9] at h0
  rw [lc86] at h1
  rw [lc3] at h2 h3
  obtain⟨s,e0,rfl,_⟩:=DataW.trod_string Tryz.underlying9 h0
  obtain⟨x2,e2,rfl,_⟩:=DataW.trod_int Tryz.underlying3 h2
  obtain⟨x3,e3,rfl,_⟩:=DataW.trod_int Tryz.underlying3 h3
  obtain⟨zs,m,_,hz,_,hzl,each⟩:=DataW.trod_array Tryz.underlying89 h1
  match zs,hzl with
  |[z0,z1],_=>
   have g0:=each 0 (by decide)
   have g1:=each 1 (by decide)
   simp only [lc3] at g0 g1
   simp at g0 g1
   obtain⟨u0,f0,rfl,_⟩:=DataW.trod_int Tryz.underlying3 g0
   obtain⟨u1,f1,rfl,_⟩:=DataW.trod_int Tryz.underlying3 g1
   subst hz
   simp [rowD] at hx e0 e2 e3 f0 f1
   obtain⟨⟨q0,⟨q1,q2⟩,q3,q4⟩,_⟩:=hx
   subst e0 e2 e3 f0 f1 q1 q2 q3 q4
   rw [str_of q0.symm]
   rfl
end
theorem tabs_of_laid {W:World} (h:laidMetH Tryz.prog laid2 W):Tb W:=by
 rw [MakeChecks.laidMetH_plain _ _ _ (by kernel_rfl)] at h
 obtain⟨ps,⟨g,t,cs,fuel,p,q,hg,ht,hvar,hd,⟨g1,t1,cs1,f1,p1,q1,hg1,ht1,hv1,hd1,_,_⟩,_⟩,_,_⟩:=h
 obtain rfl:=Option.some.inj (rowsNamed.symm.trans hg)
 obtain rfl:=Option.some.inj (rowsType.symm.trans ht)
 rw [laid_rows] at hd
 obtain⟨xs,n,_,hx,hl,hlen,each⟩:=DataW.trod_array Tryz.underlying128 hd
 have hxs:xs.map (·.1)=(List.range 30).map rowD:=by
  have:=congrArg Prod.fst hx
  simpa using this.symm
 have key:∀k,k < 30→(cs.toList.drop (k * 5)).take 5= [.string (word k),.int .i64 (tk0 k),.int .i64 (tk1 k),.int .i64 (mk k),.int .i64 (ds k)]:=by
  intro k hk
  have h1:=each k hk
  rw [lc88] at h1
  obtain⟨y,hy⟩:∃y,xs[k]? =some y:=⟨_,List.getElem?_eq_getElem (by omega)⟩
  have h2:=congrArg (·[k]?) hxs
  simp [hy,hk] at h2
  rw [hy] at h1
  obtain⟨d,pl⟩:=y
  simp at h2
  subst h2
  exact row_cells h1
 have cell:∀k j v,k < 30→j < 5→((cs.toList.drop (k * 5)).take 5)[j]? =some v→W.cell? ⟨0,k * 5+j,none⟩=some v:=by
  intro k j v hk hj hv
  have:=World.var?_cell hg hvar (k * 5+j)
  rw [this]
  simpa [List.getElem?_take,List.getElem?_drop,hj] using hv
 refine⟨?_,?_,?_⟩
 ·trivial
 ·obtain rfl:=Option.some.inj (bitsNamed.symm.trans hg1)
  obtain rfl:=Option.some.inj (bitsType.symm.trans ht1)
  rw [bitsData] at hd1
  have hcs:=Lib.cells_of_tab Tryz.underlying174 Tryz.underlying3 lc3 lc117 hd1
  have ht : Lib.TabIs Tryz.prog W "turntable/shape.slotBits" .i64 bitsTab := by
   unfold Lib.TabIs
   rw [hv1,←hcs]
  have hc:∀k,k < 16→W.cell? ⟨1,k,none⟩=some (.int .i64 (L3.pw k)):=fun k hk=>by
   rw [←bits_pw k hk];exact ht.cell bitsNamed k hk
  exact⟨World.block_lt_of_cell? W _ (hc 0 (by omega)),hc⟩
 refine⟨World.block_lt_of_cell? W _ (cell 0 0 (.string (word 0)) (by omega) (by omega) (by rw [key 0 (by omega)];rfl)),fun k hk=> ?_⟩
 exact⟨cell k 0 _ hk (by omega) (by rw [key k hk];rfl),cell k 1 _ hk (by omega) (by rw [key k hk];rfl),cell k 2 _ hk (by omega) (by rw [key k hk];rfl),cell k 3 _ hk (by omega) (by rw [key k hk];rfl),cell k 4 _ hk (by omega) (by rw [key k hk];rfl)⟩
theorem door_met (os:Os) (args:Array Value):laidMetH Tryz.prog laid2 ((World.doorLaid Tryz.prog 400 os).forCall (fun _ _=>0) ⟨#[],args,[]⟩).memory:=
 laidMetH_of_parts3 (fuel:=8) (laidMet_of_run' 8 (by kernel_rfl) (by kernel_rfl)) (by kernel_rfl) (by kernel_rfl)
end Go.Proofs.YtljkgcfnoegibaaGreatDoor
