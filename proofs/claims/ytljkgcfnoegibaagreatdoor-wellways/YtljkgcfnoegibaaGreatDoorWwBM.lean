/- Texts of one chain, joined. -/
import Derived.Test.YtljkgcfnoegibaaGreatDoorWwBL
set_option maxHeartbeats 4000000
set_option maxRecDepth 20000
namespace Go.Proofs.YtljkgcfnoegibaaGreatDoor
open Go Go.RowKit Go.Maps
open G (Tok Er Ins Fun)
open Mix (Up)
def RunF (p:List Fun) (f:Fun):Prop:=Ful f∧Tos f∧Gr (succsF f)∧Mod f∧f.2.1.length≤1000000∧(∀k,k < f.2.2.2.1.length→0 < (blkN f k).length)∧∀k,k < f.2.2.2.1.length→∀i,i < (blkN f k).length→(∀n,n < (insN f k i).2.2.2.2.1.length→takC p f k i n=0)∧(∀a∈(insN f k i).2.2.2.2.2.1,0≤a)∧(insN f k i).2.2.2.2.1.length≤1000000∧(insN f k i).2.2.2.2.2.1.length≤1000000
theorem run_of {p:List Fun} (hL:lgtP p=true) (gp:∀y∈p,GxF y) (hc:(checkP p false).1=0) {i:Nat} (hi:i < p.length):RunF p (funN p i):=by
 obtain⟨a,_,c⟩:=check_ok hc
 obtain⟨s1,_,_,s4⟩:=func_ok (c i hi)
 have hm:=funN_mem hi
 obtain⟨k1,_,k3⟩:=(lgt_cnd hL gp).1.2.2.2 a _ hm
 obtain⟨q1,q2,q3⟩:=k1.1 s1
 refine⟨q1,q2,gr_succs q2 q3,((lgt_cnd hL gp).1.2.2.1 _ hm).1,((lgt_cnd hL gp).1.2.2.1 _ hm).2,fun k hk=> ?_,fun k hk j hj=>⟨fun n hn=>(look_take (s4 k hk j hj) hn).2,fun b hb=> ?_,(k3 k hk j hj).1.2.2.2.1,(k3 k hk j hj).1.2.2.2.2⟩⟩
 ·have:=(q1.2 _ (blkN_mem hk)).1
  exact Nat.pos_of_ne_zero fun e=>this (List.length_eq_zero_iff.1 e)
 ·obtain⟨_,_,_,h4⟩:=check_parts (k3 k hk j hj).2
  rw [List.any_eq_false] at h4
  exact(byd_not (by simpa using h4 b hb)).1
theorem succs_nextF {f:Fun} {K:Nat} (h:K < f.2.2.2.1.length):(succsF f).getD K []=nextF f K:=by
 rw [List.getD_eq_getElem?_getD,succsF_at h];rfl
theorem InsV.ar_sl {w:World} {x:Ins} {a0 a1 a2 a3 a5 a6 a7:Value} {xo:Option Addr} {n xc:Nat} (h:InsV w x (.agg #[a0,a1,a2,a3,.slice xo n xc,a5,a6,a7])):Sl w xo x.2.2.2.2.1∧x.2.2.2.2.1.length≤maxLen:=by
 obtain⟨b1,b2,b3,b4,e,h1,_,h3,h4,_⟩:=h
 injection e with e
 have e1:=congrArg (fun a=>a[4]?) e
 simp at e1
 obtain⟨rfl,rfl,rfl⟩:=e1
 exact⟨h1,Nat.le_trans h3 h4⟩
def BoxF (B:Nat) (w:World) (v:Value):Prop:=∃b,v= .pointer (some ⟨b,0,none⟩)∧B≤b∧w.heap[b]? =some (.cells #[.string ⟨#[]⟩,.slice none 0 0,.int .i64 0,.slice none 0 0,.int .i64 0] 36 (0,0))
theorem BoxF.below {B:Nat} {w w':World} {v:Value} (h:BoxF B w v) (b:Below w.heap.size w w'):BoxF B w' v:=by
 obtain⟨q,e,hb,hq⟩:=h
 exact⟨q,e,hb,(b.block q (Array.getElem?_eq_some_iff.1 hq).1).trans hq⟩
def wayUp (q g o R pn pc B:Nat) (wh:Int) (fv:Value) (t:Tmp):Up:=match t with
 |38=>Up.eq (.pointer (some ⟨q,0,none⟩))
 |39=>Up.eq (.slice (some ⟨g,o,none⟩) pn pc)
 |40=>Up.eq (.int .u8 wh)
 |41=>Up.eq (.int .i64 wh)
 |42=>Up.eq (.pointer (some ⟨q,0,none⟩))
 |43=>Up.eq (.slice (some ⟨g,o,none⟩) pn pc)
 |44=>Up.eq (.int .i64 pn)
 |45=>Up.eq (.int .i64 R)
 |46=>Up.eq (.pointer (some ⟨g,o+R * 5,none⟩))
 |47=>Up.eq fv
 |7=>⟨fun v w=>BoxF B w v,fun _ _ _ b h=>h.below b⟩
 |_=>Up.any
theorem lawC (p:List Fun) (wh:Int) (tu:List Int) (v1:Value) (po:Option Addr) (pc:Nat) (w:World) (hp:ProgR w p (.slice po p.length pc)) (gp:∀y∈p,GxF y) (fp:Few p.length) (hwb:0≤wh∧wh < 256) (hbv:BytesV w tu v1) (gb:∀x∈tu,0≤x∧x < 256) (hT:Tb w):
  Calls Tryz.prog 5 #[.agg #[.slice po p.length pc],.int .u8 wh,v1] w fun e w'=>e= .returned (.bool true)∧Below w.heap.size w w':=by
 have hfl:∀(a b:Value) (w:World),(Instr.field 29 (.agg #[a,b]) 0).run Tryz.prog w= .ok a w:=fun _ _ _=>rfl
 obtain⟨i3,hi3,hz3,hz4,hz5⟩:=info_parts Tryz.info3
 have CL:=hide (fun w' (b:Below w.heap.size w w')=>light11_any p po pc w' (hp.below b) fp (fun f hf=>(gp f hf).sh11))
 have CWk:=hide (fun w' (b:Below w.heap.size w w')=>works11_any w' (hT.below b))
 have CMa:=hide (fun(h:lgtP p=true) w' (b:Below w.heap.size w w')=>made11_any p po pc w' (hp.below b) (lgt_cnd h gp).1.1 (lgt_cnd h gp).1.2.1 (lgt_cnd h gp).1.2.2.1 (hT.below b) (hT.below b).2.2 (tab_of (hT.below b).2.2) (lgt_cnd h gp).1.2.2.2)
 have HRd:Hid (∀i,i < p.length→∃g o,po=some ⟨g,o,none⟩∧FunR w (funN p i) g (o+i * 5)):=hide (fun i hi=>prog_fun hp hi)
 have HRun:Hid (lgtP p=true→(checkP p false).1=0→∀i,i < p.length→RunF p (funN p i)):=hide (fun h hc i hi=>run_of h gp hc hi)
 have HLn:Hid (lgtP p=true→p.length≤100):=hide (fun h=>(lgt_siz h).1)
 have HBy:=hide hbv
 have HGb:=hide gb
 obtain⟨ko,kc,rfl,_,hkm⟩:=hbv
 unfold maxLen at hkm
 clear hp gp fp hT gb
 obtain⟨pn,hpn⟩:∃n,p.length=n:=⟨_,rfl⟩
 rw [hpn] at CL CMa HRd HRun HLn ⊢
 clear hpn
 obtain⟨hw0,hw1⟩:=hwb
 have hwh:IntKind.i64.wrap wh=wh:=IntWalk.i64_in _ ⟨by omega,by omega⟩
 have b0:=below_box w (.cells #[.slice po pn pc] 24)
 have H0:=hide (heap_alloc_new w (.cells #[.slice po pn pc] 24))
 have B0:=hide b0
 clear b0
 go_enter Tryz.func5,Tryz.ntmps5
 go_upto_region 1 with fail
 show Code.wp _ _ _ _ (w.alloc (.cells #[.slice po pn pc] 24))
 generalize w.alloc (.cells #[.slice po pn pc] 24)=W at *
 have c0:=(one_at H0.out).1
 go_wp2_with fail
 refine(CL.out W B0.out).mono ?_;rintro e w1 ⟨rfl,b1⟩
 have B1:=hide (below_step B0.out b1)
 have K0:=hide ((b1.block _ (Array.getElem?_eq_some_iff.1 H0.out).1).trans H0.out)
 clear b1 c0 CL H0 B0
 cases hL:lgtP p with
 |false=>
  rw [if_neg (by simp)]
  clear CMa HRd HRun HLn hL
  go_wp2_with fail
  refine(CWk.out w1 B1.out).mono ?_;rintro e w2 ⟨rfl,b2⟩
  have HE:=hide (below_step (B1.out) b2)
  clear b2
  go_wp2_with fail
  go_ret
  exact⟨rfl,HE.out⟩
 |true=>
  rw [if_pos rfl]
  replace CMa:=hide (CMa.out hL)
  replace HRun:=hide (HRun.out hL)
  have hpl:pn≤100:=HLn.out hL
  clear hL HLn
  have c0:=(one_at K0.out).1
  by_cases hlen:(40:Int) < tu.length
  ·clear CMa HRd HRun
   go_wp2_with fail
   refine(CWk.out w1 B1.out).mono ?_;rintro e w2 ⟨rfl,b2⟩
   have HE:=hide (below_step (B1.out) b2)
   clear b2
   go_wp2_with fail
   go_ret
   exact⟨rfl,HE.out⟩
  ·have C1:=hide (CMa.out w1 B1.out)
   obtain⟨⟨s1,s2⟩,hs⟩:∃s,checkP p false=s:=⟨_,rfl⟩
   rw [hs] at C1 HRun
   clear hs CMa
   go_wp2_with fail
   refine C1.out.mono ?_;rintro e wz ⟨rfl,b2⟩
   have B2:=hide (below_step B1.out b2)
   have K2:=hide ((b2.block _ (Array.getElem?_eq_some_iff.1 K0.out).1).trans K0.out)
   clear b2 C1 c0 B1 K0
   have c0:=(one_at K2.out).1
   by_cases hs1:s1=0
   ·replace HRun:=hide (HRun.out hs1)
    subst hs1
    by_cases hpn0:(pn:Int)=0
    ·have hpe:((pn:Int) == 0)=true:=beq_iff_eq.2 hpn0
     replace hpn0:=hide hpn0
     clear HRd HRun
     go_wp2_with fail
     refine(CWk.out wz B2.out).mono ?_;rintro e w3 ⟨rfl,b3⟩
     have HE:=hide (below_step (B2.out) b3)
     clear b3
     go_wp2_with fail
     go_ret
     exact⟨rfl,HE.out⟩
    ·have hpe:((pn:Int) == 0)=false:=beq_eq_false_iff_ne.2 hpn0
     have hr0:0≤wh % (pn:Int):=Int.emod_nonneg _ hpn0
     have hr1:wh % (pn:Int) < pn:=Int.emod_lt_of_pos _ (by omega)
     obtain⟨R,hR⟩:∃R:Nat,wh % (pn:Int)=(R:Int):=⟨(wh % (pn:Int)).toNat,by omega⟩
     have hRl:R < pn:=by omega
     have hRI:(R:Int) < pn:=by omega
     have hrem:Int.tmod wh pn=(R:Int):=by rw [←hR];exact Int.tmod_eq_emod_of_nonneg hw0
     have hpnn:¬pn=0:=by omega
     obtain⟨g,o,rfl,hfr⟩:=HRd.out R hRl
     obtain⟨ha,hb,hc,hdd,hfv,d0,d1,d2,d3,d4⟩:=hfr.val
     have hgl:=hfr.1
     obtain⟨fx,hh⟩:∃fx,funN p R=fx:=⟨_,rfl⟩
     have HR:=hide (HRun.out R hRl)
     rw [hh] at d0 d1 d2 d3 d4 HR hfv
     have HFv:=hide hfv
     have cs:=fun(w':World) (b:Below wz.heap.size wz w')=>(b.cell (p:=⟨w.heap.size,0,none⟩) (one_at K2.out).2).trans (one_at K2.out).1
     have ds:=fun(w':World) (b:Below wz.heap.size wz w')=>And.intro (((below_step B2.out b).cell (p:=⟨g,o+R * 5,none⟩) hgl).trans d0) (And.intro (((below_step B2.out b).cell (p:=⟨g,o+R * 5+1,none⟩) hgl).trans d1) (And.intro (((below_step B2.out b).cell (p:=⟨g,o+R * 5+2,none⟩) hgl).trans d2) (And.intro (((below_step B2.out b).cell (p:=⟨g,o+R * 5+3,none⟩) hgl).trans d3) (((below_step B2.out b).cell (p:=⟨g,o+R * 5+4,none⟩) hgl).trans d4))))
     clear hfv hfr d0 d1 d2 d3 d4 hh HRd HRun hr0 hr1 hR
     go_upto_region 3 with fail
     clear c0
     refine Mix.wp_region_last (wayUp w.heap.size g o R pn pc wz.heap.size wh (.agg #[.string (bs fx.1),.slice ha fx.2.1.length hc,.int .i64 fx.2.2.1,.slice hb fx.2.2.2.1.length hdd,.int .i64 fx.2.2.2.2])) 11 _ rfl rfl (by kernel_rfl) (by kernel_rfl) (by kernel_rfl) ?_
     refine Mix.mix_step rfl (valid_eq (.pointer (some ⟨w.heap.size,0,none⟩)) rfl) ?_ ?_
     ·intro w b k
      clear k
      simp [go_sem]
      exact⟨Below.refl _ _,fun d hd=>by cases hd;rfl⟩
     rintro v ⟨_,_,h⟩
     obtain rfl:v=(.pointer (some ⟨w.heap.size,0,none⟩)):=h _ rfl
     clear h
     simp only [Act.put,sU1,sU2,sU3]
     refine Mix.mix_step rfl (valid_eq (.slice (some ⟨g,o,none⟩) pn pc) rfl) ?_ ?_
     ·intro w b k
      have c0:=cs w b
      clear k
      simp [go_sem,c0]
      exact⟨Below.refl _ _,fun d hd=>by cases hd;rfl⟩
     rintro v ⟨_,_,h⟩
     obtain rfl:v=(.slice (some ⟨g,o,none⟩) pn pc):=h _ rfl
     clear h
     simp only [Act.put,sU1,sU2,sU3]
     refine Mix.mix_step rfl (valid_eq (.int .u8 wh) rfl) ?_ ?_
     ·intro w b k
      clear k
      simp [go_sem]
      exact⟨Below.refl _ _,fun d hd=>by cases hd;rfl⟩
     rintro v ⟨_,_,h⟩
     obtain rfl:v=(.int .u8 wh):=h _ rfl
     clear h
     simp only [Act.put,sU1,sU2,sU3]
     refine Mix.mix_step rfl (valid_eq (.int .i64 wh) rfl) ?_ ?_
     ·intro w b k
      clear k
      simp [go_sem,hwh]
      exact⟨Below.refl _ _,fun d hd=>by cases hd;rfl⟩
     rintro v ⟨_,_,h⟩
     obtain rfl:v=(.int .i64 wh):=h _ rfl
     clear h
     simp only [Act.put,sU1,sU2,sU3]
     refine Mix.mix_step rfl (valid_eq (.pointer (some ⟨w.heap.size,0,none⟩)) rfl) ?_ ?_
     ·intro w b k
      clear k
      simp [go_sem]
      exact⟨Below.refl _ _,fun d hd=>by cases hd;rfl⟩
     rintro v ⟨_,_,h⟩
     obtain rfl:v=(.pointer (some ⟨w.heap.size,0,none⟩)):=h _ rfl
     clear h
     simp only [Act.put,sU1,sU2,sU3]
     refine Mix.mix_step rfl (valid_eq (.slice (some ⟨g,o,none⟩) pn pc) rfl) ?_ ?_
     ·intro w b k
      have c0:=cs w b
      clear k
      simp [go_sem,c0]
      exact⟨Below.refl _ _,fun d hd=>by cases hd;rfl⟩
     rintro v ⟨_,_,h⟩
     obtain rfl:v=(.slice (some ⟨g,o,none⟩) pn pc):=h _ rfl
     clear h
     simp only [Act.put,sU1,sU2,sU3]
     refine Mix.mix_step rfl (valid_eq (.int .i64 pn) rfl) ?_ ?_
     ·intro w b k
      clear k
      simp [go_sem]
      exact⟨Below.refl _ _,fun d hd=>by cases hd;rfl⟩
     rintro v ⟨_,_,h⟩
     obtain rfl:v=(.int .i64 pn):=h _ rfl
     clear h
     simp only [Act.put,sU1,sU2,sU3]
     refine Mix.mix_step rfl (valid_eq (.int .i64 R) rfl) ?_ ?_
     ·intro w b k
      clear k
      simp [go_sem,hrem,hpnn]
      exact⟨Below.refl _ _,fun d hd=>by cases hd;rfl⟩
     rintro v ⟨_,_,h⟩
     obtain rfl:v=(.int .i64 R):=h _ rfl
     clear h
     simp only [Act.put,sU1,sU2,sU3]
     refine Mix.mix_step rfl (valid_eq (.pointer (some ⟨g,o+R * 5,none⟩)) rfl) ?_ ?_
     ·intro w b k
      clear k
      simp [go_sem,hRI]
      exact⟨Below.refl _ _,fun d hd=>by cases hd;rfl⟩
     rintro v ⟨_,_,h⟩
     obtain rfl:v=(.pointer (some ⟨g,o+R * 5,none⟩)):=h _ rfl
     clear h
     simp only [Act.put,sU1,sU2,sU3]
     refine Mix.mix_step rfl (valid_eq (.agg #[.string (bs fx.1),.slice ha fx.2.1.length hc,.int .i64 fx.2.2.1,.slice hb fx.2.2.2.1.length hdd,.int .i64 fx.2.2.2.2]) rfl) ?_ ?_
     ·intro w b k
      obtain⟨d0,d1,d2,d3,d4⟩:=ds w b
      clear k
      simp [go_sem,d0,d1,d2,d3,d4]
      exact⟨Below.refl _ _,fun d hd=>by cases hd;rfl⟩
     rintro v ⟨_,_,h⟩
     obtain rfl:v=(.agg #[.string (bs fx.1),.slice ha fx.2.1.length hc,.int .i64 fx.2.2.1,.slice hb fx.2.2.2.1.length hdd,.int .i64 fx.2.2.2.2]):=h _ rfl
     clear h
     simp only [Act.put,sU1,sU2,sU3]
     refine Mix.mix_step rfl ⟨.pointer (some ⟨wz.heap.size,0,none⟩),_,below_box wz (.cells #[.string ⟨#[]⟩,.slice none 0 0,.int .i64 0,.slice none 0 0,.int .i64 0] 36),fun d hd=>by cases hd;exact⟨_,rfl,Nat.le_refl _,heap_alloc_new _ _⟩⟩ ?_ ?_
     ·intro w b k
      clear k
      simp [go_sem]
      exact⟨below_box _ _,fun d hd=>by cases hd;exact⟨_,rfl,b.size,heap_alloc_new _ _⟩⟩
     rintro p7 -
     simp only [Act.put,sU1,sU2,sU3]
     refine Mix.mix_nil ?_
     intro w4 b4 hk
     obtain⟨q4,rfl,hqB,hq4⟩:BoxF wz.heap.size w4 p7:=hk 7 (by simp [Mix.add]) p7 rfl
     clear hk
     refine⟨rfl,fun K hK=> ?_⟩
     obtain⟨⟨z0,z1,z2,z3,z4⟩,⟨f0,f1,f2,f3,f4⟩,_⟩:=five_at hq4
     unfold Oper.wp
     simp [go_sem,z0,z1,z2,z3,z4,f0,f1,f2,f3,f4]
     refine hK _ _ ?_
     have HQ5:Hid ((((((w4.setCell ⟨q4,0,none⟩ (.string (bs fx.1))).setCell ⟨q4,1,none⟩ (.slice ha fx.2.1.length hc)).setCell ⟨q4,2,none⟩ (.int .i64 fx.2.2.1)).setCell ⟨q4,3,none⟩ (.slice hb fx.2.2.2.1.length hdd)).setCell ⟨q4,4,none⟩ (.int .i64 fx.2.2.2.2)).heap[q4]? =some (.cells #[.string (bs fx.1),.slice ha fx.2.1.length hc,.int .i64 fx.2.2.1,.slice hb fx.2.2.2.1.length hdd,.int .i64 fx.2.2.2.2] 36 (0,0))):=hide (by
      rw [heap_setCell_same _ q4 4 _ 36 _ ((heap_setCell_same _ q4 3 _ 36 _ ((heap_setCell_same _ q4 2 _ 36 _ ((heap_setCell_same _ q4 1 _ 36 _ ((heap_setCell_same w4 q4 0 _ 36 _ hq4).trans rfl)).trans rfl)).trans rfl)).trans rfl)]
      rfl)
     have B5:Hid (Below wz.heap.size wz (((((w4.setCell ⟨q4,0,none⟩ (.string (bs fx.1))).setCell ⟨q4,1,none⟩ (.slice ha fx.2.1.length hc)).setCell ⟨q4,2,none⟩ (.int .i64 fx.2.2.1)).setCell ⟨q4,3,none⟩ (.slice hb fx.2.2.2.1.length hdd)).setCell ⟨q4,4,none⟩ (.int .i64 fx.2.2.2.2))):=hide (((((b4.setCell (p:=⟨q4,0,none⟩) hqB _).setCell (p:=⟨q4,1,none⟩) hqB _).setCell (p:=⟨q4,2,none⟩) hqB _).setCell (p:=⟨q4,3,none⟩) hqB _).setCell (p:=⟨q4,4,none⟩) hqB _)
     generalize (((((w4.setCell ⟨q4,0,none⟩ (.string (bs fx.1))).setCell ⟨q4,1,none⟩ (.slice ha fx.2.1.length hc)).setCell ⟨q4,2,none⟩ (.int .i64 fx.2.2.1)).setCell ⟨q4,3,none⟩ (.slice hb fx.2.2.2.1.length hdd)).setCell ⟨q4,4,none⟩ (.int .i64 fx.2.2.2.2))=w5 at *
     clear hK z0 z1 z2 z3 z4 f0 f1 f2 f3 f4 hq4 b4 cs ds hqB K2
     have BW:=hide (below_step B2.out B5.out)
     have HF5:=hide (HFv.out.below BW.out)
     have HBy5:=hide (HBy.out.below BW.out)
     clear B2 B5 HFv HBy
     obtain⟨rF,rT,rG,rM,rP,rB,rX⟩:=HR.out
     replace rF:=hide rF
     replace rT:=hide rT
     replace rG:=hide rG
     have hN:=rM.1
     replace rM:=hide rM
     replace rB:=hide rB
     replace rX:=hide rX
     clear HR
     have HNx:=hide (fun k (hk:k < fx.2.2.2.1.length) w' (b:Below w5.heap.size w5 w')=>next_any fx k _ w' (HF5.out.below b) rF.out hk)
     have HRow:Hid (∀k,k < fx.2.2.2.1.length→∃g o ao ac,hb=some ⟨g,o,none⟩∧(∀w',Below w5.heap.size w5 w'→w'.cell? ⟨g,o+k,none⟩=some (.slice ao (blkN fx k).length ac))∧∀w',Below w5.heap.size w5 w'→∀i,i < (blkN fx k).length→∃g2 o2,ao=some ⟨g2,o2,none⟩∧InsR w' (insN fx k i) g2 (o2+i * 8)):=hide (fun k hk=>by
      obtain⟨g,o,ao,ac,h1,h2,h3,h4⟩:=blks_row (fun_blks HF5.out) hk
      exact⟨g,o,ao,ac,h1,fun w' b=>(b.cell (p:=⟨g,o+k,none⟩) h2).trans h3,fun w' b i hi=>blk_ins (h4.below b) hi⟩)
     have HPar:Hid (∀id,isPar fx id=true→∃j:Nat,j < fx.2.1.length∧id=j):=hide (fun id h=>by
      unfold isPar at h
      simp at h
      exact⟨id.toNat,by omega,by omega⟩)
     have HSg:=hide (fun k (hk:k < fx.2.2.2.1.length)=>succs_nextF (f:=fx) hk)
     have HMb:=hide (fun k=>rM.out.blk k)
     have h0b:0 < fx.2.2.2.1.length:=by
      have:=rG.out.2
      unfold succsF at this
      simpa using this
     clear HF5 rF
     generalize bs fx.1=nm at *
     obtain⟨lps,hlps⟩:∃n,fx.2.1.length=n:=⟨_,rfl⟩
     obtain⟨lbs,hlbs⟩:∃n,fx.2.2.2.1.length=n:=⟨_,rfl⟩
     rw [hlps,hlbs] at HQ5 HNx
     rw [hlps] at HPar rP
     rw [hlbs] at HRow HSg hN rB rX h0b
     have rTo:Hid (∀j,Num lbs (nextF fx j)):=hide (fun j=>by have:=rT.out j;rw [hlbs] at this;exact this)
     clear hlps hlbs rT rM
     generalize fx.2.2.1=rt at *
     generalize fx.2.2.2.2=pl at *
     have HBx:=hide (fun w' (b:Below w5.heap.size w5 w')=>(five_at ((b.block _ (Array.getElem?_eq_some_iff.1 HQ5.out).1).trans HQ5.out)).1)
     clear HQ5
     go_wp2_with fail
     go_loopw [8,9] (fun mv iv wr=>∃(I:Nat) (l:List Int),I≤lps∧iv= .int .i64 I∧l.length≤I∧Hid (∀j:Nat,j < I→(j:Int)∈l)∧Hid (Grw w5 l mv wr)) (fun _ iv _=>lps - (intOf iv).toNat)
     case atStart=>exact⟨0,[],Nat.zero_le _,rfl,by simp,hide (fun j h=>absurd h (Nat.not_lt_zero _)),hide (Grw.start w5)⟩
     case round=>
      obtain⟨I,l,hI,rfl,hll,HI,HG⟩:=hrel
      obtain⟨x0,x1,x2,x3,x4⟩:=HBx.out wr HG.out.2
      by_cases hit:I < lps
      ·have hiI:(I:Int) < lps:=by omega
       have hws:=HG.out.2.size
       go_wp2_with (at_builtin;refine wpList_append_own _ rfl (.tmp 55) (.tmp 57) 33 rfl w5.heap.size 3 i3 _ 1 8 Tryz.underlying33 hi3 hz3 hz4 hz5 rfl (by decide) _ _ _ rfl (HG.out.1.alloc _) ⟨wr.heap.size,0,none⟩ 1 1 [.int .i64 I] rfl rfl one_cell one_one (by unfold maxLen;omega) (by omega) (by simp;omega) ?_;intro v2 w6 own2 grow2 _;refine Hid.out ?_)
       have HG2:Hid (Grw w5 (l ++ [(I:Int)]) v2 w6):=hide (HG.out.step own2 grow2)
       clear own2 grow2 x0 x1 x2 x3 x4
       refine hide ?_
       have HI2:Hid (∀j:Nat,j < I+1→(j:Int)∈l ++ [(I:Int)]):=hide (fun j hj=>by
        by_cases e:j=I
        ·subst e;simp
        ·simp [HI.out j (by omega)])
       have hll2:(l ++ [(I:Int)]).length≤I+1:=by simp;omega
       clear HG HI hll
       generalize l ++ [(I:Int)]=l2 at *
       go_wp2_with fail
       go_roundw
       case rel=>exact⟨I+1,l2,by omega,by go_num,hll2,HI2,HG2⟩
       case measure=>simp [intOf];omega
      ·have hge:¬((I:Int) < (lps:Int)):=by omega
       have hIe:I=lps:=by omega
       have HM0:Hid (MdW fx [] 0 0 l):=hide (MdW.first fun id h=>by
        obtain⟨j,hj,rfl⟩:=HPar.out id h
        exact HI.out j (by omega))
       have hl6:l.length≤1000000:=by omega
       clear hit HI HPar hIe hll
       obtain⟨mo,mc,rfl,_,_⟩:=HG.out.slice
       go_wp2_with fail
       clear x0 x1 x2 x3 x4 hge
       go_loopw [8,10,11,12] (fun mv kv fv nv wq=>∃(N K:Nat) (fr:Int) (way md:List Int),N≤tu.length∧nv= .int .i64 N∧kv= .int .i64 K∧fv= .int .i64 fr∧K < lbs∧md.length≤1000000+N * 1000000∧Hid (Grw w5 md mv wq)∧Hid (WayS fx way K fr)∧Hid (MdW fx way K 0 md)) (fun _ _ _ nv _=>tu.length - (intOf nv).toNat)
       case atStart=>exact⟨0,0,-1,[],l,Nat.zero_le _,rfl,rfl,rfl,h0b,by omega,HG,hide (.inl ⟨rfl,rfl,rfl⟩),HM0⟩
       case round=>
        clear HG HM0 hl6
        obtain⟨N,K,fr,way,md,hNn,rfl,rfl,rfl,hK,hmd,HG,HW,HM⟩:=hrel
        obtain⟨x0,x1,x2,x3,x4⟩:=HBx.out wr HG.out.2
        obtain⟨gr,go,ao,ac,rfl,hrow,hins⟩:=HRow.out K hK
        replace hrow:=hide hrow
        replace hins:=hide hins
        have hr:=hrow.out wr HG.out.2
        have hbp:=rB.out K hK
        have hbm:=HMb.out K
        have hXk:=hide (rX.out K hK)
        obtain⟨bn,hbn⟩:∃n,(blkN fx K).length=n:=⟨_,rfl⟩
        rw [hbn] at hr hbp hbm hXk hrow hins
        replace hbn:=hide hbn
        have hK0:¬((K:Int) < 0):=by omega
        have hKI:(K:Int) < lbs:=by omega
        have hKg:¬((lbs:Int)≤K):=by omega
        have hbe:((bn:Int) == 0)=false:=beq_eq_false_iff_ne.2 (by omega)
        have hNI:(N:Int)≤tu.length:=by omega
        go_wp2_with fail
        clear x0 x1 x2 x3 x4 hr hbe
        go_loopw [8,13] (fun mv iv wq=>∃(I:Nat) (ml:List Int),I≤bn∧iv= .int .i64 I∧ml.length≤1000000+N * 1000000+I∧Hid (Grw w5 ml mv wq)∧Hid (MdW fx way K I ml)) (fun _ iv _=>bn - (intOf iv).toNat)
        case atStart=>exact⟨0,md,Nat.zero_le _,rfl,by omega,HG,HM⟩
        case round=>
         clear HG HM hmd
         obtain⟨I,ml,hI,rfl,hml,HG,HM⟩:=hrel
         obtain⟨x0,x1,x2,x3,x4⟩:=HBx.out wr HG.out.2
         have hr:=hrow.out wr HG.out.2
         by_cases hit:I < bn
         ·have hiI:(I:Int) < bn:=by omega
          obtain⟨g2,o2,rfl,hir⟩:=hins.out wr HG.out.2 I hit
          obtain⟨xo,zo,xc,zc,hxv,e0,e1,e2,e3,e4,e5,e6,e7⟩:=hir.val
          obtain⟨hX1,hX2,hX3,hX4⟩:=hXk.out I hit
          have HTk:Hid (∀A a,(insN fx K I).2.2.2.2.1[A]? =some a→((insN fx K I).1=20→(insN fx K I).2.2.2.2.2.1[A]? =some fr)→hasL ml a=true):=hide (fun A a hA hph=>by
           have hAl:A < (insN fx K I).2.2.2.2.1.length:=(List.getElem?_eq_some_iff.1 hA).1
           have e:(insN fx K I).2.2.2.2.1.getD A 0=a:=by rw [List.getD_eq_getElem?_getD,hA];rfl
           rw [hasL_mem,←e]
           refine way_takes rG.out HW.out HM.out (hX1 A hAl) fun h20=> ?_
           have h:=hph h20
           have e2:(insN fx K I).2.2.2.2.2.1.getD A 0=fr:=by rw [List.getD_eq_getElem?_getD,h];rfl
           exact⟨by rw [e2];exact hX2 _ (List.mem_of_getElem? h),e2⟩)
          have HPut:Hid (MdW fx way K (I+1) (ml ++ [(insN fx K I).2.1])):=hide HM.out.put
          have HStay:Hid (mkX (insN fx K I)=0→MdW fx way K (I+1) ml):=hide (fun h=>HM.out.stay h)
          clear HM hX1 hX2
          obtain⟨x,hx⟩:∃x,insN fx K I=x:=⟨_,rfl⟩
          rw [hx] at hxv e0 e1 e2 e3 e4 e5 e6 e7 hX3 hX4 HTk HPut HStay
          clear hx hir
          have hAr:=hxv.ar_sl
          have hTo:=hxv.to_sl
          have s1:=hAr.2
          have s2:=hTo.2
          unfold maxLen at s1 s2
          go_upto_region 19 with fail
          show Code.wp _ _ _ _ (wr.alloc (.cells #[.int .i64 x.1,.int .i64 x.2.1,.int .i64 x.2.2.1,.int .i64 x.2.2.2.1,.slice xo x.2.2.2.2.1.length xc,.slice zo x.2.2.2.2.2.1.length zc,.string (bs x.2.2.2.2.2.2.1),.int .i64 x.2.2.2.2.2.2.2] 47))
          have b3:=below_box wr (.cells #[.int .i64 x.1,.int .i64 x.2.1,.int .i64 x.2.2.1,.int .i64 x.2.2.2.1,.slice xo x.2.2.2.2.1.length xc,.slice zo x.2.2.2.2.2.1.length zc,.string (bs x.2.2.2.2.2.2.1),.int .i64 x.2.2.2.2.2.2.2] 47)
          have Y0:=hide (L5.Box.new wr [.int .i64 x.1,.int .i64 x.2.1,.int .i64 x.2.2.1,.int .i64 x.2.2.2.1,.slice xo x.2.2.2.2.1.length xc,.slice zo x.2.2.2.2.2.1.length zc,.string (bs x.2.2.2.2.2.2.1),.int .i64 x.2.2.2.2.2.2.2] 47)
          replace Y0:Hid (L5.Box (wr.alloc (.cells #[.int .i64 x.1,.int .i64 x.2.1,.int .i64 x.2.2.1,.int .i64 x.2.2.2.1,.slice xo x.2.2.2.2.1.length xc,.slice zo x.2.2.2.2.2.1.length zc,.string (bs x.2.2.2.2.2.2.1),.int .i64 x.2.2.2.2.2.2.2] 47)) wr.heap.size [.int .i64 x.1,.int .i64 x.2.1,.int .i64 x.2.2.1,.int .i64 x.2.2.2.1,.slice xo x.2.2.2.2.1.length xc,.slice zo x.2.2.2.2.2.1.length zc,.string (bs x.2.2.2.2.2.2.1),.int .i64 x.2.2.2.2.2.2.2]):=Y0
          have HA:=hide (hAr.1.below b3)
          have HT:=hide (hTo.1.below b3)
          have HG3:Hid (Grw w5 ml _ (wr.alloc (.cells #[.int .i64 x.1,.int .i64 x.2.1,.int .i64 x.2.2.1,.int .i64 x.2.2.2.1,.slice xo x.2.2.2.2.1.length xc,.slice zo x.2.2.2.2.2.1.length zc,.string (bs x.2.2.2.2.2.2.1),.int .i64 x.2.2.2.2.2.2.2] 47))):=hide (HG.out.below b3)
          clear e0 e1 e2 e3 e4 e5 e6 e7 x0 x1 x2 x3 x4 hr b3 hxv hAr hTo HG
          generalize wr.alloc (.cells #[.int .i64 x.1,.int .i64 x.2.1,.int .i64 x.2.2.1,.int .i64 x.2.2.2.1,.slice xo x.2.2.2.2.1.length xc,.slice zo x.2.2.2.2.2.1.length zc,.string (bs x.2.2.2.2.2.2.1),.int .i64 x.2.2.2.2.2.2.2] 47)=w7 at *
          generalize wr.heap.size=q7 at *
          obtain⟨mo,mc,rfl,hms,hmm⟩:=HG3.out.slice
          have HMs:=hide hms
          clear hms
          obtain⟨an,han⟩:∃n,x.2.2.2.2.1.length=n:=⟨_,rfl⟩
          obtain⟨tn,htn⟩:∃n,x.2.2.2.2.2.1.length=n:=⟨_,rfl⟩
          rw [han] at Y0 s1 hX3
          rw [htn] at Y0 s2 hX4
          have HAn:Hid (∀A,A < an→∃a,x.2.2.2.2.1[A]? =some a):=hide (fun A h=>⟨_,List.getElem?_eq_getElem (by omega)⟩)
          have HTn:Hid (∀A,A < tn→∃a,x.2.2.2.2.2.1[A]? =some a):=hide (fun A h=>⟨_,List.getElem?_eq_getElem (by omega)⟩)
          have HAc:Hid (∀A a,x.2.2.2.2.1[A]? =some a→∃ab aof,xo=some ⟨ab,aof,none⟩∧∀w',Below w7.heap.size w7 w'→w'.cell? ⟨ab,aof+A,none⟩=some (.int .i64 a)):=hide (fun A a h=>by
           rcases HA.out with he | ⟨ab,aof,rfl,hb,hc⟩
           ·rw [he] at h;simp at h
           ·exact⟨ab,aof,rfl,fun w' b=>(b.cell (p:=⟨ab,aof+A,none⟩) hb).trans (hc A a h)⟩)
          have HTc:Hid (∀A a,x.2.2.2.2.2.1[A]? =some a→∃ab aof,zo=some ⟨ab,aof,none⟩∧∀w',Below w7.heap.size w7 w'→w'.cell? ⟨ab,aof+A,none⟩=some (.int .i64 a)):=hide (fun A a h=>by
           rcases HT.out with he | ⟨ab,aof,rfl,hb,hc⟩
           ·rw [he] at h;simp at h
           ·exact⟨ab,aof,rfl,fun w' b=>(b.cell (p:=⟨ab,aof+A,none⟩) hb).trans (hc A a h)⟩)
          clear han htn HA HT
          go_wp2_with fail
          go_loopw [15] (fun av wq=>∃A:Nat,A≤an∧av= .int .i64 A∧Hid (Below w7.heap.size w7 wq)) (fun av _=>an - (intOf av).toNat)
          case atStart=>exact⟨0,Nat.zero_le _,rfl,hide (Below.refl _ _)⟩
          case round=>
           obtain⟨A,hA,rfl,HB⟩:=hrel
           obtain⟨y0,y1,y2,y3,y4,y5,y6,y7⟩:_∧_∧_∧_∧_∧_∧_∧_:=⟨(Y0.out.below HB.out).2 0 _ rfl,(Y0.out.below HB.out).2 1 _ rfl,(Y0.out.below HB.out).2 2 _ rfl,(Y0.out.below HB.out).2 3 _ rfl,(Y0.out.below HB.out).2 4 _ rfl,(Y0.out.below HB.out).2 5 _ rfl,(Y0.out.below HB.out).2 6 _ rfl,(Y0.out.below HB.out).2 7 _ rfl⟩
           by_cases hat:A < an
           ·have haI:(A:Int) < an:=by omega
            obtain⟨a,ha⟩:=HAn.out A hat
            obtain⟨ab,aof,rfl,hac⟩:=HAc.out A a ha
            have ca:=hac wr HB.out
            clear hac
            by_cases h20:x.1=20
            ·have e20:(x.1 == 20)=true:=beq_iff_eq.2 h20
             by_cases htl:A < tn
             ·have htI:(A:Int) < tn:=by omega
              have htg:¬((tn:Int)≤A):=by omega
              obtain⟨u,hu⟩:=HTn.out A htl
              obtain⟨tb,tof,rfl,htc⟩:=HTc.out A u hu
              have ct:=htc wr HB.out
              clear htc
              by_cases huf:u=fr
              ·have hh:hasL ml a=true:=HTk.out A a ha (fun _=>by rw [hu,huf])
               have HH:=hide (rhas_any ml a mo mc wr (HMs.out.below HB.out) hmm)
               rw [hh] at HH
               have euf:(u == fr)=true:=beq_iff_eq.2 huf
               replace hh:=hide hh
               replace h20:=hide h20
               replace huf:=hide huf
               replace hu:=hide hu
               replace ha:=hide ha
               go_wp2_with fail
               refine HH.out.mono ?_;rintro e w9 ⟨rfl,h9⟩
               rw [h9]
               clear h9
               go_wp2_with fail
               go_roundw
               case rel=>exact⟨A+1,by omega,by go_num,HB⟩
               case measure=>simp [intOf];omega
              ·have euf:(u == fr)=false:=beq_eq_false_iff_ne.2 huf
               replace h20:=hide h20
               replace hu:=hide hu
               replace ha:=hide ha
               go_wp2_with fail
               go_roundw
               case rel=>exact⟨A+1,by omega,by go_num,HB⟩
               case measure=>simp [intOf];omega
             ·have htg:(tn:Int)≤A:=by omega
              replace h20:=hide h20
              replace ha:=hide ha
              go_wp2_with fail
              go_roundw
              case rel=>exact⟨A+1,by omega,by go_num,HB⟩
              case measure=>simp [intOf];omega
            ·have e20:(x.1 == 20)=false:=beq_eq_false_iff_ne.2 h20
             have hh:hasL ml a=true:=HTk.out A a ha (fun h=>absurd h h20)
             have HH:=hide (rhas_any ml a mo mc wr (HMs.out.below HB.out) hmm)
             rw [hh] at HH
             replace hh:=hide hh
             replace ha:=hide ha
             go_wp2_with fail
             refine HH.out.mono ?_;rintro e w9 ⟨rfl,h9⟩
             rw [h9]
             clear h9
             go_wp2_with fail
             go_roundw
             case rel=>exact⟨A+1,by omega,by go_num,HB⟩
             case measure=>simp [intOf];omega
           ·have hge:¬((A:Int) < (an:Int)):=by omega
            have CMk:=hide (L5.refMakes_any x.1 x.2.2.2.1 (.int .i64 x.2.1) (.int .i64 x.2.2.1) (.slice xo an xc) (.slice zo tn zc) (.string (bs x.2.2.2.2.2.2.1)) (.int .i64 x.2.2.2.2.2.2.2) wr)
            have hmk:L5.imakes x.1 x.2.2.2.1=mkX x:=rfl
            rw [hmk] at CMk
            clear hat hmk HTk HAc HTc HAn HTn
            obtain⟨mk,hmk⟩:∃m,mkX x=m:=⟨_,rfl⟩
            rw [hmk] at CMk HStay
            clear hmk
            go_wp2_with fail
            refine CMk.out.mono ?_;rintro e w9 ⟨rfl,b9⟩
            have HG9:Hid (Grw w5 ml _ w9):=hide (HG3.out.below (below_step HB.out b9))
            have Y9:=hide (Y0.out.below (below_step HB.out b9))
            clear b9 y0 y1 y2 y3 y4 y5 y6 y7 CMk hge
            have y1:=Y9.out.2 1 _ rfl
            by_cases hm0:mk=0
            ·have em:(mk == 0)=true:=beq_iff_eq.2 hm0
             have HM2:=hide (HStay.out hm0)
             replace hm0:=hide hm0
             go_wp2_with fail
             go_roundw
             case rel=>exact⟨I+1,ml,by omega,by go_num,by omega,HG9,HM2⟩
             case measure=>simp [intOf];omega
            ·have em:(mk == 0)=false:=beq_eq_false_iff_ne.2 hm0
             have hws:=HG9.out.2.size
             obtain⟨xi,hxi⟩:∃i,x.2.1=i:=⟨_,rfl⟩
             rw [hxi] at y1 HPut
             clear hxi
             go_wp2_with (at_builtin;refine wpList_append_own _ rfl (.tmp 138) (.tmp 141) 33 rfl w5.heap.size 3 i3 _ 1 8 Tryz.underlying33 hi3 hz3 hz4 hz5 rfl (by decide) _ _ _ rfl (HG9.out.1.alloc _) ⟨w9.heap.size,0,none⟩ 1 1 [.int .i64 xi] rfl rfl one_cell one_one (by unfold maxLen;omega) (by omega) (by simp;omega) ?_;intro v2 w6 own2 grow2 _;refine Hid.out ?_)
             have HG2:Hid (Grw w5 (ml ++ [xi]) v2 w6):=hide (HG9.out.step own2 grow2)
             clear own2 grow2 y1
             refine hide ?_
             have hll2:(ml ++ [xi]).length≤1000000+N * 1000000+(I+1):=by simp;omega
             generalize ml ++ [xi]=m2 at *
             go_wp2_with fail
             go_roundw
             case rel=>exact⟨I+1,m2,by omega,by go_num,hll2,HG2,HPut⟩
             case measure=>simp [intOf];omega
         ·have hge:¬((I:Int) < (bn:Int)):=by omega
          obtain rfl:I=bn:=by omega
          have HMn:Hid (∀k',MdW fx (way ++ [(K:Int)]) k' 0 ml):=hide (fun k'=>by
           have:=HM.out
           rw [←hbn.out] at this
           exact this.next)
          have HN:=hide (HNx.out K hK wr HG.out.2)
          have HSk:=hide (HSg.out K hK)
          have HNm:=hide (rTo.out K)
          obtain⟨mo,mc,rfl,_,_⟩:=HG.out.slice
          obtain⟨l,hl⟩:∃l,nextF fx K=l:=⟨_,rfl⟩
          rw [hl] at HN HSk HNm
          clear hl hit HM hI
          go_wp2_with fail
          refine HN.out.mono ?_;rintro e w8 ⟨lv,rfl,hlo,b8⟩
          have HG8:Hid (Grw w5 ml _ w8):=hide (HG.out.below b8)
          have HLo:=hide hlo
          obtain⟨lo,lc,rfl⟩:=own_len hlo
          clear x0 x1 x2 x3 x4 HN hlo b8 hr hge HG
          by_cases hl0:l.length=0
          ·have hbe:((l.length:Int) == 0)=true:=beq_iff_eq.2 (by omega)
           replace hl0:=hide hl0
           go_wp2_with fail
           refine(CWk.out w8 (below_step BW.out HG8.out.2)).mono ?_;rintro e w9 ⟨rfl,b9⟩
           have HE:=hide (below_step (below_step BW.out HG8.out.2) b9)
           clear b9
           go_wp2_with fail
           go_ret
           exact⟨rfl,HE.out⟩
          ·have hbe:((l.length:Int) == 0)=false:=beq_eq_false_iff_ne.2 (by omega)
           by_cases hNe:N=tu.length
           ·have hne:((N:Int) == (tu.length:Int))=true:=beq_iff_eq.2 (by omega)
            replace hNe:=hide hNe
            replace hl0:=hide hl0
            go_wp2_with fail
            refine(CWk.out w8 (below_step BW.out HG8.out.2)).mono ?_;rintro e w9 ⟨rfl,b9⟩
            have HE:=hide (below_step (below_step BW.out HG8.out.2) b9)
            clear b9
            go_wp2_with fail
            go_ret
            exact⟨rfl,HE.out⟩
           ·have hne:((N:Int) == (tu.length:Int))=false:=beq_eq_false_iff_ne.2 (by omega)
            have hNt:N < tu.length:=by omega
            have hNtI:(N:Int) < tu.length:=by omega
            have hnz:¬(l.length:Int)=0:=by omega
            obtain⟨y,hy⟩:∃y,tu[N]? =some y:=⟨_,List.getElem?_eq_getElem hNt⟩
            obtain⟨hy0,hy1⟩:=HGb.out y (List.mem_of_getElem? hy)
            have hr0:0≤y % (l.length:Int):=Int.emod_nonneg _ hnz
            have hr1:y % (l.length:Int) < l.length:=Int.emod_lt_of_pos _ (by omega)
            obtain⟨S,hS⟩:∃S:Nat,y % (l.length:Int)=(S:Int):=⟨(y % (l.length:Int)).toNat,by omega⟩
            have hSl:S < l.length:=by omega
            obtain⟨m,hm⟩:∃m,l[S]? =some m:=⟨_,List.getElem?_eq_getElem hSl⟩
            obtain⟨hm0,hm1⟩:=HNm.out m (List.mem_of_getElem? hm)
            obtain⟨M,rfl⟩:∃M:Nat,m=(M:Int):=⟨m.toNat,by omega⟩
            have hMl:M < lbs:=by omega
            obtain⟨ko2,kc2,ke,hkr,_⟩:=HBy5.out
            injection ke with ke1 ke2 ke3
            subst ke1 ke3
            rcases hkr with e0 | ⟨kb,kof,rfl,kl,kcell⟩
            ·subst e0;simp at hNt
            have c1:=(HG8.out.2.cell (p:=⟨kb,kof+N,none⟩) kl).trans (kcell N y hy)
            obtain⟨gq,rfl,c5,_⟩:=own_cell HLo.out hm
            have HW2:Hid (WayS fx (way ++ [(K:Int)]) M K):=hide (HW.out.next (by rw [HSk.out];exact List.mem_of_getElem? hm))
            have hSI:(S:Int) < l.length:=by omega
            have HM2:=hide (HMn.out M)
            clear kcell hy hm hr0 hr1 HW HMn HLo ke2
            go_wp2_with fail
            go_roundw
            case rel=>exact⟨N+1,M,K,way ++ [(K:Int)],ml,by omega,by go_num,rfl,rfl,hMl,by omega,HG8,HW2,HM2⟩
            case measure=>simp [intOf];omega
   ·clear HRd HRun
    have hs0:¬s1=0:=hs1
    go_wp2_with fail
    refine(CWk.out wz B2.out).mono ?_;rintro e w3 ⟨rfl,b3⟩
    have HE:=hide (below_step (B2.out) b3)
    clear b3
    go_wp2_with fail
    go_ret
    exact⟨rfl,HE.out⟩
end Go.Proofs.YtljkgcfnoegibaaGreatDoor
