/- Texts of one chain, joined. -/
import Derived.Test.YtljkgcfnoegibaaGreatDoorWcAZ
set_option maxHeartbeats 2000000
set_option maxRecDepth 20000
namespace Go.Proofs.YtljkgcfnoegibaaGreatDoor
open Go Go.RowKit
open G (Tok Er Ins Fun)
theorem two_at {w:World} {b t:Nat} {a0 a1:Value} (h:w.heap[b]? =some (.cells #[a0,a1] t (0,0))):(w.cell? ⟨b,0,none⟩=some a0∧w.cell? ⟨b,1,none⟩=some a1)∧(w.frozen? ⟨b,0,none⟩=false∧w.frozen? ⟨b,1,none⟩=false)∧b < w.heap.size:=by
 refine⟨⟨?_,?_⟩,⟨?_,?_⟩,(Array.getElem?_eq_some_iff.1 h).1⟩ <;> simp [World.cell?,World.frozen?,h]
theorem dupB_iff (p:List Fun) (i k:Nat):dupB p i k=decide ((funN p i).1=(funN p k).1):=rfl
theorem rnames_any (p:List Fun) (po:Option Addr) (pc:Nat) (w:World) (hp:ProgR w p (.slice po p.length pc)) (hl:p.length≤1000000) (hpm:∀f∈p,f.2.1.length≤1000000):
  Calls Tryz.prog 25 #[.agg #[.slice po p.length pc]] w fun e w'=>e= .returned (.agg #[.int .i64 (namesF p).1,.int .i64 (namesF p).2])∧Below w.heap.size w w':=by
 have HNm:Hid (namesF p=match dupF p with
  |some e=>e
  |none=>match findF p mainN with
   |none=>(12,0)
   |some m=>if hasL m.2.1 2 then(13,m.2.2.2.2)else(0,0)):=hide rfl
 have HDf:Hid (dupF p=fstN (fun i=>(fstN (fun k=>if dupB p i k then some ((5:Int),(funN p i).2.2.2.2)else none) i)) p.length):=hide rfl
 have HFi:Hid (∀w',Below w.heap.size w w'→Calls Tryz.prog 13 #[.agg #[.slice po p.length pc],.string ⟨#[109,97,105,110]⟩] w' fun e w''=>(∃fv,e= .returned (.tuple #[fv,.bool (findF p mainN).isSome])∧FunV w'' ((findF p mainN).getD fun0) fv)∧Below w'.heap.size w' w''):=hide (fun w' b=>rfind_any p mainN po pc w' (hp.below b) hl)
 have HMm:Hid (∀m,findF p mainN=some m→m.2.1.length≤1000000):=hide (fun m hm=>by
  obtain⟨i,hi,h2,_⟩:=fstN_at hm
  by_cases e:(funN p i).1=mainN
  ·rw [if_pos e] at h2
   injection h2 with h2
   rw [←h2]
   exact hpm _ (List.mem_of_getElem? (funN_at hi))
  ·rw [if_neg e] at h2;cases h2)
 have HRd:Hid (∀i,i < p.length→∃g o,po=some ⟨g,o,none⟩∧FunR w (funN p i) g (o+i * 5)):=hide (fun i hi=>prog_fun hp hi)
 clear hp hpm
 obtain⟨r,hr⟩:∃r,namesF p=r:=⟨_,rfl⟩
 rw [hr] at HNm ⊢
 clear hr
 generalize hn:p.length=n at *
 replace hn:=hide hn
 have b1:=below_box w (.cells #[.slice po n pc] 24)
 have h1:=heap_alloc_new w (.cells #[.slice po n pc] 24)
 have b2:=below_box (w.alloc (.cells #[.slice po n pc] 24)) (.cells #[.int .i64 0,.int .i64 0] 29)
 have hs1:(w.alloc (.cells #[.slice po n pc] 24)).heap.size=w.heap.size+1:=by simp
 have h2:=heap_alloc_new (w.alloc (.cells #[.slice po n pc] 24)) (.cells #[.int .i64 0,.int .i64 0] 29)
 rw [hs1] at h2
 have H1:=hide ((b2.block w.heap.size (by simp)).trans h1)
 have H2:=hide h2
 have B0:=hide (below_step b1 b2)
 clear b1 h1 b2 hs1 h2
 go_enter Tryz.func25,Tryz.ntmps25
 go_upto_region 1 with fail
 show Code.wp _ _ _ _ ((w.alloc (.cells #[.slice po n pc] 24)).alloc (.cells #[.int .i64 0,.int .i64 0] 29))
 generalize (w.alloc (.cells #[.slice po n pc] 24)).alloc (.cells #[.int .i64 0,.int .i64 0] 29)=W at *
 have hz2:=(two_at H2.out).2.2
 have hz1:=(one_at H1.out).2
 go_wp2_with fail
 go_loopw [3] (fun iv wr=>∃I:Nat,I≤n∧iv= .int .i64 I∧Hid (∀i,i < I→∀k,k < i→dupB p i k=false)∧Hid (Below W.heap.size W wr)) (fun iv _=>n - (intOf iv).toNat)
 case atStart=>exact⟨0,Nat.zero_le _,rfl,hide (fun j h=>absurd h (Nat.not_lt_zero _)),hide (Below.refl _ _)⟩
 case round=>
  obtain⟨I,hI,rfl,HF,HW⟩:=hrel
  have c0:=(HW.out.cell (p:=⟨w.heap.size,0,none⟩) hz1).trans (one_at H1.out).1
  by_cases hit:I < n
  ·have hiI:(I:Int) < n:=by omega
   have HW0:=hide HW.out
   go_wp2_with fail
   clear c0
   go_loopw [4] (fun kv wr=>∃K:Nat,K≤I∧kv= .int .i64 K∧Hid (∀k,k < K→dupB p I k=false)∧Hid (Below W.heap.size W wr)) (fun kv _=>I - (intOf kv).toNat)
   case atStart=>exact⟨0,Nat.zero_le _,rfl,hide (fun j h=>absurd h (Nat.not_lt_zero _)),hide HW0.out⟩
   case round=>
    clear HW HW0
    obtain⟨K,hK,rfl,HG,HW⟩:=hrel
    by_cases hkt:K < I
    ·have hkI:(K:Int) < I:=by omega
     have hkN:(K:Int) < n:=by omega
     obtain⟨g,o,rfl,hfr⟩:=HRd.out I hit
     obtain⟨g',o',he',hfr'⟩:=HRd.out K (by omega)
     injection he' with he'
     injection he' with e1 e2
     subst e1 e2
     have hgl:=hfr.1
     obtain⟨_,_,_,_,_,d0,_,_,_,d4⟩:=hfr.val
     obtain⟨_,_,_,_,_,u0,_,_,_,_⟩:=hfr'.val
     have HDk:=hide (dupB_iff p I K)
     obtain⟨a,ha⟩:∃a,(funN p I).1=a:=⟨_,rfl⟩
     obtain⟨b,hb⟩:∃b,(funN p K).1=b:=⟨_,rfl⟩
     obtain⟨at_,hat⟩:∃at_,(funN p I).2.2.2.2=at_:=⟨_,rfl⟩
     rw [ha] at d0 HDk
     rw [hb] at u0 HDk
     rw [hat] at d4
     have hB2:=fun z=>below_step HW.out (L5.grewTo_below wr z)
     have hBw:=fun z=>below_step B0.out (hB2 z)
     have c0:=fun z=>((hB2 z).cell (p:=⟨w.heap.size,0,none⟩) hz1).trans (one_at H1.out).1
     have k0:=fun z=>((hBw z).cell (p:=⟨g,o+I * 5,none⟩) hgl).trans d0
     have k4:=fun z=>((hBw z).cell (p:=⟨g,o+I * 5+4,none⟩) hgl).trans d4
     have l0:=fun z=>((hBw z).cell (p:=⟨g,o+K * 5,none⟩) hgl).trans u0
     replace hB2:=hide hB2
     replace hBw:=hide hBw
     have HAt:=hide hat
     clear hfr hfr' d0 d4 u0 ha hb hat
     by_cases hab:a=b
     ·have hbq:((bs a).toList == (bs b).toList)=true:=by rw [hab];exact bs_beq b
      have HR:Hid (r=(5,at_)):=hide (by
       rw [HNm.out]
       have:dupF p=some (5,at_):=by
        rw [HDf.out]
        refine fstN_some (K:=I) (fun j hj=>fstN_none (fun k hk=> ?_)) hit (fstN_some (K:=K) (fun k hk=> ?_) hkt ?_)
        ·rw [HF.out j hj k hk];rfl
        ·rw [HG.out k hk];rfl
        ·rw [HDk.out,decide_eq_true hab,HAt.out];rfl
       rw [this])
      clear hab
      go_wp2_with fail
      refine L5.region_grew (by kernel_rfl) (by kernel_rfl) ?_
      repeat (go_big_quiet_step (fail))
      refine wpQuiet_nil ?_
      rintro _ ⟨z,rfl⟩
      obtain⟨⟨z0,z1⟩,⟨f0,f1⟩,_⟩:=two_at (((hB2.out z).block _ hz2).trans H2.out)
      have HBz:=hide (hBw.out z)
      have c0':=c0 z
      have k4':=k4 z
      clear c0 k0 k4 l0 hB2 hBw
      generalize L5.grewTo wr z=wz at *
      have HE:Hid (Below w.heap.size w ((wz.setCell ⟨w.heap.size+1,0,none⟩ (.int .i64 5)).setCell ⟨w.heap.size+1,1,none⟩ (.int .i64 at_))):=hide (((HBz.out.setCell (p:=⟨w.heap.size+1,0,none⟩) (Nat.le_succ _) _).setCell (p:=⟨w.heap.size+1,1,none⟩) (Nat.le_succ _) _))
      go_wp2_with fail
      exact bodyPost_ret (v:= .agg #[.int .i64 5,.int .i64 at_]) (by simp [results,Tryz.results25,go_sem,z0,z1]) rfl ⟨by rw [HR.out],HE.out⟩
     ·have hbq:=nm_ne hab
      have HG2:Hid (∀k,k < K+1→dupB p I k=false):=hide (fun k hk=>by
       by_cases e:k=K
       ·rw [e,HDk.out,decide_eq_false hab]
       ·exact HG.out k (by omega))
      clear hab
      go_wp2_with fail
      refine L5.region_grew (by kernel_rfl) (by kernel_rfl) ?_
      repeat (go_big_quiet_step (fail))
      refine wpQuiet_nil ?_
      rintro _ ⟨z,rfl⟩
      go_wp2_with fail
      go_roundw
      case rel=>exact⟨K+1,by omega,by go_num,HG2,hide (hB2.out z)⟩
      case measure=>simp [intOf];omega
    ·obtain rfl:K=I:=by omega
     have HF2:Hid (∀i,i < K+1→∀k,k < i→dupB p i k=false):=hide (fun i hi k hk=>by
      by_cases e:i=K
      ·subst e;exact HG.out k hk
      ·exact HF.out i (by omega) k hk)
     go_wp2_with fail
     go_roundw
     case rel=>exact⟨K+1,by omega,by go_num,HF2,HW⟩
     case measure=>simp [intOf];omega
  ·obtain rfl:I=n:=by omega
   have HDn:Hid (dupF p=none):=hide (by
    rw [HDf.out]
    exact fstN_none (fun j hj=>fstN_none (fun k hk=>by rw [HF.out j hj k hk];rfl)))
   have HN2:Hid (r=if(findF p mainN).isSome then(if hasL ((findF p mainN).getD fun0).2.1 2 then(13,((findF p mainN).getD fun0).2.2.2.2)else(0,0))else(12,0)):=hide (by
    rw [HNm.out,HDn.out]
    cases findF p mainN <;> rfl)
   have HML:Hid (((findF p mainN).getD fun0).2.1.length≤1000000):=hide (by
    cases hm:findF p mainN with
    |none=>exact Nat.zero_le _
    |some m=>exact HMm.out m hm)
   have HC:=hide (HFi.out wr (below_step B0.out HW.out))
   have Bw:=hide (below_step B0.out HW.out)
   obtain⟨m,hm⟩:∃m,(findF p mainN).getD fun0=m:=⟨_,rfl⟩
   obtain⟨fb,hfb⟩:∃fb,(findF p mainN).isSome=fb:=⟨_,rfl⟩
   rw [hm,hfb] at HC HN2
   rw [hm] at HML
   have hml:=HML.out
   clear hm hfb HMm HFi HNm HDf HDn HML
   go_wp2_with fail
   refine HC.out.mono ?_;rintro e w2 ⟨⟨fv,rfl,hfv⟩,b2⟩
   obtain⟨ma,mc,mb,md,rfl,X,b3⟩:=fun_box hfv
   have HW3:=hide (below_step HW.out (below_step b2 b3))
   have Bw3:=hide (below_step Bw.out (below_step b2 b3))
   have X0:=hide X
   have HSl:Hid (Sl (w2.alloc (.cells #[.string (bs m.1),.slice ma m.2.1.length mc,.int .i64 m.2.2.1,.slice mb m.2.2.2.1.length md,.int .i64 m.2.2.2.2] 36)) ma m.2.1):=hide (by
    obtain⟨vp,vb,e,⟨l1,l2,l3,hs,_⟩,_⟩:=hfv.below b3
    injection e with e
    have e1:=congrArg (fun a=>a[1]?) e
    simp at e1
    rw [l3] at e1
    injection e1 with e1
    rw [←e1] at hs;exact hs)
   clear HC c0 b2 X b3 hfv
   go_upto_region 10 with fail
   show Code.wp _ _ _ _ (w2.alloc (.cells #[.string (bs m.1),.slice ma m.2.1.length mc,.int .i64 m.2.2.1,.slice mb m.2.2.2.1.length md,.int .i64 m.2.2.2.2] 36))
   generalize w2.alloc (.cells #[.string (bs m.1),.slice ma m.2.1.length mc,.int .i64 m.2.2.1,.slice mb m.2.2.2.1.length md,.int .i64 m.2.2.2.2] 36)=w3 at *
   generalize w2.heap.size=q2 at *
   obtain⟨x0,x1,x2,x3,x4⟩:_∧_∧_∧_∧_:=⟨X0.out.2 0 _ rfl,X0.out.2 1 _ rfl,X0.out.2 2 _ rfl,X0.out.2 3 _ rfl,X0.out.2 4 _ rfl⟩
   obtain⟨⟨z0,z1⟩,⟨f0,f1⟩,_⟩:=two_at ((HW3.out.block _ hz2).trans H2.out)
   cases hfb:fb with
   |false=>
    have HR:Hid (r=(12,0)):=hide (by rw [HN2.out,hfb];rfl)
    have HE:Hid (Below w.heap.size w ((w3.setCell ⟨w.heap.size+1,0,none⟩ (.int .i64 12)).setCell ⟨w.heap.size+1,1,none⟩ (.int .i64 0))):=hide (((Bw3.out.setCell (p:=⟨w.heap.size+1,0,none⟩) (Nat.le_succ _) _).setCell (p:=⟨w.heap.size+1,1,none⟩) (Nat.le_succ _) _))
    go_wp2_with fail
    exact bodyPost_ret (v:= .agg #[.int .i64 12,.int .i64 0]) (by simp [results,Tryz.results25,go_sem,z0,z1]) rfl ⟨by rw [HR.out],HE.out⟩
   |true=>
    have HH:=hide (rhas_any m.2.1 2 ma mc w3 HSl.out (by unfold maxLen;omega))
    cases hh:hasL m.2.1 2 with
    |true=>
     rw [hh] at HH
     have HR:Hid (r=(13,m.2.2.2.2)):=hide (by rw [HN2.out,hfb,hh];rfl)
     go_wp2_with fail
     refine HH.out.mono ?_;rintro e w4 ⟨rfl,rfl⟩
     clear HH
     have HE:Hid (Below w.heap.size w ((w4.setCell ⟨w.heap.size+1,0,none⟩ (.int .i64 13)).setCell ⟨w.heap.size+1,1,none⟩ (.int .i64 m.2.2.2.2))):=hide (((Bw3.out.setCell (p:=⟨w.heap.size+1,0,none⟩) (Nat.le_succ _) _).setCell (p:=⟨w.heap.size+1,1,none⟩) (Nat.le_succ _) _))
     go_wp2_with fail
     exact bodyPost_ret (v:= .agg #[.int .i64 13,.int .i64 m.2.2.2.2]) (by simp [results,Tryz.results25,go_sem,z0,z1]) rfl ⟨by rw [HR.out],HE.out⟩
    |false=>
     rw [hh] at HH
     have HR:Hid (r=(0,0)):=hide (by rw [HN2.out,hfb,hh];rfl)
     go_wp2_with fail
     refine HH.out.mono ?_;rintro e w4 ⟨rfl,rfl⟩
     clear HH
     have HE:Hid (Below w.heap.size w ((w4.setCell ⟨w.heap.size+1,0,none⟩ (.int .i64 0)).setCell ⟨w.heap.size+1,1,none⟩ (.int .i64 0))):=hide (((Bw3.out.setCell (p:=⟨w.heap.size+1,0,none⟩) (Nat.le_succ _) _).setCell (p:=⟨w.heap.size+1,1,none⟩) (Nat.le_succ _) _))
     go_wp2_with fail
     exact bodyPost_ret (v:= .agg #[.int .i64 0,.int .i64 0]) (by simp [results,Tryz.results25,go_sem,z0,z1]) rfl ⟨by rw [HR.out],HE.out⟩
theorem headX_ret {p:List Fun} {f:Fun} {x:Ins} (h:x.1=28) (h2:(decide (f.2.2.1=0) != decide (x.2.2.2.2.1.length=0))=true):headX p f x=13:=by
 unfold headX;rw [if_pos (by rw [decide_eq_true h,h2];rfl)]
theorem headX_none {p:List Fun} {f:Fun} {x:Ins} (h:(decide (x.1=28) && (decide (f.2.2.1=0) != decide (x.2.2.2.2.1.length=0)))=false) (h2:x.1≠21):headX p f x=0:=by
 unfold headX;rw [if_neg (by rw [h];simp),if_pos h2]
theorem headX_call {p:List Fun} {f:Fun} {x:Ins} (h2:x.1=21):headX p f x=if(findF p x.2.2.2.2.2.2.1).isSome then(if((findF p x.2.2.2.2.2.2.1).getD fun0).2.2.1≠x.2.2.2.1 then 9 else if((findF p x.2.2.2.2.2.2.1).getD fun0).2.1.length≠x.2.2.2.2.1.length then 13 else 0)else 12:=by
 unfold headX
 rw [if_neg (by rw [h2];simp),if_neg (by rw [h2];simp)]
 cases findF p x.2.2.2.2.2.2.1 <;> rfl
theorem rheadX_any (p:List Fun) (f:Fun) (x:Ins) (po:Option Addr) (pc:Nat) (fv xv:Value) (w:World) (hp:ProgR w p (.slice po p.length pc)) (hl:p.length≤1000000) (hf:FunV w f fv) (hx:InsV w x xv):
  Calls Tryz.prog 46 #[.agg #[.slice po p.length pc],fv,xv] w fun e w'=>e= .returned (.int .i64 (headX p f x))∧Below w.heap.size w w':=by
 have HFi:=hide (fun w' (b:Below w.heap.size w w')=>rfind_any p x.2.2.2.2.2.2.1 po pc w' (hp.below b) hl)
 have HL1:=hide (fun h h2=>headX_ret (p:=p) (f:=f) (x:=x) h h2)
 have HL2:=hide (fun h h2=>headX_none (p:=p) (f:=f) (x:=x) h h2)
 have HL3:=hide (fun h=>headX_call (p:=p) (f:=f) (x:=x) h)
 clear hp
 obtain⟨lp,cp,lb,cb,rfl,_,_⟩:=fun_box hf
 obtain⟨xo,zo,xc,zc,rfl,hxa,hxt,hxa1,hxa2,hxt1,hxt2⟩:=id hx
 generalize bs f.1=nm at *
 generalize hlps:f.2.1.length=lps at *
 generalize hrt:f.2.2.1=rt at *
 generalize hlbs:f.2.2.2.1.length=lbs at *
 generalize f.2.2.2.2=pl at *
 generalize hn:p.length=n at *
 have b1:=below_box w (.cells #[.slice po n pc] 24)
 have h1:=heap_alloc_new w (.cells #[.slice po n pc] 24)
 have b2:=below_box (w.alloc (.cells #[.slice po n pc] 24)) (.cells #[.string nm,.slice lp lps cp,.int .i64 rt,.slice lb lbs cb,.int .i64 pl] 36)
 have X1:=L5.Box.new (w.alloc (.cells #[.slice po n pc] 24)) [.string nm,.slice lp lps cp,.int .i64 rt,.slice lb lbs cb,.int .i64 pl] 36
 have hs1:(w.alloc (.cells #[.slice po n pc] 24)).heap.size=w.heap.size+1:=by simp
 rw [hs1] at X1
 have b3:=below_box ((w.alloc (.cells #[.slice po n pc] 24)).alloc (.cells #[.string nm,.slice lp lps cp,.int .i64 rt,.slice lb lbs cb,.int .i64 pl] 36)) (.cells #[.int .i64 x.1,.int .i64 x.2.1,.int .i64 x.2.2.1,.int .i64 x.2.2.2.1,.slice xo x.2.2.2.2.1.length xc,.slice zo x.2.2.2.2.2.1.length zc,.string (bs x.2.2.2.2.2.2.1),.int .i64 x.2.2.2.2.2.2.2] 47)
 have Y1:=L5.Box.new ((w.alloc (.cells #[.slice po n pc] 24)).alloc (.cells #[.string nm,.slice lp lps cp,.int .i64 rt,.slice lb lbs cb,.int .i64 pl] 36)) [.int .i64 x.1,.int .i64 x.2.1,.int .i64 x.2.2.1,.int .i64 x.2.2.2.1,.slice xo x.2.2.2.2.1.length xc,.slice zo x.2.2.2.2.2.1.length zc,.string (bs x.2.2.2.2.2.2.1),.int .i64 x.2.2.2.2.2.2.2] 47
 have hs2:((w.alloc (.cells #[.slice po n pc] 24)).alloc (.cells #[.string nm,.slice lp lps cp,.int .i64 rt,.slice lb lbs cb,.int .i64 pl] 36)).heap.size=w.heap.size+2:=by simp
 rw [hs2] at Y1
 have H1:=hide (((below_step b2 b3).block w.heap.size (by simp)).trans h1)
 have X0:Hid (L5.Box (((w.alloc (.cells #[.slice po n pc] 24)).alloc (.cells #[.string nm,.slice lp lps cp,.int .i64 rt,.slice lb lbs cb,.int .i64 pl] 36)).alloc (.cells #[.int .i64 x.1,.int .i64 x.2.1,.int .i64 x.2.2.1,.int .i64 x.2.2.2.1,.slice xo x.2.2.2.2.1.length xc,.slice zo x.2.2.2.2.2.1.length zc,.string (bs x.2.2.2.2.2.2.1),.int .i64 x.2.2.2.2.2.2.2] 47)) (w.heap.size+1) [.string nm,.slice lp lps cp,.int .i64 rt,.slice lb lbs cb,.int .i64 pl]):=hide (X1.below b3)
 have Y0:Hid (L5.Box (((w.alloc (.cells #[.slice po n pc] 24)).alloc (.cells #[.string nm,.slice lp lps cp,.int .i64 rt,.slice lb lbs cb,.int .i64 pl] 36)).alloc (.cells #[.int .i64 x.1,.int .i64 x.2.1,.int .i64 x.2.2.1,.int .i64 x.2.2.2.1,.slice xo x.2.2.2.2.1.length xc,.slice zo x.2.2.2.2.2.1.length zc,.string (bs x.2.2.2.2.2.2.1),.int .i64 x.2.2.2.2.2.2.2] 47)) (w.heap.size+2) [.int .i64 x.1,.int .i64 x.2.1,.int .i64 x.2.2.1,.int .i64 x.2.2.2.1,.slice xo x.2.2.2.2.1.length xc,.slice zo x.2.2.2.2.2.1.length zc,.string (bs x.2.2.2.2.2.2.1),.int .i64 x.2.2.2.2.2.2.2]):=hide Y1
 have B0:=hide (below_step b1 (below_step b2 b3))
 clear b1 h1 b2 X1 hs1 b3 Y1 hs2
 clear hf hx
 go_enter Tryz.func46,Tryz.ntmps46
 go_upto_region 1 with fail
 show Code.wp _ _ _ _ (((w.alloc (.cells #[.slice po n pc] 24)).alloc (.cells #[.string nm,.slice lp lps cp,.int .i64 rt,.slice lb lbs cb,.int .i64 pl] 36)).alloc (.cells #[.int .i64 x.1,.int .i64 x.2.1,.int .i64 x.2.2.1,.int .i64 x.2.2.2.1,.slice xo x.2.2.2.2.1.length xc,.slice zo x.2.2.2.2.2.1.length zc,.string (bs x.2.2.2.2.2.2.1),.int .i64 x.2.2.2.2.2.2.2] 47))
 generalize ((w.alloc (.cells #[.slice po n pc] 24)).alloc (.cells #[.string nm,.slice lp lps cp,.int .i64 rt,.slice lb lbs cb,.int .i64 pl] 36)).alloc (.cells #[.int .i64 x.1,.int .i64 x.2.1,.int .i64 x.2.2.1,.int .i64 x.2.2.2.1,.slice xo x.2.2.2.2.1.length xc,.slice zo x.2.2.2.2.2.1.length zc,.string (bs x.2.2.2.2.2.2.1),.int .i64 x.2.2.2.2.2.2.2] 47)=W at *
 have c0:=(one_at H1.out).1
 obtain⟨x0,x1,x2,x3,x4⟩:_∧_∧_∧_∧_:=⟨X0.out.2 0 _ rfl,X0.out.2 1 _ rfl,X0.out.2 2 _ rfl,X0.out.2 3 _ rfl,X0.out.2 4 _ rfl⟩
 obtain⟨y0,y1,y2,y3,y4,y5,y6,y7⟩:_∧_∧_∧_∧_∧_∧_∧_:=⟨Y0.out.2 0 _ rfl,Y0.out.2 1 _ rfl,Y0.out.2 2 _ rfl,Y0.out.2 3 _ rfl,Y0.out.2 4 _ rfl,Y0.out.2 5 _ rfl,Y0.out.2 6 _ rfl,Y0.out.2 7 _ rfl⟩
 have hxl:x.2.2.2.2.1.length≤maxLen:=Nat.le_trans hxa1 hxa2
 unfold maxLen at hxl
 by_cases h28:x.1=28
 ·have e28:(x.1 == 28)=true:=beq_iff_eq.2 h28
  have e21:(x.1 == 21)=false:=beq_eq_false_iff_ne.2 (by omega)
  by_cases hr0:rt=0
  ·have er:(rt == 0)=true:=beq_iff_eq.2 hr0
   by_cases ha0:x.2.2.2.2.1.length=0
   ·have ea:((x.2.2.2.2.1.length:Int) == 0)=true:=beq_iff_eq.2 (by omega)
    have HR:Hid (0=headX p f x):=hide (HL2.out (by rw [decide_eq_true h28,decide_eq_true hr0,decide_eq_true ha0];rfl) (by omega)).symm
    clear h28 hr0 ha0
    go_wp2_with fail
    go_ret
    exact⟨ret_i HR.out,B0.out⟩
   ·have ea:((x.2.2.2.2.1.length:Int) == 0)=false:=beq_eq_false_iff_ne.2 (by omega)
    have HR:Hid (13=headX p f x):=hide (HL1.out h28 (by rw [decide_eq_true hr0,decide_eq_false ha0];rfl)).symm
    clear h28 hr0
    go_wp2_with fail
    go_ret
    exact⟨ret_i HR.out,B0.out⟩
  ·have er:(rt == 0)=false:=beq_eq_false_iff_ne.2 hr0
   by_cases ha0:x.2.2.2.2.1.length=0
   ·have ea:((x.2.2.2.2.1.length:Int) == 0)=true:=beq_iff_eq.2 (by omega)
    have HR:Hid (13=headX p f x):=hide (HL1.out h28 (by rw [decide_eq_false hr0,decide_eq_true ha0];rfl)).symm
    clear h28 ha0
    go_wp2_with fail
    go_ret
    exact⟨ret_i HR.out,B0.out⟩
   ·have ea:((x.2.2.2.2.1.length:Int) == 0)=false:=beq_eq_false_iff_ne.2 (by omega)
    have HR:Hid (0=headX p f x):=hide (HL2.out (by rw [decide_eq_true h28,decide_eq_false hr0,decide_eq_false ha0];rfl) (by omega)).symm
    clear h28
    go_wp2_with fail
    go_ret
    exact⟨ret_i HR.out,B0.out⟩
 ·have e28:(x.1 == 28)=false:=beq_eq_false_iff_ne.2 h28
  by_cases h21:x.1=21
  ·have e21:(x.1 == 21)=true:=beq_iff_eq.2 h21
   have HX:=hide (HL3.out h21)
   have HC:=hide (HFi.out W B0.out)
   obtain⟨m,hm⟩:∃m,(findF p x.2.2.2.2.2.2.1).getD fun0=m:=⟨_,rfl⟩
   obtain⟨fb,hfb⟩:∃fb,(findF p x.2.2.2.2.2.2.1).isSome=fb:=⟨_,rfl⟩
   rw [hm,hfb] at HC HX
   clear hm hfb h28 h21 HL1 HL2 HL3 HFi
   go_wp2_with fail
   refine HC.out.mono ?_;rintro e w2 ⟨⟨gv,rfl,hgv⟩,b2⟩
   obtain⟨ma,mc,mb,md,rfl,X,b3⟩:=fun_box hgv
   have B3:=hide (below_step B0.out (below_step b2 b3))
   have M0:=hide X
   have Y3:=hide (Y0.out.below (below_step b2 b3))
   have hml:m.2.1.length≤maxLen:=by
    obtain⟨_,_,e,⟨l1,l2,rfl,_,h8,h9⟩,_⟩:=hgv
    exact Nat.le_trans h8 h9
   unfold maxLen at hml
   clear HC b2 X b3 hgv c0 x0 x1 x2 x3 x4 y0 y1 y2 y3 y4 y5 y6 y7
   go_upto_region 6 with fail
   show Code.wp _ _ _ _ (w2.alloc (.cells #[.string (bs m.1),.slice ma m.2.1.length mc,.int .i64 m.2.2.1,.slice mb m.2.2.2.1.length md,.int .i64 m.2.2.2.2] 36))
   generalize w2.alloc (.cells #[.string (bs m.1),.slice ma m.2.1.length mc,.int .i64 m.2.2.1,.slice mb m.2.2.2.1.length md,.int .i64 m.2.2.2.2] 36)=w3 at *
   generalize w2.heap.size=q2 at *
   obtain⟨x0,x1,x2,x3,x4⟩:_∧_∧_∧_∧_:=⟨M0.out.2 0 _ rfl,M0.out.2 1 _ rfl,M0.out.2 2 _ rfl,M0.out.2 3 _ rfl,M0.out.2 4 _ rfl⟩
   obtain⟨y0,y1,y2,y3,y4,y5,y6,y7⟩:_∧_∧_∧_∧_∧_∧_∧_:=⟨Y3.out.2 0 _ rfl,Y3.out.2 1 _ rfl,Y3.out.2 2 _ rfl,Y3.out.2 3 _ rfl,Y3.out.2 4 _ rfl,Y3.out.2 5 _ rfl,Y3.out.2 6 _ rfl,Y3.out.2 7 _ rfl⟩
   cases hfb:fb with
   |false=>
    have HR:Hid (12=headX p f x):=hide (by rw [HX.out,hfb];rfl)
    go_wp2_with fail
    go_ret
    exact⟨ret_i HR.out,B3.out⟩
   |true=>
    by_cases hty:m.2.2.1=x.2.2.2.1
    ·have et:(m.2.2.1 == x.2.2.2.1)=true:=beq_iff_eq.2 hty
     by_cases hln:m.2.1.length=x.2.2.2.2.1.length
     ·have el:((m.2.1.length:Int) == (x.2.2.2.2.1.length:Int))=true:=beq_iff_eq.2 (by omega)
      have HR:Hid (0=headX p f x):=hide (by rw [HX.out,hfb];simp [hty,hln])
      clear hty hln
      go_wp2_with fail
      go_ret
      exact⟨ret_i HR.out,B3.out⟩
     ·have el:((m.2.1.length:Int) == (x.2.2.2.2.1.length:Int))=false:=beq_eq_false_iff_ne.2 (by omega)
      have HR:Hid (13=headX p f x):=hide (by rw [HX.out,hfb];simp [hty,hln])
      clear hty hln
      go_wp2_with fail
      go_ret
      exact⟨ret_i HR.out,B3.out⟩
    ·have et:(m.2.2.1 == x.2.2.2.1)=false:=beq_eq_false_iff_ne.2 hty
     have HR:Hid (9=headX p f x):=hide (by rw [HX.out,hfb];simp [hty])
     clear hty
     go_wp2_with fail
     go_ret
     exact⟨ret_i HR.out,B3.out⟩
  ·have e21:(x.1 == 21)=false:=beq_eq_false_iff_ne.2 h21
   have HR:Hid (0=headX p f x):=hide (HL2.out (by rw [decide_eq_false h28];rfl) h21).symm
   clear h28 h21
   go_wp2_with fail
   go_ret
   exact⟨ret_i HR.out,B0.out⟩
def WantIn (p:List Fun) (x:Ins) (n:Nat):Prop:=(x.1=21→n < ((findF p x.2.2.2.2.2.2.1).getD fun0).2.1.length)∧(x.1≠20→x.1≠24→x.1≠28→x.1≠21→n < (L5.takes (L5.num x.1)).length)
theorem wantX_type {p:List Fun} {f:Fun} {x:Ins} {n:Nat} (h:x.1=20∨x.1=24):wantX p f x n=x.2.2.2.1:=by unfold wantX;rw [if_pos h]
theorem wantX_ret {p:List Fun} {f:Fun} {x:Ins} {n:Nat} (h:x.1=28):wantX p f x n=f.2.2.1:=by unfold wantX;rw [if_neg (by omega),if_pos h]
theorem wantX_call {p:List Fun} {f:Fun} {x:Ins} {n:Nat} (h:x.1=21):wantX p f x n=((findF p x.2.2.2.2.2.2.1).getD fun0).2.1.getD n 0:=by unfold wantX;rw [if_neg (by omega),if_neg (by omega),if_pos h]
theorem wantX_else {p:List Fun} {f:Fun} {x:Ins} {n:Nat} (h1:x.1≠20) (h2:x.1≠24) (h3:x.1≠28) (h4:x.1≠21):wantX p f x n=(L5.takes (L5.num x.1)).getD n 0:=by unfold wantX;rw [if_neg (by omega),if_neg h3,if_neg h4]
theorem rwant_any (p:List Fun) (f:Fun) (x:Ins) (k:Nat) (po:Option Addr) (pc:Nat) (fv xv:Value) (w:World) (hp:ProgR w p (.slice po p.length pc)) (hl:p.length≤1000000) (hf:FunV w f fv) (hx:InsV w x xv) (hk:WantIn p x k):
  Calls Tryz.prog 83 #[.agg #[.slice po p.length pc],fv,xv,.int .i64 k] w fun e w'=>e= .returned (.int .i64 (wantX p f x k))∧Below w.heap.size w w':=by
 have HFi:=hide (fun w' (b:Below w.heap.size w w')=>rfind_any p x.2.2.2.2.2.2.1 po pc w' (hp.below b) hl)
 have HL1:=hide (fun h=>wantX_type (p:=p) (f:=f) (x:=x) (n:=k) h)
 have HL2:=hide (fun h=>wantX_ret (p:=p) (f:=f) (x:=x) (n:=k) h)
 have HL3:=hide (fun h=>wantX_call (p:=p) (f:=f) (x:=x) (n:=k) h)
 have HL4:=hide (fun h1 h2 h3 h4=>wantX_else (p:=p) (f:=f) (x:=x) (n:=k) h1 h2 h3 h4)
 have HK:=hide hk
 clear hp hk
 obtain⟨lp,cp,lb,cb,rfl,_,_⟩:=fun_box hf
 obtain⟨xo,zo,xc,zc,rfl,hxa,hxt,hxa1,hxa2,hxt1,hxt2⟩:=id hx
 generalize bs f.1=nm at *
 generalize hlps:f.2.1.length=lps at *
 generalize hrt:f.2.2.1=rt at *
 generalize hlbs:f.2.2.2.1.length=lbs at *
 generalize f.2.2.2.2=pl at *
 generalize hn:p.length=n at *
 have b1:=below_box w (.cells #[.slice po n pc] 24)
 have h1:=heap_alloc_new w (.cells #[.slice po n pc] 24)
 have b2:=below_box (w.alloc (.cells #[.slice po n pc] 24)) (.cells #[.string nm,.slice lp lps cp,.int .i64 rt,.slice lb lbs cb,.int .i64 pl] 36)
 have X1:=L5.Box.new (w.alloc (.cells #[.slice po n pc] 24)) [.string nm,.slice lp lps cp,.int .i64 rt,.slice lb lbs cb,.int .i64 pl] 36
 have hs1:(w.alloc (.cells #[.slice po n pc] 24)).heap.size=w.heap.size+1:=by simp
 rw [hs1] at X1
 have b3:=below_box ((w.alloc (.cells #[.slice po n pc] 24)).alloc (.cells #[.string nm,.slice lp lps cp,.int .i64 rt,.slice lb lbs cb,.int .i64 pl] 36)) (.cells #[.int .i64 x.1,.int .i64 x.2.1,.int .i64 x.2.2.1,.int .i64 x.2.2.2.1,.slice xo x.2.2.2.2.1.length xc,.slice zo x.2.2.2.2.2.1.length zc,.string (bs x.2.2.2.2.2.2.1),.int .i64 x.2.2.2.2.2.2.2] 47)
 have Y1:=L5.Box.new ((w.alloc (.cells #[.slice po n pc] 24)).alloc (.cells #[.string nm,.slice lp lps cp,.int .i64 rt,.slice lb lbs cb,.int .i64 pl] 36)) [.int .i64 x.1,.int .i64 x.2.1,.int .i64 x.2.2.1,.int .i64 x.2.2.2.1,.slice xo x.2.2.2.2.1.length xc,.slice zo x.2.2.2.2.2.1.length zc,.string (bs x.2.2.2.2.2.2.1),.int .i64 x.2.2.2.2.2.2.2] 47
 have hs2:((w.alloc (.cells #[.slice po n pc] 24)).alloc (.cells #[.string nm,.slice lp lps cp,.int .i64 rt,.slice lb lbs cb,.int .i64 pl] 36)).heap.size=w.heap.size+2:=by simp
 rw [hs2] at Y1
 have H1:=hide (((below_step b2 b3).block w.heap.size (by simp)).trans h1)
 have X0:Hid (L5.Box (((w.alloc (.cells #[.slice po n pc] 24)).alloc (.cells #[.string nm,.slice lp lps cp,.int .i64 rt,.slice lb lbs cb,.int .i64 pl] 36)).alloc (.cells #[.int .i64 x.1,.int .i64 x.2.1,.int .i64 x.2.2.1,.int .i64 x.2.2.2.1,.slice xo x.2.2.2.2.1.length xc,.slice zo x.2.2.2.2.2.1.length zc,.string (bs x.2.2.2.2.2.2.1),.int .i64 x.2.2.2.2.2.2.2] 47)) (w.heap.size+1) [.string nm,.slice lp lps cp,.int .i64 rt,.slice lb lbs cb,.int .i64 pl]):=hide (X1.below b3)
 have Y0:Hid (L5.Box (((w.alloc (.cells #[.slice po n pc] 24)).alloc (.cells #[.string nm,.slice lp lps cp,.int .i64 rt,.slice lb lbs cb,.int .i64 pl] 36)).alloc (.cells #[.int .i64 x.1,.int .i64 x.2.1,.int .i64 x.2.2.1,.int .i64 x.2.2.2.1,.slice xo x.2.2.2.2.1.length xc,.slice zo x.2.2.2.2.2.1.length zc,.string (bs x.2.2.2.2.2.2.1),.int .i64 x.2.2.2.2.2.2.2] 47)) (w.heap.size+2) [.int .i64 x.1,.int .i64 x.2.1,.int .i64 x.2.2.1,.int .i64 x.2.2.2.1,.slice xo x.2.2.2.2.1.length xc,.slice zo x.2.2.2.2.2.1.length zc,.string (bs x.2.2.2.2.2.2.1),.int .i64 x.2.2.2.2.2.2.2]):=hide Y1
 have B0:=hide (below_step b1 (below_step b2 b3))
 clear b1 h1 b2 X1 hs1 b3 Y1 hs2
 clear hf hx
 go_enter Tryz.func83,Tryz.ntmps83
 go_upto_region 1 with fail
 show Code.wp _ _ _ _ (((w.alloc (.cells #[.slice po n pc] 24)).alloc (.cells #[.string nm,.slice lp lps cp,.int .i64 rt,.slice lb lbs cb,.int .i64 pl] 36)).alloc (.cells #[.int .i64 x.1,.int .i64 x.2.1,.int .i64 x.2.2.1,.int .i64 x.2.2.2.1,.slice xo x.2.2.2.2.1.length xc,.slice zo x.2.2.2.2.2.1.length zc,.string (bs x.2.2.2.2.2.2.1),.int .i64 x.2.2.2.2.2.2.2] 47))
 generalize ((w.alloc (.cells #[.slice po n pc] 24)).alloc (.cells #[.string nm,.slice lp lps cp,.int .i64 rt,.slice lb lbs cb,.int .i64 pl] 36)).alloc (.cells #[.int .i64 x.1,.int .i64 x.2.1,.int .i64 x.2.2.1,.int .i64 x.2.2.2.1,.slice xo x.2.2.2.2.1.length xc,.slice zo x.2.2.2.2.2.1.length zc,.string (bs x.2.2.2.2.2.2.1),.int .i64 x.2.2.2.2.2.2.2] 47)=W at *
 have c0:=(one_at H1.out).1
 obtain⟨x0,x1,x2,x3,x4⟩:_∧_∧_∧_∧_:=⟨X0.out.2 0 _ rfl,X0.out.2 1 _ rfl,X0.out.2 2 _ rfl,X0.out.2 3 _ rfl,X0.out.2 4 _ rfl⟩
 obtain⟨y0,y1,y2,y3,y4,y5,y6,y7⟩:_∧_∧_∧_∧_∧_∧_∧_:=⟨Y0.out.2 0 _ rfl,Y0.out.2 1 _ rfl,Y0.out.2 2 _ rfl,Y0.out.2 3 _ rfl,Y0.out.2 4 _ rfl,Y0.out.2 5 _ rfl,Y0.out.2 6 _ rfl,Y0.out.2 7 _ rfl⟩
 by_cases h20:x.1=20
 ·have e20:(x.1 == 20)=true:=beq_iff_eq.2 h20
  have HR:Hid (x.2.2.2.1=wantX p f x k):=hide (HL1.out (.inl h20)).symm
  clear h20
  go_wp2_with fail
  go_ret
  exact⟨ret_i HR.out,B0.out⟩
 ·have e20:(x.1 == 20)=false:=beq_eq_false_iff_ne.2 h20
  by_cases h24:x.1=24
  ·have e24:(x.1 == 24)=true:=beq_iff_eq.2 h24
   have HR:Hid (x.2.2.2.1=wantX p f x k):=hide (HL1.out (.inr h24)).symm
   clear h20 h24
   go_wp2_with fail
   go_ret
   exact⟨ret_i HR.out,B0.out⟩
  ·have e24:(x.1 == 24)=false:=beq_eq_false_iff_ne.2 h24
   by_cases h28:x.1=28
   ·have e28:(x.1 == 28)=true:=beq_iff_eq.2 h28
    have HR:Hid (rt=wantX p f x k):=hide (by rw [HL2.out h28])
    clear h20 h24 h28
    go_wp2_with fail
    go_ret
    exact⟨ret_i HR.out,B0.out⟩
   ·have e28:(x.1 == 28)=false:=beq_eq_false_iff_ne.2 h28
    by_cases h21:x.1=21
    ·have e21:(x.1 == 21)=true:=beq_iff_eq.2 h21
     have HX:=hide (HL3.out h21)
     have hkm:=HK.out.1 h21
     have HC:=hide (HFi.out W B0.out)
     obtain⟨m,hm⟩:∃m,(findF p x.2.2.2.2.2.2.1).getD fun0=m:=⟨_,rfl⟩
     obtain⟨fb,hfb⟩:∃fb,(findF p x.2.2.2.2.2.2.1).isSome=fb:=⟨_,rfl⟩
     rw [hm] at HC HX hkm
     rw [hfb] at HC
     clear hm hfb h20 h24 h28 h21 HL1 HL2 HL3 HL4 HFi HK
     go_wp2_with fail
     refine HC.out.mono ?_;rintro e w2 ⟨⟨gv,rfl,hgv⟩,b2⟩
     obtain⟨ma,mc,mb,md,rfl,X,b3⟩:=fun_box hgv
     have B3:=hide (below_step B0.out (below_step b2 b3))
     have M0:=hide X
     have HSl:Hid (Sl (w2.alloc (.cells #[.string (bs m.1),.slice ma m.2.1.length mc,.int .i64 m.2.2.1,.slice mb m.2.2.2.1.length md,.int .i64 m.2.2.2.2] 36)) ma m.2.1):=hide (by
      obtain⟨vp,vb,e,⟨l1,l2,l3,hs,_⟩,_⟩:=hgv.below b3
      injection e with e
      have e1:=congrArg (fun a=>a[1]?) e
      simp at e1
      rw [l3] at e1
      injection e1 with e1
      rw [←e1] at hs;exact hs)
     have hkI:(k:Int) < m.2.1.length:=by omega
     obtain⟨u,hu⟩:∃u,m.2.1[k]? =some u:=⟨_,List.getElem?_eq_getElem hkm⟩
     have HR:Hid (u=wantX p f x k):=hide (by rw [HX.out,List.getD_eq_getElem?_getD,hu];rfl)
     clear HC b2 X b3 hgv c0 x0 x1 x2 x3 x4 y0 y1 y2 y3 y4 y5 y6 y7
     go_upto_region 9 with fail
     show Code.wp _ _ _ _ (w2.alloc (.cells #[.string (bs m.1),.slice ma m.2.1.length mc,.int .i64 m.2.2.1,.slice mb m.2.2.2.1.length md,.int .i64 m.2.2.2.2] 36))
     generalize w2.alloc (.cells #[.string (bs m.1),.slice ma m.2.1.length mc,.int .i64 m.2.2.1,.slice mb m.2.2.2.1.length md,.int .i64 m.2.2.2.2] 36)=w3 at *
     generalize w2.heap.size=q2 at *
     obtain⟨x0,x1,x2,x3,x4⟩:_∧_∧_∧_∧_:=⟨M0.out.2 0 _ rfl,M0.out.2 1 _ rfl,M0.out.2 2 _ rfl,M0.out.2 3 _ rfl,M0.out.2 4 _ rfl⟩
     rcases HSl.out with he | ⟨sb,so,rfl,hsb,hsc⟩
     ·rw [he] at hkm;simp at hkm
     have c1:=hsc k u hu
     clear hsc hu
     go_wp2_with fail
     go_ret
     exact⟨ret_i HR.out,B3.out⟩
    ·have e21:(x.1 == 21)=false:=beq_eq_false_iff_ne.2 h21
     have HX:=hide (HL4.out h20 h24 h28 h21)
     have hkm:=HK.out.2 h20 h24 h28 h21
     have HC:=hide (L5.refTakes_any x.1 W)
     obtain⟨u,hu⟩:∃u,(L5.takes (L5.num x.1))[k]? =some u:=⟨_,List.getElem?_eq_getElem hkm⟩
     have HR:Hid (u=wantX p f x k):=hide (by rw [HX.out,List.getD_eq_getElem?_getD,hu];rfl)
     clear h20 h24 h28 h21 HL1 HL2 HL3 HL4 HFi HK
     go_wp2_with fail
     refine HC.out.mono ?_;rintro e w2 ⟨ao,cap,rfl,hS,b2⟩
     have hkI:(k:Int) < (L5.takes (L5.num x.1)).length:=by omega
     have B2:=hide (below_step B0.out b2)
     rcases hS with he | ⟨sb,rfl,hsb,hsc⟩
     ·rw [he] at hkm;simp at hkm
     have c1:=hsc k hkm
     have huu:L5.nth (L5.takes (L5.num x.1)) k=u:=by unfold L5.nth;simp [hu]
     rw [huu] at c1
     clear huu
     clear HC b2 hsc hu c0 x0 x1 x2 x3 x4 y0 y1 y2 y3 y4 y5 y6 y7
     generalize (L5.takes (L5.num x.1)).length=tn at *
     go_wp2_with fail
     go_ret
     exact⟨ret_i HR.out,B2.out⟩
end Go.Proofs.YtljkgcfnoegibaaGreatDoor
