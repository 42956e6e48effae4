/- Texts of one chain, joined. -/
import Derived.Test.YtljkgcfnoegibaaGreatDoorWcBF
import Derived.Test.YtljkgcfnoegibaaGreatDoorWcBO
set_option maxHeartbeats 2000000
set_option maxRecDepth 20000
namespace Go.Proofs.YtljkgcfnoegibaaGreatDoor
open Go Go.RowKit
open G (Tok Er Ins Fun)
theorem atC_ne {c a:Int} {e:Int × Int} (h:atC c a=some e):e.1≠0:=by
 unfold atC at h
 split at h
 ·cases h;assumption
 ·cases h
theorem atC_no {c a:Int} (h:atC c a=none):c=0:=by
 unfold atC at h
 split at h
 ·cases h
 ·rename_i hh
  simpa using hh
theorem rows_none {f:Fun} {c:Nat→Nat→Int} (h:fstN (fun k=>fstN (fun i=>atC (c k i) (insN f k i).2.2.2.2.2.2.2) (blkN f k).length) f.2.2.2.1.length=none):∀k,k < f.2.2.2.1.length→∀i,i < (blkN f k).length→c k i=0:=
 fun k hk i hi=>atC_no (fstN_all (fstN_all h k hk) i hi)
theorem rows_some {f:Fun} {c:Nat→Nat→Int} {e:Int × Int} (h:fstN (fun k=>fstN (fun i=>atC (c k i) (insN f k i).2.2.2.2.2.2.2) (blkN f k).length) f.2.2.2.1.length=some e):e.1≠0∧∃k i,k < f.2.2.2.1.length∧i < (blkN f k).length∧e.2=(insN f k i).2.2.2.2.2.2.2:=by
 obtain⟨k,hk,h1,_⟩:=fstN_at h
 obtain⟨i,hi,h2,_⟩:=fstN_at h1
 refine⟨atC_ne h2,k,i,hk,hi,?_⟩
 unfold atC at h2
 split at h2
 ·cases h2;rfl
 ·cases h2
theorem func_ok {p:List Fun} {f:Fun} {src:Bool} (h:(funcE p f src).1=0):(shapedF f).1=0∧reachB f=true∧(∀k,k < f.2.2.2.1.length→∀i,i < (blkN f k).length→valC f k i src=0)∧∀k,k < f.2.2.2.1.length→∀i,i < (blkN f k).length→lookC p f k i=0:=by
 unfold funcE at h
 split at h
 ·rename_i h1;exact absurd h h1
 ·rename_i h1
  split at h
  ·simp at h
  ·rename_i h2
   cases hv:valuesF f src with
   |some e=>rw [hv] at h;exact absurd h (rows_some hv).1
   |none=>
    rw [hv] at h
    cases hl:looksF p f with
    |some e=>rw [hl] at h;exact absurd h (rows_some hl).1
    |none=>exact⟨by simpa using h1,by simpa using h2,rows_none hv,rows_none hl⟩
theorem check_ok {p:List Fun} {src:Bool} (h:(checkP p src).1=0):(wholeF 0 0 p).1=0∧(namesF p).1=0∧∀i,i < p.length→(funcE p (funN p i) src).1=0:=by
 unfold checkP at h
 split at h
 ·rename_i h1;exact absurd h h1
 ·rename_i h1
  split at h
  ·rename_i h2;exact absurd h h2
  ·rename_i h2
   refine⟨by simpa using h1,by simpa using h2,fun i hi=> ?_⟩
   cases hf:fstN (funcO p src) p.length with
   |some e=>
    rw [hf] at h
    obtain⟨K,_,h3,_⟩:=fstN_at hf
    unfold funcO at h3
    split at h3
    ·rename_i h4;cases h3;exact absurd h h4
    ·cases h3
   |none=>
    have h3:=fstN_all hf i hi
    unfold funcO at h3
    split at h3
    ·cases h3
    ·rename_i h4;simpa using h4
theorem Chg.set {B:Nat} {w w1:World} (h:Chg B w w1) {a:Addr} (ha:w.heap.size≤a.block) (hB:B≤a.block) (u:Value):Chg B w (w1.setCell a u):=
 ⟨h.1.setCell (p:=a) hB u,fun i x t z hi=>by
  have hlt:=(Array.getElem?_eq_some_iff.1 hi).1
  rw [Below.heap_setCell w1 a u i (by omega)]
  exact h.2 i x t z hi⟩
theorem each12_any (F:Nat) (ek:∀args w,(callFunc F args).run Tryz.prog w= .ok (.enter F args) w) (po ap ab:Option Addr) (pn pc an cp bn cb:Nat) (nm:ByteArray) (rt pl:Int) (src:Bool) (qb qo qn qc tr tb mb:Nat) (f:Fun) (w0 w:World) (hbk:BlksR w0 f.2.2.2.1 (.slice ab bn cb)) (hbn:bn=f.2.2.2.1.length) (hM:Mod f) (c:Nat→Nat→Int) (S:Nat→Nat→World→Prop)
  (hSb:∀k i w',S k i w'→Below w0.heap.size w0 w'∧w0.heap.size≤w'.heap.size)
  (M:Nat) (hMw:M≤w.heap.size) (hSg:∀k i w' w'' r,S k i w'→w'.grownBy w'' (some r)→M≤r→S k i w'')
  (hSr:∀k w',k < bn→S k (blkN f k).length w'→S (k+1) 0 w')
  (hst:∀k i xv w',k < bn→i < (blkN f k).length→S k i w'→InsV w' (insN f k i) xv→Calls Tryz.prog F #[.agg #[.slice po pn pc,.string nm,.slice ap an cp,.int .i64 rt,.slice ab bn cb,.int .i64 pl,.bool src,.slice (some ⟨qb,qo,none⟩) qn qc,.pointer (some ⟨tr,0,none⟩),.map (some tb),.map (some mb)],.agg #[.int .i64 k,.int .i64 i],xv] w' fun e w''=>e= .returned (.int .i64 (c k i))∧(c k i=0→S k (i+1) w'')∧Chg w0.heap.size w' w'')
  (hS:S 0 0 w):
  Calls Tryz.prog 68 #[.agg #[.slice po pn pc,.string nm,.slice ap an cp,.int .i64 rt,.slice ab bn cb,.int .i64 pl,.bool src,.slice (some ⟨qb,qo,none⟩) qn qc,.pointer (some ⟨tr,0,none⟩),.map (some tb),.map (some mb)],.func (Fn.func F) #[.agg #[.slice po pn pc,.string nm,.slice ap an cp,.int .i64 rt,.slice ab bn cb,.int .i64 pl,.bool src,.slice (some ⟨qb,qo,none⟩) qn qc,.pointer (some ⟨tr,0,none⟩),.map (some tb),.map (some mb)]] #[]] w fun e w'=>e= .returned (.agg #[.int .i64 (eachR f c).1,.int .i64 (eachR f c).2])∧((eachR f c).1=0→S bn 0 w')∧Below w0.heap.size w0 w'∧Chg w0.heap.size w w':=by
 have HRd2:Hid (∀k,k < bn→∃g o ao ac,ab=some ⟨g,o,none⟩∧(∀w',Below w0.heap.size w0 w'→w'.cell? ⟨g,o+k,none⟩=some (.slice ao (blkN f k).length ac))∧∀w',Below w0.heap.size w0 w'→∀i,i < (blkN f k).length→∃g2 o2,ao=some ⟨g2,o2,none⟩∧InsR w' (insN f k i) g2 (o2+i * 8)):=hide (fun k hk=>by
  obtain⟨g,o,ao,ac,h1,h2,h3,h4⟩:=blks_row (k:=k) hbk (by omega)
  refine⟨g,o,ao,ac,h1,fun w' b=>(b.cell (p:=⟨g,o+k,none⟩) h2).trans h3,fun w' b i hi=>blk_ins (h4.below b) hi⟩)
 have HNo:Hid ((∀k,k < bn→∀i,i < (blkN f k).length→c k i=0)→eachR f c=(0,0)):=hide (fun h=>each_none (by rw [←hbn];exact h))
 have HYes:Hid (∀K I,(∀k,k < K→∀i,i < (blkN f k).length→c k i=0)→(∀i,i < I→c K i=0)→K < bn→I < (blkN f K).length→c K I≠0→eachR f c=(c K I,(insN f K I).2.2.2.2.2.2.2)):=hide (fun K I h1 h2 h3 h4 h5=>each_some h1 h2 (by omega) h4 h5)
 have hN:bn≤1000000:=by rw [hbn];exact hM.1
 have HMb:=hide (fun k=>hM.blk k)
 clear hbk hM
 replace hbn:=hide hbn
 obtain⟨r,hr⟩:∃r,eachR f c=r:=⟨_,rfl⟩
 rw [hr] at HNo HYes ⊢
 clear hr
 have HSb:=hide hSb
 have HSg:=hide hSg
 have HSr:=hide hSr
 have HSt:=hide hst
 clear hSb hSg hSr hst
 have hq0:=(HSb.out _ _ _ hS).2
 obtain⟨b0,h0,h1⟩:=box2 w (.cells #[.slice po pn pc,.string nm,.slice ap an cp,.int .i64 rt,.slice ab bn cb,.int .i64 pl,.bool src,.slice (some ⟨qb,qo,none⟩) qn qc,.pointer (some ⟨tr,0,none⟩),.map (some tb),.map (some mb)] 111) (.cells #[.int .i64 0,.int .i64 0] 29)
 have HS:=hide (HSg.out 0 0 _ _ M hS (below_grown b0 _) (Nat.le_refl _))
 have H0:=hide h0
 have H1:=hide h1
 have HCg:=hide (Chg.of_below b0 hq0)
 clear b0 h0 h1 hS
 obtain⟨q,hq⟩:∃q,w.heap.size=q:=⟨_,rfl⟩
 have hqw:w.heap.size≤q+1:=by omega
 rw [hq] at H0 H1
 rw [hq] at hq0 hMw
 go_enter Tryz.func68,Tryz.ntmps68
 go_upto_region 1 with fail
 show Code.wp _ _ _ _ ((w.alloc (.cells #[.slice po pn pc,.string nm,.slice ap an cp,.int .i64 rt,.slice ab bn cb,.int .i64 pl,.bool src,.slice (some ⟨qb,qo,none⟩) qn qc,.pointer (some ⟨tr,0,none⟩),.map (some tb),.map (some mb)] 111)).alloc (.cells #[.int .i64 0,.int .i64 0] 29))
 generalize (w.alloc (.cells #[.slice po pn pc,.string nm,.slice ap an cp,.int .i64 rt,.slice ab bn cb,.int .i64 pl,.bool src,.slice (some ⟨qb,qo,none⟩) qn qc,.pointer (some ⟨tr,0,none⟩),.map (some tb),.map (some mb)] 111)).alloc (.cells #[.int .i64 0,.int .i64 0] 29)=W at *
 replace hqw:=hide hqw
 clear hq
 obtain⟨⟨c0,c1,c2,c3,c4,c5,c6,c7,c8,c9,c10⟩,_⟩:=look_at _ _ _ _ _ _ _ _ _ _ _ _ _ _ _ _ _ _ _ _ H0.out
 go_wp2_with fail
 clear c0 c1 c2 c3 c4 c5 c6 c7 c8 c9 c10
 go_loopw [14] (fun kv wr=>∃K:Nat,K≤bn∧kv= .int .i64 K∧Hid (∀k,k < K→∀i,i < (blkN f k).length→c k i=0)∧Hid (S K 0 wr)∧Hid (wr.heap[q]? =some (.cells #[.slice po pn pc,.string nm,.slice ap an cp,.int .i64 rt,.slice ab bn cb,.int .i64 pl,.bool src,.slice (some ⟨qb,qo,none⟩) qn qc,.pointer (some ⟨tr,0,none⟩),.map (some tb),.map (some mb)] 111 (0,0)))∧Hid (wr.heap[q+1]? =some (.cells #[.int .i64 0,.int .i64 0] 29 (0,0)))∧Hid (Chg w0.heap.size w wr)) (fun kv _=>bn - (intOf kv).toNat)
 case atStart=>exact⟨0,Nat.zero_le _,rfl,hide (fun k h=>absurd h (Nat.not_lt_zero _)),HS,H0,H1,HCg⟩
 case round=>
  clear HS H0 H1 HCg
  obtain⟨K,hK,rfl,HF,HS,H0,H1,HCg⟩:=hrel
  by_cases hkt:K < bn
  ·have hkI:(K:Int) < bn:=by omega
   obtain⟨g,o,ao,ac,rfl,cu,hins2⟩:=HRd2.out K hkt
   replace cu:=cu wr (HSb.out _ _ _ HS.out).1
   replace hins2:=hide hins2
   have hlb:=HMb.out K
   obtain⟨lb,hlbe⟩:∃lb,(blkN f K).length=lb:=⟨_,rfl⟩
   rw [hlbe] at cu hlb
   replace hlbe:=hide hlbe
   go_wp2_with fail
   clear cu
   go_loopw [21] (fun iv wr2=>∃I:Nat,I≤lb∧iv= .int .i64 I∧Hid (∀i,i < I→c K i=0)∧Hid (S K I wr2)∧Hid (wr2.heap[q]? =some (.cells #[.slice po pn pc,.string nm,.slice ap an cp,.int .i64 rt,.slice (some ⟨g,o,none⟩) bn cb,.int .i64 pl,.bool src,.slice (some ⟨qb,qo,none⟩) qn qc,.pointer (some ⟨tr,0,none⟩),.map (some tb),.map (some mb)] 111 (0,0)))∧Hid (wr2.heap[q+1]? =some (.cells #[.int .i64 0,.int .i64 0] 29 (0,0)))∧Hid (Chg w0.heap.size w wr2)) (fun iv _=>lb - (intOf iv).toNat)
   case atStart=>exact⟨0,Nat.zero_le _,rfl,hide (fun i h=>absurd h (Nat.not_lt_zero _)),HS,H0,H1,HCg⟩
   case round=>
    clear HS H0 H1 HCg
    obtain⟨I,hI,rfl,HG,HS,H0,H1,HCg⟩:=hrel
    by_cases hit:I < lb
    ·have hiI:(I:Int) < lb:=by omega
     obtain⟨g2,o2,e2,hxr⟩:=hins2.out wr (HSb.out _ _ _ HS.out).1 I (by rw [hlbe.out];exact hit)
     subst e2
     obtain⟨xo,zo,xc,zc,hxv,e0,e1,e2,e3,e4,e5,e6,e7⟩:=hxr.val
     have HXv:=hide hxv
     have HCl:=hide (HSt.out K I)
     obtain⟨x,hx⟩:∃x,insN f K I=x:=⟨_,rfl⟩
     rw [hx] at e0 e1 e2 e3 e4 e5 e6 e7 HXv HCl
     have HY2:=hide (HYes.out K I HF.out HG.out hkt (by rw [hlbe.out];exact hit))
     rw [hx] at HY2
     clear hx hxv hxr
     have b3:=below_box wr (.cells #[.int .i64 x.1,.int .i64 x.2.1,.int .i64 x.2.2.1,.int .i64 x.2.2.2.1,.slice xo x.2.2.2.2.1.length xc,.slice zo x.2.2.2.2.2.1.length zc,.string (bs x.2.2.2.2.2.2.1),.int .i64 x.2.2.2.2.2.2.2] 47)
     have Y3:=hide (heap_alloc_new wr (.cells #[.int .i64 x.1,.int .i64 x.2.1,.int .i64 x.2.2.1,.int .i64 x.2.2.2.1,.slice xo x.2.2.2.2.1.length xc,.slice zo x.2.2.2.2.2.1.length zc,.string (bs x.2.2.2.2.2.2.1),.int .i64 x.2.2.2.2.2.2.2] 47))
     have HXv3:=hide (HXv.out.below b3)
     have HS3:=hide (HSg.out K I _ _ M HS.out (below_grown b3 _) (Nat.le_refl _))
     have K0:=hide ((b3.block q (Array.getElem?_eq_some_iff.1 H0.out).1).trans H0.out)
     have K1:=hide ((b3.block (q+1) (Array.getElem?_eq_some_iff.1 H1.out).1).trans H1.out)
     have HCg3:=hide (HCg.out.trans (Chg.of_below b3 (HSb.out _ _ _ HS.out).2))
     clear b3
     generalize x.2.2.2.2.1.length=xl at *
     generalize x.2.2.2.2.2.1.length=zl at *
     go_upto_region 7 with fail
     show Code.wp _ _ _ _ (wr.alloc (.cells #[.int .i64 x.1,.int .i64 x.2.1,.int .i64 x.2.2.1,.int .i64 x.2.2.2.1,.slice xo xl xc,.slice zo zl zc,.string (bs x.2.2.2.2.2.2.1),.int .i64 x.2.2.2.2.2.2.2] 47))
     generalize wr.alloc (.cells #[.int .i64 x.1,.int .i64 x.2.1,.int .i64 x.2.2.1,.int .i64 x.2.2.2.1,.slice xo xl xc,.slice zo zl zc,.string (bs x.2.2.2.2.2.2.1),.int .i64 x.2.2.2.2.2.2.2] 47)=w3 at *
     generalize wr.heap.size=q3 at *
     clear e0 e1 e2 e3 e4 e5 e6 e7
     obtain⟨⟨y0,y1,y2,y3,y4,y5,y6,y7⟩,_⟩:=ins_at Y3.out
     go_wp2_with fail
     refine(HCl.out _ w3 hkt (by rw [hlbe.out];exact hit) HS3.out HXv3.out).mono ?_;rintro e w4 ⟨rfl,hS4,hC4⟩
     have HS4:=hide hS4
     have Q0:=hide (hC4.2 _ _ _ _ K0.out)
     have Q1:=hide (hC4.2 _ _ _ _ K1.out)
     have Y4:=hide (hC4.2 _ _ _ _ Y3.out)
     have HB4:=hide ((HSb.out _ _ _ HS3.out).1.trans hC4.1)
     have HCg4:=hide (HCg3.out.trans hC4)
     clear y0 y1 y2 y3 y4 y5 y6 y7 hC4 hS4
     obtain⟨⟨y0,y1,y2,y3,y4,y5,y6,y7⟩,_⟩:=ins_at Y4.out
     obtain⟨cc,hcc⟩:∃cc,c K I=cc:=⟨_,rfl⟩
     have HCc:=hide hcc
     rw [hcc] at HY2 HS4 ⊢
     clear hcc
     by_cases hc0:cc=0
     ·subst hc0
      have HS5:=hide (HS4.out rfl)
      have HG2:Hid (∀i,i < I+1→c K i=0):=hide (fun i hi=>by
       by_cases e:i=I
       ·subst e;exact HCc.out
       ·exact HG.out i (by omega))
      go_wp2_with fail
      go_roundw
      case rel=>exact⟨I+1,by omega,by go_num,HG2,HS5,Q0,Q1,HCg4⟩
      case measure=>simp [intOf];omega
     ·have HR:Hid (r=(cc,x.2.2.2.2.2.2.2)):=hide (HY2.out hc0)
      obtain⟨⟨z0,z1⟩,⟨f0,f1⟩,_⟩:=two_at Q1.out
      have hqB:w0.heap.size≤q+1:=by have:=hq0;omega
      have HE:Hid (Below w0.heap.size w0 ((w4.setCell ⟨q+1,0,none⟩ (.int .i64 cc)).setCell ⟨q+1,1,none⟩ (.int .i64 x.2.2.2.2.2.2.2))):=hide (((HB4.out.setCell (p:=⟨q+1,0,none⟩) hqB _).setCell (p:=⟨q+1,1,none⟩) hqB _))
      have HCe:=hide ((HCg4.out.set (a:=⟨q+1,0,none⟩) hqw.out hqB (.int .i64 cc)).set (a:=⟨q+1,1,none⟩) hqw.out hqB (.int .i64 x.2.2.2.2.2.2.2))
      go_wp2_with fail
      exact bodyPost_ret (v:= .agg #[.int .i64 cc,.int .i64 x.2.2.2.2.2.2.2]) (by simp [results,Tryz.results68,go_sem,z0,z1]) rfl ⟨by rw [HR.out],fun h=>by rw [HR.out] at h;exact absurd h hc0,HE.out,HCe.out⟩
    ·obtain rfl:I=lb:=by omega
     have HF2:Hid (∀k,k < K+1→∀i,i < (blkN f k).length→c k i=0):=hide (fun k hk i hi=>by
      by_cases e:k=K
      ·subst e;exact HG.out i (by rw [←hlbe.out];exact hi)
      ·exact HF.out k (by omega) i hi)
     have HS2:=hide (HSr.out K wr hkt (by rw [hlbe.out];exact HS.out))
     go_wp2_with fail
     go_roundw
     case rel=>exact⟨K+1,by omega,by go_num,HF2,HS2,H0,H1,HCg⟩
     case measure=>simp [intOf];omega
  ·obtain rfl:K=bn:=by omega
   have HR:=hide (HNo.out HF.out)
   obtain⟨⟨z0,z1⟩,⟨f0,f1⟩,_⟩:=two_at H1.out
   have hqB:w0.heap.size≤q+1:=by omega
   have HE:Hid (Below w0.heap.size w0 ((wr.setCell ⟨q+1,0,none⟩ (.int .i64 0)).setCell ⟨q+1,1,none⟩ (.int .i64 0))):=hide ((((HSb.out _ _ _ HS.out).1.setCell (p:=⟨q+1,0,none⟩) hqB _).setCell (p:=⟨q+1,1,none⟩) hqB _))
   have HSe:Hid (S K 0 ((wr.setCell ⟨q+1,0,none⟩ (.int .i64 0)).setCell ⟨q+1,1,none⟩ (.int .i64 0))):=hide (HSg.out _ _ _ _ (q+1) (HSg.out _ _ _ _ (q+1) HS.out (grown_set wr ⟨q+1,0,none⟩ (.int .i64 0)) (by omega)) (grown_set (wr.setCell ⟨q+1,0,none⟩ (.int .i64 0)) ⟨q+1,1,none⟩ (.int .i64 0)) (by omega))
   have HCe:=hide ((HCg.out.set (a:=⟨q+1,0,none⟩) hqw.out hqB (.int .i64 0)).set (a:=⟨q+1,1,none⟩) hqw.out hqB (.int .i64 0))
   go_wp2_with fail
   exact bodyPost_ret (v:= .agg #[.int .i64 0,.int .i64 0]) (by simp [results,Tryz.results68,go_sem,z0,z1]) rfl ⟨by rw [HR.out],fun _=>HSe.out,HE.out,HCe.out⟩
end Go.Proofs.YtljkgcfnoegibaaGreatDoor
