/- Texts of one chain, joined. -/
import Derived.Test.YtljkgcfnoegibaaGreatDoorWcAB
import Derived.Test.YtljkgcfnoegibaaGreatDoorWcAC
import Derived.Test.YtljkgcfnoegibaaGreatDoorWcAD
import Derived.Test.YtljkgcfnoegibaaGreatDoorWcAE
import Derived.Test.YtljkgcfnoegibaaGreatDoorWcAF
import Derived.Test.YtljkgcfnoegibaaGreatDoorWcAG
import Derived.Test.YtljkgcfnoegibaaGreatDoorWcAQ
import Derived.Test.YtljkgcfnoegibaaGreatDoorWcAR
set_option maxHeartbeats 4000000
set_option maxRecDepth 20000
namespace Go.Proofs.YtljkgcfnoegibaaGreatDoor
open Go Go.RowKit
open G (Tok Er Ins Fun)
def plcV (m:Plc):Value:= .agg #[.int .i64 m.1,.int .i64 m.2.1,.int .i64 m.2.2.1,.bool m.2.2.2]
def Mod (f:Fun):Prop:=f.2.2.2.1.length≤1000000∧∀b∈f.2.2.2.1,b.length≤1000000
theorem Mod.blk {f:Fun} (h:Mod f) (k:Nat):(blkN f k).length≤1000000:=by
 by_cases hk:k < f.2.2.2.1.length
 ·exact h.2 _ (List.mem_of_getElem? (blkN_at hk))
 ·unfold blkN;rw [List.getD_eq_getElem?_getD,List.getElem?_eq_none (by omega)];simp
theorem blks_row {w:World} {f:Fun} {bo:Option Addr} {n cb k:Nat} (h:BlksR w f.2.2.2.1 (.slice bo n cb)) (hk:k < f.2.2.2.1.length):∃g o ao c,bo=some ⟨g,o,none⟩∧g < w.heap.size∧w.cell? ⟨g,o+k,none⟩=some (.slice ao (blkN f k).length c)∧BlkR w (blkN f k) (.slice ao (blkN f k).length c):=by
 obtain⟨bo',cb',e,_,_,h3⟩:=h
 injection e with e1 e2 e3
 subst e1
 rcases h3 with h3 | ⟨g,o,rfl,hg,h4⟩
 ·rw [h3] at hk;simp at hk
 ·obtain⟨u,hu,hb⟩:=h4 k _ (blkN_at hk)
  obtain⟨ao,c,rfl,_⟩:=id hb
  exact⟨g,o,ao,c,rfl,hg,hu,hb⟩
theorem blk_ins {w:World} {f:Fun} {ao:Option Addr} {n c k i:Nat} (h:BlkR w (blkN f k) (.slice ao n c)) (hi:i < (blkN f k).length):∃g o,ao=some ⟨g,o,none⟩∧InsR w (insN f k i) g (o+i * 8):=by
 obtain⟨ao',c',e,_,_,h3⟩:=h
 injection e with e1 e2 e3
 subst e1
 rcases h3 with h3 | ⟨g,o,rfl,h4⟩
 ·rw [h3] at hi;simp at hi
 ·exact⟨g,o,rfl,h4 i _ (insN_at hi)⟩
theorem four_at {w:World} {b t:Nat} {a0 a1 a2 a3:Value} (h:w.heap[b]? =some (.cells #[a0,a1,a2,a3] t (0,0))):(w.cell? ⟨b,0,none⟩=some a0∧w.cell? ⟨b,1,none⟩=some a1∧w.cell? ⟨b,2,none⟩=some a2∧w.cell? ⟨b,3,none⟩=some a3)∧(w.frozen? ⟨b,0,none⟩=false∧w.frozen? ⟨b,1,none⟩=false∧w.frozen? ⟨b,2,none⟩=false∧w.frozen? ⟨b,3,none⟩=false)∧b < w.heap.size:=by
 refine⟨⟨?_,?_,?_,?_⟩,⟨?_,?_,?_,?_⟩,(Array.getElem?_eq_some_iff.1 h).1⟩ <;> simp [World.cell?,World.frozen?,h]
theorem rmade_any (f:Fun) (id:Int) (K J:Nat) (v:Value) (w:World) (hv:FunV w f v) (hF:Mod f) (hK:K≤1000000) (hJ:J≤1000000):
  Calls Tryz.prog 32 #[v,.int .i64 id,.int .i64 K,.int .i64 J] w fun e w'=>e= .returned (plcV (madeF f id K J))∧Below w.heap.size w w':=by
 have hv2:=hv
 obtain⟨vp,vb,rfl,⟨lp,cp,rfl,hps,_,_⟩,⟨lb,cb,rfl,_⟩⟩:=hv2
 have hN:=hF.1
 have HBn:=hide (fun k=>hF.blk k)
 have HBl:Hid (BlksR w f.2.2.2.1 (.slice lb f.2.2.2.1.length cb)):=hide (by
  obtain⟨vp',vb',e,_,h2⟩:=hv
  injection e with e
  have e1:=congrArg (fun a=>a[3]?) e
  simp at e1
  rw [←e1] at h2
  exact h2)
 have HPs:=hide hps
 have HMd:Hid (madeF f id K J=if isPar f id then(0,-1,f.2.1.getD id.toNat 0,true)else(scanF f id K J).getD (0,0,0,false)):=hide rfl
 clear hv hps hF
 obtain⟨r,hr⟩:∃r,r=madeF f id K J:=⟨_,rfl⟩
 rw [←hr] at HMd ⊢
 clear hr
 generalize bs f.1=nm at *
 obtain⟨lps,hlps⟩:∃n,n=f.2.1.length:=⟨_,rfl⟩
 have HPar:Hid (isPar f id=(decide (0≤id) && decide (id < (lps:Int)))):=hide (by rw [hlps];rfl)
 have HPc:Hid (∀i:Nat,i < lps→f.2.1[i]? =some (f.2.1.getD i 0)):=hide (fun i hi=>by rw [List.getD_eq_getElem?_getD,List.getElem?_eq_getElem (by omega)];rfl)
 rw [←hlps]
 generalize f.2.2.1=rt at *
 obtain⟨lbs,hlbs⟩:∃n,n=f.2.2.2.1.length:=⟨_,rfl⟩
 have HSc:Hid (scanF f id K J=fstN (fun k=>scanB f id k (limB f K J k)) (min (K+1) lbs)):=hide (by rw [hlbs];rfl)
 have HRw:Hid (∀(w':World),Below w.heap.size w w'→∀k,k < lbs→∃g o ao c,lb=some ⟨g,o,none⟩∧w'.cell? ⟨g,o+k,none⟩=some (.slice ao (blkN f k).length c)∧BlkR w' (blkN f k) (.slice ao (blkN f k).length c)):=hide (fun w' b k hk=>by
  obtain⟨g,o,ao,c,h1,h2,h3,h4⟩:=blks_row (HBl.out.below b) (k:=k) (by omega)
  exact⟨g,o,ao,c,h1,h3,h4⟩)
 rw [←hlbs] at hN ⊢
 clear hlbs HBl hlps
 generalize f.2.2.2.2=pl at *
 have b1:=below_box w (.cells #[.string nm,.slice lp lps cp,.int .i64 rt,.slice lb lbs cb,.int .i64 pl] 36)
 have X1:=L5.Box.new w [.string nm,.slice lp lps cp,.int .i64 rt,.slice lb lbs cb,.int .i64 pl] 36
 have b2:=below_box (w.alloc (.cells #[.string nm,.slice lp lps cp,.int .i64 rt,.slice lb lbs cb,.int .i64 pl] 36)) (.cells #[.int .i64 0,.int .i64 0,.int .i64 0,.bool false] 62)
 have hs1:(w.alloc (.cells #[.string nm,.slice lp lps cp,.int .i64 rt,.slice lb lbs cb,.int .i64 pl] 36)).heap.size=w.heap.size+1:=by simp
 have HZ0:=heap_alloc_new (w.alloc (.cells #[.string nm,.slice lp lps cp,.int .i64 rt,.slice lb lbs cb,.int .i64 pl] 36)) (.cells #[.int .i64 0,.int .i64 0,.int .i64 0,.bool false] 62)
 rw [hs1] at HZ0
 have HZ:=hide HZ0
 have X0:Hid (L5.Box ((w.alloc (.cells #[.string nm,.slice lp lps cp,.int .i64 rt,.slice lb lbs cb,.int .i64 pl] 36)).alloc (.cells #[.int .i64 0,.int .i64 0,.int .i64 0,.bool false] 62)) w.heap.size [.string nm,.slice lp lps cp,.int .i64 rt,.slice lb lbs cb,.int .i64 pl]):=hide (X1.below b2)
 have B0:=hide (below_step b1 b2)
 clear b1 X1 b2 hs1 HZ0
 go_enter Tryz.func32,Tryz.ntmps32
 go_upto_region 1 with fail
 show Code.wp _ _ _ _ ((w.alloc (.cells #[.string nm,.slice lp lps cp,.int .i64 rt,.slice lb lbs cb,.int .i64 pl] 36)).alloc (.cells #[.int .i64 0,.int .i64 0,.int .i64 0,.bool false] 62))
 generalize (w.alloc (.cells #[.string nm,.slice lp lps cp,.int .i64 rt,.slice lb lbs cb,.int .i64 pl] 36)).alloc (.cells #[.int .i64 0,.int .i64 0,.int .i64 0,.bool false] 62)=W at *
 generalize hq:w.heap.size=q at *
 have hle:q≤q+1:=Nat.le_succ q
 obtain⟨x0,x1,x2,x3,x4⟩:_∧_∧_∧_∧_:=⟨X0.out.2 0 _ rfl,X0.out.2 1 _ rfl,X0.out.2 2 _ rfl,X0.out.2 3 _ rfl,X0.out.2 4 _ rfl⟩
 obtain⟨⟨z0,z1,z2,z3⟩,⟨f0,f1,f2,f3⟩,hzs⟩:=four_at HZ.out
 replace HRw:=hide (by have h:=HRw.out;rw [←hq] at h;exact h)
 have B0w:Hid (Below w.heap.size w W):=hide (by have h:=B0.out;rw [←hq] at h;exact h)
 by_cases hpb:isPar f id=true
 ·rw [hpb] at HPar
  obtain⟨h1,h2⟩:0≤id∧id < (lps:Int):=by have:=HPar.out;simpa using this.symm
  obtain⟨I,rfl⟩:∃I:Nat,id=(I:Int):=⟨id.toNat,by omega⟩
  have HRr:Hid (r=(0,-1,f.2.1.getD I 0,true)):=hide (by rw [HMd.out,if_pos hpb];rfl)
  have c1:W.cell? ⟨q,1,none⟩=some (.slice lp lps cp):=x1
  rcases HPs.out with he | ⟨pb,po,rfl,hpl,hpc⟩
  ·have:=HPc.out I (by omega);rw [he] at this;simp at this
  have c2:=(B0w.out.cell (p:=⟨pb,po+I,none⟩) hpl).trans (hpc I _ (HPc.out I (by omega)))
  obtain⟨tv,htv⟩:∃tv,tv=f.2.1.getD I 0:=⟨_,rfl⟩
  rw [←htv] at c2 HRr
  have HE:Hid (Below q w ((((W.setCell ⟨q+1,0,none⟩ (.int .i64 0)).setCell ⟨q+1,1,none⟩ (.int .i64 (-1))).setCell ⟨q+1,2,none⟩ (.int .i64 tv)).setCell ⟨q+1,3,none⟩ (.bool true))):=hide (((((B0.out.setCell (p:=⟨q+1,0,none⟩) hle _).setCell (p:=⟨q+1,1,none⟩) hle _).setCell (p:=⟨q+1,2,none⟩) hle _).setCell (p:=⟨q+1,3,none⟩) hle _))
  clear hpc htv hpb HPc
  go_wp2_with fail
  exact bodyPost_ret (v:= .agg #[.int .i64 0,.int .i64 (-1),.int .i64 tv,.bool true]) (by simp [results,Tryz.results32,go_sem,z0,z1,z2,z3]) rfl ⟨by rw [HRr.out];rfl,by first | exact HE.out | (rw [hq];exact HE.out) | (have h:=HE.out;rw [hq] at h;exact h) | (have h:=HE.out;rw [←hq] at h;exact h)⟩
 ·have hpf:isPar f id=false:=by simpa using hpb
  have HRr:Hid (r=(scanF f id K J).getD (0,0,0,false)):=hide (by rw [HMd.out,if_neg hpb])
  have HPn:=hide (HPar.out.symm.trans hpf)
  clear HPs HPc HPar HMd hpb hpf
  by_cases h1:0≤id
  all_goals
   first
   |have h1':¬0≤id:=h1
   |have h2:¬id < (lps:Int):=by have:=HPn.out;simp [h1] at this;omega
   go_wp2_with fail
   clear z0 z1 z2 z3 f0 f1 f2 f3 x0 x1 x2 x3 x4
   go_loopw [9] (fun kv wr=>∃k:Nat,k≤min (K+1) lbs∧kv= .int .i64 k∧Hid (∀j,j < k→scanB f id j (limB f K J j)=none)∧Hid (Below W.heap.size W wr)) (fun kv _=>min (K+1) lbs - (intOf kv).toNat)
   case atStart=>exact⟨0,Nat.zero_le _,rfl,hide (fun j h=>absurd h (Nat.not_lt_zero _)),hide (Below.refl _ _)⟩
   case round=>
    obtain⟨k,hk,rfl,HF,HW⟩:=hrel
    have X1:=hide (X0.out.below HW.out)
    obtain⟨x0,x1,x2,x3,x4⟩:_∧_∧_∧_∧_:=⟨X1.out.2 0 _ rfl,X1.out.2 1 _ rfl,X1.out.2 2 _ rfl,X1.out.2 3 _ rfl,X1.out.2 4 _ rfl⟩
    by_cases hkt:k < min (K+1) lbs
    ·have hk1:(k:Int) < lbs:=by omega
     have hk2:(k:Int)≤K:=by omega
     obtain⟨g,o,ao,c,rfl,_,_⟩:=HRw.out wr (below_step B0w.out HW.out) k (by omega)
     have HRk:Hid (∀w',Below W.heap.size W w'→∃ao c,w'.cell? ⟨g,o+k,none⟩=some (.slice ao (blkN f k).length c)∧BlkR w' (blkN f k) (.slice ao (blkN f k).length c)):=hide (fun w' b=>by
      obtain⟨g',o',ao,c,he,h1,h2⟩:=HRw.out w' (below_step B0w.out b) k (by omega)
      injection he with he
      injection he with hg ho
      subst hg ho
      exact⟨ao,c,h1,h2⟩)
     have hbn:=HBn.out k
     have HW0:=hide HW.out
     go_wp2_with fail
     clear x0 x1 x2 x3 x4 X1
     go_loopw [10] (fun iv wr=>∃i:Nat,i≤min (limB f K J k) (blkN f k).length∧iv= .int .i64 i∧Hid (∀j,j < i→scanG f id k j=none)∧Hid (Below W.heap.size W wr)) (fun iv _=>min (limB f K J k) (blkN f k).length - (intOf iv).toNat)
     case atStart=>exact⟨0,Nat.zero_le _,rfl,hide (fun j h=>absurd h (Nat.not_lt_zero _)),hide HW0.out⟩
     case round=>
      clear HW HW0
      obtain⟨i,hi,rfl,HG,HW⟩:=hrel
      have X1:=hide (X0.out.below HW.out)
      obtain⟨x0,x1,x2,x3,x4⟩:_∧_∧_∧_∧_:=⟨X1.out.2 0 _ rfl,X1.out.2 1 _ rfl,X1.out.2 2 _ rfl,X1.out.2 3 _ rfl,X1.out.2 4 _ rfl⟩
      obtain⟨ao,c,cu,hb⟩:=HRk.out wr HW.out
      by_cases hil:i < (blkN f k).length
      ·have hilI:(i:Int) < (blkN f k).length:=by omega
       by_cases hlm:k < K∨i < J
       ·by_cases hkK:k < K
        all_goals
         first
         |have hkKI:(k:Int) < K:=by omega
          have hit:i < min (limB f K J k) (blkN f k).length:=by unfold limB;rw [if_pos hkK];omega
         |have hkKI:¬(k:Int) < K:=by omega
          have hiJI:(i:Int) < J:=by omega
          have hit:i < min (limB f K J k) (blkN f k).length:=by unfold limB;rw [if_neg hkK];omega
         clear hlm
         obtain⟨g2,o2,rfl,hins⟩:=blk_ins hb hil
         obtain⟨xo,zo,xc,zc,_,e0,e1,e2,e3,e4,e5,e6,e7⟩:=hins.val
         have HSg:Hid (scanG f id k i=if hitX id (insN f k i)then some ((k:Int),(i:Int),mkX (insN f k i),true)else none):=hide rfl
         have HHt:Hid (hitX id (insN f k i)=(decide ((insN f k i).2.1=id) && decide (mkX (insN f k i)≠0))):=hide rfl
         have HMk:Hid (mkX (insN f k i)=L5.imakes (insN f k i).1 (insN f k i).2.2.2.1):=hide rfl
         obtain⟨x,hx⟩:∃x,insN f k i=x:=⟨_,rfl⟩
         rw [hx] at e0 e1 e2 e3 e4 e5 e6 e7 HSg HHt HMk
         clear hins hx
         go_upto_region 10 with fail
         show Code.wp _ _ _ _ (wr.alloc (.cells #[.int .i64 x.1,.int .i64 x.2.1,.int .i64 x.2.2.1,.int .i64 x.2.2.2.1,.slice xo x.2.2.2.2.1.length xc,.slice zo x.2.2.2.2.2.1.length zc,.string (bs x.2.2.2.2.2.2.1),.int .i64 x.2.2.2.2.2.2.2] 47))
         have b3:=below_box wr (.cells #[.int .i64 x.1,.int .i64 x.2.1,.int .i64 x.2.2.1,.int .i64 x.2.2.2.1,.slice xo x.2.2.2.2.1.length xc,.slice zo x.2.2.2.2.2.1.length zc,.string (bs x.2.2.2.2.2.2.1),.int .i64 x.2.2.2.2.2.2.2] 47)
         have Y0:=hide (L5.Box.new wr [.int .i64 x.1,.int .i64 x.2.1,.int .i64 x.2.2.1,.int .i64 x.2.2.2.1,.slice xo x.2.2.2.2.1.length xc,.slice zo x.2.2.2.2.2.1.length zc,.string (bs x.2.2.2.2.2.2.1),.int .i64 x.2.2.2.2.2.2.2] 47)
         have HW3:=hide (below_step HW.out b3)
         have hs3:wr.heap.size < (wr.alloc (.cells #[.int .i64 x.1,.int .i64 x.2.1,.int .i64 x.2.2.1,.int .i64 x.2.2.2.1,.slice xo x.2.2.2.2.1.length xc,.slice zo x.2.2.2.2.2.1.length zc,.string (bs x.2.2.2.2.2.2.1),.int .i64 x.2.2.2.2.2.2.2] 47)).heap.size:=by simp
         replace Y0:Hid (L5.Box (wr.alloc (.cells #[.int .i64 x.1,.int .i64 x.2.1,.int .i64 x.2.2.1,.int .i64 x.2.2.2.1,.slice xo x.2.2.2.2.1.length xc,.slice zo x.2.2.2.2.2.1.length zc,.string (bs x.2.2.2.2.2.2.1),.int .i64 x.2.2.2.2.2.2.2] 47)) wr.heap.size [.int .i64 x.1,.int .i64 x.2.1,.int .i64 x.2.2.1,.int .i64 x.2.2.2.1,.slice xo x.2.2.2.2.1.length xc,.slice zo x.2.2.2.2.2.1.length zc,.string (bs x.2.2.2.2.2.2.1),.int .i64 x.2.2.2.2.2.2.2]):=Y0
         clear e0 e1 e2 e3 e4 e5 e6 e7 b3 x0 x1 x2 x3 x4 cu
         generalize wr.alloc (.cells #[.int .i64 x.1,.int .i64 x.2.1,.int .i64 x.2.2.1,.int .i64 x.2.2.2.1,.slice xo x.2.2.2.2.1.length xc,.slice zo x.2.2.2.2.2.1.length zc,.string (bs x.2.2.2.2.2.2.1),.int .i64 x.2.2.2.2.2.2.2] 47)=w3 at *
         generalize wr.heap.size=q3 at *
         obtain⟨y0,y1,y2,y3,y4,y5,y6,y7⟩:_∧_∧_∧_∧_∧_∧_∧_:=⟨Y0.out.2 0 _ rfl,Y0.out.2 1 _ rfl,Y0.out.2 2 _ rfl,Y0.out.2 3 _ rfl,Y0.out.2 4 _ rfl,Y0.out.2 5 _ rfl,Y0.out.2 6 _ rfl,Y0.out.2 7 _ rfl⟩
         have HNo:Hid (scanG f id k i=none→∀j,j < i+1→scanG f id k j=none):=hide (fun hn j hj=>by
          by_cases e:j=i
          ·rw [e];exact hn
          ·exact HG.out j (by omega))
         by_cases hid:x.2.1=id
         ·have hde:(x.2.1 == id)=true:=beq_iff_eq.2 hid
          have HM:=hide (L5.refMakes_any x.1 x.2.2.2.1 (.int .i64 x.2.1) (.int .i64 x.2.2.1) (.slice xo x.2.2.2.2.1.length xc) (.slice zo x.2.2.2.2.2.1.length zc) (.string (bs x.2.2.2.2.2.2.1)) (.int .i64 x.2.2.2.2.2.2.2) w3)
          rw [←HMk.out] at HM
          by_cases hmz:mkX x=0
          ·have HG2:=hide (HNo.out (by rw [HSg.out,if_neg (by rw [HHt.out];simp [hmz])]))
           rw [hmz] at HM
           clear hid hmz HMk
           go_wp2_with fail
           refine HM.out.mono ?_;rintro e w4 ⟨rfl,b4⟩
           have HW4:=hide (below_step HW3.out b4)
           clear HM b4 y0 y1 y2 y3 y4 y5 y6 y7
           go_wp2_with fail
           go_roundw
           case rel=>exact⟨i+1,by omega,by go_num,HG2,HW4⟩
           case measure=>simp [intOf];omega
          ·have HSs:Hid (scanG f id k i=some ((k:Int),(i:Int),mkX x,true)):=hide (by rw [HSg.out,if_pos (by rw [HHt.out];simp [hid,hmz])])
           have HRk:Hid (r=((k:Int),(i:Int),mkX x,true)):=hide (by rw [HRr.out,HSc.out,fstN_some HF.out hkt (a:=((k:Int),(i:Int),mkX x,true)) (by unfold scanB;exact fstN_some HG.out hit HSs.out)];rfl)
           have hmb:(mkX x == 0)=false:=beq_eq_false_iff_ne.2 hmz
           generalize mkX x=mk at *
           clear hid
           go_wp2_with fail
           refine HM.out.mono ?_;rintro e w4 ⟨rfl,b4⟩
           have HW4:=hide (below_step HW3.out b4)
           have HM2:=hide (L5.refMakes_any x.1 x.2.2.2.1 (.int .i64 x.2.1) (.int .i64 x.2.2.1) (.slice xo x.2.2.2.2.1.length xc) (.slice zo x.2.2.2.2.2.1.length zc) (.string (bs x.2.2.2.2.2.2.1)) (.int .i64 x.2.2.2.2.2.2.2) w4)
           rw [←HMk.out] at HM2
           have Y4:=hide (Y0.out.below b4)
           clear HM b4 y0 y1 y2 y3 y4 y5 y6 y7
           obtain⟨y0,y1,y2,y3,y4,y5,y6,y7⟩:_∧_∧_∧_∧_∧_∧_∧_:=⟨Y4.out.2 0 _ rfl,Y4.out.2 1 _ rfl,Y4.out.2 2 _ rfl,Y4.out.2 3 _ rfl,Y4.out.2 4 _ rfl,Y4.out.2 5 _ rfl,Y4.out.2 6 _ rfl,Y4.out.2 7 _ rfl⟩
           go_wp2_with fail
           refine HM2.out.mono ?_;rintro e w5 ⟨rfl,b5⟩
           have HW5:=hide (below_step HW4.out b5)
           clear HM2 b5 y0 y1 y2 y3 y4 y5 y6 y7
           obtain⟨⟨z0,z1,z2,z3⟩,⟨f0,f1,f2,f3⟩,_⟩:=four_at ((HW5.out.block _ hzs).trans HZ.out)
           have HE:Hid (Below w.heap.size w ((((w5.setCell ⟨q+1,0,none⟩ (.int .i64 k)).setCell ⟨q+1,1,none⟩ (.int .i64 i)).setCell ⟨q+1,2,none⟩ (.int .i64 mk)).setCell ⟨q+1,3,none⟩ (.bool true))):=hide (by
            have hle2:w.heap.size≤q+1:=by omega
            exact(((((below_step B0w.out HW5.out).setCell (p:=⟨q+1,0,none⟩) hle2 _).setCell (p:=⟨q+1,1,none⟩) hle2 _).setCell (p:=⟨q+1,2,none⟩) hle2 _).setCell (p:=⟨q+1,3,none⟩) hle2 _))
           go_wp2_with fail
           exact bodyPost_ret (v:= .agg #[.int .i64 k,.int .i64 i,.int .i64 mk,.bool true]) (by simp [results,Tryz.results32,go_sem,z0,z1,z2,z3]) rfl ⟨by rw [HRk.out];rfl,by first | exact HE.out | (rw [hq];exact HE.out) | (have h:=HE.out;rw [hq] at h;exact h) | (have h:=HE.out;rw [←hq] at h;exact h)⟩
         ·have hde:(x.2.1 == id)=false:=beq_eq_false_iff_ne.2 hid
          have HG2:=hide (HNo.out (by rw [HSg.out,if_neg (by rw [HHt.out];simp [hid])]))
          clear hid HMk
          go_wp2_with fail
          go_roundw
          case rel=>exact⟨i+1,by omega,by go_num,HG2,HW3⟩
          case measure=>simp [intOf];omega
       ·have hkK:¬k < K:=by omega
        have hkKI:¬(k:Int) < K:=by omega
        have hiJI:¬(i:Int) < J:=by omega
        clear hlm
        have hie:min (limB f K J k) (blkN f k).length≤i:=by unfold limB;rw [if_neg hkK];omega
        have HF2:Hid (∀j,j < k+1→scanB f id j (limB f K J j)=none):=hide (fun j hj=>by
         by_cases e:j=k
         ·rw [e];unfold scanB;exact fstN_none (fun j hj=>HG.out j (by omega))
         ·exact HF.out j (by omega))
        go_wp2_with fail
        go_roundw
        case rel=>exact⟨k+1,by omega,by go_num,HF2,HW⟩
        case measure=>simp [intOf];omega
      ·have hilI:¬(i:Int) < (blkN f k).length:=by omega
       have hie:min (limB f K J k) (blkN f k).length≤i:=by omega
       have HF2:Hid (∀j,j < k+1→scanB f id j (limB f K J j)=none):=hide (fun j hj=>by
        by_cases e:j=k
        ·rw [e];unfold scanB;exact fstN_none (fun j hj=>HG.out j (by omega))
        ·exact HF.out j (by omega))
       go_wp2_with fail
       go_roundw
       case rel=>exact⟨k+1,by omega,by go_num,HF2,HW⟩
       case measure=>simp [intOf];omega
    ·have hke:min (K+1) lbs≤k:=by omega
     have HRn:Hid (r=(0,0,0,false)):=hide (by rw [HRr.out,HSc.out,fstN_none (fun j hj=>HF.out j (by omega))];rfl)
     obtain⟨⟨z0,z1,z2,z3⟩,⟨f0,f1,f2,f3⟩,_⟩:=four_at ((HW.out.block _ hzs).trans HZ.out)
     have HE:Hid (Below w.heap.size w ((((wr.setCell ⟨q+1,0,none⟩ (.int .i64 0)).setCell ⟨q+1,1,none⟩ (.int .i64 0)).setCell ⟨q+1,2,none⟩ (.int .i64 0)).setCell ⟨q+1,3,none⟩ (.bool false))):=hide (by
      have hle2:w.heap.size≤q+1:=by omega
      exact(((((below_step B0w.out HW.out).setCell (p:=⟨q+1,0,none⟩) hle2 _).setCell (p:=⟨q+1,1,none⟩) hle2 _).setCell (p:=⟨q+1,2,none⟩) hle2 _).setCell (p:=⟨q+1,3,none⟩) hle2 _))
     by_cases hkl:k < lbs
     ·have hk1:(k:Int) < lbs:=by omega
      have hk2:¬(k:Int)≤K:=by omega
      go_wp2_with fail
      exact bodyPost_ret (v:= .agg #[.int .i64 0,.int .i64 0,.int .i64 0,.bool false]) (by simp [results,Tryz.results32,go_sem,z0,z1,z2,z3]) rfl ⟨by rw [HRn.out];rfl,by first | exact HE.out | (rw [hq];exact HE.out) | (have h:=HE.out;rw [hq] at h;exact h) | (have h:=HE.out;rw [←hq] at h;exact h)⟩
     ·have hk1:¬(k:Int) < lbs:=by omega
      go_wp2_with fail
      exact bodyPost_ret (v:= .agg #[.int .i64 0,.int .i64 0,.int .i64 0,.bool false]) (by simp [results,Tryz.results32,go_sem,z0,z1,z2,z3]) rfl ⟨by rw [HRn.out];rfl,by first | exact HE.out | (rw [hq];exact HE.out) | (have h:=HE.out;rw [hq] at h;exact h) | (have h:=HE.out;rw [←hq] at h;exact h)⟩
theorem ret_i {a b:Int} (h:a=b):Ending.returned (.int .i64 a)= .returned (.int .i64 b):=by rw [h]
theorem fun_box {w:World} {f:Fun} {v:Value} (hv:FunV w f v):∃lp cp lb cb,v= .agg #[.string (bs f.1),.slice lp f.2.1.length cp,.int .i64 f.2.2.1,.slice lb f.2.2.2.1.length cb,.int .i64 f.2.2.2.2]∧
  L5.Box (w.alloc (.cells #[.string (bs f.1),.slice lp f.2.1.length cp,.int .i64 f.2.2.1,.slice lb f.2.2.2.1.length cb,.int .i64 f.2.2.2.2] 36)) w.heap.size [.string (bs f.1),.slice lp f.2.1.length cp,.int .i64 f.2.2.1,.slice lb f.2.2.2.1.length cb,.int .i64 f.2.2.2.2]∧
  Below w.heap.size w (w.alloc (.cells #[.string (bs f.1),.slice lp f.2.1.length cp,.int .i64 f.2.2.1,.slice lb f.2.2.2.1.length cb,.int .i64 f.2.2.2.2] 36)):=by
 obtain⟨vp,vb,rfl,⟨lp,cp,rfl,_⟩,⟨lb,cb,rfl,_⟩⟩:=hv
 exact⟨lp,cp,lb,cb,rfl,L5.Box.new w [.string (bs f.1),.slice lp f.2.1.length cp,.int .i64 f.2.2.1,.slice lb f.2.2.2.1.length cb,.int .i64 f.2.2.2.2] 36,below_box _ _⟩
theorem fun_blks {w:World} {f:Fun} {a b d:Value} {lb:Option Addr} {n cb:Nat} {c:Value} (hv:FunV w f (.agg #[a,b,c,.slice lb n cb,d])):BlksR w f.2.2.2.1 (.slice lb n cb):=by
 obtain⟨vp',vb',e,_,h2⟩:=hv
 injection e with e
 have e1:=congrArg (fun a=>a[3]?) e
 simp at e1
 rw [←e1] at h2
 exact h2
theorem rlater_any (x:Ins) (v:Value) (w:World) (hv:InsV w x v):
  Calls Tryz.prog 80 #[v] w fun e w'=>e= .returned (.bool (laterX x))∧Below w.heap.size w w':=by
 obtain⟨xo,zo,xc,zc,rfl,_⟩:=hv
 have Y0:=hide (L5.Box.new w [.int .i64 x.1,.int .i64 x.2.1,.int .i64 x.2.2.1,.int .i64 x.2.2.2.1,.slice xo x.2.2.2.2.1.length xc,.slice zo x.2.2.2.2.2.1.length zc,.string (bs x.2.2.2.2.2.2.1),.int .i64 x.2.2.2.2.2.2.2] 47)
 have B0:=hide (below_box w (.cells #[.int .i64 x.1,.int .i64 x.2.1,.int .i64 x.2.2.1,.int .i64 x.2.2.2.1,.slice xo x.2.2.2.2.1.length xc,.slice zo x.2.2.2.2.2.1.length zc,.string (bs x.2.2.2.2.2.2.1),.int .i64 x.2.2.2.2.2.2.2] 47))
 have HL:Hid (laterX x=(decide (x.1=23) || decide (x.1=24) || decide (x.1=25) || (decide (x.1=21) && decide (x.2.2.1≠0)))):=hide rfl
 replace Y0:Hid (L5.Box (w.alloc (.cells #[.int .i64 x.1,.int .i64 x.2.1,.int .i64 x.2.2.1,.int .i64 x.2.2.2.1,.slice xo x.2.2.2.2.1.length xc,.slice zo x.2.2.2.2.2.1.length zc,.string (bs x.2.2.2.2.2.2.1),.int .i64 x.2.2.2.2.2.2.2] 47)) w.heap.size [.int .i64 x.1,.int .i64 x.2.1,.int .i64 x.2.2.1,.int .i64 x.2.2.2.1,.slice xo x.2.2.2.2.1.length xc,.slice zo x.2.2.2.2.2.1.length zc,.string (bs x.2.2.2.2.2.2.1),.int .i64 x.2.2.2.2.2.2.2]):=Y0
 go_enter Tryz.func80,Tryz.ntmps80
 go_upto_region 1 with fail
 show Code.wp _ _ _ _ (w.alloc (.cells #[.int .i64 x.1,.int .i64 x.2.1,.int .i64 x.2.2.1,.int .i64 x.2.2.2.1,.slice xo x.2.2.2.2.1.length xc,.slice zo x.2.2.2.2.2.1.length zc,.string (bs x.2.2.2.2.2.2.1),.int .i64 x.2.2.2.2.2.2.2] 47))
 generalize w.alloc (.cells #[.int .i64 x.1,.int .i64 x.2.1,.int .i64 x.2.2.1,.int .i64 x.2.2.2.1,.slice xo x.2.2.2.2.1.length xc,.slice zo x.2.2.2.2.2.1.length zc,.string (bs x.2.2.2.2.2.2.1),.int .i64 x.2.2.2.2.2.2.2] 47)=W at *
 generalize hq:w.heap.size=q at *
 obtain⟨y0,y1,y2,y3,y4,y5,y6,y7⟩:_∧_∧_∧_∧_∧_∧_∧_:=⟨Y0.out.2 0 _ rfl,Y0.out.2 1 _ rfl,Y0.out.2 2 _ rfl,Y0.out.2 3 _ rfl,Y0.out.2 4 _ rfl,Y0.out.2 5 _ rfl,Y0.out.2 6 _ rfl,Y0.out.2 7 _ rfl⟩
 by_cases h23:x.1=23
 ·have e1:(x.1 == 23)=true:=beq_iff_eq.2 h23
  have HR:Hid (true=laterX x):=hide (by rw [HL.out];simp [h23])
  clear h23
  go_wp2_with fail
  go_ret
  exact⟨L5.ret_bool HR.out,by first | exact B0.out | (rw [hq];exact B0.out)⟩
 ·have e1:(x.1 == 23)=false:=beq_eq_false_iff_ne.2 h23
  by_cases h24:x.1=24
  ·have e2:(x.1 == 24)=true:=beq_iff_eq.2 h24
   have HR:Hid (true=laterX x):=hide (by rw [HL.out];simp [h24])
   clear h23 h24
   go_wp2_with fail
   go_ret
   exact⟨L5.ret_bool HR.out,by first | exact B0.out | (rw [hq];exact B0.out)⟩
  ·have e2:(x.1 == 24)=false:=beq_eq_false_iff_ne.2 h24
   by_cases h25:x.1=25
   ·have e3:(x.1 == 25)=true:=beq_iff_eq.2 h25
    have HR:Hid (true=laterX x):=hide (by rw [HL.out];simp [h25])
    clear h23 h24 h25
    go_wp2_with fail
    go_ret
    exact⟨L5.ret_bool HR.out,by first | exact B0.out | (rw [hq];exact B0.out)⟩
   ·have e3:(x.1 == 25)=false:=beq_eq_false_iff_ne.2 h25
    by_cases h21:x.1=21
    ·have e4:(x.1 == 21)=true:=beq_iff_eq.2 h21
     have HR:Hid ((!(x.2.2.1 == 0))=laterX x):=hide (by
      rw [HL.out,decide_eq_false h23,decide_eq_false h24,decide_eq_false h25,decide_eq_true h21]
      cases h:(x.2.2.1 == 0) <;> simp at h <;> simp [h])
     clear h23 h24 h25 h21
     go_wp2_with fail
     go_ret
     exact⟨L5.ret_bool HR.out,by first | exact B0.out | (rw [hq];exact B0.out)⟩
    ·have e4:(x.1 == 21)=false:=beq_eq_false_iff_ne.2 h21
     have HR:Hid (false=laterX x):=hide (by rw [HL.out];simp [h23,h24,h25,h21])
     clear h23 h24 h25 h21
     go_wp2_with fail
     go_ret
     exact⟨L5.ret_bool HR.out,by first | exact B0.out | (rw [hq];exact B0.out)⟩
open G (Tok Er Ins Fun peek0 peek1 atOf)
def Kr (a:Nat) (w w':World):Prop:=w'.os=w.os∧w'.tape=w.tape∧w'.output=w.output∧w.heap.size≤w'.heap.size∧∀k,k < w.heap.size→k≠a→w'.heap[k]? =w.heap[k]?
theorem Kr.refl (a:Nat) (w:World):Kr a w w:=⟨rfl,rfl,rfl,Nat.le_refl _,fun _ _ _=>rfl⟩
theorem Kr.trans {a:Nat} {u v w:World} (h:Kr a u v) (k:Kr a v w):Kr a u w:=
 ⟨k.1.trans h.1,k.2.1.trans h.2.1,k.2.2.1.trans h.2.2.1,Nat.le_trans h.2.2.2.1 k.2.2.2.1,fun i h1 h2=>(k.2.2.2.2 i (Nat.lt_of_lt_of_le h1 h.2.2.2.1) h2).trans (h.2.2.2.2 i h1 h2)⟩
theorem Kr.of_below {a:Nat} {u v:World} (h:Below u.heap.size u v):Kr a u v:=⟨h.os,h.tape,h.output,h.size,fun i h1 _=>h.block i h1⟩
theorem Kr.size {a:Nat} {u v:World} (h:Kr a u v):u.heap.size≤v.heap.size:=h.2.2.2.1
theorem Kr.step {a:Nat} {u v w:World} (h:Kr a u v) (k:Below v.heap.size v w):Kr a u w:=h.trans (Kr.of_below k)
theorem Kr.below {a B:Nat} {u v:World} (h:Kr a u v) (ha:B≤a) (hB:B≤u.heap.size):Below B u v:=⟨h.1,h.2.1,h.2.2.1,h.2.2.2.1,fun i h1=>h.2.2.2.2 i (by omega) (by omega)⟩
theorem Kr.set {a i:Nat} {u w:World} (h:Kr a u w) (x:Value):Kr a u (w.setCell ⟨a,i,none⟩ x):=by
 have hb:=(Below.refl 0 w).setCell (p:=⟨a,i,none⟩) (Nat.zero_le a) x
 exact h.trans ⟨hb.os,hb.tape,hb.output,hb.size,fun k _ h2=>Below.heap_setCell w ⟨a,i,none⟩ x k h2⟩
def RR (a:Nat) (L:List Tok) (E:Int) (n:Nat) (l:List Tok) (w:World):Prop:=
 ∃v,w.heap[a]? =some (.cells #[v,.int .i64 ((L.length - l.length:Nat):Int),.int .i64 E,.int .i64 (n:Int),.int .i64 0,.int .i64 0] 70 (0,0))∧w.ownsRow 0 95 2 v L.length (cellsK L)∧l <:+L∧(L.length≤131072∧∀t∈L,t.1.length≤65536)∧n≤4096
theorem RR.lt {a:Nat} {L:List Tok} {E:Int} {n:Nat} {l:List Tok} {w:World} (h:RR a L E n l w):a < w.heap.size:=by
 obtain⟨v,h1,_⟩:=h;exact(Array.getElem?_eq_some_iff.1 h1).1
theorem RR.keep {a:Nat} {L:List Tok} {E:Int} {n:Nat} {l:List Tok} {w w':World} (h:RR a L E n l w) (hb:∀k,k < w.heap.size→w'.heap[k]? =w.heap[k]?):RR a L E n l w':=by
 obtain⟨v,h1,h2,h3⟩:=h
 refine⟨v,(hb a (Array.getElem?_eq_some_iff.1 h1).1).trans h1,⟨h2.1,?_⟩,h3⟩
 rcases h2.2 with hn | ⟨g,cap,cur,hv2,hbb,hg,rest⟩
 ·exact .inl hn
 ·exact .inr ⟨g,cap,cur,hv2,hbb,(hb g (Array.getElem?_eq_some_iff.1 hg).1).trans hg,rest⟩
theorem RR.below {a:Nat} {L:List Tok} {E:Int} {n:Nat} {l:List Tok} {w w':World} (h:RR a L E n l w) (b:Below w.heap.size w w'):RR a L E n l w':=h.keep fun k hk=>b.block k hk
theorem RR.short {a:Nat} {L:List Tok} {E:Int} {n:Nat} {l:List Tok} {w:World} (h:RR a L E n l w):(peek0 l).length≤65536∧(peek1 l).length≤65536:=by
 obtain⟨v,h1,h2,h5,h6,h7⟩:=h
 refine⟨?_,?_⟩
 ·cases l with
  |nil=>simp [peek0]
  |cons t r=>exact h6.2 t (h5.subset (by simp))
 ·match l,h5 with
  |[],_=>simp [peek1]
  |[_],_=>simp [peek1]
  |_ :: t :: r,h5=>exact h6.2 t (h5.subset (by simp))
theorem RR.cells {a:Nat} {L:List Tok} {E:Int} {n:Nat} {l:List Tok} {w:World} (h:RR a L E n l w):
  ∃ao cap,w.cell? ⟨a,0,none⟩=some (.slice ao L.length cap)∧w.cell? ⟨a,1,none⟩=some (.int .i64 ((L.length - l.length:Nat):Int))∧w.cell? ⟨a,2,none⟩=some (.int .i64 E)∧w.cell? ⟨a,3,none⟩=some (.int .i64 (n:Int))∧w.cell? ⟨a,4,none⟩=some (.int .i64 0)∧w.cell? ⟨a,5,none⟩=some (.int .i64 0)∧
   (∀j,w.frozen? ⟨a,j,none⟩=false)∧(L= []∨∃g,ao=some ⟨g,0,none⟩∧∀j t,L[j]? =some t→w.cell? ⟨g,j * 2,none⟩=some (.string (bs t.1))∧w.cell? ⟨g,j * 2+1,none⟩=some (.int .i64 t.2)):=by
 obtain⟨v,h1,h2,h5,h6,h7⟩:=h
 rcases h2.2 with ⟨hv,hn⟩ | ⟨g,cap,cur,hv2,hbb,hg,hc1,hc2,hc3,hc4⟩
 ·subst hv
  have e:L= []:=List.length_eq_zero_iff.1 hn
  subst e
  exact⟨none,0,by simp [World.cell?,h1],by simp [World.cell?,h1],by simp [World.cell?,h1],by simp [World.cell?,h1],by simp [World.cell?,h1],by simp [World.cell?,h1],fun j=>by simp [World.frozen?,h1],.inl rfl⟩
 ·subst hv2
  refine⟨some ⟨g,0,none⟩,cap,by simp [World.cell?,h1],by simp [World.cell?,h1],by simp [World.cell?,h1],by simp [World.cell?,h1],by simp [World.cell?,h1],by simp [World.cell?,h1],fun j=>by simp [World.frozen?,h1],.inr ⟨g,rfl,fun j t hj=> ?_⟩⟩
  have hc:=h2.cells (g:=g) rfl
  obtain⟨k1,k2⟩:=cellsK_at L j t hj
  have e1:=hc _ _ k1
  have e2:=hc _ _ k2
  rw [Addr.add_lit,Nat.zero_add,Nat.mul_comm] at e1 e2
  exact⟨e1,e2⟩
theorem RR.eat {a:Nat} {L:List Tok} {E:Int} {n:Nat} {l:List Tok} {w:World} (h:RR a L E n l w) (hl:l≠ []):RR a L E n l.tail (w.setCell ⟨a,1,none⟩ (.int .i64 (((L.length - l.length:Nat):Int)+1))):=by
 obtain⟨v,h1,h2,h5,h6,h7⟩:=h
 refine⟨v,?_,own_setCell h2 (own_ne h2 h1 (by decide)) _,(List.tail_suffix l).trans h5,h6,h7⟩
 rw [heap_setCell_same w a 1 _ 70 _ h1]
 have e:((L.length - l.length:Nat):Int)+1=((L.length - l.tail.length:Nat):Int):=by
  have:=h5.length_le
  cases l with
  |nil=>exact absurd rfl hl
  |cons t r=>simp at *;omega
 rw [e];rfl
theorem RR.kr {a:Nat} {w:World} (i:Nat) (x:Value):Kr a w (w.setCell ⟨a,i,none⟩ x):=(Kr.refl a w).set x
def pk (i:Nat) (l:List Tok):List UInt8:=match l[i]? with
 |some t=>t.1
 |none=> []
theorem pk0 (l:List Tok):pk 0 l=peek0 l:=by cases l <;> rfl
theorem pk1 (l:List Tok):pk 1 l=peek1 l:=by
 match l with
 |[]=>rfl
 |[_]=>rfl
 |_ :: t :: r=>rfl
theorem rpeek (i:Nat) {a:Nat} {L:List Tok} {E:Int} {n:Nat} {l:List Tok} (w:World) (h:RR a L E n l w) (hi:i≤1):
  Calls Tryz.prog 59 #[.pointer (some ⟨a,0,none⟩),.int .i64 i] w fun e w'=>e= .returned (.string (bs (pk i l)))∧Below w.heap.size w w':=by
 obtain⟨ao,cap,c0,c1,c2,c3,c4,c5,fz,hL⟩:=h.cells
 obtain⟨v,h1,h2,h5,h6,h7⟩:=h
 have hLL:=h6.1
 have hll:=h5.length_le
 by_cases hlt:L.length - l.length+i < L.length
 ·obtain⟨t,ht⟩:∃t,L[L.length - l.length+i]? =some t:=⟨_,List.getElem?_eq_getElem hlt⟩
  have HP:Hid (bs t.1=bs (pk i l)):=hide (by
   have e:=Rdr.word h5 i
   rw [ht] at e
   unfold pk;rw [←e])
  rcases hL with hL | ⟨g,rfl,hg⟩
  ·subst hL;simp at hlt
  have hc:=(hg _ t ht).1
  have hlt':(((L.length - l.length:Nat):Int)+(i:Int)) < L.length:=by omega
  have hge:¬(L.length:Int)≤((L.length - l.length:Nat):Int)+(i:Int):=by omega
  have hidx:((L.length - l.length:Nat):Int)+(i:Int)=((L.length - l.length+i:Nat):Int):=by omega
  clear hg ht h1 h2 h5 h6 fz c2 c3 c5
  generalize L.length - l.length=q at *
  obtain⟨m,hm⟩:∃m:Nat,m=q+i:=⟨_,rfl⟩
  have hw:IntKind.i64.wrap ((q:Int)+(i:Int))=(m:Int):=by rw [IntWalk.i64_in _ ⟨by omega,by omega⟩];omega
  have hg1:decide ((L.length:Int)≤(m:Int))=false:=by simp;omega
  have hm1:(m:Int) < L.length:=by omega
  have hm0:(0:Int)≤m:=by omega
  rw [←hm] at hc
  clear hge hlt hm hlt' hidx
  go_enter Tryz.func59,Tryz.ntmps59
  go_wp2_with fail
  go_quiet (fail)
  go_wp2_with fail
  go_quiet (fail)
  go_wp2_with fail
  go_ret
  exact⟨L5.ret_str HP.out,⟨rfl,rfl,rfl,Nat.le_refl _,fun _ _=>rfl⟩⟩
 ·have HP:Hid (bs []=bs (pk i l)):=hide (by
   have e:=Rdr.word h5 i
   rw [List.getElem?_eq_none (by omega)] at e
   unfold pk;rw [←e])
  have hge:(L.length:Int)≤((L.length - l.length:Nat):Int)+(i:Int):=by omega
  clear h1 h2 h5 h6 hL fz c2 c3 c5
  have hq:L.length - l.length≤L.length:=by omega
  generalize L.length - l.length=q at *
  obtain⟨m,hm⟩:∃m:Nat,m=q+i:=⟨_,rfl⟩
  have hw:IntKind.i64.wrap ((q:Int)+(i:Int))=(m:Int):=by rw [IntWalk.i64_in _ ⟨by omega,by omega⟩];omega
  have hg1:decide ((L.length:Int)≤(m:Int))=true:=by simp;omega
  have hg2:(L.length:Int)≤(m:Int):=by omega
  have hg3:L.length≤m:=by omega
  clear hge hlt hm
  go_enter Tryz.func59,Tryz.ntmps59
  go_wp2_with fail
  go_quiet (fail)
  go_wp2_with fail
  go_ret
  exact⟨L5.ret_str HP.out,⟨rfl,rfl,rfl,Nat.le_refl _,fun _ _=>rfl⟩⟩
end Go.Proofs.YtljkgcfnoegibaaGreatDoor
