/- Texts of one chain, joined. -/
import Derived.Test.YtljkgcfnoegibaaGreatDoorWcAG
import Derived.Test.YtljkgcfnoegibaaGreatDoorWcAJ
import Derived.Test.YtljkgcfnoegibaaGreatDoorWcAM
import Derived.Test.YtljkgcfnoegibaaGreatDoorWcAP
set_option maxHeartbeats 4000000
set_option maxRecDepth 20000
namespace Go.Proofs.YtljkgcfnoegibaaGreatDoor
open Go Go.RowKit
open G (Tok Er Ins Fun)
theorem rends_any (op:Int) (w:World):Calls Tryz.prog 76 #[.int .i64 op] w fun e w'=>e= .returned (.bool (endsB op))∧w'=w:=by
 go_enter Tryz.func76,Tryz.ntmps76
 go_wp2
 all_goals (go_ret;refine⟨L5.ret_bool ?_,rfl⟩;rw [Bool.eq_iff_iff];simp [endsB];try omega)
def badT (N:Nat) (t:List Int):Bool:=t.any fun m=>decide (m < 0∨(N:Int)≤m)
def badI (N:Nat) (x:Ins):Bool:=decide (x.1≠20) && badT N x.2.2.2.2.2.1
def blkGo (N n:Nat):Nat→List Ins→Int
 |_,[]=>0
 |i,x :: r=>if endsB x.1≠decide (i+1=n)then 15 else if badI N x then 7 else blkGo N n (i+1) r
def blkE (N:Nat) (b:List Ins):Int:=if b.length=0 then 15 else blkGo N b.length 0 b
def shapedGo (N:Nat):Nat→List (List Ins)→Int × Int
 |_,[]=>(0,0)
 |k,b :: r=>if blkE N b≠0 then(blkE N b,(k:Int))else shapedGo N (k+1) r
def shapedF (f:Fun):Int × Int:=if f.2.2.2.1.length=0 then(15,0)else shapedGo f.2.2.2.1.length 0 f.2.2.2.1
theorem dropE_at {α:Type} {l:List α} {i:Nat} {x:α} (h:l[i]? =some x):l.drop i=x :: l.drop (i+1):=by
 obtain⟨h1,rfl⟩:=List.getElem?_eq_some_iff.1 h
 exact List.drop_eq_getElem_cons h1
theorem blkGo_end {N n i:Nat} {x:Ins} {r:List Ins} (h:endsB x.1≠decide (i+1=n)):blkGo N n i (x :: r)=15:=by rw [blkGo,if_pos h]
theorem blkGo_bad {N n i:Nat} {x:Ins} {r:List Ins} (h:endsB x.1=decide (i+1=n)) (hb:badI N x=true):blkGo N n i (x :: r)=7:=by rw [blkGo,if_neg (by simp [h]),if_pos hb]
theorem blkGo_next {N n i:Nat} {x:Ins} {r:List Ins} (h:endsB x.1=decide (i+1=n)) (hb:badI N x=false):blkGo N n i (x :: r)=blkGo N n (i+1) r:=by rw [blkGo,if_neg (by simp [h]),if_neg (by simp [hb])]
theorem shapedGo_hit {N k:Nat} {b:List Ins} {r:List (List Ins)} {z:Int} (h:blkE N b=z) (hz:z≠0):shapedGo N k (b :: r)=(z,(k:Int)):=by rw [shapedGo,h,if_pos hz]
theorem shapedGo_next {N k:Nat} {b:List Ins} {r:List (List Ins)} (h:blkE N b=0):shapedGo N k (b :: r)=shapedGo N (k+1) r:=by rw [shapedGo,if_neg (by simp [h])]
theorem badT_drop {N:Nat} {t:List Int} {j:Nat} {m:Int} (h:t[j]? =some m):badT N (t.drop j)=(decide (m < 0∨(N:Int)≤m) || badT N (t.drop (j+1))):=by
 rw [dropE_at h];rfl
theorem two_boxes (w:World) (cs:Array Value):Below w.heap.size w ((w.alloc (.cells cs 36)).alloc (.cells #[.int .i64 0,.int .i64 0] 29))∧((w.alloc (.cells cs 36)).alloc (.cells #[.int .i64 0,.int .i64 0] 29)).heap[w.heap.size]? =some (.cells cs 36 (0,0))∧
  ((w.alloc (.cells cs 36)).alloc (.cells #[.int .i64 0,.int .i64 0] 29)).heap[w.heap.size+1]? =some (.cells #[.int .i64 0,.int .i64 0] 29 (0,0))∧w.heap.size+1 < ((w.alloc (.cells cs 36)).alloc (.cells #[.int .i64 0,.int .i64 0] 29)).heap.size:=by
 refine⟨below_step (below_box w _) (below_box _ _),(heap_alloc_old _ _ (by simp)).trans (heap_alloc_new w _),?_,by simp⟩
 have:=heap_alloc_new (w.alloc (.cells cs 36)) (.cells #[.int .i64 0,.int .i64 0] 29)
 rwa [show(w.alloc (.cells cs 36)).heap.size=w.heap.size+1 from by simp] at this
theorem err_box {w:World} {c:Nat} {a b:Value} (h:w.heap[c]? =some (.cells #[a,b] 29 (0,0))):w.cell? ⟨c,0,none⟩=some a∧w.cell? ⟨c,1,none⟩=some b∧w.frozen? ⟨c,0,none⟩=false∧w.frozen? ⟨c,1,none⟩=false:=by
 simp [World.cell?,World.frozen?,h]
theorem err_below {w W wr:World} {a b:Value} (h0:Below w.heap.size w W) (h:Below W.heap.size W wr):Below w.heap.size w ((wr.setCell ⟨w.heap.size+1,0,none⟩ a).setCell ⟨w.heap.size+1,1,none⟩ b):=
 ((below_step h0 h).setCell (p:=⟨w.heap.size+1,0,none⟩) (Nat.le_succ _) a).setCell (p:=⟨w.heap.size+1,1,none⟩) (Nat.le_succ _) b
theorem rshaped_try (nm:List UInt8) (ps:List Int) (rt pl:Int) (bl:List (List Ins)) (ao bo:Option Addr) (c cb:Nat) (w:World)
  (hv:FunV w (nm,ps,rt,bl,pl) (.agg #[.string (bs nm),.slice ao ps.length c,.int .i64 rt,.slice bo bl.length cb,.int .i64 pl])):
  Calls Tryz.prog 42 #[.agg #[.string (bs nm),.slice ao ps.length c,.int .i64 rt,.slice bo bl.length cb,.int .i64 pl]] w fun e w'=>e= .returned (.agg #[.int .i64 (shapedF (nm,ps,rt,bl,pl)).1,.int .i64 (shapedF (nm,ps,rt,bl,pl)).2])∧Below w.heap.size w w':=by
 obtain⟨b0,h0,h1,hz0⟩:=two_boxes w #[.string (bs nm),.slice ao ps.length c,.int .i64 rt,.slice bo bl.length cb,.int .i64 pl]
 have H0:=hide h0
 have H1:=hide h1
 have HV:=hide (hv.below b0)
 have B0:=hide b0
 have hbc:bl.length≤cb∧cb≤maxLen:=by
  obtain⟨vp,vb,e,_,⟨ao',c',e',h1,h2,_⟩⟩:=hv
  injection e with e
  have e3:=congrArg (fun a=>a[3]?) e
  simp at e3
  subst e3
  injection e' with e1 e2 e3
  subst e3
  exact⟨h1,h2⟩
 have hz2:w.heap.size < ((w.alloc (.cells #[.string (bs nm),.slice ao ps.length c,.int .i64 rt,.slice bo bl.length cb,.int .i64 pl] 36)).alloc (.cells #[.int .i64 0,.int .i64 0] 29)).heap.size:=by omega
 unfold maxLen at hbc
 clear b0 h0 h1 hv
 go_enter Tryz.func42,Tryz.ntmps42
 go_upto_region 1 with fail
 show Code.wp _ _ _ _ ((w.alloc (.cells #[.string (bs nm),.slice ao ps.length c,.int .i64 rt,.slice bo bl.length cb,.int .i64 pl] 36)).alloc (.cells #[.int .i64 0,.int .i64 0] 29))
 generalize (w.alloc (.cells #[.string (bs nm),.slice ao ps.length c,.int .i64 rt,.slice bo bl.length cb,.int .i64 pl] 36)).alloc (.cells #[.int .i64 0,.int .i64 0] 29)=W at *
 obtain⟨x0,x1,x2,x3,x4⟩:=box5 H0.out
 by_cases hn0:bl.length=0
 ·have HE:Hid (shapedF (nm,ps,rt,bl,pl)=(15,0)):=hide (if_pos hn0)
  obtain⟨d0,d1,z0,z1⟩:=err_box H1.out
  go_wp2_with fail
  exact bodyPost_ret (v:= .agg #[.int .i64 15,.int .i64 0]) (by simp [results,Tryz.results42,go_sem,d0,d1]) rfl ⟨by rw [HE.out],err_below B0.out (Below.refl _ _)⟩
 have hn1:((bl.length:Int) == 0)=false:=by simpa using hn0
 have HB:Hid (BlksR W bl (.slice bo bl.length cb)):=hide (by
  obtain⟨vp,vb,e,_,hB⟩:=HV.out
  injection e with e
  have e3:=congrArg (fun a=>a[3]?) e
  simp at e3
  rw [e3];exact hB)
 have HS:Hid (shapedF (nm,ps,rt,bl,pl)=shapedGo bl.length 0 bl):=hide (if_neg hn0)
 go_wp2_with fail
 clear x0 x1 x2 x3 x4
 go_loopw [3] (fun i wr=>∃K:Nat,K≤bl.length∧i= .int .i64 K∧Hid (shapedF (nm,ps,rt,bl,pl)=shapedGo bl.length K (bl.drop K))∧Hid (Below W.heap.size W wr)) (fun i _=>bl.length - (intOf i).toNat)
 case atStart=>exact⟨0,Nat.zero_le _,rfl,HS,hide (Below.refl _ _)⟩
 case round=>
  obtain⟨K,hK,rfl,HR,HW⟩:=hrel
  obtain⟨x0,x1,x2,x3,x4⟩:=box5 ((HW.out.block _ hz2).trans H0.out)
  by_cases hkt:K < bl.length
  ·obtain⟨b,hbK⟩:∃b,bl[K]? =some b:=⟨bl[K],List.getElem?_eq_getElem hkt⟩
   have hkI:(K:Int) < bl.length:=by omega
   obtain⟨_,_,e',l1,l2,l3⟩:=HB.out
   injection e' with e1 e2 e4
   subst e1 e4
   rcases l3 with l3 | ⟨gc,oc,rfl,gk,h2⟩
   ·subst l3;simp at hkt
   obtain⟨vk,kd,aok,capk,rfl,m1,m2,kk⟩:=h2 K b hbK
   have c1:=(HW.out.cell (p:=⟨gc,oc+K,none⟩) gk).trans kd
   have HR2:=hide (HR.out.trans (by rw [dropE_at hbK]))
   have HKK:=hide kk
   have KD:=hide kd
   unfold maxLen at m2
   clear kd kk h2 hbK e2 HR
   go_wp2_with fail
   clear x0 x1 x2 x3 x4 c1
   have HW0:=HW
   clear HW
   go_loopw [5] (fun i wq=>∃I:Nat,I≤b.length∧i= .int .i64 I∧Hid (blkGo bl.length b.length 0 b=blkGo bl.length b.length I (b.drop I))∧Hid (Below W.heap.size W wq)) (fun i _=>b.length - (intOf i).toNat)
   case atStart=>exact⟨0,Nat.zero_le _,rfl,hide rfl,HW0⟩
   case round=>
    clear HW0
    obtain⟨I,hI,rfl,HI,HW⟩:=hrel
    obtain⟨x0,x1,x2,x3,x4⟩:=box5 ((HW.out.block _ hz2).trans H0.out)
    have c1:=(HW.out.cell (p:=⟨gc,oc+K,none⟩) gk).trans KD.out
    by_cases hit:I < b.length
    ·have hiI:(I:Int) < b.length:=by omega
     obtain⟨x,hx⟩:∃x,b[I]? =some x:=⟨b[I],List.getElem?_eq_getElem hit⟩
     rcases HKK.out with e0 | ⟨gi,oi,rfl,kk⟩
     ·subst e0;simp at hit
     have HI2:=hide (HI.out.trans (by rw [dropE_at hx]))
     obtain⟨ai,ti,ca,ct,hv,r0,r1,r2,r3,r4,r5,r6,r7⟩:=((kk I _ hx).below HW.out).val
     obtain⟨op,id,nn,ty,ar,tt,na,pp⟩:=x
     dsimp only at hv r0 r1 r2 r3 r4 r5 r6 r7
     have HSt:Hid (Sl wr ti tt∧tt.length≤maxLen):=hide (by
      obtain⟨a1,t1,c1,c2,e,s1,s2,_,_,s5,s6⟩:=hv
      injection e with e
      have e2:=congrArg (fun a=>a[5]?) e
      simp at e2
      rw [e2.1];exact⟨s2,Nat.le_trans s5 s6⟩)
     have B7:=hide (below_box wr (.cells #[.int .i64 op,.int .i64 id,.int .i64 nn,.int .i64 ty,.slice ai ar.length ca,.slice ti tt.length ct,.string (bs na),.int .i64 pp] 47))
     have H7:=hide (heap_alloc_new wr (.cells #[.int .i64 op,.int .i64 id,.int .i64 nn,.int .i64 ty,.slice ai ar.length ca,.slice ti tt.length ct,.string (bs na),.int .i64 pp] 47))
     have hbn:¬b.length=0:=by omega
     have HBE:Hid (blkE bl.length b=blkGo bl.length b.length 0 b):=hide (if_neg hbn)
     clear kk hx hv HI
     go_wp2_with fail
     refine(rends_any op _).mono ?_;rintro e w8 ⟨rfl,rfl⟩
     have HW8:=hide (below_step HW.out B7.out)
     have hwl:wr.heap.size < (wr.alloc (.cells #[.int .i64 op,.int .i64 id,.int .i64 nn,.int .i64 ty,.slice ai ar.length ca,.slice ti tt.length ct,.string (bs na),.int .i64 pp] 47)).heap.size:=by simp
     obtain⟨s0,s1,s2,s3,s4,s5,s6,s7⟩:=box8 H7.out
     have HSt8:Hid (Sl (wr.alloc (.cells #[.int .i64 op,.int .i64 id,.int .i64 nn,.int .i64 ty,.slice ai ar.length ca,.slice ti tt.length ct,.string (bs na),.int .i64 pp] 47)) ti tt):=hide (HSt.out.1.below B7.out)
     have htl:tt.length≤maxLen:=HSt.out.2
     unfold maxLen at htl
     obtain⟨y0,y1,y2,y3,y4⟩:=box5 ((HW8.out.block _ hz2).trans H0.out)
     generalize wr.alloc (.cells #[.int .i64 op,.int .i64 id,.int .i64 nn,.int .i64 ty,.slice ai ar.length ca,.slice ti tt.length ct,.string (bs na),.int .i64 pp] 47)=W8 at *
     clear x0 x1 x2 x3 x4 c1 r0 r1 r2 r3 r4 r5 r6 r7 B7 H7 HW HSt
     have SS:=hide (And.intro s0 s5)
     by_cases hlast:I+1=b.length
     ·have hlI:((I:Int)+1 == (b.length:Int))=true:=by simpa using (by omega:(I:Int)+1=b.length)
      cases he:endsB op with
      |false=>
       have HEE:Hid (shapedF (nm,ps,rt,bl,pl)=(15,(K:Int))):=hide (HR2.out.trans (shapedGo_hit (HBE.out.trans (HI2.out.trans (blkGo_end (by simp [he,hlast])))) (by decide)))
       obtain⟨d0,d1,z0,z1⟩:=err_box ((HW8.out.block _ hz0).trans H1.out)
       go_wp2_with fail
       exact bodyPost_ret (v:= .agg #[.int .i64 15,.int .i64 (K:Int)]) (by simp [results,Tryz.results42,go_sem,d0,d1]) rfl ⟨by rw [HEE.out],err_below B0.out HW8.out⟩
      |true=>
       have HEq:Hid (endsB op=decide (I+1=b.length)):=hide (by simp [he,hlast])
       have HBad:Hid (badI bl.length (op,id,nn,ty,ar,tt,na,pp)=true→shapedF (nm,ps,rt,bl,pl)=(7,(K:Int))):=hide (fun h=>HR2.out.trans (shapedGo_hit (HBE.out.trans (HI2.out.trans (blkGo_bad HEq.out h))) (by decide)))
       have HOk:Hid (badI bl.length (op,id,nn,ty,ar,tt,na,pp)=false→blkGo bl.length b.length 0 b=blkGo bl.length b.length (I+1) (b.drop (I+1))):=hide (fun h=>HI2.out.trans (blkGo_next HEq.out h))
       replace he:=hide he
       go_wp2_with fail
       clear s0 s1 s2 s3 s4 s5 s6 s7 y0 y1 y2 y3 y4
       have S8:Hid (W8.cell? ⟨wr.heap.size,0,none⟩=some (.int .i64 op)∧W8.cell? ⟨wr.heap.size,5,none⟩=some (.slice ti tt.length ct)):=SS
       generalize wr.heap.size=q at *
       go_loopw [7] (fun i wq=>∃J:Nat,J≤tt.length∧i= .int .i64 J∧Hid (badT bl.length tt=badT bl.length (tt.drop J))∧Hid (Below W8.heap.size W8 wq)) (fun i _=>tt.length - (intOf i).toNat)
       case atStart=>exact⟨0,Nat.zero_le _,rfl,hide rfl,hide (Below.refl _ _)⟩
       case round=>
        obtain⟨J,hJ,rfl,HJ,HB9⟩:=hrel
        have HW9:=hide (below_step HW8.out HB9.out)
        have s0:=(HB9.out.cell (p:=⟨q,0,none⟩) hwl).trans S8.out.1
        have s5:=(HB9.out.cell (p:=⟨q,5,none⟩) hwl).trans S8.out.2
        by_cases hjt:J < tt.length
        ·have hjI:(J:Int) < tt.length:=by omega
         by_cases hop:op=20
         ·have hop':(op != 20)=false:=by simpa using hop
          have HE:=hide (HOk.out (by simp [badI,hop]))
          go_wp2_with fail
          go_roundw
          case rel=>exact⟨I+1,by omega,by go_num,HE,HW9⟩
          case measure=>simp [intOf];omega
         ·have hop':(op != 20)=true:=by simpa using hop
          obtain⟨m,hm⟩:∃m,tt[J]? =some m:=⟨tt[J],List.getElem?_eq_getElem hjt⟩
          rcases HSt8.out with e0 | ⟨tb,to2,rfl,t1,t2⟩
          ·subst e0;simp at hjt
          have c9:=(HB9.out.cell (p:=⟨tb,to2+J,none⟩) t1).trans (t2 J m hm)
          have HJ2:=hide (HJ.out.trans (badT_drop hm))
          obtain⟨y0,y1,y2,y3,y4⟩:=box5 ((HW9.out.block _ hz2).trans H0.out)
          have hq9:q < wr.heap.size:=Nat.lt_of_lt_of_le hwl HB9.out.size
          have ht9:tb < wr.heap.size:=Nat.lt_of_lt_of_le t1 HB9.out.size
          have hf9:w.heap.size < wr.heap.size:=Nat.lt_of_lt_of_le hz2 HW9.out.size
          have f1:=fun x=>((L5.grewTo_below wr x).cell (p:=⟨q,5,none⟩) hq9).trans s5
          have f2:=fun x=>((L5.grewTo_below wr x).cell (p:=⟨tb,to2+J,none⟩) ht9).trans c9
          have f3:=fun x=>((L5.grewTo_below wr x).cell (p:=⟨w.heap.size,3,none⟩) hf9).trans y3
          have HX:=hide (fun x=>below_step HW9.out (L5.grewTo_below wr x))
          have HX9:=hide (fun x=>below_step HB9.out (L5.grewTo_below wr x))
          clear t2 hm y0 y1 y2 y4 c9
          by_cases hneg:m < 0
          ·have HE:=hide (HBad.out (by simp only [badI,HJ2.out];simp [hop,hneg]))
           go_wp2_with fail
           refine L5.region_grew (by kernel_rfl) (by kernel_rfl) ?_
           repeat (go_big_quiet_step (fail))
           refine wpQuiet_nil ?_
           rintro _ ⟨x,rfl⟩
           obtain⟨d0,d1,z0,z1⟩:=err_box (((HX.out x).block _ hz0).trans H1.out)
           go_wp2_with fail
           exact bodyPost_ret (v:= .agg #[.int .i64 7,.int .i64 (K:Int)]) (by simp [results,Tryz.results42,go_sem,d0,d1]) rfl ⟨by rw [HE.out],err_below B0.out (HX.out x)⟩
          ·have hdn:decide (m < 0)=false:=by simpa using hneg
           by_cases hbig:(bl.length:Int)≤m
           ·have HE:=hide (HBad.out (by simp only [badI,HJ2.out];simp [hop,hneg,hbig]))
            go_wp2_with fail
            refine L5.region_grew (by kernel_rfl) (by kernel_rfl) ?_
            repeat (go_big_quiet_step (fail))
            refine wpQuiet_nil ?_
            rintro _ ⟨x,rfl⟩
            obtain⟨d0,d1,z0,z1⟩:=err_box (((HX.out x).block _ hz0).trans H1.out)
            go_wp2_with fail
            exact bodyPost_ret (v:= .agg #[.int .i64 7,.int .i64 (K:Int)]) (by simp [results,Tryz.results42,go_sem,d0,d1]) rfl ⟨by rw [HE.out],err_below B0.out (HX.out x)⟩
           ·have HE:Hid (badT bl.length tt=badT bl.length (tt.drop (J+1))):=hide (by rw [HJ2.out];simp [hneg,hbig])
            go_wp2_with fail
            refine L5.region_grew (by kernel_rfl) (by kernel_rfl) ?_
            repeat (go_big_quiet_step (fail))
            refine wpQuiet_nil ?_
            rintro _ ⟨x,rfl⟩
            have HX9x:=hide (HX9.out x)
            go_wp2_with fail
            go_roundw
            case rel=>exact⟨J+1,by omega,by go_num,HE,HX9x⟩
            case measure=>simp [intOf];omega
        ·obtain rfl:J=tt.length:=by omega
         have HE:=hide (HOk.out (by simp only [badI,HJ.out,List.drop_length];simp [badT]))
         go_wp2_with fail
         go_roundw
         case rel=>exact⟨I+1,by omega,by go_num,HE,HW9⟩
         case measure=>simp [intOf];omega
     ·have hlI:((I:Int)+1 == (b.length:Int))=false:=beq_eq_false_iff_ne.2 (by omega)
      cases he:endsB op with
      |true=>
       have HEE:Hid (shapedF (nm,ps,rt,bl,pl)=(15,(K:Int))):=hide (HR2.out.trans (shapedGo_hit (HBE.out.trans (HI2.out.trans (blkGo_end (by simp [he,hlast])))) (by decide)))
       obtain⟨d0,d1,z0,z1⟩:=err_box ((HW8.out.block _ hz0).trans H1.out)
       go_wp2_with fail
       exact bodyPost_ret (v:= .agg #[.int .i64 15,.int .i64 (K:Int)]) (by simp [results,Tryz.results42,go_sem,d0,d1]) rfl ⟨by rw [HEE.out],err_below B0.out HW8.out⟩
      |false=>
       have HEq:Hid (endsB op=decide (I+1=b.length)):=hide (by simp [he,hlast])
       have HBad:Hid (badI bl.length (op,id,nn,ty,ar,tt,na,pp)=true→shapedF (nm,ps,rt,bl,pl)=(7,(K:Int))):=hide (fun h=>HR2.out.trans (shapedGo_hit (HBE.out.trans (HI2.out.trans (blkGo_bad HEq.out h))) (by decide)))
       have HOk:Hid (badI bl.length (op,id,nn,ty,ar,tt,na,pp)=false→blkGo bl.length b.length 0 b=blkGo bl.length b.length (I+1) (b.drop (I+1))):=hide (fun h=>HI2.out.trans (blkGo_next HEq.out h))
       replace he:=hide he
       go_wp2_with fail
       clear s0 s1 s2 s3 s4 s5 s6 s7 y0 y1 y2 y3 y4
       have S8:Hid (W8.cell? ⟨wr.heap.size,0,none⟩=some (.int .i64 op)∧W8.cell? ⟨wr.heap.size,5,none⟩=some (.slice ti tt.length ct)):=SS
       generalize wr.heap.size=q at *
       go_loopw [7] (fun i wq=>∃J:Nat,J≤tt.length∧i= .int .i64 J∧Hid (badT bl.length tt=badT bl.length (tt.drop J))∧Hid (Below W8.heap.size W8 wq)) (fun i _=>tt.length - (intOf i).toNat)
       case atStart=>exact⟨0,Nat.zero_le _,rfl,hide rfl,hide (Below.refl _ _)⟩
       case round=>
        obtain⟨J,hJ,rfl,HJ,HB9⟩:=hrel
        have HW9:=hide (below_step HW8.out HB9.out)
        have s0:=(HB9.out.cell (p:=⟨q,0,none⟩) hwl).trans S8.out.1
        have s5:=(HB9.out.cell (p:=⟨q,5,none⟩) hwl).trans S8.out.2
        by_cases hjt:J < tt.length
        ·have hjI:(J:Int) < tt.length:=by omega
         by_cases hop:op=20
         ·have hop':(op != 20)=false:=by simpa using hop
          have HE:=hide (HOk.out (by simp [badI,hop]))
          go_wp2_with fail
          go_roundw
          case rel=>exact⟨I+1,by omega,by go_num,HE,HW9⟩
          case measure=>simp [intOf];omega
         ·have hop':(op != 20)=true:=by simpa using hop
          obtain⟨m,hm⟩:∃m,tt[J]? =some m:=⟨tt[J],List.getElem?_eq_getElem hjt⟩
          rcases HSt8.out with e0 | ⟨tb,to2,rfl,t1,t2⟩
          ·subst e0;simp at hjt
          have c9:=(HB9.out.cell (p:=⟨tb,to2+J,none⟩) t1).trans (t2 J m hm)
          have HJ2:=hide (HJ.out.trans (badT_drop hm))
          obtain⟨y0,y1,y2,y3,y4⟩:=box5 ((HW9.out.block _ hz2).trans H0.out)
          have hq9:q < wr.heap.size:=Nat.lt_of_lt_of_le hwl HB9.out.size
          have ht9:tb < wr.heap.size:=Nat.lt_of_lt_of_le t1 HB9.out.size
          have hf9:w.heap.size < wr.heap.size:=Nat.lt_of_lt_of_le hz2 HW9.out.size
          have f1:=fun x=>((L5.grewTo_below wr x).cell (p:=⟨q,5,none⟩) hq9).trans s5
          have f2:=fun x=>((L5.grewTo_below wr x).cell (p:=⟨tb,to2+J,none⟩) ht9).trans c9
          have f3:=fun x=>((L5.grewTo_below wr x).cell (p:=⟨w.heap.size,3,none⟩) hf9).trans y3
          have HX:=hide (fun x=>below_step HW9.out (L5.grewTo_below wr x))
          have HX9:=hide (fun x=>below_step HB9.out (L5.grewTo_below wr x))
          clear t2 hm y0 y1 y2 y4 c9
          by_cases hneg:m < 0
          ·have HE:=hide (HBad.out (by simp only [badI,HJ2.out];simp [hop,hneg]))
           go_wp2_with fail
           refine L5.region_grew (by kernel_rfl) (by kernel_rfl) ?_
           repeat (go_big_quiet_step (fail))
           refine wpQuiet_nil ?_
           rintro _ ⟨x,rfl⟩
           obtain⟨d0,d1,z0,z1⟩:=err_box (((HX.out x).block _ hz0).trans H1.out)
           go_wp2_with fail
           exact bodyPost_ret (v:= .agg #[.int .i64 7,.int .i64 (K:Int)]) (by simp [results,Tryz.results42,go_sem,d0,d1]) rfl ⟨by rw [HE.out],err_below B0.out (HX.out x)⟩
          ·have hdn:decide (m < 0)=false:=by simpa using hneg
           by_cases hbig:(bl.length:Int)≤m
           ·have HE:=hide (HBad.out (by simp only [badI,HJ2.out];simp [hop,hneg,hbig]))
            go_wp2_with fail
            refine L5.region_grew (by kernel_rfl) (by kernel_rfl) ?_
            repeat (go_big_quiet_step (fail))
            refine wpQuiet_nil ?_
            rintro _ ⟨x,rfl⟩
            obtain⟨d0,d1,z0,z1⟩:=err_box (((HX.out x).block _ hz0).trans H1.out)
            go_wp2_with fail
            exact bodyPost_ret (v:= .agg #[.int .i64 7,.int .i64 (K:Int)]) (by simp [results,Tryz.results42,go_sem,d0,d1]) rfl ⟨by rw [HE.out],err_below B0.out (HX.out x)⟩
           ·have HE:Hid (badT bl.length tt=badT bl.length (tt.drop (J+1))):=hide (by rw [HJ2.out];simp [hneg,hbig])
            go_wp2_with fail
            refine L5.region_grew (by kernel_rfl) (by kernel_rfl) ?_
            repeat (go_big_quiet_step (fail))
            refine wpQuiet_nil ?_
            rintro _ ⟨x,rfl⟩
            have HX9x:=hide (HX9.out x)
            go_wp2_with fail
            go_roundw
            case rel=>exact⟨J+1,by omega,by go_num,HE,HX9x⟩
            case measure=>simp [intOf];omega
        ·obtain rfl:J=tt.length:=by omega
         have HE:=hide (HOk.out (by simp only [badI,HJ.out,List.drop_length];simp [badT]))
         go_wp2_with fail
         go_roundw
         case rel=>exact⟨I+1,by omega,by go_num,HE,HW9⟩
         case measure=>simp [intOf];omega
    ·obtain rfl:I=b.length:=by omega
     have HE:=HI.out
     rw [List.drop_length] at HE
     by_cases hbn:b.length=0
     ·have hbn':((b.length:Int) == 0)=true:=by simpa using hbn
      have HEE:Hid (shapedF (nm,ps,rt,bl,pl)=(15,(K:Int))):=hide (HR2.out.trans (shapedGo_hit (if_pos hbn) (by decide)))
      obtain⟨d0,d1,z0,z1⟩:=err_box ((HW.out.block _ hz0).trans H1.out)
      clear HE
      go_wp2_with fail
      exact bodyPost_ret (v:= .agg #[.int .i64 15,.int .i64 (K:Int)]) (by simp [results,Tryz.results42,go_sem,d0,d1]) rfl ⟨by rw [HEE.out],err_below B0.out HW.out⟩
     ·have hbn':((b.length:Int) == 0)=false:=by simpa using hbn
      have HEE:Hid (shapedF (nm,ps,rt,bl,pl)=shapedGo bl.length (K+1) (bl.drop (K+1))):=hide (HR2.out.trans (shapedGo_next ((if_neg hbn).trans HE)))
      clear HE
      go_wp2_with fail
      go_roundw
      case rel=>exact⟨K+1,by omega,by go_num,HEE,HW⟩
      case measure=>simp [intOf];omega
  ·obtain rfl:K=bl.length:=by omega
   have HE:=HR.out
   rw [List.drop_length] at HE
   replace HE:Hid (shapedF (nm,ps,rt,bl,pl)=(0,0)):=hide HE
   obtain⟨d0,d1,z0,z1⟩:=err_box ((HW.out.block _ hz0).trans H1.out)
   go_wp2_with fail
   exact bodyPost_ret (v:= .agg #[.int .i64 0,.int .i64 0]) (by simp [results,Tryz.results42,go_sem,d0,d1]) rfl ⟨by rw [HE.out],err_below B0.out HW.out⟩
def fstN {α:Type} (g:Nat→Option α) (n:Nat):Option α:=(List.range n).findSome? g
theorem fstN_none {α:Type} {g:Nat→Option α} {n:Nat} (h:∀j,j < n→g j=none):fstN g n=none:=by
 unfold fstN
 rw [List.findSome?_eq_none_iff]
 intro j hj
 exact h j (by simpa using hj)
theorem fstN_some {α:Type} {g:Nat→Option α} {n K:Nat} {a:α} (h:∀j,j < K→g j=none) (hK:K < n) (ha:g K=some a):fstN g n=some a:=by
 unfold fstN
 have e:List.range n=List.range K ++ (List.range (n - K)).map (K+ ·):=by
  have h1:=List.range_add (n:=K) (m:=n - K)
  rwa [show K+(n - K)=n by omega] at h1
 rw [e,List.findSome?_append,List.findSome?_eq_none_iff.2 (fun j hj=>h j (by simpa using hj))]
 obtain⟨m,hm⟩:∃m,n - K=m+1:=⟨n - K - 1,by omega⟩
 rw [hm,List.range_succ_eq_map]
 simp [ha]
theorem fstN_all {α:Type} {g:Nat→Option α} {n:Nat} (h:fstN g n=none):∀j,j < n→g j=none:=by
 intro j hj
 unfold fstN at h
 rw [List.findSome?_eq_none_iff] at h
 exact h j (by simpa using hj)
theorem fstN_at {α:Type} {g:Nat→Option α}:∀ {n:Nat} {a:α},fstN g n=some a→∃K,K < n∧g K=some a∧∀j,j < K→g j=none:=by
 intro n
 induction n with
 |zero=>intro a h;simp [fstN] at h
 |succ n ih=>
  intro a h
  unfold fstN at h ih
  rw [List.range_succ,List.findSome?_append] at h
  cases h1:(List.range n).findSome? g with
  |some b=>
   rw [h1] at h
   obtain⟨K,h2,h3,h4⟩:=ih h1
   simp at h
   subst h
   exact⟨K,by omega,h3,h4⟩
  |none=>
   rw [h1] at h
   simp at h
   exact⟨n,by omega,h,fstN_all h1⟩
abbrev ins0:Ins:=(0,0,0,0,[],[],[],0)
abbrev fun0:Fun:=([],[],0,[],0)
def blkN (f:Fun) (k:Nat):List Ins:=f.2.2.2.1.getD k []
def insN (f:Fun) (k i:Nat):Ins:=(blkN f k).getD i ins0
def funN (p:List Fun) (i:Nat):Fun:=p.getD i fun0
theorem blkN_at {f:Fun} {k:Nat} (h:k < f.2.2.2.1.length):f.2.2.2.1[k]? =some (blkN f k):=by
 unfold blkN;rw [List.getD_eq_getElem?_getD,List.getElem?_eq_getElem h];rfl
theorem insN_at {f:Fun} {k i:Nat} (h:i < (blkN f k).length):(blkN f k)[i]? =some (insN f k i):=by
 unfold insN;rw [List.getD_eq_getElem?_getD,List.getElem?_eq_getElem h];rfl
theorem funN_at {p:List Fun} {i:Nat} (h:i < p.length):p[i]? =some (funN p i):=by
 unfold funN;rw [List.getD_eq_getElem?_getD,List.getElem?_eq_getElem h];rfl
theorem funN_of {p:List Fun} {i:Nat} {f:Fun} (h:p[i]? =some f):funN p i=f:=by
 unfold funN;rw [List.getD_eq_getElem?_getD,h];rfl
def mkX (x:Ins):Int:=L5.imakes x.1 x.2.2.2.1
def hitX (id:Int) (x:Ins):Bool:=decide (x.2.1=id) && decide (mkX x≠0)
abbrev Plc:=Int × Int × Int × Bool
def scanG (f:Fun) (id:Int) (k i:Nat):Option Plc:=if hitX id (insN f k i)then some ((k:Int),(i:Int),mkX (insN f k i),true)else none
def scanB (f:Fun) (id:Int) (k lim:Nat):Option Plc:=fstN (scanG f id k) (min lim (blkN f k).length)
def limB (f:Fun) (K J k:Nat):Nat:=if k < K then(blkN f k).length else J
def scanF (f:Fun) (id:Int) (K J:Nat):Option Plc:=fstN (fun k=>scanB f id k (limB f K J k)) (min (K+1) f.2.2.2.1.length)
def isPar (f:Fun) (id:Int):Bool:=decide (0≤id) && decide (id < f.2.1.length)
def madeF (f:Fun) (id:Int) (K J:Nat):Plc:=if isPar f id then(0,-1,f.2.1.getD id.toNat 0,true)else(scanF f id K J).getD (0,0,0,false)
def findF (p:List Fun) (nm:List UInt8):Option Fun:=fstN (fun i=>if(funN p i).1=nm then some (funN p i)else none) p.length
def dupB (p:List Fun) (i k:Nat):Bool:=decide ((funN p i).1=(funN p k).1)
def dupF (p:List Fun):Option (Int × Int):=fstN (fun i=>(fstN (fun k=>if dupB p i k then some ((5:Int),(funN p i).2.2.2.2)else none) i)) p.length
abbrev mainN:List UInt8:= [109,97,105,110]
def namesF (p:List Fun):Int × Int:=match dupF p with
 |some e=>e
 |none=>match findF p mainN with
  |none=>(12,0)
  |some m=>if hasL m.2.1 2 then(13,m.2.2.2.2)else(0,0)
def phiF (f:Fun) (k i:Nat):Bool:=(decide (i=0) || decide ((insN f k (i - 1)).1=20)) && decide ((insN f k i).2.2.2.2.2.1.length=((predsF f).getD k []).length) && ((predsF f).getD k []).all fun b=>hasL (insN f k i).2.2.2.2.2.1 b
def laterX (x:Ins):Bool:=decide (x.1=23) || decide (x.1=24) || decide (x.1=25) || (decide (x.1=21) && decide (x.2.2.1≠0))
def valC (f:Fun) (k i:Nat) (src:Bool):Int:=
 if(decide (mkX (insN f k i)≠0) && (madeF f (insN f k i).2.1 k i).2.2.2)=true then 5
 else if(decide ((insN f k i).1=20) && !phiF f k i)=true then 11
 else if(src && laterX (insN f k i))=true then 2 else 0
def headX (p:List Fun) (f:Fun) (x:Ins):Int:=
 if(decide (x.1=28) && (decide (f.2.2.1=0) != decide (x.2.2.2.2.1.length=0)))=true then 13
 else if x.1≠21 then 0
 else match findF p x.2.2.2.2.2.2.1 with
  |none=>12
  |some g=>if g.2.2.1≠x.2.2.2.1 then 9 else if g.2.1.length≠x.2.2.2.2.1.length then 13 else 0
def wantX (p:List Fun) (f:Fun) (x:Ins) (n:Nat):Int:=
 if x.1=20∨x.1=24 then x.2.2.2.1 else if x.1=28 then f.2.2.1 else if x.1=21 then((findF p x.2.2.2.2.2.2.1).getD fun0).2.1.getD n 0 else(L5.takes (L5.num x.1)).getD n 0
def takC (p:List Fun) (f:Fun) (k i n:Nat):Int:=
 let x:=insN f k i
 let m:=madeF f (x.2.2.2.2.1.getD n 0) f.2.2.2.1.length 0
 if m.2.2.2=false then 8 else if m.2.2.1≠wantX p f x n then 9 else if m.2.1 < 0 then 0
 else if x.1=20 then(if aheadB (succsF f) m.1 (x.2.2.2.2.2.1.getD n 0)then 0 else 10)
 else if(decide (m.1=k) && decide ((i:Int)≤m.2.1))=true then 10 else if(decide (m.1≠k) && !aheadB (succsF f) m.1 k)=true then 10 else 0
def takN (p:List Fun) (f:Fun) (k i n:Nat):Option Int:=if takC p f k i n≠0 then some (takC p f k i n)else none
def lookC (p:List Fun) (f:Fun) (k i:Nat):Int:=if headX p f (insN f k i)≠0 then headX p f (insN f k i)else(fstN (takN p f k i) (insN f k i).2.2.2.2.1.length).getD 0
def reachB (f:Fun):Bool:=decide ((orderF f).length=f.2.2.2.1.length) && decide (((predsF f).getD 0 []).length=0)
def atC (c at_:Int):Option (Int × Int):=if c≠0 then some (c,at_)else none
def valuesF (f:Fun) (src:Bool):Option (Int × Int):=fstN (fun k=>fstN (fun i=>atC (valC f k i src) (insN f k i).2.2.2.2.2.2.2) (blkN f k).length) f.2.2.2.1.length
def looksF (p:List Fun) (f:Fun):Option (Int × Int):=fstN (fun k=>fstN (fun i=>atC (lookC p f k i) (insN f k i).2.2.2.2.2.2.2) (blkN f k).length) f.2.2.2.1.length
def funcE (p:List Fun) (f:Fun) (src:Bool):Int × Int:=
 if(shapedF f).1≠0 then((shapedF f).1,f.2.2.2.2)else if reachB f=false then(14,f.2.2.2.2)
 else match valuesF f src with
  |some e=>e
  |none=>(looksF p f).getD (0,0)
def funcO (p:List Fun) (src:Bool) (i:Nat):Option (Int × Int):=if(funcE p (funN p i) src).1≠0 then some (funcE p (funN p i) src)else none
def checkP (p:List Fun) (src:Bool):Int × Int:=
 if(wholeF 0 0 p).1≠0 then((wholeF 0 0 p).1,(funN p (wholeF 0 0 p).2.toNat).2.2.2.2)
 else if(namesF p).1≠0 then namesF p
 else(fstN (funcO p src) p.length).getD (0,0)
end Go.Proofs.YtljkgcfnoegibaaGreatDoor
