/- Texts of one chain, joined. -/
import Derived.Test.YtljkgcfnoegibaaGreatDoorZAAS
import Derived.Test.YtljkgcfnoegibaaGreatDoorZCAD
set_option maxHeartbeats 4000000
set_option maxRecDepth 20000
namespace Go.Proofs.YtljkgcfnoegibaaGreatDoor
open Go Go.RowKit
open G (Tok Er Ins Fun)
def Gt (m:Plc):Value:= .agg #[.int .i64 m.1,.int .i64 m.2.1,.int .i64 m.2.2.1,.bool m.2.2.2]
theorem lG {w:World} {b t:Nat} {a0 a1 a2 a3:Value} (h:w.heap[b]? =some (.cells #[a0,a1,a2,a3] t (0,0))):(w.cell? ⟨b,0,none⟩=some a0∧w.cell? ⟨b,1,none⟩=some a1∧w.cell? ⟨b,2,none⟩=some a2∧w.cell? ⟨b,3,none⟩=some a3)∧(w.frozen? ⟨b,0,none⟩=false∧w.frozen? ⟨b,1,none⟩=false∧w.frozen? ⟨b,2,none⟩=false∧w.frozen? ⟨b,3,none⟩=false)∧b < w.heap.size:=by
 refine⟨⟨?_,?_,?_,?_⟩,⟨?_,?_,?_,?_⟩,(Array.getElem?_eq_some_iff.1 h).1⟩ <;> simp [World.cell?,World.frozen?,h]
theorem nJ (f:Fun) (id:Int) (K J:Nat) (v:Value) (w:World) (hv:cg w f v) (hF:Mod f) (hK:K≤1000000) (hJ:J≤1000000):
  Calls Tryz.prog 32 #[v,.int .i64 id,.int .i64 K,.int .i64 J] w fun e w'=>e= .returned (Gt (eA f id K J))∧Below w.heap.size w w':=by
 have hv2:=hv;obtain⟨vp,vb,rfl,⟨lp,cp,rfl,hps,_,_⟩,⟨lb,cb,rfl,_⟩⟩:=hv2;have hN:=hF.1;have HBn:=ae (fun k=>hF.blk k);have HBl:Hid (dy w f.2.2.2.1 (.slice lb f.2.2.2.1.length cb)):=ae (by
  obtain⟨vp',vb',e,_,h2⟩:=hv;injection e with e;have e1:=congrArg (fun a=>a[3]?) e;simp at e1;rw [←e1] at h2;exact h2)
 have HPs:=ae hps;have HMd:Hid (eA f id K J=if jA f id then(0,-1,f.2.1.getD id.toNat 0,true)else(gz f id K J).getD (0,0,0,false)):=ae rfl;clear hv hps hF;obtain⟨r,hr⟩:∃r,r=eA f id K J:=⟨_,rfl⟩;rw [←hr] at HMd ⊢;clear hr;generalize bs f.1=nm at *;obtain⟨lps,hlps⟩:∃n,n=f.2.1.length:=⟨_,rfl⟩;have HPar:Hid (jA f id=(decide (0≤id) && decide (id < (lps:Int)))):=ae (by rw [hlps];rfl);have HPc:Hid (∀i:Nat,i < lps→f.2.1[i]? =some (f.2.1.getD i 0)):=ae (fun i hi=>by rw [List.getD_eq_getElem?_getD,List.getElem?_eq_getElem (by omega)];rfl);rw [←hlps];generalize f.2.2.1=rt at *;obtain⟨lbs,hlbs⟩:∃n,n=f.2.2.2.1.length:=⟨_,rfl⟩;have HSc:Hid (gz f id K J=bw (fun k=>fU f id k (fH f K J k)) (min (K+1) lbs)):=ae (by rw [hlbs];rfl);have HRw:Hid (∀(w':World),Below w.heap.size w w'→∀k,k < lbs→∃g o ao c,lb=some ⟨g,o,none⟩∧w'.cell? ⟨g,o+k,none⟩=some (.slice ao (aG f k).length c)∧j7 w' (aG f k) (.slice ao (aG f k).length c)):=ae (fun w' b k hk=>by
  obtain⟨g,o,ao,c,h1,h2,h3,h4⟩:=eD (HBl.out.below b) (k:=k) (by omega);exact⟨g,o,ao,c,h1,h3,h4⟩)
 rw [←hlbs] at hN ⊢;clear hlbs HBl hlps;generalize f.2.2.2.2=pl at *;have b1:=ah w (.cells #[.string nm,.slice lp lps cp,.int .i64 rt,.slice lb lbs cb,.int .i64 pl] 36);have X1:=L5.Box.new w [.string nm,.slice lp lps cp,.int .i64 rt,.slice lb lbs cb,.int .i64 pl] 36;have b2:=ah (w.alloc (.cells #[.string nm,.slice lp lps cp,.int .i64 rt,.slice lb lbs cb,.int .i64 pl] 36)) (.cells #[.int .i64 0,.int .i64 0,.int .i64 0,.bool false] 62);have hs1:(w.alloc (.cells #[.string nm,.slice lp lps cp,.int .i64 rt,.slice lb lbs cb,.int .i64 pl] 36)).heap.size=w.heap.size+1:=by simp
 have HZ0:=heap_alloc_new (w.alloc (.cells #[.string nm,.slice lp lps cp,.int .i64 rt,.slice lb lbs cb,.int .i64 pl] 36)) (.cells #[.int .i64 0,.int .i64 0,.int .i64 0,.bool false] 62);rw [hs1] at HZ0;have HZ:=ae HZ0;have X0:Hid (L5.Box ((w.alloc (.cells #[.string nm,.slice lp lps cp,.int .i64 rt,.slice lb lbs cb,.int .i64 pl] 36)).alloc (.cells #[.int .i64 0,.int .i64 0,.int .i64 0,.bool false] 62)) w.heap.size [.string nm,.slice lp lps cp,.int .i64 rt,.slice lb lbs cb,.int .i64 pl]):=ae (X1.below b2);have B0:=ae (af b1 b2);clear b1 X1 b2 hs1 HZ0;go_enter Tryz.func32,Tryz.ntmps32
 go_upto_region 1 with fail
 show Code.wp _ _ _ _ ((w.alloc (.cells #[.string nm,.slice lp lps cp,.int .i64 rt,.slice lb lbs cb,.int .i64 pl] 36)).alloc (.cells #[.int .i64 0,.int .i64 0,.int .i64 0,.bool false] 62));generalize (w.alloc (.cells #[.string nm,.slice lp lps cp,.int .i64 rt,.slice lb lbs cb,.int .i64 pl] 36)).alloc (.cells #[.int .i64 0,.int .i64 0,.int .i64 0,.bool false] 62)=W at *;generalize hq:w.heap.size=q at *;have hle:q≤q+1:=Nat.le_succ q;obtain⟨x0,x1,x2,x3,x4⟩:_∧_∧_∧_∧_:=⟨X0.out.2 0 _ rfl,X0.out.2 1 _ rfl,X0.out.2 2 _ rfl,X0.out.2 3 _ rfl,X0.out.2 4 _ rfl⟩;obtain⟨⟨z0,z1,z2,z3⟩,⟨f0,f1,f2,f3⟩,hzs⟩:=lG HZ.out;replace HRw:=ae (by have h:=HRw.out;rw [←hq] at h;exact h);have B0w:Hid (Below w.heap.size w W):=ae (by have h:=B0.out;rw [←hq] at h;exact h);by_cases hpb:jA f id=true
 ·rw [hpb] at HPar;obtain⟨h1,h2⟩:0≤id∧id < (lps:Int):=by have:=HPar.out;simpa using this.symm
  obtain⟨I,rfl⟩:∃I:Nat,id=(I:Int):=⟨id.toNat,by omega⟩;have HRr:Hid (r=(0,-1,f.2.1.getD I 0,true)):=ae (by rw [HMd.out,if_pos hpb];rfl);have c1:W.cell? ⟨q,1,none⟩=some (.slice lp lps cp):=x1;rcases HPs.out with he | ⟨pb,po,rfl,hpl,hpc⟩
  ·have:=HPc.out I (by omega);rw [he] at this;simp at this
  have c2:=(B0w.out.cell (p:=⟨pb,po+I,none⟩) hpl).trans (hpc I _ (HPc.out I (by omega)));obtain⟨tv,htv⟩:∃tv,tv=f.2.1.getD I 0:=⟨_,rfl⟩;rw [←htv] at c2 HRr;have HE:Hid (Below q w ((((W.setCell ⟨q+1,0,none⟩ (.int .i64 0)).setCell ⟨q+1,1,none⟩ (.int .i64 (-1))).setCell ⟨q+1,2,none⟩ (.int .i64 tv)).setCell ⟨q+1,3,none⟩ (.bool true))):=ae (((((B0.out.setCell (p:=⟨q+1,0,none⟩) hle _).setCell (p:=⟨q+1,1,none⟩) hle _).setCell (p:=⟨q+1,2,none⟩) hle _).setCell (p:=⟨q+1,3,none⟩) hle _));clear hpc htv hpb HPc;go_wp2_with fail
  exact bodyPost_ret (v:= .agg #[.int .i64 0,.int .i64 (-1),.int .i64 tv,.bool true]) (by simp [results,Tryz.results32,go_sem,z0,z1,z2,z3]) rfl ⟨by rw [HRr.out];rfl,by first | exact HE.out | (rw [hq];exact HE.out) | (have h:=HE.out;rw [hq] at h;exact h) | (have h:=HE.out;rw [←hq] at h;exact h)⟩
 ·have hpf:jA f id=false:=by simpa using hpb
  have HRr:Hid (r=(gz f id K J).getD (0,0,0,false)):=ae (by rw [HMd.out,if_neg hpb]);have HPn:=ae (HPar.out.symm.trans hpf);clear HPs HPc HPar HMd hpb hpf;by_cases h1:0≤id
  all_goals
   first
   |have h1':¬0≤id:=h1
   |have h2:¬id < (lps:Int):=by have:=HPn.out;simp [h1] at this;omega
   go_wp2_with fail
   clear z0 z1 z2 z3 f0 f1 f2 f3 x0 x1 x2 x3 x4;go_loopw [9] (fun kv wr=>∃k:Nat,k≤min (K+1) lbs∧kv= .int .i64 k∧Hid (∀j,j < k→fU f id j (fH f K J j)=none)∧Hid (Below W.heap.size W wr)) (fun kv _=>min (K+1) lbs - (intOf kv).toNat)
   case atStart=>exact⟨0,Nat.zero_le _,rfl,ae (fun j h=>absurd h (Nat.not_lt_zero _)),ae (Below.refl _ _)⟩
   case round=>
    obtain⟨k,hk,rfl,HF,HW⟩:=hrel;have X1:=ae (X0.out.below HW.out);obtain⟨x0,x1,x2,x3,x4⟩:_∧_∧_∧_∧_:=⟨X1.out.2 0 _ rfl,X1.out.2 1 _ rfl,X1.out.2 2 _ rfl,X1.out.2 3 _ rfl,X1.out.2 4 _ rfl⟩;by_cases hkt:k < min (K+1) lbs
    ·have hk1:(k:Int) < lbs:=(by omega);have hk2:(k:Int)≤K:=(by omega);obtain⟨g,o,ao,c,rfl,_,_⟩:=HRw.out wr (af B0w.out HW.out) k (by omega);have HRk:Hid (∀w',Below W.heap.size W w'→∃ao c,w'.cell? ⟨g,o+k,none⟩=some (.slice ao (aG f k).length c)∧j7 w' (aG f k) (.slice ao (aG f k).length c)):=ae (fun w' b=>by
      obtain⟨g',o',ao,c,he,h1,h2⟩:=HRw.out w' (af B0w.out b) k (by omega);injection he with he;injection he with hg ho;subst hg ho;exact⟨ao,c,h1,h2⟩)
     have hbn:=HBn.out k;have HW0:=ae HW.out;go_wp2_with fail
     clear x0 x1 x2 x3 x4 X1;go_loopw [10] (fun iv wr=>∃i:Nat,i≤min (fH f K J k) (aG f k).length∧iv= .int .i64 i∧Hid (∀j,j < i→me f id k j=none)∧Hid (Below W.heap.size W wr)) (fun iv _=>min (fH f K J k) (aG f k).length - (intOf iv).toNat)
     case atStart=>exact⟨0,Nat.zero_le _,rfl,ae (fun j h=>absurd h (Nat.not_lt_zero _)),ae HW0.out⟩
     case round=>
      clear HW HW0;obtain⟨i,hi,rfl,HG,HW⟩:=hrel;have X1:=ae (X0.out.below HW.out);obtain⟨x0,x1,x2,x3,x4⟩:_∧_∧_∧_∧_:=⟨X1.out.2 0 _ rfl,X1.out.2 1 _ rfl,X1.out.2 2 _ rfl,X1.out.2 3 _ rfl,X1.out.2 4 _ rfl⟩;obtain⟨ao,c,cu,hb⟩:=HRk.out wr HW.out;by_cases hil:i < (aG f k).length
      ·have hilI:(i:Int) < (aG f k).length:=(by omega);by_cases hlm:k < K∨i < J
       ·by_cases hkK:k < K
        all_goals
         first
         |have hkKI:(k:Int) < K:=by omega
          have hit:i < min (fH f K J k) (aG f k).length:=by unfold fH;rw [if_pos hkK];omega
         |have hkKI:¬(k:Int) < K:=by omega
          have hiJI:(i:Int) < J:=(by omega);have hit:i < min (fH f K J k) (aG f k).length:=by unfold fH;rw [if_neg hkK];omega
         clear hlm;obtain⟨g2,o2,rfl,hins⟩:=eR hb hil;obtain⟨xo,zo,xc,zc,_,e0,e1,e2,e3,e4,e5,e6,e7⟩:=hins.val;have HSg:Hid (me f id k i=if mI id (au f k i)then some ((k:Int),(i:Int),mkX (au f k i),true)else none):=ae rfl;have HHt:Hid (mI id (au f k i)=(decide ((au f k i).2.1=id) && decide (mkX (au f k i)≠0))):=ae rfl;have HMk:Hid (mkX (au f k i)=L5.bD (au f k i).1 (au f k i).2.2.2.1):=ae rfl;obtain⟨x,hx⟩:∃x,au f k i=x:=⟨_,rfl⟩;rw [hx] at e0 e1 e2 e3 e4 e5 e6 e7 HSg HHt HMk;clear hins hx;go_upto_region 10 with fail
         show Code.wp _ _ _ _ (wr.alloc (.cells #[.int .i64 x.1,.int .i64 x.2.1,.int .i64 x.2.2.1,.int .i64 x.2.2.2.1,.slice xo x.2.2.2.2.1.length xc,.slice zo x.2.2.2.2.2.1.length zc,.string (bs x.2.2.2.2.2.2.1),.int .i64 x.2.2.2.2.2.2.2] 47));have b3:=ah wr (.cells #[.int .i64 x.1,.int .i64 x.2.1,.int .i64 x.2.2.1,.int .i64 x.2.2.2.1,.slice xo x.2.2.2.2.1.length xc,.slice zo x.2.2.2.2.2.1.length zc,.string (bs x.2.2.2.2.2.2.1),.int .i64 x.2.2.2.2.2.2.2] 47);have Y0:=ae (L5.Box.new wr [.int .i64 x.1,.int .i64 x.2.1,.int .i64 x.2.2.1,.int .i64 x.2.2.2.1,.slice xo x.2.2.2.2.1.length xc,.slice zo x.2.2.2.2.2.1.length zc,.string (bs x.2.2.2.2.2.2.1),.int .i64 x.2.2.2.2.2.2.2] 47);have HW3:=ae (af HW.out b3);have hs3:wr.heap.size < (wr.alloc (.cells #[.int .i64 x.1,.int .i64 x.2.1,.int .i64 x.2.2.1,.int .i64 x.2.2.2.1,.slice xo x.2.2.2.2.1.length xc,.slice zo x.2.2.2.2.2.1.length zc,.string (bs x.2.2.2.2.2.2.1),.int .i64 x.2.2.2.2.2.2.2] 47)).heap.size:=(by simp);replace Y0:Hid (L5.Box (wr.alloc (.cells #[.int .i64 x.1,.int .i64 x.2.1,.int .i64 x.2.2.1,.int .i64 x.2.2.2.1,.slice xo x.2.2.2.2.1.length xc,.slice zo x.2.2.2.2.2.1.length zc,.string (bs x.2.2.2.2.2.2.1),.int .i64 x.2.2.2.2.2.2.2] 47)) wr.heap.size [.int .i64 x.1,.int .i64 x.2.1,.int .i64 x.2.2.1,.int .i64 x.2.2.2.1,.slice xo x.2.2.2.2.1.length xc,.slice zo x.2.2.2.2.2.1.length zc,.string (bs x.2.2.2.2.2.2.1),.int .i64 x.2.2.2.2.2.2.2]):=Y0;clear e0 e1 e2 e3 e4 e5 e6 e7 b3 x0 x1 x2 x3 x4 cu;generalize wr.alloc (.cells #[.int .i64 x.1,.int .i64 x.2.1,.int .i64 x.2.2.1,.int .i64 x.2.2.2.1,.slice xo x.2.2.2.2.1.length xc,.slice zo x.2.2.2.2.2.1.length zc,.string (bs x.2.2.2.2.2.2.1),.int .i64 x.2.2.2.2.2.2.2] 47)=w3 at *;generalize wr.heap.size=q3 at *;obtain⟨y0,y1,y2,y3,y4,y5,y6,y7⟩:_∧_∧_∧_∧_∧_∧_∧_:=⟨Y0.out.2 0 _ rfl,Y0.out.2 1 _ rfl,Y0.out.2 2 _ rfl,Y0.out.2 3 _ rfl,Y0.out.2 4 _ rfl,Y0.out.2 5 _ rfl,Y0.out.2 6 _ rfl,Y0.out.2 7 _ rfl⟩;have HNo:Hid (me f id k i=none→∀j,j < i+1→me f id k j=none):=ae (fun hn j hj=>by
          by_cases e:j=i
          ·rw [e];exact hn
          ·exact HG.out j (by omega))
         by_cases hid:x.2.1=id
         ·have hde:(x.2.1 == id)=true:=beq_iff_eq.2 hid;have HM:=ae (L5.dV x.1 x.2.2.2.1 (.int .i64 x.2.1) (.int .i64 x.2.2.1) (.slice xo x.2.2.2.2.1.length xc) (.slice zo x.2.2.2.2.2.1.length zc) (.string (bs x.2.2.2.2.2.2.1)) (.int .i64 x.2.2.2.2.2.2.2) w3);rw [←HMk.out] at HM;by_cases hmz:mkX x=0
          ·have HG2:=ae (HNo.out (by rw [HSg.out,if_neg (by rw [HHt.out];simp [hmz])]));rw [hmz] at HM;clear hid hmz HMk;go_wp2_with fail
           refine HM.out.mono ?_;rintro e w4 ⟨rfl,b4⟩;have HW4:=ae (af HW3.out b4);clear HM b4 y0 y1 y2 y3 y4 y5 y6 y7;go_wp2_with fail
           go_roundw
           case rel=>exact⟨i+1,by omega,by go_num,HG2,HW4⟩
           case measure=>simp [intOf];omega
          ·have HSs:Hid (me f id k i=some ((k:Int),(i:Int),mkX x,true)):=ae (by rw [HSg.out,if_pos (by rw [HHt.out];simp [hid,hmz])]);have HRk:Hid (r=((k:Int),(i:Int),mkX x,true)):=ae (by rw [HRr.out,HSc.out,bN HF.out hkt (a:=((k:Int),(i:Int),mkX x,true)) (by unfold fU;exact bN HG.out hit HSs.out)];rfl);have hmb:(mkX x == 0)=false:=beq_eq_false_iff_ne.2 hmz;generalize mkX x=mk at *;clear hid;go_wp2_with fail
           refine HM.out.mono ?_;rintro e w4 ⟨rfl,b4⟩;have HW4:=ae (af HW3.out b4);have HM2:=ae (L5.dV x.1 x.2.2.2.1 (.int .i64 x.2.1) (.int .i64 x.2.2.1) (.slice xo x.2.2.2.2.1.length xc) (.slice zo x.2.2.2.2.2.1.length zc) (.string (bs x.2.2.2.2.2.2.1)) (.int .i64 x.2.2.2.2.2.2.2) w4);rw [←HMk.out] at HM2;have Y4:=ae (Y0.out.below b4);clear HM b4 y0 y1 y2 y3 y4 y5 y6 y7;obtain⟨y0,y1,y2,y3,y4,y5,y6,y7⟩:_∧_∧_∧_∧_∧_∧_∧_:=⟨Y4.out.2 0 _ rfl,Y4.out.2 1 _ rfl,Y4.out.2 2 _ rfl,Y4.out.2 3 _ rfl,Y4.out.2 4 _ rfl,Y4.out.2 5 _ rfl,Y4.out.2 6 _ rfl,Y4.out.2 7 _ rfl⟩;go_wp2_with fail
           refine HM2.out.mono ?_;rintro e w5 ⟨rfl,b5⟩;have HW5:=ae (af HW4.out b5);clear HM2 b5 y0 y1 y2 y3 y4 y5 y6 y7;obtain⟨⟨z0,z1,z2,z3⟩,⟨f0,f1,f2,f3⟩,_⟩:=lG ((HW5.out.block _ hzs).trans HZ.out);have HE:Hid (Below w.heap.size w ((((w5.setCell ⟨q+1,0,none⟩ (.int .i64 k)).setCell ⟨q+1,1,none⟩ (.int .i64 i)).setCell ⟨q+1,2,none⟩ (.int .i64 mk)).setCell ⟨q+1,3,none⟩ (.bool true))):=ae (by
            have hle2:w.heap.size≤q+1:=(by omega);exact(((((af B0w.out HW5.out).setCell (p:=⟨q+1,0,none⟩) hle2 _).setCell (p:=⟨q+1,1,none⟩) hle2 _).setCell (p:=⟨q+1,2,none⟩) hle2 _).setCell (p:=⟨q+1,3,none⟩) hle2 _))
           go_wp2_with fail
           exact bodyPost_ret (v:= .agg #[.int .i64 k,.int .i64 i,.int .i64 mk,.bool true]) (by simp [results,Tryz.results32,go_sem,z0,z1,z2,z3]) rfl ⟨by rw [HRk.out];rfl,by first | exact HE.out | (rw [hq];exact HE.out) | (have h:=HE.out;rw [hq] at h;exact h) | (have h:=HE.out;rw [←hq] at h;exact h)⟩
         ·have hde:(x.2.1 == id)=false:=beq_eq_false_iff_ne.2 hid;have HG2:=ae (HNo.out (by rw [HSg.out,if_neg (by rw [HHt.out];simp [hid])]));clear hid HMk;go_wp2_with fail
          go_roundw
          case rel=>exact⟨i+1,by omega,by go_num,HG2,HW3⟩
          case measure=>simp [intOf];omega
       ·have hkK:¬k < K:=(by omega);have hkKI:¬(k:Int) < K:=(by omega);have hiJI:¬(i:Int) < J:=(by omega);clear hlm;have hie:min (fH f K J k) (aG f k).length≤i:=(by unfold fH;rw [if_neg hkK];omega);have HF2:Hid (∀j,j < k+1→fU f id j (fH f K J j)=none):=ae (fun j hj=>by
         by_cases e:j=k
         ·rw [e];unfold fU;exact bh (fun j hj=>HG.out j (by omega))
         ·exact HF.out j (by omega))
        go_wp2_with fail
        go_roundw
        case rel=>exact⟨k+1,by omega,by go_num,HF2,HW⟩
        case measure=>simp [intOf];omega
      ·have hilI:¬(i:Int) < (aG f k).length:=(by omega);have hie:min (fH f K J k) (aG f k).length≤i:=(by omega);have HF2:Hid (∀j,j < k+1→fU f id j (fH f K J j)=none):=ae (fun j hj=>by
        by_cases e:j=k
        ·rw [e];unfold fU;exact bh (fun j hj=>HG.out j (by omega))
        ·exact HF.out j (by omega))
       go_wp2_with fail
       go_roundw
       case rel=>exact⟨k+1,by omega,by go_num,HF2,HW⟩
       case measure=>simp [intOf];omega
    ·have hke:min (K+1) lbs≤k:=(by omega);have HRn:Hid (r=(0,0,0,false)):=ae (by rw [HRr.out,HSc.out,bh (fun j hj=>HF.out j (by omega))];rfl);obtain⟨⟨z0,z1,z2,z3⟩,⟨f0,f1,f2,f3⟩,_⟩:=lG ((HW.out.block _ hzs).trans HZ.out);have HE:Hid (Below w.heap.size w ((((wr.setCell ⟨q+1,0,none⟩ (.int .i64 0)).setCell ⟨q+1,1,none⟩ (.int .i64 0)).setCell ⟨q+1,2,none⟩ (.int .i64 0)).setCell ⟨q+1,3,none⟩ (.bool false))):=ae (by
      have hle2:w.heap.size≤q+1:=(by omega);exact(((((af B0w.out HW.out).setCell (p:=⟨q+1,0,none⟩) hle2 _).setCell (p:=⟨q+1,1,none⟩) hle2 _).setCell (p:=⟨q+1,2,none⟩) hle2 _).setCell (p:=⟨q+1,3,none⟩) hle2 _))
     by_cases hkl:k < lbs
     ·have hk1:(k:Int) < lbs:=(by omega);have hk2:¬(k:Int)≤K:=(by omega);go_wp2_with fail
      exact bodyPost_ret (v:= .agg #[.int .i64 0,.int .i64 0,.int .i64 0,.bool false]) (by simp [results,Tryz.results32,go_sem,z0,z1,z2,z3]) rfl ⟨by rw [HRn.out];rfl,by first | exact HE.out | (rw [hq];exact HE.out) | (have h:=HE.out;rw [hq] at h;exact h) | (have h:=HE.out;rw [←hq] at h;exact h)⟩
     ·have hk1:¬(k:Int) < lbs:=(by omega);go_wp2_with fail
      exact bodyPost_ret (v:= .agg #[.int .i64 0,.int .i64 0,.int .i64 0,.bool false]) (by simp [results,Tryz.results32,go_sem,z0,z1,z2,z3]) rfl ⟨by rw [HRn.out];rfl,by first | exact HE.out | (rw [hq];exact HE.out) | (have h:=HE.out;rw [hq] at h;exact h) | (have h:=HE.out;rw [←hq] at h;exact h)⟩
theorem jH (x:Ins) (v:Value) (w:World) (hv:lT w x v):
  Calls Tryz.prog 80 #[v] w fun e w'=>e= .returned (.bool (du x))∧Below w.heap.size w w':=by
 obtain⟨xo,zo,xc,zc,rfl,_⟩:=hv;have Y0:=ae (L5.Box.new w [.int .i64 x.1,.int .i64 x.2.1,.int .i64 x.2.2.1,.int .i64 x.2.2.2.1,.slice xo x.2.2.2.2.1.length xc,.slice zo x.2.2.2.2.2.1.length zc,.string (bs x.2.2.2.2.2.2.1),.int .i64 x.2.2.2.2.2.2.2] 47);have B0:=ae (ah w (.cells #[.int .i64 x.1,.int .i64 x.2.1,.int .i64 x.2.2.1,.int .i64 x.2.2.2.1,.slice xo x.2.2.2.2.1.length xc,.slice zo x.2.2.2.2.2.1.length zc,.string (bs x.2.2.2.2.2.2.1),.int .i64 x.2.2.2.2.2.2.2] 47));have HL:Hid (du x=(decide (x.1=23) || decide (x.1=24) || decide (x.1=25) || (decide (x.1=21) && decide (x.2.2.1≠0)))):=ae rfl;replace Y0:Hid (L5.Box (w.alloc (.cells #[.int .i64 x.1,.int .i64 x.2.1,.int .i64 x.2.2.1,.int .i64 x.2.2.2.1,.slice xo x.2.2.2.2.1.length xc,.slice zo x.2.2.2.2.2.1.length zc,.string (bs x.2.2.2.2.2.2.1),.int .i64 x.2.2.2.2.2.2.2] 47)) w.heap.size [.int .i64 x.1,.int .i64 x.2.1,.int .i64 x.2.2.1,.int .i64 x.2.2.2.1,.slice xo x.2.2.2.2.1.length xc,.slice zo x.2.2.2.2.2.1.length zc,.string (bs x.2.2.2.2.2.2.1),.int .i64 x.2.2.2.2.2.2.2]):=Y0;go_enter Tryz.func80,Tryz.ntmps80
 go_upto_region 1 with fail
 show Code.wp _ _ _ _ (w.alloc (.cells #[.int .i64 x.1,.int .i64 x.2.1,.int .i64 x.2.2.1,.int .i64 x.2.2.2.1,.slice xo x.2.2.2.2.1.length xc,.slice zo x.2.2.2.2.2.1.length zc,.string (bs x.2.2.2.2.2.2.1),.int .i64 x.2.2.2.2.2.2.2] 47));generalize w.alloc (.cells #[.int .i64 x.1,.int .i64 x.2.1,.int .i64 x.2.2.1,.int .i64 x.2.2.2.1,.slice xo x.2.2.2.2.1.length xc,.slice zo x.2.2.2.2.2.1.length zc,.string (bs x.2.2.2.2.2.2.1),.int .i64 x.2.2.2.2.2.2.2] 47)=W at *;generalize hq:w.heap.size=q at *;obtain⟨y0,y1,y2,y3,y4,y5,y6,y7⟩:_∧_∧_∧_∧_∧_∧_∧_:=⟨Y0.out.2 0 _ rfl,Y0.out.2 1 _ rfl,Y0.out.2 2 _ rfl,Y0.out.2 3 _ rfl,Y0.out.2 4 _ rfl,Y0.out.2 5 _ rfl,Y0.out.2 6 _ rfl,Y0.out.2 7 _ rfl⟩;by_cases h23:x.1=23
 ·have e1:(x.1 == 23)=true:=beq_iff_eq.2 h23;have HR:Hid (true=du x):=ae (by rw [HL.out];simp [h23]);clear h23;go_wp2_with fail
  go_ret;exact⟨L5.aw HR.out,by first | exact B0.out | (rw [hq];exact B0.out)⟩
 ·have e1:(x.1 == 23)=false:=beq_eq_false_iff_ne.2 h23;by_cases h24:x.1=24
  ·have e2:(x.1 == 24)=true:=beq_iff_eq.2 h24;have HR:Hid (true=du x):=ae (by rw [HL.out];simp [h24]);clear h23 h24;go_wp2_with fail
   go_ret;exact⟨L5.aw HR.out,by first | exact B0.out | (rw [hq];exact B0.out)⟩
  ·have e2:(x.1 == 24)=false:=beq_eq_false_iff_ne.2 h24;by_cases h25:x.1=25
   ·have e3:(x.1 == 25)=true:=beq_iff_eq.2 h25;have HR:Hid (true=du x):=ae (by rw [HL.out];simp [h25]);clear h23 h24 h25;go_wp2_with fail
    go_ret;exact⟨L5.aw HR.out,by first | exact B0.out | (rw [hq];exact B0.out)⟩
   ·have e3:(x.1 == 25)=false:=beq_eq_false_iff_ne.2 h25;by_cases h21:x.1=21
    ·have e4:(x.1 == 21)=true:=beq_iff_eq.2 h21;have HR:Hid ((!(x.2.2.1 == 0))=du x):=ae (by
      rw [HL.out,decide_eq_false h23,decide_eq_false h24,decide_eq_false h25,decide_eq_true h21]
      cases h:(x.2.2.1 == 0) <;> simp at h <;> simp [h])
     clear h23 h24 h25 h21;go_wp2_with fail
     go_ret;exact⟨L5.aw HR.out,by first | exact B0.out | (rw [hq];exact B0.out)⟩
    ·have e4:(x.1 == 21)=false:=beq_eq_false_iff_ne.2 h21;have HR:Hid (false=du x):=ae (by rw [HL.out];simp [h23,h24,h25,h21]);clear h23 h24 h25 h21;go_wp2_with fail
     go_ret;exact⟨L5.aw HR.out,by first | exact B0.out | (rw [hq];exact B0.out)⟩
theorem lT.qX {w:World} {x:Ins} {a0 a1 a2 a3 a4 a6 a7:Value} {zo:Option Addr} {n zc:Nat} (h:lT w x (.agg #[a0,a1,a2,a3,a4,.slice zo n zc,a6,a7])):Sl w zo x.2.2.2.2.2.1∧x.2.2.2.2.2.1.length≤maxLen:=by
 obtain⟨ao,to,ca,ct,e,h1,h2,h3,h4,h5,h6⟩:=h;injection e with e;have e1:=congrArg (fun a=>a[5]?) e;simp at e1;obtain⟨rfl,rfl,rfl⟩:=e1;exact⟨h2,Nat.le_trans h5 h6⟩
theorem vn (f:Fun) (k i:Nat) (v:Value) (w:World) (hv:cg w f v) (hF:Ful f) (hM:Mod f) (hk:k < f.2.2.2.1.length) (hi:i < (aG f k).length):
  Calls Tryz.prog 79 #[v,.int .i64 k,.int .i64 i] w fun e w'=>e= .returned (.bool (iI f k i))∧Below w.heap.size w w':=by
 have HPr:=ae (fun v w hv=>o7 f v w hv hF);have HPl:Hid ((aK f).length=f.2.2.2.1.length):=ae (by simp [aK]);have HPk:Hid (∃l,(aK f)[k]? =some l):=ae ⟨_,List.getElem?_eq_getElem (by simp [aK];exact hk)⟩;have HPf:Hid (iI f k i=((decide (i=0) || decide ((au f k (i - 1)).1=20)) && decide ((au f k i).2.2.2.2.2.1.length=((aK f).getD k []).length) && ((aK f).getD k []).all fun b=>az (au f k i).2.2.2.2.2.1 b)):=ae rfl;have HPm:Hid (∀l,(aK f)[k]? =some l→l.length≤1000000):=ae (fun l hl=>by
  have hm:=List.mem_of_getElem? hl;unfold aK at hm;obtain⟨b,_,rfl⟩:=List.mem_map.1 hm;unfold bM;rw [List.length_map];exact Nat.le_trans (List.length_filter_le _ _) (by simp;exact hF.1))
 clear hF;obtain⟨lp,cp,lb,cb,rfl,X,b0⟩:=de hv;have HV:=ae (hv.below b0);have X0:=ae X;have B0:=ae b0;have HRd:Hid (∀w',Below w.heap.size w w'→∃g o ao c g2 o2,lb=some ⟨g,o,none⟩∧w'.cell? ⟨g,o+k,none⟩=some (.slice ao (aG f k).length c)∧ao=some ⟨g2,o2,none⟩∧∀j,j < (aG f k).length→my w' (au f k j) g2 (o2+j * 8)):=ae (fun w' b=>by
  obtain⟨g,o,ao,c,h1,_,h3,h4⟩:=eD (fN (hv.below b)) hk;obtain⟨g2,o2,h5,_⟩:=eR h4 hi;refine⟨g,o,ao,c,g2,o2,h1,h3,h5,fun j hj=> ?_⟩;obtain⟨g3,o3,h6,h7⟩:=eR h4 hj;rw [h5] at h6;injection h6 with h6;injection h6 with e1 e2;subst e1 e2;exact h7)
 have hkI:(k:Int) < f.2.2.2.1.length:=by omega
 have hiI:(i:Int) < (aG f k).length:=by omega
 have hbn:=hM.blk k;have hN:=hM.1;clear hv X b0;generalize bs f.1=nm at *;generalize f.2.1.length=lps at *;generalize f.2.2.1=rt at *;generalize hlbs:f.2.2.2.1.length=lbs at *;generalize f.2.2.2.2=pl at *;replace hlbs:=ae hlbs;go_enter Tryz.func79,Tryz.ntmps79
 go_upto_region 1 with fail
 show Code.wp _ _ _ _ (w.alloc (.cells #[.string nm,.slice lp lps cp,.int .i64 rt,.slice lb lbs cb,.int .i64 pl] 36));generalize w.alloc (.cells #[.string nm,.slice lp lps cp,.int .i64 rt,.slice lb lbs cb,.int .i64 pl] 36)=W at *;obtain⟨x0,x1,x2,x3,x4⟩:_∧_∧_∧_∧_:=⟨X0.out.2 0 _ rfl,X0.out.2 1 _ rfl,X0.out.2 2 _ rfl,X0.out.2 3 _ rfl,X0.out.2 4 _ rfl⟩;obtain⟨g,o,ao,c,g2,o2,rfl,cu,rfl,hins⟩:=HRd.out W B0.out;obtain⟨xo,zo,xc,zc,hxv,e0,e1,e2,e3,e4,e5,e6,e7⟩:=(hins i hi).val;have HXv:=ae hxv;obtain⟨x,hx⟩:∃x,au f k i=x:=⟨_,rfl⟩;rw [hx] at e0 e1 e2 e3 e4 e5 e6 e7 HXv;rw [hx] at HPf;clear hx;obtain⟨lf,hlf⟩:=HPk.out;have HLf:=ae hlf;have hlm:=HPm.out lf hlf;have hgd:(aK f).getD k []=lf:=by rw [List.getD_eq_getElem?_getD,hlf];rfl
 rw [hgd] at HPf;clear hlf hgd HPm HPk;have HPv:Hid (∀j,i=j+1→my W (au f k j) g2 (o2+j * 8)):=ae (fun j hj=>hins j (by omega));go_upto_region 2 with fail
 show Code.wp _ _ _ _ (W.alloc (.cells #[.int .i64 x.1,.int .i64 x.2.1,.int .i64 x.2.2.1,.int .i64 x.2.2.2.1,.slice xo x.2.2.2.2.1.length xc,.slice zo x.2.2.2.2.2.1.length zc,.string (bs x.2.2.2.2.2.2.1),.int .i64 x.2.2.2.2.2.2.2] 47));have b3:=ah W (.cells #[.int .i64 x.1,.int .i64 x.2.1,.int .i64 x.2.2.1,.int .i64 x.2.2.2.1,.slice xo x.2.2.2.2.1.length xc,.slice zo x.2.2.2.2.2.1.length zc,.string (bs x.2.2.2.2.2.2.1),.int .i64 x.2.2.2.2.2.2.2] 47);have Y0:=ae (L5.Box.new W [.int .i64 x.1,.int .i64 x.2.1,.int .i64 x.2.2.1,.int .i64 x.2.2.2.1,.slice xo x.2.2.2.2.1.length xc,.slice zo x.2.2.2.2.2.1.length zc,.string (bs x.2.2.2.2.2.2.1),.int .i64 x.2.2.2.2.2.2.2] 47);replace Y0:Hid (L5.Box (W.alloc (.cells #[.int .i64 x.1,.int .i64 x.2.1,.int .i64 x.2.2.1,.int .i64 x.2.2.2.1,.slice xo x.2.2.2.2.1.length xc,.slice zo x.2.2.2.2.2.1.length zc,.string (bs x.2.2.2.2.2.2.1),.int .i64 x.2.2.2.2.2.2.2] 47)) W.heap.size [.int .i64 x.1,.int .i64 x.2.1,.int .i64 x.2.2.1,.int .i64 x.2.2.2.1,.slice xo x.2.2.2.2.1.length xc,.slice zo x.2.2.2.2.2.1.length zc,.string (bs x.2.2.2.2.2.2.1),.int .i64 x.2.2.2.2.2.2.2]):=Y0;have HV3:=ae (HV.out.below b3);have HXv3:=ae (HXv.out.below b3);have X3:=ae (X0.out.below b3);have B3:=ae (af B0.out b3);clear e0 e1 e2 e3 e4 e5 e6 e7 hins cu x0 x1 x2 x3 x4 b3 HV HXv X0 hxv;generalize W.alloc (.cells #[.int .i64 x.1,.int .i64 x.2.1,.int .i64 x.2.2.1,.int .i64 x.2.2.2.1,.slice xo x.2.2.2.2.1.length xc,.slice zo x.2.2.2.2.2.1.length zc,.string (bs x.2.2.2.2.2.2.1),.int .i64 x.2.2.2.2.2.2.2] 47)=w3 at *;generalize W.heap.size=q3 at *;obtain⟨x0,x1,x2,x3,x4⟩:_∧_∧_∧_∧_:=⟨X3.out.2 0 _ rfl,X3.out.2 1 _ rfl,X3.out.2 2 _ rfl,X3.out.2 3 _ rfl,X3.out.2 4 _ rfl⟩;obtain⟨y0,y1,y2,y3,y4,y5,y6,y7⟩:_∧_∧_∧_∧_∧_∧_∧_:=⟨Y0.out.2 0 _ rfl,Y0.out.2 1 _ rfl,Y0.out.2 2 _ rfl,Y0.out.2 3 _ rfl,Y0.out.2 4 _ rfl,Y0.out.2 5 _ rfl,Y0.out.2 6 _ rfl,Y0.out.2 7 _ rfl⟩;obtain⟨g',o',ao',c',g2',o2',hlb',cu,hao,hins⟩:=HRd.out w3 B3.out;injection hlb' with hlb';injection hlb' with hg' ho';subst hg' ho' hao;have hxn:x.2.2.2.2.2.1.length≤maxLen:=HXv3.out.qX.2;unfold maxLen at hxn;by_cases hi0:i=0
 ·have HFl:Hid ((decide (i=0) || decide ((au f k (i - 1)).1=20))=true):=ae (by simp [hi0]);have hd0:decide (0 < i)=false:=decide_eq_false (by omega);have hiz:¬(0:Int) < (i:Int):=by omega
  clear hins;have HC:=ae (HPr.out _ w3 HV3.out);go_wp2_with fail
  refine HC.out.mono ?_;rintro e w4 ⟨u,rfl,b4,hr⟩;obtain⟨ro,rc,rfl,hrr,_,_⟩:=hr;rcases hrr with he | ⟨rb,r0,rfl,hrb,hrc⟩
  ·have:=HLf.out;rw [he] at this;simp at this
  obtain⟨uu,cuu,hu⟩:=hrc k lf HLf.out;obtain⟨fo,fc,rfl,hfs,_,_⟩:=hu;have hkp:(k:Int) < (aK f).length:=by have:=HPl.out;omega
  have Y4:=ae (Y0.out.below b4);have HXv4:=ae (HXv3.out.below b4);have B4:=ae (af B3.out b4);have HFs:=ae hfs;clear x0 x1 x2 x3 x4 y0 y1 y2 y3 y4 y5 y6 y7 hrc hfs b4 HC;obtain⟨y0,y1,y2,y3,y4,y5,y6,y7⟩:_∧_∧_∧_∧_∧_∧_∧_:=⟨Y4.out.2 0 _ rfl,Y4.out.2 1 _ rfl,Y4.out.2 2 _ rfl,Y4.out.2 3 _ rfl,Y4.out.2 4 _ rfl,Y4.out.2 5 _ rfl,Y4.out.2 6 _ rfl,Y4.out.2 7 _ rfl⟩;by_cases hlen:x.2.2.2.2.2.1.length=lf.length
  ·have hlb:((x.2.2.2.2.2.1.length:Int) == (lf.length:Int))=true:=beq_iff_eq.2 (by omega);have HPg:Hid (iI f k i=lf.all fun b=>az x.2.2.2.2.2.1 b):=ae (by rw [HPf.out,decide_eq_true hlen,HFl.out];simp);clear hlen;go_wp2_with fail
   clear hlb y0 y1 y2 y3 y4 y5 y6 y7 cuu;go_loopw [9] (fun nv wr=>∃n:Nat,n≤lf.length∧nv= .int .i64 n∧Hid (∀(j:Nat) (b:Int),j < n→lf[j]? =some b→az x.2.2.2.2.2.1 b=true)∧Hid (Below w4.heap.size w4 wr)) (fun nv _=>lf.length - (intOf nv).toNat)
   case atStart=>exact⟨0,Nat.zero_le _,rfl,ae (fun j b h=>absurd h (Nat.not_lt_zero _)),ae (Below.refl _ _)⟩
   case round=>
    obtain⟨n,hn,rfl,HA,HW⟩:=hrel;by_cases hnt:n < lf.length
    ·have hnI:(n:Int) < lf.length:=(by omega);obtain⟨m,hm⟩:∃m,lf[n]? =some m:=⟨_,List.getElem?_eq_getElem hnt⟩;rcases HFs.out with he | ⟨fb,f0,rfl,hfb,hfc⟩
     ·rw [he] at hnt;simp at hnt
     have hB2:=fun z=>af HW.out (L5.ax wr z);have c1:=fun z=>((hB2 z).cell (p:=⟨fb,f0+n,none⟩) hfb).trans (hfc n m hm);have c5:=fun z=>(Y4.out.below (hB2 z)).2 5 _ rfl;have HH:=ae (fun z=>eC x.2.2.2.2.2.1 m zo zc (L5.aZ wr z) (HXv4.out.below (hB2 z)).qX.1 HXv4.out.qX.2);replace hB2:=ae hB2;have HM:=ae hm;clear hfc hm
     cases hh:az x.2.2.2.2.2.1 m with
     |true=>
      rw [hh] at HH;have HA2:Hid (∀(j:Nat) (b:Int),j < n+1→lf[j]? =some b→az x.2.2.2.2.2.1 b=true):=ae (fun j b hj hb=>by
       by_cases e:j=n
       ·subst e;rw [HM.out] at hb;injection hb with hb;rw [←hb];exact hh
       ·exact HA.out j b (by omega) hb)
      clear hh;go_wp2_with fail
      refine L5.aE (by kernel_rfl) (by kernel_rfl) ?_;repeat (go_big_quiet_step ((go_at_call 17;exact L5.cX (HH.out _))))
      refine wpQuiet_nil ?_;rintro _ ⟨z,rfl⟩;go_wp2_with fail
      go_roundw
      case rel=>exact⟨n+1,by omega,by go_num,HA2,ae (hB2.out z)⟩
      case measure=>simp [intOf];omega
     |false=>
      rw [hh] at HH;have HR:Hid (false=iI f k i):=ae (by
       rw [HPg.out];symm
       rw [Bool.eq_false_iff];intro hall;have:=List.all_eq_true.1 hall m (List.mem_of_getElem? HM.out);rw [hh] at this
       cases this)
      clear hh;go_wp2_with fail
      refine L5.aE (by kernel_rfl) (by kernel_rfl) ?_;repeat (go_big_quiet_step ((go_at_call 17;exact L5.cX (HH.out _))))
      refine wpQuiet_nil ?_;rintro _ ⟨z,rfl⟩;have HE:=ae (af B4.out (hB2.out z));go_wp2_with fail
      go_ret;exact⟨L5.aw HR.out,HE.out⟩
    ·obtain rfl:n=lf.length:=(by omega);have HR:Hid (true=iI f k i):=ae (by
      rw [HPg.out];symm
      refine List.all_eq_true.2 fun b hb=> ?_;obtain⟨j,hj⟩:=List.mem_iff_getElem?.1 hb;exact HA.out j b (List.getElem?_eq_some_iff.1 hj).1 hj)
     have HE:=ae (af B4.out HW.out);go_wp2_with fail
     go_ret;exact⟨L5.aw HR.out,HE.out⟩
  ·have hlb:((x.2.2.2.2.2.1.length:Int) == (lf.length:Int))=false:=beq_eq_false_iff_ne.2 (by omega);have HR:Hid (false=iI f k i):=ae (by rw [HPf.out,decide_eq_false hlen];simp);go_wp2_with fail
   go_ret;exact⟨L5.aw HR.out,B4.out⟩
 ·obtain⟨j,hj⟩:∃j,i=j+1:=⟨i - 1,by omega⟩;have hd0:decide (0 < i)=true:=decide_eq_true (by omega);have hiz:(0:Int) < (i:Int):=by omega
  have hji:(i:Int) - 1=(j:Int):=by omega
  have hjI:(j:Int) < (aG f k).length:=by omega
  obtain⟨_,_,_,_,_,u0,_,_,_,_,_,_,_⟩:=(hins j (by omega)).val;have hjj:i - 1=j:=by omega
  rw [hjj] at HPf;obtain⟨pv,hpv⟩:∃pv,(au f k j).1=pv:=⟨_,rfl⟩;rw [hpv] at u0 HPf;clear hins hpv hjj hj;by_cases hp:pv=20
  ·have hpb:(pv == 20)=true:=beq_iff_eq.2 hp;have HFl:Hid ((decide (i=0) || decide (pv=20))=true):=ae (by simp [hp]);clear hp;have HC:=ae (HPr.out _ w3 HV3.out);go_wp2_with fail
   refine HC.out.mono ?_;rintro e w4 ⟨u,rfl,b4,hr⟩;obtain⟨ro,rc,rfl,hrr,_,_⟩:=hr;rcases hrr with he | ⟨rb,r0,rfl,hrb,hrc⟩
   ·have:=HLf.out;rw [he] at this;simp at this
   obtain⟨uu,cuu,hu⟩:=hrc k lf HLf.out;obtain⟨fo,fc,rfl,hfs,_,_⟩:=hu;have hkp:(k:Int) < (aK f).length:=(by have:=HPl.out;omega);have Y4:=ae (Y0.out.below b4);have HXv4:=ae (HXv3.out.below b4);have B4:=ae (af B3.out b4);have HFs:=ae hfs;clear x0 x1 x2 x3 x4 y0 y1 y2 y3 y4 y5 y6 y7 hrc hfs b4 HC;obtain⟨y0,y1,y2,y3,y4,y5,y6,y7⟩:_∧_∧_∧_∧_∧_∧_∧_:=⟨Y4.out.2 0 _ rfl,Y4.out.2 1 _ rfl,Y4.out.2 2 _ rfl,Y4.out.2 3 _ rfl,Y4.out.2 4 _ rfl,Y4.out.2 5 _ rfl,Y4.out.2 6 _ rfl,Y4.out.2 7 _ rfl⟩;by_cases hlen:x.2.2.2.2.2.1.length=lf.length
   ·have hlb:((x.2.2.2.2.2.1.length:Int) == (lf.length:Int))=true:=beq_iff_eq.2 (by omega);have HPg:Hid (iI f k i=lf.all fun b=>az x.2.2.2.2.2.1 b):=ae (by rw [HPf.out,decide_eq_true hlen,HFl.out];simp);clear hlen;go_wp2_with fail
    clear hlb y0 y1 y2 y3 y4 y5 y6 y7 cuu;go_loopw [9] (fun nv wr=>∃n:Nat,n≤lf.length∧nv= .int .i64 n∧Hid (∀(j:Nat) (b:Int),j < n→lf[j]? =some b→az x.2.2.2.2.2.1 b=true)∧Hid (Below w4.heap.size w4 wr)) (fun nv _=>lf.length - (intOf nv).toNat)
    case atStart=>exact⟨0,Nat.zero_le _,rfl,ae (fun j b h=>absurd h (Nat.not_lt_zero _)),ae (Below.refl _ _)⟩
    case round=>
     obtain⟨n,hn,rfl,HA,HW⟩:=hrel;by_cases hnt:n < lf.length
     ·have hnI:(n:Int) < lf.length:=(by omega);obtain⟨m,hm⟩:∃m,lf[n]? =some m:=⟨_,List.getElem?_eq_getElem hnt⟩;rcases HFs.out with he | ⟨fb,f0,rfl,hfb,hfc⟩
      ·rw [he] at hnt;simp at hnt
      have hB2:=fun z=>af HW.out (L5.ax wr z);have c1:=fun z=>((hB2 z).cell (p:=⟨fb,f0+n,none⟩) hfb).trans (hfc n m hm);have c5:=fun z=>(Y4.out.below (hB2 z)).2 5 _ rfl;have HH:=ae (fun z=>eC x.2.2.2.2.2.1 m zo zc (L5.aZ wr z) (HXv4.out.below (hB2 z)).qX.1 HXv4.out.qX.2);replace hB2:=ae hB2;have HM:=ae hm;clear hfc hm
      cases hh:az x.2.2.2.2.2.1 m with
      |true=>
       rw [hh] at HH;have HA2:Hid (∀(j:Nat) (b:Int),j < n+1→lf[j]? =some b→az x.2.2.2.2.2.1 b=true):=ae (fun j b hj hb=>by
        by_cases e:j=n
        ·subst e;rw [HM.out] at hb;injection hb with hb;rw [←hb];exact hh
        ·exact HA.out j b (by omega) hb)
       clear hh;go_wp2_with fail
       refine L5.aE (by kernel_rfl) (by kernel_rfl) ?_;repeat (go_big_quiet_step ((go_at_call 17;exact L5.cX (HH.out _))))
       refine wpQuiet_nil ?_;rintro _ ⟨z,rfl⟩;go_wp2_with fail
       go_roundw
       case rel=>exact⟨n+1,by omega,by go_num,HA2,ae (hB2.out z)⟩
       case measure=>simp [intOf];omega
      |false=>
       rw [hh] at HH;have HR:Hid (false=iI f k i):=ae (by
        rw [HPg.out];symm
        rw [Bool.eq_false_iff];intro hall;have:=List.all_eq_true.1 hall m (List.mem_of_getElem? HM.out);rw [hh] at this
        cases this)
       clear hh;go_wp2_with fail
       refine L5.aE (by kernel_rfl) (by kernel_rfl) ?_;repeat (go_big_quiet_step ((go_at_call 17;exact L5.cX (HH.out _))))
       refine wpQuiet_nil ?_;rintro _ ⟨z,rfl⟩;have HE:=ae (af B4.out (hB2.out z));go_wp2_with fail
       go_ret;exact⟨L5.aw HR.out,HE.out⟩
     ·obtain rfl:n=lf.length:=(by omega);have HR:Hid (true=iI f k i):=ae (by
       rw [HPg.out];symm
       refine List.all_eq_true.2 fun b hb=> ?_;obtain⟨j,hj⟩:=List.mem_iff_getElem?.1 hb;exact HA.out j b (List.getElem?_eq_some_iff.1 hj).1 hj)
      have HE:=ae (af B4.out HW.out);go_wp2_with fail
      go_ret;exact⟨L5.aw HR.out,HE.out⟩
   ·have hlb:((x.2.2.2.2.2.1.length:Int) == (lf.length:Int))=false:=beq_eq_false_iff_ne.2 (by omega);have HR:Hid (false=iI f k i):=ae (by rw [HPf.out,decide_eq_false hlen];simp);go_wp2_with fail
    go_ret;exact⟨L5.aw HR.out,B4.out⟩
  ·have hpb:(pv == 20)=false:=beq_eq_false_iff_ne.2 hp;have HR:Hid (false=iI f k i):=ae (by rw [HPf.out];simp [hp,hi0]);clear hp;go_wp2_with fail
   go_ret;exact⟨L5.aw HR.out,B3.out⟩
end Go.Proofs.YtljkgcfnoegibaaGreatDoor
