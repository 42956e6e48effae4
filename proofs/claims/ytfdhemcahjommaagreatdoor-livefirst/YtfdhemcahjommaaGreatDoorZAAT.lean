/- Texts of one chain, joined. -/
import Derived.Test.YtfdhemcahjommaaGreatDoorZAAS
set_option maxHeartbeats 8000000
set_option maxRecDepth 20000
namespace Go.Proofs.YtfdhemcahjommaaGreatDoor
open Go Go.RowKit
open G (Tok Er Ins Fun)
def IJ (m:Plc):Value:= .agg #[.int .i64 m.1,.int .i64 m.2.1,.int .i64 m.2.2.1,.bool m.2.2.2]
def Mod (f:Fun):Prop:=f.2.2.2.1.length≤1000000∧∀b∈f.2.2.2.1,b.length≤1000000
theorem Mod.blk {f:Fun} (h:Mod f) (k:Nat):(ah f k).length≤1000000:=by
 by_cases hk:k < f.2.2.2.1.length
 ·exact h.2 _ (List.mem_of_getElem? (dp hk))
 ·unfold ah;rw [List.getD_eq_getElem?_getD,List.getElem?_eq_none (by omega)];simp
theorem df {w:World} {f:Fun} {bo:Option Addr} {n cb k:Nat} (h:fw w f.2.2.2.1 (.slice bo n cb)) (hk:k < f.2.2.2.1.length):∃g o ao c,bo=some ⟨g,o,none⟩∧g < w.heap.size∧w.cell? ⟨g,o+k,none⟩=some (.slice ao (ah f k).length c)∧gR w (ah f k) (.slice ao (ah f k).length c):=by
 obtain⟨bo',cb',e,_,_,h3⟩:=h;injection e with e1 e2 e3;subst e1;rcases h3 with h3 | ⟨g,o,rfl,hg,h4⟩
 ·rw [h3] at hk;simp at hk
 ·obtain⟨u,hu,hb⟩:=h4 k _ (dp hk);obtain⟨ao,c,rfl,_⟩:=id hb;exact⟨g,o,ao,c,rfl,hg,hu,hb⟩
theorem ef {w:World} {f:Fun} {ao:Option Addr} {n c k i:Nat} (h:gR w (ah f k) (.slice ao n c)) (hi:i < (ah f k).length):∃g o,ao=some ⟨g,o,none⟩∧nH w (ay f k i) g (o+i * 8):=by
 obtain⟨ao',c',e,_,_,h3⟩:=h;injection e with e1 e2 e3;subst e1;rcases h3 with h3 | ⟨g,o,rfl,h4⟩
 ·rw [h3] at hi;simp at hi
 ·exact⟨g,o,rfl,h4 i _ (ji hi)⟩
theorem j9 {w:World} {b t:Nat} {a0 a1 a2 a3:Value} (h:w.heap[b]? =some (.cells #[a0,a1,a2,a3] t (0,0))):(w.cell? ⟨b,0,none⟩=some a0∧w.cell? ⟨b,1,none⟩=some a1∧w.cell? ⟨b,2,none⟩=some a2∧w.cell? ⟨b,3,none⟩=some a3)∧(w.frozen? ⟨b,0,none⟩=false∧w.frozen? ⟨b,1,none⟩=false∧w.frozen? ⟨b,2,none⟩=false∧w.frozen? ⟨b,3,none⟩=false)∧b < w.heap.size:=by
 refine⟨⟨?_,?_,?_,?_⟩,⟨?_,?_,?_,?_⟩,(Array.getElem?_eq_some_iff.1 h).1⟩ <;> simp [World.cell?,World.frozen?,h]
theorem qi (f:Fun) (id:Int) (K J:Nat) (v:Value) (w:World) (hv:bG w f v) (hF:Mod f) (hK:K≤1000000) (hJ:J≤1000000):
  Calls Tryz.prog 84 #[v,.int .i64 id,.int .i64 K,.int .i64 J] w fun e w'=>e= .returned (IJ (ei f id K J))∧Below w.heap.size w w':=by
 have hv2:=hv;obtain⟨vp,vb,rfl,⟨lp,cp,rfl,hps,_,_⟩,⟨lb,cb,rfl,_⟩⟩:=hv2;have hN:=hF.1;have HBn:=ae (fun k=>hF.blk k);have HBl:Hid (fw w f.2.2.2.1 (.slice lb f.2.2.2.1.length cb)):=ae (by
  obtain⟨vp',vb',e,_,h2⟩:=hv;injection e with e;have e1:=congrArg (fun a=>a[3]?) e;simp at e1;rw [←e1] at h2;exact h2)
 have HPs:=ae hps;have HMd:Hid (ei f id K J=if en f id then(0,-1,f.2.1.getD id.toNat 0,true)else(jx f id K J).getD (0,0,0,false)):=ae rfl;clear hv hps hF;obtain⟨r,hr⟩:∃r,r=ei f id K J:=⟨_,rfl⟩;rw [←hr] at HMd ⊢;clear hr;generalize bs f.1=nm at *;obtain⟨lps,hlps⟩:∃n,n=f.2.1.length:=⟨_,rfl⟩;have HPar:Hid (en f id=(decide (0≤id) && decide (id < (lps:Int)))):=ae (by rw [hlps];rfl);have HPc:Hid (∀i:Nat,i < lps→f.2.1[i]? =some (f.2.1.getD i 0)):=ae (fun i hi=>by rw [List.getD_eq_getElem?_getD,List.getElem?_eq_getElem (by omega)];rfl);rw [←hlps];generalize f.2.2.1=rt at *;obtain⟨lbs,hlbs⟩:∃n,n=f.2.2.2.1.length:=⟨_,rfl⟩;have HSc:Hid (jx f id K J=cJ (fun k=>lS f id k (jz f K J k)) (min (K+1) lbs)):=ae (by rw [hlbs];rfl);have HRw:Hid (∀(w':World),Below w.heap.size w w'→∀k,k < lbs→∃g o ao c,lb=some ⟨g,o,none⟩∧w'.cell? ⟨g,o+k,none⟩=some (.slice ao (ah f k).length c)∧gR w' (ah f k) (.slice ao (ah f k).length c)):=ae (fun w' b k hk=>by
  obtain⟨g,o,ao,c,h1,h2,h3,h4⟩:=df (HBl.out.below b) (k:=k) (by omega);exact⟨g,o,ao,c,h1,h3,h4⟩)
 rw [←hlbs] at hN ⊢;clear hlbs HBl hlps;generalize f.2.2.2.2=pl at *;have b1:=ag w (.cells #[.string nm,.slice lp lps cp,.int .i64 rt,.slice lb lbs cb,.int .i64 pl] 28);have X1:=L5.Box.new w [.string nm,.slice lp lps cp,.int .i64 rt,.slice lb lbs cb,.int .i64 pl] 28;have b2:=ag (w.alloc (.cells #[.string nm,.slice lp lps cp,.int .i64 rt,.slice lb lbs cb,.int .i64 pl] 28)) (.cells #[.int .i64 0,.int .i64 0,.int .i64 0,.bool false] 126);have hs1:(w.alloc (.cells #[.string nm,.slice lp lps cp,.int .i64 rt,.slice lb lbs cb,.int .i64 pl] 28)).heap.size=w.heap.size+1:=by simp
 have HZ0:=heap_alloc_new (w.alloc (.cells #[.string nm,.slice lp lps cp,.int .i64 rt,.slice lb lbs cb,.int .i64 pl] 28)) (.cells #[.int .i64 0,.int .i64 0,.int .i64 0,.bool false] 126);rw [hs1] at HZ0;have HZ:=ae HZ0;have X0:Hid (L5.Box ((w.alloc (.cells #[.string nm,.slice lp lps cp,.int .i64 rt,.slice lb lbs cb,.int .i64 pl] 28)).alloc (.cells #[.int .i64 0,.int .i64 0,.int .i64 0,.bool false] 126)) w.heap.size [.string nm,.slice lp lps cp,.int .i64 rt,.slice lb lbs cb,.int .i64 pl]):=ae (X1.below b2);have B0:=ae (af b1 b2);clear b1 X1 b2 hs1 HZ0;go_enter Tryz.func84,Tryz.ntmps84
 go_upto_region 1 with fail
 show Code.wp _ _ _ _ ((w.alloc (.cells #[.string nm,.slice lp lps cp,.int .i64 rt,.slice lb lbs cb,.int .i64 pl] 28)).alloc (.cells #[.int .i64 0,.int .i64 0,.int .i64 0,.bool false] 126));generalize (w.alloc (.cells #[.string nm,.slice lp lps cp,.int .i64 rt,.slice lb lbs cb,.int .i64 pl] 28)).alloc (.cells #[.int .i64 0,.int .i64 0,.int .i64 0,.bool false] 126)=W at *;generalize hq:w.heap.size=q at *;have hle:q≤q+1:=Nat.le_succ q;obtain⟨x0,x1,x2,x3,x4⟩:_∧_∧_∧_∧_:=⟨X0.out.2 0 _ rfl,X0.out.2 1 _ rfl,X0.out.2 2 _ rfl,X0.out.2 3 _ rfl,X0.out.2 4 _ rfl⟩;obtain⟨⟨z0,z1,z2,z3⟩,⟨f0,f1,f2,f3⟩,hzs⟩:=j9 HZ.out;replace HRw:=ae (by have h:=HRw.out;rw [←hq] at h;exact h);have B0w:Hid (Below w.heap.size w W):=ae (by have h:=B0.out;rw [←hq] at h;exact h);by_cases hpb:en f id=true
 ·rw [hpb] at HPar;obtain⟨h1,h2⟩:0≤id∧id < (lps:Int):=by have:=HPar.out;simpa using this.symm
  obtain⟨I,rfl⟩:∃I:Nat,id=(I:Int):=⟨id.toNat,by omega⟩;have HRr:Hid (r=(0,-1,f.2.1.getD I 0,true)):=ae (by rw [HMd.out,if_pos hpb];rfl);have c1:W.cell? ⟨q,1,none⟩=some (.slice lp lps cp):=x1;rcases HPs.out with he | ⟨pb,po,rfl,hpl,hpc⟩
  ·have:=HPc.out I (by omega);rw [he] at this;simp at this
  have c2:=(B0w.out.cell (p:=⟨pb,po+I,none⟩) hpl).trans (hpc I _ (HPc.out I (by omega)));obtain⟨tv,htv⟩:∃tv,tv=f.2.1.getD I 0:=⟨_,rfl⟩;rw [←htv] at c2 HRr;have HE:Hid (Below q w ((((W.setCell ⟨q+1,0,none⟩ (.int .i64 0)).setCell ⟨q+1,1,none⟩ (.int .i64 (-1))).setCell ⟨q+1,2,none⟩ (.int .i64 tv)).setCell ⟨q+1,3,none⟩ (.bool true))):=ae (((((B0.out.setCell (p:=⟨q+1,0,none⟩) hle _).setCell (p:=⟨q+1,1,none⟩) hle _).setCell (p:=⟨q+1,2,none⟩) hle _).setCell (p:=⟨q+1,3,none⟩) hle _));clear hpc htv hpb HPc;go_wp2_with fail
  exact bodyPost_ret (v:= .agg #[.int .i64 0,.int .i64 (-1),.int .i64 tv,.bool true]) (by simp [results,Tryz.results84,go_sem,z0,z1,z2,z3]) rfl ⟨by rw [HRr.out];rfl,by first | exact HE.out | (rw [hq];exact HE.out) | (have h:=HE.out;rw [hq] at h;exact h) | (have h:=HE.out;rw [←hq] at h;exact h)⟩
 ·have hpf:en f id=false:=by simpa using hpb
  have HRr:Hid (r=(jx f id K J).getD (0,0,0,false)):=ae (by rw [HMd.out,if_neg hpb]);have HPn:=ae (HPar.out.symm.trans hpf);clear HPs HPc HPar HMd hpb hpf;by_cases h1:0≤id
  all_goals
   first
   |have h1':¬0≤id:=h1
   |have h2:¬id < (lps:Int):=by have:=HPn.out;simp [h1] at this;omega
   go_wp2_with fail
   clear z0 z1 z2 z3 f0 f1 f2 f3 x0 x1 x2 x3 x4;go_loopw [9] (fun kv wr=>∃k:Nat,k≤min (K+1) lbs∧kv= .int .i64 k∧Hid (∀j,j < k→lS f id j (jz f K J j)=none)∧Hid (Below W.heap.size W wr)) (fun kv _=>min (K+1) lbs - (intOf kv).toNat)
   case atStart=>exact⟨0,Nat.zero_le _,rfl,ae (fun j h=>absurd h (Nat.not_lt_zero _)),ae (Below.refl _ _)⟩
   case round=>
    obtain⟨k,hk,rfl,HF,HW⟩:=hrel;have X1:=ae (X0.out.below HW.out);obtain⟨x0,x1,x2,x3,x4⟩:_∧_∧_∧_∧_:=⟨X1.out.2 0 _ rfl,X1.out.2 1 _ rfl,X1.out.2 2 _ rfl,X1.out.2 3 _ rfl,X1.out.2 4 _ rfl⟩;by_cases hkt:k < min (K+1) lbs
    ·have hk1:(k:Int) < lbs:=(by omega);have hk2:(k:Int)≤K:=(by omega);obtain⟨g,o,ao,c,rfl,_,_⟩:=HRw.out wr (af B0w.out HW.out) k (by omega);have HRk:Hid (∀w',Below W.heap.size W w'→∃ao c,w'.cell? ⟨g,o+k,none⟩=some (.slice ao (ah f k).length c)∧gR w' (ah f k) (.slice ao (ah f k).length c)):=ae (fun w' b=>by
      obtain⟨g',o',ao,c,he,h1,h2⟩:=HRw.out w' (af B0w.out b) k (by omega);injection he with he;injection he with hg ho;subst hg ho;exact⟨ao,c,h1,h2⟩)
     have hbn:=HBn.out k;have HW0:=ae HW.out;go_wp2_with fail
     clear x0 x1 x2 x3 x4 X1;go_loopw [10] (fun iv wr=>∃i:Nat,i≤min (jz f K J k) (ah f k).length∧iv= .int .i64 i∧Hid (∀j,j < i→lx f id k j=none)∧Hid (Below W.heap.size W wr)) (fun iv _=>min (jz f K J k) (ah f k).length - (intOf iv).toNat)
     case atStart=>exact⟨0,Nat.zero_le _,rfl,ae (fun j h=>absurd h (Nat.not_lt_zero _)),ae HW0.out⟩
     case round=>
      clear HW HW0;obtain⟨i,hi,rfl,HG,HW⟩:=hrel;have X1:=ae (X0.out.below HW.out);obtain⟨x0,x1,x2,x3,x4⟩:_∧_∧_∧_∧_:=⟨X1.out.2 0 _ rfl,X1.out.2 1 _ rfl,X1.out.2 2 _ rfl,X1.out.2 3 _ rfl,X1.out.2 4 _ rfl⟩;obtain⟨ao,c,cu,hb⟩:=HRk.out wr HW.out;by_cases hil:i < (ah f k).length
      ·have hilI:(i:Int) < (ah f k).length:=(by omega);by_cases hlm:k < K∨i < J
       ·by_cases hkK:k < K
        all_goals
         first
         |have hkKI:(k:Int) < K:=by omega
          have hit:i < min (jz f K J k) (ah f k).length:=by unfold jz;rw [if_pos hkK];omega
         |have hkKI:¬(k:Int) < K:=by omega
          have hiJI:(i:Int) < J:=(by omega);have hit:i < min (jz f K J k) (ah f k).length:=by unfold jz;rw [if_neg hkK];omega
         clear hlm;obtain⟨g2,o2,rfl,hins⟩:=ef hb hil;obtain⟨xo,zo,xc,zc,_,e0,e1,e2,e3,e4,e5,e6,e7⟩:=hins.val;have HSg:Hid (lx f id k i=if dm id (ay f k i)then some ((k:Int),(i:Int),mkX (ay f k i),true)else none):=ae rfl;have HHt:Hid (dm id (ay f k i)=(decide ((ay f k i).2.1=id) && decide (mkX (ay f k i)≠0))):=ae rfl;have HMk:Hid (mkX (ay f k i)=L5.cd (ay f k i).1 (ay f k i).2.2.2.1):=ae rfl;obtain⟨x,hx⟩:∃x,ay f k i=x:=⟨_,rfl⟩;rw [hx] at e0 e1 e2 e3 e4 e5 e6 e7 HSg HHt HMk;clear hins hx;go_upto_region 10 with fail
         show Code.wp _ _ _ _ (wr.alloc (.cells #[.int .i64 x.1,.int .i64 x.2.1,.int .i64 x.2.2.1,.int .i64 x.2.2.2.1,.slice xo x.2.2.2.2.1.length xc,.slice zo x.2.2.2.2.2.1.length zc,.string (bs x.2.2.2.2.2.2.1),.int .i64 x.2.2.2.2.2.2.2] 48));have b3:=ag wr (.cells #[.int .i64 x.1,.int .i64 x.2.1,.int .i64 x.2.2.1,.int .i64 x.2.2.2.1,.slice xo x.2.2.2.2.1.length xc,.slice zo x.2.2.2.2.2.1.length zc,.string (bs x.2.2.2.2.2.2.1),.int .i64 x.2.2.2.2.2.2.2] 48);have Y0:=ae (L5.Box.new wr [.int .i64 x.1,.int .i64 x.2.1,.int .i64 x.2.2.1,.int .i64 x.2.2.2.1,.slice xo x.2.2.2.2.1.length xc,.slice zo x.2.2.2.2.2.1.length zc,.string (bs x.2.2.2.2.2.2.1),.int .i64 x.2.2.2.2.2.2.2] 48);have HW3:=ae (af HW.out b3);have hs3:wr.heap.size < (wr.alloc (.cells #[.int .i64 x.1,.int .i64 x.2.1,.int .i64 x.2.2.1,.int .i64 x.2.2.2.1,.slice xo x.2.2.2.2.1.length xc,.slice zo x.2.2.2.2.2.1.length zc,.string (bs x.2.2.2.2.2.2.1),.int .i64 x.2.2.2.2.2.2.2] 48)).heap.size:=(by simp);replace Y0:Hid (L5.Box (wr.alloc (.cells #[.int .i64 x.1,.int .i64 x.2.1,.int .i64 x.2.2.1,.int .i64 x.2.2.2.1,.slice xo x.2.2.2.2.1.length xc,.slice zo x.2.2.2.2.2.1.length zc,.string (bs x.2.2.2.2.2.2.1),.int .i64 x.2.2.2.2.2.2.2] 48)) wr.heap.size [.int .i64 x.1,.int .i64 x.2.1,.int .i64 x.2.2.1,.int .i64 x.2.2.2.1,.slice xo x.2.2.2.2.1.length xc,.slice zo x.2.2.2.2.2.1.length zc,.string (bs x.2.2.2.2.2.2.1),.int .i64 x.2.2.2.2.2.2.2]):=Y0;clear e0 e1 e2 e3 e4 e5 e6 e7 b3 x0 x1 x2 x3 x4 cu;generalize wr.alloc (.cells #[.int .i64 x.1,.int .i64 x.2.1,.int .i64 x.2.2.1,.int .i64 x.2.2.2.1,.slice xo x.2.2.2.2.1.length xc,.slice zo x.2.2.2.2.2.1.length zc,.string (bs x.2.2.2.2.2.2.1),.int .i64 x.2.2.2.2.2.2.2] 48)=w3 at *;generalize wr.heap.size=q3 at *;obtain⟨y0,y1,y2,y3,y4,y5,y6,y7⟩:_∧_∧_∧_∧_∧_∧_∧_:=⟨Y0.out.2 0 _ rfl,Y0.out.2 1 _ rfl,Y0.out.2 2 _ rfl,Y0.out.2 3 _ rfl,Y0.out.2 4 _ rfl,Y0.out.2 5 _ rfl,Y0.out.2 6 _ rfl,Y0.out.2 7 _ rfl⟩;have HNo:Hid (lx f id k i=none→∀j,j < i+1→lx f id k j=none):=ae (fun hn j hj=>by
          by_cases e:j=i
          ·rw [e];exact hn
          ·exact HG.out j (by omega))
         by_cases hid:x.2.1=id
         ·have hde:(x.2.1 == id)=true:=beq_iff_eq.2 hid;have HM:=ae (L5.cO x.1 x.2.2.2.1 (.int .i64 x.2.1) (.int .i64 x.2.2.1) (.slice xo x.2.2.2.2.1.length xc) (.slice zo x.2.2.2.2.2.1.length zc) (.string (bs x.2.2.2.2.2.2.1)) (.int .i64 x.2.2.2.2.2.2.2) w3);rw [←HMk.out] at HM;by_cases hmz:mkX x=0
          ·have HG2:=ae (HNo.out (by rw [HSg.out,if_neg (by rw [HHt.out];simp [hmz])]));rw [hmz] at HM;clear hid hmz HMk;go_wp2_with fail
           refine HM.out.mono ?_;rintro e w4 ⟨rfl,b4⟩;have HW4:=ae (af HW3.out b4);clear HM b4 y0 y1 y2 y3 y4 y5 y6 y7;go_wp2_with fail
           go_roundw
           case rel=>exact⟨i+1,by omega,by go_num,HG2,HW4⟩
           case measure=>simp [intOf];omega
          ·have HSs:Hid (lx f id k i=some ((k:Int),(i:Int),mkX x,true)):=ae (by rw [HSg.out,if_pos (by rw [HHt.out];simp [hid,hmz])]);have HRk:Hid (r=((k:Int),(i:Int),mkX x,true)):=ae (by rw [HRr.out,HSc.out,dk HF.out hkt (a:=((k:Int),(i:Int),mkX x,true)) (by unfold lS;exact dk HG.out hit HSs.out)];rfl);have hmb:(mkX x == 0)=false:=beq_eq_false_iff_ne.2 hmz;generalize mkX x=mk at *;clear hid;go_wp2_with fail
           refine HM.out.mono ?_;rintro e w4 ⟨rfl,b4⟩;have HW4:=ae (af HW3.out b4);have HM2:=ae (L5.cO x.1 x.2.2.2.1 (.int .i64 x.2.1) (.int .i64 x.2.2.1) (.slice xo x.2.2.2.2.1.length xc) (.slice zo x.2.2.2.2.2.1.length zc) (.string (bs x.2.2.2.2.2.2.1)) (.int .i64 x.2.2.2.2.2.2.2) w4);rw [←HMk.out] at HM2;have Y4:=ae (Y0.out.below b4);clear HM b4 y0 y1 y2 y3 y4 y5 y6 y7;obtain⟨y0,y1,y2,y3,y4,y5,y6,y7⟩:_∧_∧_∧_∧_∧_∧_∧_:=⟨Y4.out.2 0 _ rfl,Y4.out.2 1 _ rfl,Y4.out.2 2 _ rfl,Y4.out.2 3 _ rfl,Y4.out.2 4 _ rfl,Y4.out.2 5 _ rfl,Y4.out.2 6 _ rfl,Y4.out.2 7 _ rfl⟩;go_wp2_with fail
           refine HM2.out.mono ?_;rintro e w5 ⟨rfl,b5⟩;have HW5:=ae (af HW4.out b5);clear HM2 b5 y0 y1 y2 y3 y4 y5 y6 y7;obtain⟨⟨z0,z1,z2,z3⟩,⟨f0,f1,f2,f3⟩,_⟩:=j9 ((HW5.out.block _ hzs).trans HZ.out);have HE:Hid (Below w.heap.size w ((((w5.setCell ⟨q+1,0,none⟩ (.int .i64 k)).setCell ⟨q+1,1,none⟩ (.int .i64 i)).setCell ⟨q+1,2,none⟩ (.int .i64 mk)).setCell ⟨q+1,3,none⟩ (.bool true))):=ae (by
            have hle2:w.heap.size≤q+1:=(by omega);exact(((((af B0w.out HW5.out).setCell (p:=⟨q+1,0,none⟩) hle2 _).setCell (p:=⟨q+1,1,none⟩) hle2 _).setCell (p:=⟨q+1,2,none⟩) hle2 _).setCell (p:=⟨q+1,3,none⟩) hle2 _))
           go_wp2_with fail
           exact bodyPost_ret (v:= .agg #[.int .i64 k,.int .i64 i,.int .i64 mk,.bool true]) (by simp [results,Tryz.results84,go_sem,z0,z1,z2,z3]) rfl ⟨by rw [HRk.out];rfl,by first | exact HE.out | (rw [hq];exact HE.out) | (have h:=HE.out;rw [hq] at h;exact h) | (have h:=HE.out;rw [←hq] at h;exact h)⟩
         ·have hde:(x.2.1 == id)=false:=beq_eq_false_iff_ne.2 hid;have HG2:=ae (HNo.out (by rw [HSg.out,if_neg (by rw [HHt.out];simp [hid])]));clear hid HMk;go_wp2_with fail
          go_roundw
          case rel=>exact⟨i+1,by omega,by go_num,HG2,HW3⟩
          case measure=>simp [intOf];omega
       ·have hkK:¬k < K:=(by omega);have hkKI:¬(k:Int) < K:=(by omega);have hiJI:¬(i:Int) < J:=(by omega);clear hlm;have hie:min (jz f K J k) (ah f k).length≤i:=(by unfold jz;rw [if_neg hkK];omega);have HF2:Hid (∀j,j < k+1→lS f id j (jz f K J j)=none):=ae (fun j hj=>by
         by_cases e:j=k
         ·rw [e];unfold lS;exact cz (fun j hj=>HG.out j (by omega))
         ·exact HF.out j (by omega))
        go_wp2_with fail
        go_roundw
        case rel=>exact⟨k+1,by omega,by go_num,HF2,HW⟩
        case measure=>simp [intOf];omega
      ·have hilI:¬(i:Int) < (ah f k).length:=(by omega);have hie:min (jz f K J k) (ah f k).length≤i:=(by omega);have HF2:Hid (∀j,j < k+1→lS f id j (jz f K J j)=none):=ae (fun j hj=>by
        by_cases e:j=k
        ·rw [e];unfold lS;exact cz (fun j hj=>HG.out j (by omega))
        ·exact HF.out j (by omega))
       go_wp2_with fail
       go_roundw
       case rel=>exact⟨k+1,by omega,by go_num,HF2,HW⟩
       case measure=>simp [intOf];omega
    ·have hke:min (K+1) lbs≤k:=(by omega);have HRn:Hid (r=(0,0,0,false)):=ae (by rw [HRr.out,HSc.out,cz (fun j hj=>HF.out j (by omega))];rfl);obtain⟨⟨z0,z1,z2,z3⟩,⟨f0,f1,f2,f3⟩,_⟩:=j9 ((HW.out.block _ hzs).trans HZ.out);have HE:Hid (Below w.heap.size w ((((wr.setCell ⟨q+1,0,none⟩ (.int .i64 0)).setCell ⟨q+1,1,none⟩ (.int .i64 0)).setCell ⟨q+1,2,none⟩ (.int .i64 0)).setCell ⟨q+1,3,none⟩ (.bool false))):=ae (by
      have hle2:w.heap.size≤q+1:=(by omega);exact(((((af B0w.out HW.out).setCell (p:=⟨q+1,0,none⟩) hle2 _).setCell (p:=⟨q+1,1,none⟩) hle2 _).setCell (p:=⟨q+1,2,none⟩) hle2 _).setCell (p:=⟨q+1,3,none⟩) hle2 _))
     by_cases hkl:k < lbs
     ·have hk1:(k:Int) < lbs:=(by omega);have hk2:¬(k:Int)≤K:=(by omega);go_wp2_with fail
      exact bodyPost_ret (v:= .agg #[.int .i64 0,.int .i64 0,.int .i64 0,.bool false]) (by simp [results,Tryz.results84,go_sem,z0,z1,z2,z3]) rfl ⟨by rw [HRn.out];rfl,by first | exact HE.out | (rw [hq];exact HE.out) | (have h:=HE.out;rw [hq] at h;exact h) | (have h:=HE.out;rw [←hq] at h;exact h)⟩
     ·have hk1:¬(k:Int) < lbs:=(by omega);go_wp2_with fail
      exact bodyPost_ret (v:= .agg #[.int .i64 0,.int .i64 0,.int .i64 0,.bool false]) (by simp [results,Tryz.results84,go_sem,z0,z1,z2,z3]) rfl ⟨by rw [HRn.out];rfl,by first | exact HE.out | (rw [hq];exact HE.out) | (have h:=HE.out;rw [hq] at h;exact h) | (have h:=HE.out;rw [←hq] at h;exact h)⟩
theorem bH {a b:Int} (h:a=b):Ending.returned (.int .i64 a)= .returned (.int .i64 b):=by rw [h]
theorem cG {w:World} {f:Fun} {v:Value} (hv:bG w f v):∃lp cp lb cb,v= .agg #[.string (bs f.1),.slice lp f.2.1.length cp,.int .i64 f.2.2.1,.slice lb f.2.2.2.1.length cb,.int .i64 f.2.2.2.2]∧
  L5.Box (w.alloc (.cells #[.string (bs f.1),.slice lp f.2.1.length cp,.int .i64 f.2.2.1,.slice lb f.2.2.2.1.length cb,.int .i64 f.2.2.2.2] 28)) w.heap.size [.string (bs f.1),.slice lp f.2.1.length cp,.int .i64 f.2.2.1,.slice lb f.2.2.2.1.length cb,.int .i64 f.2.2.2.2]∧
  Below w.heap.size w (w.alloc (.cells #[.string (bs f.1),.slice lp f.2.1.length cp,.int .i64 f.2.2.1,.slice lb f.2.2.2.1.length cb,.int .i64 f.2.2.2.2] 28)):=by
 obtain⟨vp,vb,rfl,⟨lp,cp,rfl,_⟩,⟨lb,cb,rfl,_⟩⟩:=hv;exact⟨lp,cp,lb,cb,rfl,L5.Box.new w [.string (bs f.1),.slice lp f.2.1.length cp,.int .i64 f.2.2.1,.slice lb f.2.2.2.1.length cb,.int .i64 f.2.2.2.2] 28,ag _ _⟩
theorem dF {w:World} {f:Fun} {a b d:Value} {lb:Option Addr} {n cb:Nat} {c:Value} (hv:bG w f (.agg #[a,b,c,.slice lb n cb,d])):fw w f.2.2.2.1 (.slice lb n cb):=by
 obtain⟨vp',vb',e,_,h2⟩:=hv;injection e with e;have e1:=congrArg (fun a=>a[3]?) e;simp at e1;rw [←e1] at h2;exact h2
theorem iX (x:Ins) (v:Value) (w:World) (hv:iB w x v):
  Calls Tryz.prog 86 #[v] w fun e w'=>e= .returned (.bool (eZ x))∧Below w.heap.size w w':=by
 obtain⟨xo,zo,xc,zc,rfl,_⟩:=hv;have Y0:=ae (L5.Box.new w [.int .i64 x.1,.int .i64 x.2.1,.int .i64 x.2.2.1,.int .i64 x.2.2.2.1,.slice xo x.2.2.2.2.1.length xc,.slice zo x.2.2.2.2.2.1.length zc,.string (bs x.2.2.2.2.2.2.1),.int .i64 x.2.2.2.2.2.2.2] 48);have B0:=ae (ag w (.cells #[.int .i64 x.1,.int .i64 x.2.1,.int .i64 x.2.2.1,.int .i64 x.2.2.2.1,.slice xo x.2.2.2.2.1.length xc,.slice zo x.2.2.2.2.2.1.length zc,.string (bs x.2.2.2.2.2.2.1),.int .i64 x.2.2.2.2.2.2.2] 48));have HL:Hid (eZ x=(decide (x.1=23) || decide (x.1=24) || decide (x.1=25) || (decide (x.1=21) && decide (x.2.2.1≠0)))):=ae rfl;replace Y0:Hid (L5.Box (w.alloc (.cells #[.int .i64 x.1,.int .i64 x.2.1,.int .i64 x.2.2.1,.int .i64 x.2.2.2.1,.slice xo x.2.2.2.2.1.length xc,.slice zo x.2.2.2.2.2.1.length zc,.string (bs x.2.2.2.2.2.2.1),.int .i64 x.2.2.2.2.2.2.2] 48)) w.heap.size [.int .i64 x.1,.int .i64 x.2.1,.int .i64 x.2.2.1,.int .i64 x.2.2.2.1,.slice xo x.2.2.2.2.1.length xc,.slice zo x.2.2.2.2.2.1.length zc,.string (bs x.2.2.2.2.2.2.1),.int .i64 x.2.2.2.2.2.2.2]):=Y0;go_enter Tryz.func86,Tryz.ntmps86
 go_upto_region 1 with fail
 show Code.wp _ _ _ _ (w.alloc (.cells #[.int .i64 x.1,.int .i64 x.2.1,.int .i64 x.2.2.1,.int .i64 x.2.2.2.1,.slice xo x.2.2.2.2.1.length xc,.slice zo x.2.2.2.2.2.1.length zc,.string (bs x.2.2.2.2.2.2.1),.int .i64 x.2.2.2.2.2.2.2] 48));generalize w.alloc (.cells #[.int .i64 x.1,.int .i64 x.2.1,.int .i64 x.2.2.1,.int .i64 x.2.2.2.1,.slice xo x.2.2.2.2.1.length xc,.slice zo x.2.2.2.2.2.1.length zc,.string (bs x.2.2.2.2.2.2.1),.int .i64 x.2.2.2.2.2.2.2] 48)=W at *;generalize hq:w.heap.size=q at *;obtain⟨y0,y1,y2,y3,y4,y5,y6,y7⟩:_∧_∧_∧_∧_∧_∧_∧_:=⟨Y0.out.2 0 _ rfl,Y0.out.2 1 _ rfl,Y0.out.2 2 _ rfl,Y0.out.2 3 _ rfl,Y0.out.2 4 _ rfl,Y0.out.2 5 _ rfl,Y0.out.2 6 _ rfl,Y0.out.2 7 _ rfl⟩;by_cases h23:x.1=23
 ·have e1:(x.1 == 23)=true:=beq_iff_eq.2 h23;have HR:Hid (true=eZ x):=ae (by rw [HL.out];simp [h23]);clear h23;go_wp2_with fail
  go_ret;exact⟨L5.ax HR.out,by first | exact B0.out | (rw [hq];exact B0.out)⟩
 ·have e1:(x.1 == 23)=false:=beq_eq_false_iff_ne.2 h23;by_cases h24:x.1=24
  ·have e2:(x.1 == 24)=true:=beq_iff_eq.2 h24;have HR:Hid (true=eZ x):=ae (by rw [HL.out];simp [h24]);clear h23 h24;go_wp2_with fail
   go_ret;exact⟨L5.ax HR.out,by first | exact B0.out | (rw [hq];exact B0.out)⟩
  ·have e2:(x.1 == 24)=false:=beq_eq_false_iff_ne.2 h24;by_cases h25:x.1=25
   ·have e3:(x.1 == 25)=true:=beq_iff_eq.2 h25;have HR:Hid (true=eZ x):=ae (by rw [HL.out];simp [h25]);clear h23 h24 h25;go_wp2_with fail
    go_ret;exact⟨L5.ax HR.out,by first | exact B0.out | (rw [hq];exact B0.out)⟩
   ·have e3:(x.1 == 25)=false:=beq_eq_false_iff_ne.2 h25;by_cases h21:x.1=21
    ·have e4:(x.1 == 21)=true:=beq_iff_eq.2 h21;have HR:Hid ((!(x.2.2.1 == 0))=eZ x):=ae (by
      rw [HL.out,decide_eq_false h23,decide_eq_false h24,decide_eq_false h25,decide_eq_true h21]
      cases h:(x.2.2.1 == 0) <;> simp at h <;> simp [h])
     clear h23 h24 h25 h21;go_wp2_with fail
     go_ret;exact⟨L5.ax HR.out,by first | exact B0.out | (rw [hq];exact B0.out)⟩
    ·have e4:(x.1 == 21)=false:=beq_eq_false_iff_ne.2 h21;have HR:Hid (false=eZ x):=ae (by rw [HL.out];simp [h23,h24,h25,h21]);clear h23 h24 h25 h21;go_wp2_with fail
     go_ret;exact⟨L5.ax HR.out,by first | exact B0.out | (rw [hq];exact B0.out)⟩
open G (Tok Er Ins Fun ak br ft)
theorem EP (c:UInt8) (h:inB [32,9,10,13] c=true):L2.fZ c.toNat=false∧L2.jX c.toNat=false∧¬(c.toNat:Int)=35∧L2.o6 c.toNat=true:=by
 have key:∀n:Fin 256,inB [32,9,10,13] (UInt8.ofNat n.val)=true→L2.fZ (UInt8.ofNat n.val).toNat=false∧L2.jX (UInt8.ofNat n.val).toNat=false∧¬((UInt8.ofNat n.val).toNat:Int)=35∧L2.o6 (UInt8.ofNat n.val).toNat=true:=by decide +kernel
 have:=key ⟨c.toNat,c.toNat_lt⟩;rw [show UInt8.ofNat c.toNat=c from UInt8.ofNat_toNat] at this;exact this h
theorem DT (c:UInt8) (h:inB [40,41,123,125,61,58] c=true):L2.fZ c.toNat=false∧L2.jX c.toNat=true:=by
 have key:∀n:Fin 256,inB [40,41,123,125,61,58] (UInt8.ofNat n.val)=true→L2.fZ (UInt8.ofNat n.val).toNat=false∧L2.jX (UInt8.ofNat n.val).toNat=true:=by decide +kernel
 have:=key ⟨c.toNat,c.toNat_lt⟩;rw [show UInt8.ofNat c.toNat=c from UInt8.ofNat_toNat] at this;exact this h
theorem Ai (l:List UInt8) (p q:Nat) (ws:List (Nat × Nat)) (h:∀c r,l=c :: r→L2.fZ c.toNat=false):L2.scan l q ws (some p) false=L2.scan l q (ws ++ [(p,q)]) none false:=by
 cases l with
 |nil=>rfl
 |cons c r=>
  have hc:=h c r rfl;by_cases h2:L2.jX c.toNat=true
  ·rw [L2.jw r q ws (some p) hc h2,L2.jw r q (ws ++ [(p,q)]) none hc h2];rfl
  ·have h2:L2.jX c.toNat=false:=(by simpa using h2);by_cases h3:(c.toNat:Int)=35
   ·rw [L2.j7 r q ws (some p) hc h2 h3,L2.j7 r q (ws ++ [(p,q)]) none hc h2 h3];rfl
   ·by_cases h4:L2.o6 c.toNat=true
    ·rw [L2.jE r q ws (some p) hc h2 h3 h4,L2.jE r q (ws ++ [(p,q)]) none hc h2 h3 h4];rfl
    ·have h4:L2.o6 c.toNat=false:=(by simpa using h4);rw [L2.jP r q ws (some p) hc h2 h3 h4,L2.jP r q (ws ++ [(p,q)]) none hc h2 h3 h4]
def SpR (w:World) (s:ByteArray) (v:Value) (ws:List (Nat × Nat)) (wr:World):Prop:=
 wr.ownsRow (w.heap.size+1) 134 2 v ws.length (L2.gA (ws.map (L2.tok s)))∧wr.heap[w.heap.size]? =some (.cells #[.int .i64 0,.int .i64 0] 55 (0,0))∧Below w.heap.size w wr∧w.heap.size < wr.heap.size
theorem SpR.step {w wr w2:World} {s:ByteArray} {v v':Value} {ws:List (Nat × Nat)} {a b:Nat} {o:Obj} (h:SpR w s v ws wr)
  (own:w2.ownsRow (w.heap.size+1) 134 2 v' (ws.length+1) (L2.gA (ws.map (L2.tok s)) ++ [.string (s.extract a b),.int .i64 a])) (hg:(wr.alloc o).grownBy w2 v.ownBlock):SpR w s v' (ws ++ [(a,b)]) w2:=by
 obtain⟨h1,h2,h3,h4⟩:=h;have bx:=ag wr o;have hz:=bx.size;have hrow:∀q,v.ownBlock=some q→w.heap.size+1≤q:=fun q hq=>(h1.lt q hq).1;refine⟨by rw [L2.ux,List.length_append];exact own,(hg.block _ (by omega) (fun e=>by have:=hrow _ e.symm;omega)).trans ((bx.block _ h4).trans h2),?_,by have:=hg.size;omega⟩;exact⟨hg.os.trans (bx.os.trans h3.os),hg.tape.trans (bx.tape.trans h3.tape),hg.output.trans (bx.output.trans h3.output),by have:=hg.size;have:=h3.size;omega,fun k hk=>(hg.block k (by omega) (fun e=>by have:=hrow k e.symm;omega)).trans ((bx.block k (by omega)).trans (h3.block k hk))⟩
theorem JY (s:ByteArray) (hs:s.size≤65536) (hn:∀c∈s.data.toList,(c.toNat:Int)≠35) {ws:List (Nat × Nat)} (hw:L2.words s= .inr ws):Splits s (nJ s ws):=by
 intro w;obtain⟨i0,hi,hz0,hz1,hz2⟩:=info_parts L2.Tryz.Gp;have hs1:¬(65536:Int) < (s.size:Int):=by omega
 have hs2:decide ((65536:Int) < (s.size:Int))=false:=by simpa using hs1
 have HN:=ae hn;have HW:Hid (L2.scan (s.data.toList.drop 0) 0 [] none false= .inr ws):=ae hw;have S0:Hid (SpR w s (.slice none 0 0) [] (w.alloc (.cells #[.int .i64 0,.int .i64 0] 55))):=ae ⟨World.ownsRow_nil _ _ _ _,heap_alloc_new w _,ag w _,by simp⟩;clear hn hw;go_enter Tryz.func61,Tryz.ntmps61
 go_upto_region 1 with fail
 show Code.wp _ _ _ _ (w.alloc (.cells #[.int .i64 0,.int .i64 0] 55));generalize w.alloc (.cells #[.int .i64 0,.int .i64 0] 55)=W0 at *;go_wp2_with fail
 go_loopw [4,5] (fun v i wr=>∃(p:Nat) (us:List (Nat × Nat)),p≤s.size∧i= .int .i64 p∧us.length≤p∧Hid (SpR w s v us wr)∧Hid (L2.scan (s.data.toList.drop p) p us none false= .inr ws)) (fun _ i _=>s.size - (intOf i).toNat)
 case atStart=>exact⟨0,[],Nat.zero_le _,rfl,by simp,S0,HW⟩
 case round=>
  obtain⟨p,us,hp,rfl,hus,S,HR⟩:=hrel;by_cases hlt:p < s.size
  ·have hlt':(p:Int) < (s.size:Int):=(by omega);obtain⟨d,hd⟩:∃d,d=s[p]:=⟨_,rfl⟩;have hd1:(s[p].toNat:Int)=(d.toNat:Int):=(by rw [hd]);have HD:Hid (L2.scan (d :: s.data.toList.drop (p+1)) p us none false= .inr ws):=ae (by rw [hd,←L2.drop_cons s p hlt];exact HR.out);have hn35:((d.toNat:Int) == 35)=false:=by
    have:=HN.out d (by rw [hd];exact List.mem_of_mem_drop (i:=p) (by rw [L2.drop_cons s p hlt];simp));simpa using this
   clear hd;obtain⟨ao,cp,rfl⟩:=aI S.out.1;go_wp2_with fail
   refine(rin d [32,9,10,13] _ (by simp)).mono ?_;rintro e w1 ⟨rfl,hw1⟩;rw [hw1];clear hw1
   cases hb:inB [32,9,10,13] d with
   |true=>
    have HE:Hid (L2.scan (s.data.toList.drop (p+1)) (p+1) us none false= .inr ws):=ae (by
     obtain⟨k1,k2,k3,k4⟩:=EP d hb;have:=HD.out;rwa [L2.jE _ _ _ _ k1 k2 k3 k4] at this)
    clear HD HR hb;go_wp2_with fail
    go_roundw
    case rel=>exact⟨p+1,us,by omega,by go_num,by omega,S,HE⟩
    case measure=>simp [intOf];omega
   |false=>
    go_wp2_with fail
    refine(rin d [40,41,123,125,61,58] _ (by simp)).mono ?_;rintro e w1 ⟨rfl,hw1⟩;rw [hw1];clear hw1
    cases ha:inB [40,41,123,125,61,58] d with
    |true=>
     have HE:Hid (L2.scan (s.data.toList.drop (p+1)) (p+1) (us ++ [(p,p+1)]) none false= .inr ws):=ae (by
      obtain⟨k1,k2⟩:=DT d ha;have:=HD.out;rwa [L2.jw _ _ _ _ k1 k2] at this)
     have OS:=ae S.out.1;have hsw:=S.out.2.2.2;have t2:us.length+1≤maxLen:=(by unfold maxLen;omega);have t3:(us.length+1) * 24≤140737488355328:=(by omega);clear HD HR hb ha;go_wp2_with (at_builtin;refine wpList_append_own _ rfl (.tmp 39) (.tmp 47) 102 rfl (w.heap.size+1) 134 i0 _ 2 24 Tryz.underlying102 hi hz0 hz1 hz2 rfl (by decide) _ _ _ rfl (OS.out.alloc _) ⟨wr.heap.size,0,none⟩ 1 1 [.string (s.extract p (p+1)),.int .i64 p] rfl rfl L2.mN L2.rS t2 t3 (by simp;omega) ?_;intro v2 w2 own2 grow2 _)
     have S2:=ae (S.out.step own2 grow2);clear own2 grow2;go_wp2_with fail
     go_roundw
     case rel=>exact⟨p+1,us ++ [(p,p+1)],by omega,by go_num,by simp;omega,S2,HE⟩
     case measure=>simp [intOf];omega
    |false=>
     have hlet:xC d=true:=by
      cases hl:xC d with
      |true=>rfl
      |false=>
       have:=HD.out;rw [L2.jP _ _ _ _ (by rw [←lC];exact hl) (by rw [←Fk];exact ha) (by simpa using hn35) (by rw [←FX];exact hb)] at this
       cases this
     have HLET:=ae hlet;go_wp2_with fail
     refine(y9 d _).mono ?_;rintro e w1 ⟨rfl,hw1⟩;rw [hw1,HLET.out];clear hw1 hlet;have HR0:Hid (L2.scan (s.data.toList.drop p) p us none false= .inr ws):=HR;clear HD HR hb ha;go_wp2_with fail
     go_loopw [7] (fun j wr2=>∃(q:Nat) (bq:Option Nat),p≤q∧q≤s.size∧j= .int .i64 q∧Hid (SpR w s (.slice ao us.length cp) us wr2)∧Hid (bq.getD q=p∧(p < q→bq=some p)∧L2.scan (s.data.toList.drop q) q us bq false= .inr ws)) (fun j _=>s.size - (intOf j).toNat)
     case atStart=>exact⟨p,none,Nat.le_refl _,by omega,rfl,S,ae ⟨rfl,fun h=>absurd h (Nat.lt_irrefl _),HR0.out⟩⟩
     case round=>
      obtain⟨q,bq,hpq,hqs,rfl,SQ,HQ⟩:=hrel;have fin:Hid ((∀c r,s.data.toList.drop q=c :: r→L2.fZ c.toNat=false)→p < q∧L2.scan (s.data.toList.drop q) q (us ++ [(p,q)]) none false= .inr ws):=ae (by
       intro hx;have hpq2:p < q:=by
        refine Classical.byContradiction fun hc=> ?_;have e:q=p:=(by omega);have:=hx _ _ (by rw [e];exact L2.drop_cons s p hlt);have h2:=HLET.out;rw [lC] at h2;have h3:(s[p].toNat:Int)=(d.toNat:Int):=hd1;rw [h3] at this;rw [this] at h2
        cases h2
       obtain⟨_,k2,k3⟩:=HQ.out;rw [k2 hpq2,Ai _ _ _ _ hx] at k3;exact⟨hpq2,k3⟩)
      by_cases hq:q < s.size
      ·have hq':(q:Int) < (s.size:Int):=(by omega);obtain⟨d2,hd2⟩:∃d2,d2=s[q]:=⟨_,rfl⟩;have hd3:(s[q].toNat:Int)=(d2.toNat:Int):=(by rw [hd2]);have HDQ:=ae (show s.data.toList.drop q=d2 :: s.data.toList.drop (q+1) by rw [hd2];exact L2.drop_cons s q hq);clear hd2;go_wp2_with fail
       refine(y9 d2 _).mono ?_;rintro e w1 ⟨rfl,hw1⟩;rw [hw1];clear hw1
       cases hl2:xC d2 with
       |true=>
        have HQ2:Hid ((some p).getD (q+1)=p∧(p < q+1→some p=some p)∧L2.scan (s.data.toList.drop (q+1)) (q+1) us (some p) false= .inr ws):=ae ⟨rfl,fun _=>rfl,by
         obtain⟨k1,_,k3⟩:=HQ.out;rw [HDQ.out,L2.n7 _ _ _ _ (by rw [←lC];exact hl2),k1] at k3;exact k3⟩
        clear HQ fin HDQ hl2;go_wp2_with fail
        go_roundw
        case rel=>exact⟨q+1,some p,by omega,by omega,by go_num,SQ,ae ⟨rfl,fun _=>rfl,HQ2.out.2.2⟩⟩
        case measure=>simp [intOf];omega
       |false=>
        have HF:=ae (fin.out fun c r hcr=>by
         rw [HDQ.out] at hcr
         cases hcr;rw [←lC];exact hl2)
        clear HQ fin HDQ hl2;have OS:=ae SQ.out.1;have hsw:=SQ.out.2.2.2;have t2:us.length+1≤maxLen:=(by unfold maxLen;omega);have t3:(us.length+1) * 24≤140737488355328:=(by omega);go_wp2_with (at_builtin;refine wpList_append_own _ rfl (.tmp 66) (.tmp 73) 102 rfl (w.heap.size+1) 134 i0 _ 2 24 Tryz.underlying102 hi hz0 hz1 hz2 rfl (by decide) _ _ _ rfl (OS.out.alloc _) ⟨wr.heap.size,0,none⟩ 1 1 [.string (s.extract p q),.int .i64 p] rfl rfl L2.mN L2.rS t2 t3 (by simp;omega) ?_;intro v2 w2 own2 grow2 _)
        have S2:=ae (SQ.out.step own2 grow2);have hpq2:=HF.out.1;clear own2 grow2;go_wp2_with fail
        go_roundw
        case rel=>exact⟨q,us ++ [(p,q)],hqs,rfl,by simp;omega,S2,ae HF.out.2⟩
        case measure=>simp [intOf];omega
      ·have hq':¬(q:Int) < (s.size:Int):=(by omega);have hq2:decide ((q:Int) < (s.size:Int))=false:=(by simpa using hq');have HF:=ae (fin.out fun c r hcr=>by
        rw [List.drop_eq_nil_of_le (by have e9:s.data.toList.length=s.size:=(by simp);omega)] at hcr
        cases hcr)
       clear HQ fin;have OS:=ae SQ.out.1;have hsw:=SQ.out.2.2.2;have t2:us.length+1≤maxLen:=(by unfold maxLen;omega);have t3:(us.length+1) * 24≤140737488355328:=(by omega);go_wp2_with (at_builtin;refine wpList_append_own _ rfl (.tmp 66) (.tmp 73) 102 rfl (w.heap.size+1) 134 i0 _ 2 24 Tryz.underlying102 hi hz0 hz1 hz2 rfl (by decide) _ _ _ rfl (OS.out.alloc _) ⟨wr.heap.size,0,none⟩ 1 1 [.string (s.extract p q),.int .i64 p] rfl rfl L2.mN L2.rS t2 t3 (by simp;omega) ?_;intro v2 w2 own2 grow2 _)
       have S2:=ae (SQ.out.step own2 grow2);have hpq2:=HF.out.1;clear own2 grow2;go_wp2_with fail
       go_roundw
       case rel=>exact⟨q,us ++ [(p,q)],hqs,rfl,by simp;omega,S2,ae HF.out.2⟩
       case measure=>simp [intOf];omega
  ·have hlt':¬(p:Int) < (s.size:Int):=(by omega);have hlt2:decide ((p:Int) < (s.size:Int))=false:=(by simpa using hlt');obtain rfl:us=ws:=by
    have:=HR.out;rw [List.drop_eq_nil_of_le (by have e9:s.data.toList.length=s.size:=(by simp);omega)] at this;injection this
   obtain⟨ao,cp,rfl⟩:=aI S.out.1;obtain⟨o1,s3,bb,hwz⟩:=S.out;have u1:wr.cell? ⟨w.heap.size,0,none⟩=some (.int .i64 0):=(by simp [World.cell?,s3]);have u2:wr.cell? ⟨w.heap.size,1,none⟩=some (.int .i64 0):=(by simp [World.cell?,s3]);have v1:wr.frozen? ⟨w.heap.size,0,none⟩=false:=(by simp [World.frozen?,s3]);have v2:wr.frozen? ⟨w.heap.size,1,none⟩=false:=(by simp [World.frozen?,s3]);have FF:=((Far.refl w.heap.size wr).set 0 (.int .i64 0)).set 1 (.int .i64 0);have OO:=ae (aO (FF.own o1 (bw o1 s3 (by decide))) (Nat.le_succ w.heap.size));have BB:=ae ((bb.setCell (p:=⟨w.heap.size,0,none⟩) (Nat.le_refl _) (.int .i64 0)).setCell (p:=⟨w.heap.size,1,none⟩) (Nat.le_refl _) (.int .i64 0));have HL:=ae (show us.length=(nJ s us).length by simp [nJ]);have HC:=ae (xP s us);clear o1 s3 bb FF S HR;go_wp2_with fail
   exact bodyPost_ret (v:= .tuple #[.slice ao us.length cp,.agg #[.int .i64 0,.int .i64 0]]) (by simp [results,Tryz.results61,go_sem,u1,u2]) rfl ⟨_,rfl,by rw [←HC.out,←HL.out];exact OO.out,BB.out⟩
theorem I0 {E:Int}:∀(f n:Nat) (acc:List Fun) (l:List Tok) (xs:List Fun) (n':Nat) (r:List Tok),l.length < f→fwG E f n acc l= .ok ((xs,n'),r)→r= []:=by
 intro f;induction f with
 |zero=>intro n acc l xs n' r h;omega
 |succ f ih=>
  intro n acc l xs n' r h hr;by_cases hl:l= []
  ·subst hl;rw [yp] at hr;cases hr;rfl
  ·by_cases h32:acc.length < 32
   ·cases hq:qc E n l with
    |error er=>rw [BH hl h32 hq] at hr;cases hr
    |ok p=>
     have hless:=tB (x:=p.1.1) (n':=p.1.2) (l':=p.2) hq;rw [H9 (x:=p.1.1) (n':=p.1.2) (l':=p.2) hl h32 hq] at hr;exact ih _ _ _ _ _ _ (by omega) hr
   ·rw [yr hl (by omega)] at hr;cases hr
theorem Av (s:ByteArray) (hs:s.size≤65536) (hn:∀c∈s.data.toList,(c.toNat:Int)≠35) {xs:List Fun} (h:Cd s= .ok xs) (w:World):
  Calls Tryz.prog 40 #[.string s] w fun e w'=>∃v,e= .returned (.tuple #[.agg #[v],.agg #[.int .i64 0,.int .i64 0]])∧eQ w.heap.size xs v w'∧Below w.heap.size w w':=by
 unfold Cd at h
 cases hw:L2.words s with
 |inl x=>rw [hw] at h;cases h
 |inr ws=>
  rw [hw] at h;replace h:(match yY (s.size:Int) (nJ s ws)with | .ok ((xs,_),_)=>Except.ok xs | .error er=> .error er)= .ok xs:=h
  cases hp:yY (s.size:Int) (nJ s ws)with
  |error er=>rw [hp] at h;cases h
  |ok p=>
   obtain⟨⟨ys,n'⟩,r⟩:=p;rw [hp] at h
   cases h;have hr:r= []:=I0 _ _ _ _ _ _ _ (Nat.lt_succ_self _) hp;subst hr;exact KP s (xE hw hs) (JY s hs hn hw) hp w
open Mix (Up)
theorem qg (N:Nat):∀(l:List (List Ins)) (k:Nat),(dP N k l).1=0→∀b∈l,tQ N b=0:=by
 intro l;induction l with
 |nil=>intro k _ b hb;cases hb
 |cons c l ih=>
  intro k h b hb;by_cases e:tQ N c=0
  ·rw [kG e] at h;rcases List.mem_cons.1 hb with rfl | hb
   ·exact e
   ·exact ih _ h b hb
  ·rw [ee rfl e] at h;exact absurd h e
theorem vQ (N n:Nat):∀(l:List Ins) (i:Nat),eW N n i l=0→∀(j:Nat) (x:Ins),l[j]? =some x→gU x.1=decide (i+j+1=n)∧jr N x=false:=by
 intro l;induction l with
 |nil=>intro i _ j x hx;simp at hx
 |cons y l ih=>
  intro i h j x hx;by_cases e:gU y.1=decide (i+1=n)
  ·cases hb:jr N y with
   |true=>rw [m7 e hb] at h;cases h
   |false=>
    rw [kM e hb] at h
    cases j with
    |zero=>simp at hx;subst hx;exact⟨e,hb⟩
    |succ j=>
     have:=ih (i+1) h j x (by simpa using hx);rw [show i+1+j+1=i+(j+1)+1 by omega] at this;exact this
  ·rw [mB e] at h;cases h
theorem ox (f:Fun) (v:Value) (w:World) (hv:bG w f v) (hF:Ful f):
  Calls Tryz.prog 83 #[v] w fun e w'=>∃u,e= .returned u∧Below w.heap.size w w'∧jU w' (aL f) u:=by
 obtain⟨nm,ps,rt,bl,pl⟩:=f;have hv2:=hv;obtain⟨vp,vb,rfl,⟨ao,c,rfl,h1,_⟩,h2⟩:=hv;obtain⟨bo,cb,rfl,_⟩:=h2;exact(xI nm ps rt pl bl ao bo c cb w hv2 hF).mono fun e w' ⟨u,he,h,b⟩=>⟨u,he,b,h.read⟩
theorem Cx (l:List Int) (u v:Value) (w:World) (hu:bT w l u) (hv:bT w l v):Calls Tryz.prog 26 #[u,v] w fun e w'=>e= .returned (.bool true)∧Below w.heap.size w w':=by
 obtain⟨ao,ca,rfl,h1,h2,h3⟩:=hu;obtain⟨bo,cb,rfl,k1,_⟩:=hv;exact wC l ao bo ca cb w (Nat.le_trans h2 h3) h1 k1
end Go.Proofs.YtfdhemcahjommaaGreatDoor
