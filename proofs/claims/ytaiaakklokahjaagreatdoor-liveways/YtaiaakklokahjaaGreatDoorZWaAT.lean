/- Texts of one chain, joined. -/
import Derived.Test.YtaiaakklokahjaaGreatDoorZWaAS
set_option maxHeartbeats 8000000
set_option maxRecDepth 20000
namespace Go.Proofs.YtaiaakklokahjaaGreatDoor
open Go Go.RowKit
open G (Tok Er Ins Fun)
def Jc (m:Plc):Value:= .agg #[.int .i64 m.1,.int .i64 m.2.1,.int .i64 m.2.2.1,.bool m.2.2.2]
def Mod (f:Fun):Prop:=f.2.2.2.1.length≤1000000∧∀b∈f.2.2.2.1,b.length≤1000000
theorem Mod.blk {f:Fun} (h:Mod f) (k:Nat):(ag f k).length≤1000000:=by
 by_cases hk:k < f.2.2.2.1.length
 ·exact h.2 _ (List.mem_of_getElem? (de hk))
 ·unfold ag;rw [List.getD_eq_getElem?_getD,List.getElem?_eq_none (by omega)];simp
theorem eD {w:World} {f:Fun} {bo:Option Addr} {n cb k:Nat} (h:fj w f.2.2.2.1 (.slice bo n cb)) (hk:k < f.2.2.2.1.length):∃g o ao c,bo=some ⟨g,o,none⟩∧g < w.heap.size∧w.cell? ⟨g,o+k,none⟩=some (.slice ao (ag f k).length c)∧iR w (ag f k) (.slice ao (ag f k).length c):=by
 obtain⟨bo',cb',e,_,_,h3⟩:=h;injection e with e1 e2 e3;subst e1;rcases h3 with h3 | ⟨g,o,rfl,hg,h4⟩
 ·rw [h3] at hk;simp at hk
 ·obtain⟨u,hu,hb⟩:=h4 k _ (de hk);obtain⟨ao,c,rfl,_⟩:=id hb;exact⟨g,o,ao,c,rfl,hg,hu,hb⟩
theorem dy {w:World} {f:Fun} {ao:Option Addr} {n c k i:Nat} (h:iR w (ag f k) (.slice ao n c)) (hi:i < (ag f k).length):∃g o,ao=some ⟨g,o,none⟩∧nF w (au f k i) g (o+i * 8):=by
 obtain⟨ao',c',e,_,_,h3⟩:=h;injection e with e1 e2 e3;subst e1;rcases h3 with h3 | ⟨g,o,rfl,h4⟩
 ·rw [h3] at hi;simp at hi
 ·exact⟨g,o,rfl,h4 i _ (iO hi)⟩
theorem j4 {w:World} {b t:Nat} {a0 a1 a2 a3:Value} (h:w.heap[b]? =some (.cells #[a0,a1,a2,a3] t (0,0))):(w.cell? ⟨b,0,none⟩=some a0∧w.cell? ⟨b,1,none⟩=some a1∧w.cell? ⟨b,2,none⟩=some a2∧w.cell? ⟨b,3,none⟩=some a3)∧(w.frozen? ⟨b,0,none⟩=false∧w.frozen? ⟨b,1,none⟩=false∧w.frozen? ⟨b,2,none⟩=false∧w.frozen? ⟨b,3,none⟩=false)∧b < w.heap.size:=by
 refine⟨⟨?_,?_,?_,?_⟩,⟨?_,?_,?_,?_⟩,(Array.getElem?_eq_some_iff.1 h).1⟩ <;> simp [World.cell?,World.frozen?,h]
theorem qL (f:Fun) (id:Int) (K J:Nat) (v:Value) (w:World) (hv:bS w f v) (hF:Mod f) (hK:K≤1000000) (hJ:J≤1000000):
  Calls Tryz.prog 135 #[v,.int .i64 id,.int .i64 K,.int .i64 J] w fun e w'=>e= .returned (Jc (dV f id K J))∧Below w.heap.size w w':=by
 have hv2:=hv;obtain⟨vp,vb,rfl,⟨lp,cp,rfl,hps,_,_⟩,⟨lb,cb,rfl,_⟩⟩:=hv2;have hN:=hF.1;have HBn:=aa (fun k=>hF.blk k);have HBl:Hid (fj w f.2.2.2.1 (.slice lb f.2.2.2.1.length cb)):=aa (by
  obtain⟨vp',vb',e,_,h2⟩:=hv;injection e with e;have e1:=congrArg (fun a=>a[3]?) e;simp at e1;rw [←e1] at h2;exact h2)
 have HPs:=aa hps;have HMd:Hid (dV f id K J=if fF f id then(0,-1,f.2.1.getD id.toNat 0,true)else(jr f id K J).getD (0,0,0,false)):=aa rfl;clear hv hps hF;obtain⟨r,hr⟩:∃r,r=dV f id K J:=⟨_,rfl⟩;rw [←hr] at HMd ⊢;clear hr;generalize bs f.1=nm at *;obtain⟨lps,hlps⟩:∃n,n=f.2.1.length:=⟨_,rfl⟩;have HPar:Hid (fF f id=(decide (0≤id) && decide (id < (lps:Int)))):=aa (by rw [hlps];rfl);have HPc:Hid (∀i:Nat,i < lps→f.2.1[i]? =some (f.2.1.getD i 0)):=aa (fun i hi=>by rw [List.getD_eq_getElem?_getD,List.getElem?_eq_getElem (by omega)];rfl);rw [←hlps];generalize f.2.2.1=rt at *;obtain⟨lbs,hlbs⟩:∃n,n=f.2.2.2.1.length:=⟨_,rfl⟩;have HSc:Hid (jr f id K J=cD (fun k=>lH f id k (jq f K J k)) (min (K+1) lbs)):=aa (by rw [hlbs];rfl);have HRw:Hid (∀(w':World),Below w.heap.size w w'→∀k,k < lbs→∃g o ao c,lb=some ⟨g,o,none⟩∧w'.cell? ⟨g,o+k,none⟩=some (.slice ao (ag f k).length c)∧iR w' (ag f k) (.slice ao (ag f k).length c)):=aa (fun w' b k hk=>by
  obtain⟨g,o,ao,c,h1,h2,h3,h4⟩:=eD (HBl.out.below b) (k:=k) (by omega);exact⟨g,o,ao,c,h1,h3,h4⟩)
 rw [←hlbs] at hN ⊢;clear hlbs HBl hlps;generalize f.2.2.2.2=pl at *;have b1:=af w (.cells #[.string nm,.slice lp lps cp,.int .i64 rt,.slice lb lbs cb,.int .i64 pl] 29);have X1:=L5.Box.new w [.string nm,.slice lp lps cp,.int .i64 rt,.slice lb lbs cb,.int .i64 pl] 29;have b2:=af (w.alloc (.cells #[.string nm,.slice lp lps cp,.int .i64 rt,.slice lb lbs cb,.int .i64 pl] 29)) (.cells #[.int .i64 0,.int .i64 0,.int .i64 0,.bool false] 164);have hs1:(w.alloc (.cells #[.string nm,.slice lp lps cp,.int .i64 rt,.slice lb lbs cb,.int .i64 pl] 29)).heap.size=w.heap.size+1:=by simp
 have HZ0:=heap_alloc_new (w.alloc (.cells #[.string nm,.slice lp lps cp,.int .i64 rt,.slice lb lbs cb,.int .i64 pl] 29)) (.cells #[.int .i64 0,.int .i64 0,.int .i64 0,.bool false] 164);rw [hs1] at HZ0;have HZ:=aa HZ0;have X0:Hid (L5.Box ((w.alloc (.cells #[.string nm,.slice lp lps cp,.int .i64 rt,.slice lb lbs cb,.int .i64 pl] 29)).alloc (.cells #[.int .i64 0,.int .i64 0,.int .i64 0,.bool false] 164)) w.heap.size [.string nm,.slice lp lps cp,.int .i64 rt,.slice lb lbs cb,.int .i64 pl]):=aa (X1.below b2);have B0:=aa (ae b1 b2);clear b1 X1 b2 hs1 HZ0;go_enter Tryz.func135,Tryz.ntmps135
 go_upto_region 1 with fail
 show Code.wp _ _ _ _ ((w.alloc (.cells #[.string nm,.slice lp lps cp,.int .i64 rt,.slice lb lbs cb,.int .i64 pl] 29)).alloc (.cells #[.int .i64 0,.int .i64 0,.int .i64 0,.bool false] 164));generalize (w.alloc (.cells #[.string nm,.slice lp lps cp,.int .i64 rt,.slice lb lbs cb,.int .i64 pl] 29)).alloc (.cells #[.int .i64 0,.int .i64 0,.int .i64 0,.bool false] 164)=W at *;generalize hq:w.heap.size=q at *;have hle:q≤q+1:=Nat.le_succ q;obtain⟨x0,x1,x2,x3,x4⟩:_∧_∧_∧_∧_:=⟨X0.out.2 0 _ rfl,X0.out.2 1 _ rfl,X0.out.2 2 _ rfl,X0.out.2 3 _ rfl,X0.out.2 4 _ rfl⟩;obtain⟨⟨z0,z1,z2,z3⟩,⟨f0,f1,f2,f3⟩,hzs⟩:=j4 HZ.out;replace HRw:=aa (by have h:=HRw.out;rw [←hq] at h;exact h);have B0w:Hid (Below w.heap.size w W):=aa (by have h:=B0.out;rw [←hq] at h;exact h);by_cases hpb:fF f id=true
 ·rw [hpb] at HPar;obtain⟨h1,h2⟩:0≤id∧id < (lps:Int):=by have:=HPar.out;simpa using this.symm
  obtain⟨I,rfl⟩:∃I:Nat,id=(I:Int):=⟨id.toNat,by omega⟩;have HRr:Hid (r=(0,-1,f.2.1.getD I 0,true)):=aa (by rw [HMd.out,if_pos hpb];rfl);have c1:W.cell? ⟨q,1,none⟩=some (.slice lp lps cp):=x1;rcases HPs.out with he | ⟨pb,po,rfl,hpl,hpc⟩
  ·have:=HPc.out I (by omega);rw [he] at this;simp at this
  have c2:=(B0w.out.cell (p:=⟨pb,po+I,none⟩) hpl).trans (hpc I _ (HPc.out I (by omega)));obtain⟨tv,htv⟩:∃tv,tv=f.2.1.getD I 0:=⟨_,rfl⟩;rw [←htv] at c2 HRr;have HE:Hid (Below q w ((((W.setCell ⟨q+1,0,none⟩ (.int .i64 0)).setCell ⟨q+1,1,none⟩ (.int .i64 (-1))).setCell ⟨q+1,2,none⟩ (.int .i64 tv)).setCell ⟨q+1,3,none⟩ (.bool true))):=aa (((((B0.out.setCell (p:=⟨q+1,0,none⟩) hle _).setCell (p:=⟨q+1,1,none⟩) hle _).setCell (p:=⟨q+1,2,none⟩) hle _).setCell (p:=⟨q+1,3,none⟩) hle _));clear hpc htv hpb HPc;go_wp2_with fail
  exact bodyPost_ret (v:= .agg #[.int .i64 0,.int .i64 (-1),.int .i64 tv,.bool true]) (by simp [results,Tryz.results135,go_sem,z0,z1,z2,z3]) rfl ⟨by rw [HRr.out];rfl,by first | exact HE.out | (rw [hq];exact HE.out) | (have h:=HE.out;rw [hq] at h;exact h) | (have h:=HE.out;rw [←hq] at h;exact h)⟩
 ·have hpf:fF f id=false:=by simpa using hpb
  have HRr:Hid (r=(jr f id K J).getD (0,0,0,false)):=aa (by rw [HMd.out,if_neg hpb]);have HPn:=aa (HPar.out.symm.trans hpf);clear HPs HPc HPar HMd hpb hpf;by_cases h1:0≤id
  all_goals
   first
   |have h1':¬0≤id:=h1
   |have h2:¬id < (lps:Int):=by have:=HPn.out;simp [h1] at this;omega
   go_wp2_with fail
   clear z0 z1 z2 z3 f0 f1 f2 f3 x0 x1 x2 x3 x4;go_loopw [9] (fun kv wr=>∃k:Nat,k≤min (K+1) lbs∧kv= .int .i64 k∧Hid (∀j,j < k→lH f id j (jq f K J j)=none)∧Hid (Below W.heap.size W wr)) (fun kv _=>min (K+1) lbs - (intOf kv).toNat)
   case atStart=>exact⟨0,Nat.zero_le _,rfl,aa (fun j h=>absurd h (Nat.not_lt_zero _)),aa (Below.refl _ _)⟩
   case round=>
    obtain⟨k,hk,rfl,HF,HW⟩:=hrel;have X1:=aa (X0.out.below HW.out);obtain⟨x0,x1,x2,x3,x4⟩:_∧_∧_∧_∧_:=⟨X1.out.2 0 _ rfl,X1.out.2 1 _ rfl,X1.out.2 2 _ rfl,X1.out.2 3 _ rfl,X1.out.2 4 _ rfl⟩;by_cases hkt:k < min (K+1) lbs
    ·have hk1:(k:Int) < lbs:=(by omega);have hk2:(k:Int)≤K:=(by omega);obtain⟨g,o,ao,c,rfl,_,_⟩:=HRw.out wr (ae B0w.out HW.out) k (by omega);have HRk:Hid (∀w',Below W.heap.size W w'→∃ao c,w'.cell? ⟨g,o+k,none⟩=some (.slice ao (ag f k).length c)∧iR w' (ag f k) (.slice ao (ag f k).length c)):=aa (fun w' b=>by
      obtain⟨g',o',ao,c,he,h1,h2⟩:=HRw.out w' (ae B0w.out b) k (by omega);injection he with he;injection he with hg ho;subst hg ho;exact⟨ao,c,h1,h2⟩)
     have hbn:=HBn.out k;have HW0:=aa HW.out;go_wp2_with fail
     clear x0 x1 x2 x3 x4 X1;go_loopw [10] (fun iv wr=>∃i:Nat,i≤min (jq f K J k) (ag f k).length∧iv= .int .i64 i∧Hid (∀j,j < i→mn f id k j=none)∧Hid (Below W.heap.size W wr)) (fun iv _=>min (jq f K J k) (ag f k).length - (intOf iv).toNat)
     case atStart=>exact⟨0,Nat.zero_le _,rfl,aa (fun j h=>absurd h (Nat.not_lt_zero _)),aa HW0.out⟩
     case round=>
      clear HW HW0;obtain⟨i,hi,rfl,HG,HW⟩:=hrel;have X1:=aa (X0.out.below HW.out);obtain⟨x0,x1,x2,x3,x4⟩:_∧_∧_∧_∧_:=⟨X1.out.2 0 _ rfl,X1.out.2 1 _ rfl,X1.out.2 2 _ rfl,X1.out.2 3 _ rfl,X1.out.2 4 _ rfl⟩;obtain⟨ao,c,cu,hb⟩:=HRk.out wr HW.out;by_cases hil:i < (ag f k).length
      ·have hilI:(i:Int) < (ag f k).length:=(by omega);by_cases hlm:k < K∨i < J
       ·by_cases hkK:k < K
        all_goals
         first
         |have hkKI:(k:Int) < K:=by omega
          have hit:i < min (jq f K J k) (ag f k).length:=by unfold jq;rw [if_pos hkK];omega
         |have hkKI:¬(k:Int) < K:=by omega
          have hiJI:(i:Int) < J:=(by omega);have hit:i < min (jq f K J k) (ag f k).length:=by unfold jq;rw [if_neg hkK];omega
         clear hlm;obtain⟨g2,o2,rfl,hins⟩:=dy hb hil;obtain⟨xo,zo,xc,zc,_,e0,e1,e2,e3,e4,e5,e6,e7⟩:=hins.val;have HSg:Hid (mn f id k i=if dJ id (au f k i)then some ((k:Int),(i:Int),mkX (au f k i),true)else none):=aa rfl;have HHt:Hid (dJ id (au f k i)=(decide ((au f k i).2.1=id) && decide (mkX (au f k i)≠0))):=aa rfl;have HMk:Hid (mkX (au f k i)=L5.cn (au f k i).1 (au f k i).2.2.2.1):=aa rfl;obtain⟨x,hx⟩:∃x,au f k i=x:=⟨_,rfl⟩;rw [hx] at e0 e1 e2 e3 e4 e5 e6 e7 HSg HHt HMk;clear hins hx;go_upto_region 10 with fail
         show Code.wp _ _ _ _ (wr.alloc (.cells #[.int .i64 x.1,.int .i64 x.2.1,.int .i64 x.2.2.1,.int .i64 x.2.2.2.1,.slice xo x.2.2.2.2.1.length xc,.slice zo x.2.2.2.2.2.1.length zc,.string (bs x.2.2.2.2.2.2.1),.int .i64 x.2.2.2.2.2.2.2] 41));have b3:=af wr (.cells #[.int .i64 x.1,.int .i64 x.2.1,.int .i64 x.2.2.1,.int .i64 x.2.2.2.1,.slice xo x.2.2.2.2.1.length xc,.slice zo x.2.2.2.2.2.1.length zc,.string (bs x.2.2.2.2.2.2.1),.int .i64 x.2.2.2.2.2.2.2] 41);have Y0:=aa (L5.Box.new wr [.int .i64 x.1,.int .i64 x.2.1,.int .i64 x.2.2.1,.int .i64 x.2.2.2.1,.slice xo x.2.2.2.2.1.length xc,.slice zo x.2.2.2.2.2.1.length zc,.string (bs x.2.2.2.2.2.2.1),.int .i64 x.2.2.2.2.2.2.2] 41);have HW3:=aa (ae HW.out b3);have hs3:wr.heap.size < (wr.alloc (.cells #[.int .i64 x.1,.int .i64 x.2.1,.int .i64 x.2.2.1,.int .i64 x.2.2.2.1,.slice xo x.2.2.2.2.1.length xc,.slice zo x.2.2.2.2.2.1.length zc,.string (bs x.2.2.2.2.2.2.1),.int .i64 x.2.2.2.2.2.2.2] 41)).heap.size:=(by simp);replace Y0:Hid (L5.Box (wr.alloc (.cells #[.int .i64 x.1,.int .i64 x.2.1,.int .i64 x.2.2.1,.int .i64 x.2.2.2.1,.slice xo x.2.2.2.2.1.length xc,.slice zo x.2.2.2.2.2.1.length zc,.string (bs x.2.2.2.2.2.2.1),.int .i64 x.2.2.2.2.2.2.2] 41)) wr.heap.size [.int .i64 x.1,.int .i64 x.2.1,.int .i64 x.2.2.1,.int .i64 x.2.2.2.1,.slice xo x.2.2.2.2.1.length xc,.slice zo x.2.2.2.2.2.1.length zc,.string (bs x.2.2.2.2.2.2.1),.int .i64 x.2.2.2.2.2.2.2]):=Y0;clear e0 e1 e2 e3 e4 e5 e6 e7 b3 x0 x1 x2 x3 x4 cu;generalize wr.alloc (.cells #[.int .i64 x.1,.int .i64 x.2.1,.int .i64 x.2.2.1,.int .i64 x.2.2.2.1,.slice xo x.2.2.2.2.1.length xc,.slice zo x.2.2.2.2.2.1.length zc,.string (bs x.2.2.2.2.2.2.1),.int .i64 x.2.2.2.2.2.2.2] 41)=w3 at *;generalize wr.heap.size=q3 at *;obtain⟨y0,y1,y2,y3,y4,y5,y6,y7⟩:_∧_∧_∧_∧_∧_∧_∧_:=⟨Y0.out.2 0 _ rfl,Y0.out.2 1 _ rfl,Y0.out.2 2 _ rfl,Y0.out.2 3 _ rfl,Y0.out.2 4 _ rfl,Y0.out.2 5 _ rfl,Y0.out.2 6 _ rfl,Y0.out.2 7 _ rfl⟩;have HNo:Hid (mn f id k i=none→∀j,j < i+1→mn f id k j=none):=aa (fun hn j hj=>by
          by_cases e:j=i
          ·rw [e];exact hn
          ·exact HG.out j (by omega))
         by_cases hid:x.2.1=id
         ·have hde:(x.2.1 == id)=true:=beq_iff_eq.2 hid;have HM:=aa (L5.db x.1 x.2.2.2.1 (.int .i64 x.2.1) (.int .i64 x.2.2.1) (.slice xo x.2.2.2.2.1.length xc) (.slice zo x.2.2.2.2.2.1.length zc) (.string (bs x.2.2.2.2.2.2.1)) (.int .i64 x.2.2.2.2.2.2.2) w3);rw [←HMk.out] at HM;by_cases hmz:mkX x=0
          ·have HG2:=aa (HNo.out (by rw [HSg.out,if_neg (by rw [HHt.out];simp [hmz])]));rw [hmz] at HM;clear hid hmz HMk;go_wp2_with fail
           refine HM.out.mono ?_;rintro e w4 ⟨rfl,b4⟩;have HW4:=aa (ae HW3.out b4);clear HM b4 y0 y1 y2 y3 y4 y5 y6 y7;go_wp2_with fail
           go_roundw
           case rel=>exact⟨i+1,by omega,by go_num,HG2,HW4⟩
           case measure=>simp [intOf];omega
          ·have HSs:Hid (mn f id k i=some ((k:Int),(i:Int),mkX x,true)):=aa (by rw [HSg.out,if_pos (by rw [HHt.out];simp [hid,hmz])]);have HRk:Hid (r=((k:Int),(i:Int),mkX x,true)):=aa (by rw [HRr.out,HSc.out,cX HF.out hkt (a:=((k:Int),(i:Int),mkX x,true)) (by unfold lH;exact cX HG.out hit HSs.out)];rfl);have hmb:(mkX x == 0)=false:=beq_eq_false_iff_ne.2 hmz;generalize mkX x=mk at *;clear hid;go_wp2_with fail
           refine HM.out.mono ?_;rintro e w4 ⟨rfl,b4⟩;have HW4:=aa (ae HW3.out b4);have HM2:=aa (L5.db x.1 x.2.2.2.1 (.int .i64 x.2.1) (.int .i64 x.2.2.1) (.slice xo x.2.2.2.2.1.length xc) (.slice zo x.2.2.2.2.2.1.length zc) (.string (bs x.2.2.2.2.2.2.1)) (.int .i64 x.2.2.2.2.2.2.2) w4);rw [←HMk.out] at HM2;have Y4:=aa (Y0.out.below b4);clear HM b4 y0 y1 y2 y3 y4 y5 y6 y7;obtain⟨y0,y1,y2,y3,y4,y5,y6,y7⟩:_∧_∧_∧_∧_∧_∧_∧_:=⟨Y4.out.2 0 _ rfl,Y4.out.2 1 _ rfl,Y4.out.2 2 _ rfl,Y4.out.2 3 _ rfl,Y4.out.2 4 _ rfl,Y4.out.2 5 _ rfl,Y4.out.2 6 _ rfl,Y4.out.2 7 _ rfl⟩;go_wp2_with fail
           refine HM2.out.mono ?_;rintro e w5 ⟨rfl,b5⟩;have HW5:=aa (ae HW4.out b5);clear HM2 b5 y0 y1 y2 y3 y4 y5 y6 y7;obtain⟨⟨z0,z1,z2,z3⟩,⟨f0,f1,f2,f3⟩,_⟩:=j4 ((HW5.out.block _ hzs).trans HZ.out);have HE:Hid (Below w.heap.size w ((((w5.setCell ⟨q+1,0,none⟩ (.int .i64 k)).setCell ⟨q+1,1,none⟩ (.int .i64 i)).setCell ⟨q+1,2,none⟩ (.int .i64 mk)).setCell ⟨q+1,3,none⟩ (.bool true))):=aa (by
            have hle2:w.heap.size≤q+1:=(by omega);exact(((((ae B0w.out HW5.out).setCell (p:=⟨q+1,0,none⟩) hle2 _).setCell (p:=⟨q+1,1,none⟩) hle2 _).setCell (p:=⟨q+1,2,none⟩) hle2 _).setCell (p:=⟨q+1,3,none⟩) hle2 _))
           go_wp2_with fail
           exact bodyPost_ret (v:= .agg #[.int .i64 k,.int .i64 i,.int .i64 mk,.bool true]) (by simp [results,Tryz.results135,go_sem,z0,z1,z2,z3]) rfl ⟨by rw [HRk.out];rfl,by first | exact HE.out | (rw [hq];exact HE.out) | (have h:=HE.out;rw [hq] at h;exact h) | (have h:=HE.out;rw [←hq] at h;exact h)⟩
         ·have hde:(x.2.1 == id)=false:=beq_eq_false_iff_ne.2 hid;have HG2:=aa (HNo.out (by rw [HSg.out,if_neg (by rw [HHt.out];simp [hid])]));clear hid HMk;go_wp2_with fail
          go_roundw
          case rel=>exact⟨i+1,by omega,by go_num,HG2,HW3⟩
          case measure=>simp [intOf];omega
       ·have hkK:¬k < K:=(by omega);have hkKI:¬(k:Int) < K:=(by omega);have hiJI:¬(i:Int) < J:=(by omega);clear hlm;have hie:min (jq f K J k) (ag f k).length≤i:=(by unfold jq;rw [if_neg hkK];omega);have HF2:Hid (∀j,j < k+1→lH f id j (jq f K J j)=none):=aa (fun j hj=>by
         by_cases e:j=k
         ·rw [e];unfold lH;exact cd (fun j hj=>HG.out j (by omega))
         ·exact HF.out j (by omega))
        go_wp2_with fail
        go_roundw
        case rel=>exact⟨k+1,by omega,by go_num,HF2,HW⟩
        case measure=>simp [intOf];omega
      ·have hilI:¬(i:Int) < (ag f k).length:=(by omega);have hie:min (jq f K J k) (ag f k).length≤i:=(by omega);have HF2:Hid (∀j,j < k+1→lH f id j (jq f K J j)=none):=aa (fun j hj=>by
        by_cases e:j=k
        ·rw [e];unfold lH;exact cd (fun j hj=>HG.out j (by omega))
        ·exact HF.out j (by omega))
       go_wp2_with fail
       go_roundw
       case rel=>exact⟨k+1,by omega,by go_num,HF2,HW⟩
       case measure=>simp [intOf];omega
    ·have hke:min (K+1) lbs≤k:=(by omega);have HRn:Hid (r=(0,0,0,false)):=aa (by rw [HRr.out,HSc.out,cd (fun j hj=>HF.out j (by omega))];rfl);obtain⟨⟨z0,z1,z2,z3⟩,⟨f0,f1,f2,f3⟩,_⟩:=j4 ((HW.out.block _ hzs).trans HZ.out);have HE:Hid (Below w.heap.size w ((((wr.setCell ⟨q+1,0,none⟩ (.int .i64 0)).setCell ⟨q+1,1,none⟩ (.int .i64 0)).setCell ⟨q+1,2,none⟩ (.int .i64 0)).setCell ⟨q+1,3,none⟩ (.bool false))):=aa (by
      have hle2:w.heap.size≤q+1:=(by omega);exact(((((ae B0w.out HW.out).setCell (p:=⟨q+1,0,none⟩) hle2 _).setCell (p:=⟨q+1,1,none⟩) hle2 _).setCell (p:=⟨q+1,2,none⟩) hle2 _).setCell (p:=⟨q+1,3,none⟩) hle2 _))
     by_cases hkl:k < lbs
     ·have hk1:(k:Int) < lbs:=(by omega);have hk2:¬(k:Int)≤K:=(by omega);go_wp2_with fail
      exact bodyPost_ret (v:= .agg #[.int .i64 0,.int .i64 0,.int .i64 0,.bool false]) (by simp [results,Tryz.results135,go_sem,z0,z1,z2,z3]) rfl ⟨by rw [HRn.out];rfl,by first | exact HE.out | (rw [hq];exact HE.out) | (have h:=HE.out;rw [hq] at h;exact h) | (have h:=HE.out;rw [←hq] at h;exact h)⟩
     ·have hk1:¬(k:Int) < lbs:=(by omega);go_wp2_with fail
      exact bodyPost_ret (v:= .agg #[.int .i64 0,.int .i64 0,.int .i64 0,.bool false]) (by simp [results,Tryz.results135,go_sem,z0,z1,z2,z3]) rfl ⟨by rw [HRn.out];rfl,by first | exact HE.out | (rw [hq];exact HE.out) | (have h:=HE.out;rw [hq] at h;exact h) | (have h:=HE.out;rw [←hq] at h;exact h)⟩
theorem bD {a b:Int} (h:a=b):Ending.returned (.int .i64 a)= .returned (.int .i64 b):=by rw [h]
theorem dx {w:World} {f:Fun} {v:Value} (hv:bS w f v):∃lp cp lb cb,v= .agg #[.string (bs f.1),.slice lp f.2.1.length cp,.int .i64 f.2.2.1,.slice lb f.2.2.2.1.length cb,.int .i64 f.2.2.2.2]∧
  L5.Box (w.alloc (.cells #[.string (bs f.1),.slice lp f.2.1.length cp,.int .i64 f.2.2.1,.slice lb f.2.2.2.1.length cb,.int .i64 f.2.2.2.2] 29)) w.heap.size [.string (bs f.1),.slice lp f.2.1.length cp,.int .i64 f.2.2.1,.slice lb f.2.2.2.1.length cb,.int .i64 f.2.2.2.2]∧
  Below w.heap.size w (w.alloc (.cells #[.string (bs f.1),.slice lp f.2.1.length cp,.int .i64 f.2.2.1,.slice lb f.2.2.2.1.length cb,.int .i64 f.2.2.2.2] 29)):=by
 obtain⟨vp,vb,rfl,⟨lp,cp,rfl,_⟩,⟨lb,cb,rfl,_⟩⟩:=hv;exact⟨lp,cp,lb,cb,rfl,L5.Box.new w [.string (bs f.1),.slice lp f.2.1.length cp,.int .i64 f.2.2.1,.slice lb f.2.2.2.1.length cb,.int .i64 f.2.2.2.2] 29,af _ _⟩
theorem ff {w:World} {f:Fun} {a b d:Value} {lb:Option Addr} {n cb:Nat} {c:Value} (hv:bS w f (.agg #[a,b,c,.slice lb n cb,d])):fj w f.2.2.2.1 (.slice lb n cb):=by
 obtain⟨vp',vb',e,_,h2⟩:=hv;injection e with e;have e1:=congrArg (fun a=>a[3]?) e;simp at e1;rw [←e1] at h2;exact h2
theorem iU (x:Ins) (v:Value) (w:World) (hv:ib w x v):
  Calls Tryz.prog 137 #[v] w fun e w'=>e= .returned (.bool (eQ x))∧Below w.heap.size w w':=by
 obtain⟨xo,zo,xc,zc,rfl,_⟩:=hv;have Y0:=aa (L5.Box.new w [.int .i64 x.1,.int .i64 x.2.1,.int .i64 x.2.2.1,.int .i64 x.2.2.2.1,.slice xo x.2.2.2.2.1.length xc,.slice zo x.2.2.2.2.2.1.length zc,.string (bs x.2.2.2.2.2.2.1),.int .i64 x.2.2.2.2.2.2.2] 41);have B0:=aa (af w (.cells #[.int .i64 x.1,.int .i64 x.2.1,.int .i64 x.2.2.1,.int .i64 x.2.2.2.1,.slice xo x.2.2.2.2.1.length xc,.slice zo x.2.2.2.2.2.1.length zc,.string (bs x.2.2.2.2.2.2.1),.int .i64 x.2.2.2.2.2.2.2] 41));have HL:Hid (eQ x=(decide (x.1=23) || decide (x.1=24) || decide (x.1=25) || (decide (x.1=21) && decide (x.2.2.1≠0)))):=aa rfl;replace Y0:Hid (L5.Box (w.alloc (.cells #[.int .i64 x.1,.int .i64 x.2.1,.int .i64 x.2.2.1,.int .i64 x.2.2.2.1,.slice xo x.2.2.2.2.1.length xc,.slice zo x.2.2.2.2.2.1.length zc,.string (bs x.2.2.2.2.2.2.1),.int .i64 x.2.2.2.2.2.2.2] 41)) w.heap.size [.int .i64 x.1,.int .i64 x.2.1,.int .i64 x.2.2.1,.int .i64 x.2.2.2.1,.slice xo x.2.2.2.2.1.length xc,.slice zo x.2.2.2.2.2.1.length zc,.string (bs x.2.2.2.2.2.2.1),.int .i64 x.2.2.2.2.2.2.2]):=Y0;go_enter Tryz.func137,Tryz.ntmps137
 go_upto_region 1 with fail
 show Code.wp _ _ _ _ (w.alloc (.cells #[.int .i64 x.1,.int .i64 x.2.1,.int .i64 x.2.2.1,.int .i64 x.2.2.2.1,.slice xo x.2.2.2.2.1.length xc,.slice zo x.2.2.2.2.2.1.length zc,.string (bs x.2.2.2.2.2.2.1),.int .i64 x.2.2.2.2.2.2.2] 41));generalize w.alloc (.cells #[.int .i64 x.1,.int .i64 x.2.1,.int .i64 x.2.2.1,.int .i64 x.2.2.2.1,.slice xo x.2.2.2.2.1.length xc,.slice zo x.2.2.2.2.2.1.length zc,.string (bs x.2.2.2.2.2.2.1),.int .i64 x.2.2.2.2.2.2.2] 41)=W at *;generalize hq:w.heap.size=q at *;obtain⟨y0,y1,y2,y3,y4,y5,y6,y7⟩:_∧_∧_∧_∧_∧_∧_∧_:=⟨Y0.out.2 0 _ rfl,Y0.out.2 1 _ rfl,Y0.out.2 2 _ rfl,Y0.out.2 3 _ rfl,Y0.out.2 4 _ rfl,Y0.out.2 5 _ rfl,Y0.out.2 6 _ rfl,Y0.out.2 7 _ rfl⟩;by_cases h23:x.1=23
 ·have e1:(x.1 == 23)=true:=beq_iff_eq.2 h23;have HR:Hid (true=eQ x):=aa (by rw [HL.out];simp [h23]);clear h23;go_wp2_with fail
  go_ret;exact⟨L5.aw HR.out,by first | exact B0.out | (rw [hq];exact B0.out)⟩
 ·have e1:(x.1 == 23)=false:=beq_eq_false_iff_ne.2 h23;by_cases h24:x.1=24
  ·have e2:(x.1 == 24)=true:=beq_iff_eq.2 h24;have HR:Hid (true=eQ x):=aa (by rw [HL.out];simp [h24]);clear h23 h24;go_wp2_with fail
   go_ret;exact⟨L5.aw HR.out,by first | exact B0.out | (rw [hq];exact B0.out)⟩
  ·have e2:(x.1 == 24)=false:=beq_eq_false_iff_ne.2 h24;by_cases h25:x.1=25
   ·have e3:(x.1 == 25)=true:=beq_iff_eq.2 h25;have HR:Hid (true=eQ x):=aa (by rw [HL.out];simp [h25]);clear h23 h24 h25;go_wp2_with fail
    go_ret;exact⟨L5.aw HR.out,by first | exact B0.out | (rw [hq];exact B0.out)⟩
   ·have e3:(x.1 == 25)=false:=beq_eq_false_iff_ne.2 h25;by_cases h21:x.1=21
    ·have e4:(x.1 == 21)=true:=beq_iff_eq.2 h21;have HR:Hid ((!(x.2.2.1 == 0))=eQ x):=aa (by
      rw [HL.out,decide_eq_false h23,decide_eq_false h24,decide_eq_false h25,decide_eq_true h21]
      cases h:(x.2.2.1 == 0) <;> simp at h <;> simp [h])
     clear h23 h24 h25 h21;go_wp2_with fail
     go_ret;exact⟨L5.aw HR.out,by first | exact B0.out | (rw [hq];exact B0.out)⟩
    ·have e4:(x.1 == 21)=false:=beq_eq_false_iff_ne.2 h21;have HR:Hid (false=eQ x):=aa (by rw [HL.out];simp [h23,h24,h25,h21]);clear h23 h24 h25 h21;go_wp2_with fail
     go_ret;exact⟨L5.aw HR.out,by first | exact B0.out | (rw [hq];exact B0.out)⟩
open G (Tok Er Ins Fun ah bk fk)
theorem DL (c:UInt8) (h:inB [32,9,10,13] c=true):L2.gu c.toNat=false∧L2.jR c.toNat=false∧¬(c.toNat:Int)=35∧L2.pe c.toNat=true:=by
 have key:∀n:Fin 256,inB [32,9,10,13] (UInt8.ofNat n.val)=true→L2.gu (UInt8.ofNat n.val).toNat=false∧L2.jR (UInt8.ofNat n.val).toNat=false∧¬((UInt8.ofNat n.val).toNat:Int)=35∧L2.pe (UInt8.ofNat n.val).toNat=true:=by decide +kernel
 have:=key ⟨c.toNat,c.toNat_lt⟩;rw [show UInt8.ofNat c.toNat=c from UInt8.ofNat_toNat] at this;exact this h
theorem Em (c:UInt8) (h:inB [40,41,123,125,61,58] c=true):L2.gu c.toNat=false∧L2.jR c.toNat=true:=by
 have key:∀n:Fin 256,inB [40,41,123,125,61,58] (UInt8.ofNat n.val)=true→L2.gu (UInt8.ofNat n.val).toNat=false∧L2.jR (UInt8.ofNat n.val).toNat=true:=by decide +kernel
 have:=key ⟨c.toNat,c.toNat_lt⟩;rw [show UInt8.ofNat c.toNat=c from UInt8.ofNat_toNat] at this;exact this h
theorem Bc (l:List UInt8) (p q:Nat) (ws:List (Nat × Nat)) (h:∀c r,l=c :: r→L2.gu c.toNat=false):L2.scan l q ws (some p) false=L2.scan l q (ws ++ [(p,q)]) none false:=by
 cases l with
 |nil=>rfl
 |cons c r=>
  have hc:=h c r rfl;by_cases h2:L2.jR c.toNat=true
  ·rw [L2.jz r q ws (some p) hc h2,L2.jz r q (ws ++ [(p,q)]) none hc h2];rfl
  ·have h2:L2.jR c.toNat=false:=(by simpa using h2);by_cases h3:(c.toNat:Int)=35
   ·rw [L2.jT r q ws (some p) hc h2 h3,L2.jT r q (ws ++ [(p,q)]) none hc h2 h3];rfl
   ·by_cases h4:L2.pe c.toNat=true
    ·rw [L2.jl r q ws (some p) hc h2 h3 h4,L2.jl r q (ws ++ [(p,q)]) none hc h2 h3 h4];rfl
    ·have h4:L2.pe c.toNat=false:=(by simpa using h4);rw [L2.jH r q ws (some p) hc h2 h3 h4,L2.jH r q (ws ++ [(p,q)]) none hc h2 h3 h4]
def SpR (w:World) (s:ByteArray) (v:Value) (ws:List (Nat × Nat)) (wr:World):Prop:=
 wr.ownsRow (w.heap.size+1) 173 2 v ws.length (L2.gF (ws.map (L2.tok s)))∧wr.heap[w.heap.size]? =some (.cells #[.int .i64 0,.int .i64 0] 59 (0,0))∧Below w.heap.size w wr∧w.heap.size < wr.heap.size
theorem SpR.step {w wr w2:World} {s:ByteArray} {v v':Value} {ws:List (Nat × Nat)} {a b:Nat} {o:Obj} (h:SpR w s v ws wr)
  (own:w2.ownsRow (w.heap.size+1) 173 2 v' (ws.length+1) (L2.gF (ws.map (L2.tok s)) ++ [.string (s.extract a b),.int .i64 a])) (hg:(wr.alloc o).grownBy w2 v.ownBlock):SpR w s v' (ws ++ [(a,b)]) w2:=by
 obtain⟨h1,h2,h3,h4⟩:=h;have bx:=af wr o;have hz:=bx.size;have hrow:∀q,v.ownBlock=some q→w.heap.size+1≤q:=fun q hq=>(h1.lt q hq).1;refine⟨by rw [L2.tG,List.length_append];exact own,(hg.block _ (by omega) (fun e=>by have:=hrow _ e.symm;omega)).trans ((bx.block _ h4).trans h2),?_,by have:=hg.size;omega⟩;exact⟨hg.os.trans (bx.os.trans h3.os),hg.tape.trans (bx.tape.trans h3.tape),hg.output.trans (bx.output.trans h3.output),by have:=hg.size;have:=h3.size;omega,fun k hk=>(hg.block k (by omega) (fun e=>by have:=hrow k e.symm;omega)).trans ((bx.block k (by omega)).trans (h3.block k hk))⟩
theorem J6 (s:ByteArray) (hs:s.size≤65536) (hn:∀c∈s.data.toList,(c.toNat:Int)≠35) {ws:List (Nat × Nat)} (hw:L2.words s= .inr ws):Splits s (nH s ws):=by
 intro w;obtain⟨i0,hi,hz0,hz1,hz2⟩:=info_parts L2.Tryz.Gc;have hs1:¬(65536:Int) < (s.size:Int):=by omega
 have hs2:decide ((65536:Int) < (s.size:Int))=false:=by simpa using hs1
 have HN:=aa hn;have HW:Hid (L2.scan (s.data.toList.drop 0) 0 [] none false= .inr ws):=aa hw;have S0:Hid (SpR w s (.slice none 0 0) [] (w.alloc (.cells #[.int .i64 0,.int .i64 0] 59))):=aa ⟨World.ownsRow_nil _ _ _ _,heap_alloc_new w _,af w _,by simp⟩;clear hn hw;go_enter Tryz.func95,Tryz.ntmps95
 go_upto_region 1 with fail
 show Code.wp _ _ _ _ (w.alloc (.cells #[.int .i64 0,.int .i64 0] 59));generalize w.alloc (.cells #[.int .i64 0,.int .i64 0] 59)=W0 at *;go_wp2_with fail
 go_loopw [4,5] (fun v i wr=>∃(p:Nat) (us:List (Nat × Nat)),p≤s.size∧i= .int .i64 p∧us.length≤p∧Hid (SpR w s v us wr)∧Hid (L2.scan (s.data.toList.drop p) p us none false= .inr ws)) (fun _ i _=>s.size - (intOf i).toNat)
 case atStart=>exact⟨0,[],Nat.zero_le _,rfl,by simp,S0,HW⟩
 case round=>
  obtain⟨p,us,hp,rfl,hus,S,HR⟩:=hrel;by_cases hlt:p < s.size
  ·have hlt':(p:Int) < (s.size:Int):=(by omega);obtain⟨d,hd⟩:∃d,d=s[p]:=⟨_,rfl⟩;have hd1:(s[p].toNat:Int)=(d.toNat:Int):=(by rw [hd]);have HD:Hid (L2.scan (d :: s.data.toList.drop (p+1)) p us none false= .inr ws):=aa (by rw [hd,←L2.drop_cons s p hlt];exact HR.out);have hn35:((d.toNat:Int) == 35)=false:=by
    have:=HN.out d (by rw [hd];exact List.mem_of_mem_drop (i:=p) (by rw [L2.drop_cons s p hlt];simp));simpa using this
   clear hd;obtain⟨ao,cp,rfl⟩:=aI S.out.1;go_wp2_with fail
   refine(rin d [32,9,10,13] _ (by simp)).mono ?_;rintro e w1 ⟨rfl,hw1⟩;rw [hw1];clear hw1
   cases hb:inB [32,9,10,13] d with
   |true=>
    have HE:Hid (L2.scan (s.data.toList.drop (p+1)) (p+1) us none false= .inr ws):=aa (by
     obtain⟨k1,k2,k3,k4⟩:=DL d hb;have:=HD.out;rwa [L2.jl _ _ _ _ k1 k2 k3 k4] at this)
    clear HD HR hb;go_wp2_with fail
    go_roundw
    case rel=>exact⟨p+1,us,by omega,by go_num,by omega,S,HE⟩
    case measure=>simp [intOf];omega
   |false=>
    go_wp2_with fail
    refine(rin d [40,41,123,125,61,58] _ (by simp)).mono ?_;rintro e w1 ⟨rfl,hw1⟩;rw [hw1];clear hw1
    cases ha:inB [40,41,123,125,61,58] d with
    |true=>
     have HE:Hid (L2.scan (s.data.toList.drop (p+1)) (p+1) (us ++ [(p,p+1)]) none false= .inr ws):=aa (by
      obtain⟨k1,k2⟩:=Em d ha;have:=HD.out;rwa [L2.jz _ _ _ _ k1 k2] at this)
     have OS:=aa S.out.1;have hsw:=S.out.2.2.2;have t2:us.length+1≤maxLen:=(by unfold maxLen;omega);have t3:(us.length+1) * 24≤140737488355328:=(by omega);clear HD HR hb ha;go_wp2_with (at_builtin;refine wpList_append_own _ rfl (.tmp 39) (.tmp 47) 127 rfl (w.heap.size+1) 173 i0 _ 2 24 Tryz.underlying127 hi hz0 hz1 hz2 rfl (by decide) _ _ _ rfl (OS.out.alloc _) ⟨wr.heap.size,0,none⟩ 1 1 [.string (s.extract p (p+1)),.int .i64 p] rfl rfl L2.mZ L2.rW t2 t3 (by simp;omega) ?_;intro v2 w2 own2 grow2 _)
     have S2:=aa (S.out.step own2 grow2);clear own2 grow2;go_wp2_with fail
     go_roundw
     case rel=>exact⟨p+1,us ++ [(p,p+1)],by omega,by go_num,by simp;omega,S2,HE⟩
     case measure=>simp [intOf];omega
    |false=>
     have hlet:vM d=true:=by
      cases hl:vM d with
      |true=>rfl
      |false=>
       have:=HD.out;rw [L2.jH _ _ _ _ (by rw [←lS];exact hl) (by rw [←Fp];exact ha) (by simpa using hn35) (by rw [←Fy];exact hb)] at this
       cases this
     have HLET:=aa hlet;go_wp2_with fail
     refine(yQ d _).mono ?_;rintro e w1 ⟨rfl,hw1⟩;rw [hw1,HLET.out];clear hw1 hlet;have HR0:Hid (L2.scan (s.data.toList.drop p) p us none false= .inr ws):=HR;clear HD HR hb ha;go_wp2_with fail
     go_loopw [7] (fun j wr2=>∃(q:Nat) (bq:Option Nat),p≤q∧q≤s.size∧j= .int .i64 q∧Hid (SpR w s (.slice ao us.length cp) us wr2)∧Hid (bq.getD q=p∧(p < q→bq=some p)∧L2.scan (s.data.toList.drop q) q us bq false= .inr ws)) (fun j _=>s.size - (intOf j).toNat)
     case atStart=>exact⟨p,none,Nat.le_refl _,by omega,rfl,S,aa ⟨rfl,fun h=>absurd h (Nat.lt_irrefl _),HR0.out⟩⟩
     case round=>
      obtain⟨q,bq,hpq,hqs,rfl,SQ,HQ⟩:=hrel;have fin:Hid ((∀c r,s.data.toList.drop q=c :: r→L2.gu c.toNat=false)→p < q∧L2.scan (s.data.toList.drop q) q (us ++ [(p,q)]) none false= .inr ws):=aa (by
       intro hx;have hpq2:p < q:=by
        refine Classical.byContradiction fun hc=> ?_;have e:q=p:=(by omega);have:=hx _ _ (by rw [e];exact L2.drop_cons s p hlt);have h2:=HLET.out;rw [lS] at h2;have h3:(s[p].toNat:Int)=(d.toNat:Int):=hd1;rw [h3] at this;rw [this] at h2
        cases h2
       obtain⟨_,k2,k3⟩:=HQ.out;rw [k2 hpq2,Bc _ _ _ _ hx] at k3;exact⟨hpq2,k3⟩)
      by_cases hq:q < s.size
      ·have hq':(q:Int) < (s.size:Int):=(by omega);obtain⟨d2,hd2⟩:∃d2,d2=s[q]:=⟨_,rfl⟩;have hd3:(s[q].toNat:Int)=(d2.toNat:Int):=(by rw [hd2]);have HDQ:=aa (show s.data.toList.drop q=d2 :: s.data.toList.drop (q+1) by rw [hd2];exact L2.drop_cons s q hq);clear hd2;go_wp2_with fail
       refine(yQ d2 _).mono ?_;rintro e w1 ⟨rfl,hw1⟩;rw [hw1];clear hw1
       cases hl2:vM d2 with
       |true=>
        have HQ2:Hid ((some p).getD (q+1)=p∧(p < q+1→some p=some p)∧L2.scan (s.data.toList.drop (q+1)) (q+1) us (some p) false= .inr ws):=aa ⟨rfl,fun _=>rfl,by
         obtain⟨k1,_,k3⟩:=HQ.out;rw [HDQ.out,L2.oy _ _ _ _ (by rw [←lS];exact hl2),k1] at k3;exact k3⟩
        clear HQ fin HDQ hl2;go_wp2_with fail
        go_roundw
        case rel=>exact⟨q+1,some p,by omega,by omega,by go_num,SQ,aa ⟨rfl,fun _=>rfl,HQ2.out.2.2⟩⟩
        case measure=>simp [intOf];omega
       |false=>
        have HF:=aa (fin.out fun c r hcr=>by
         rw [HDQ.out] at hcr
         cases hcr;rw [←lS];exact hl2)
        clear HQ fin HDQ hl2;have OS:=aa SQ.out.1;have hsw:=SQ.out.2.2.2;have t2:us.length+1≤maxLen:=(by unfold maxLen;omega);have t3:(us.length+1) * 24≤140737488355328:=(by omega);go_wp2_with (at_builtin;refine wpList_append_own _ rfl (.tmp 66) (.tmp 73) 127 rfl (w.heap.size+1) 173 i0 _ 2 24 Tryz.underlying127 hi hz0 hz1 hz2 rfl (by decide) _ _ _ rfl (OS.out.alloc _) ⟨wr.heap.size,0,none⟩ 1 1 [.string (s.extract p q),.int .i64 p] rfl rfl L2.mZ L2.rW t2 t3 (by simp;omega) ?_;intro v2 w2 own2 grow2 _)
        have S2:=aa (SQ.out.step own2 grow2);have hpq2:=HF.out.1;clear own2 grow2;go_wp2_with fail
        go_roundw
        case rel=>exact⟨q,us ++ [(p,q)],hqs,rfl,by simp;omega,S2,aa HF.out.2⟩
        case measure=>simp [intOf];omega
      ·have hq':¬(q:Int) < (s.size:Int):=(by omega);have hq2:decide ((q:Int) < (s.size:Int))=false:=(by simpa using hq');have HF:=aa (fin.out fun c r hcr=>by
        rw [List.drop_eq_nil_of_le (by have e9:s.data.toList.length=s.size:=(by simp);omega)] at hcr
        cases hcr)
       clear HQ fin;have OS:=aa SQ.out.1;have hsw:=SQ.out.2.2.2;have t2:us.length+1≤maxLen:=(by unfold maxLen;omega);have t3:(us.length+1) * 24≤140737488355328:=(by omega);go_wp2_with (at_builtin;refine wpList_append_own _ rfl (.tmp 66) (.tmp 73) 127 rfl (w.heap.size+1) 173 i0 _ 2 24 Tryz.underlying127 hi hz0 hz1 hz2 rfl (by decide) _ _ _ rfl (OS.out.alloc _) ⟨wr.heap.size,0,none⟩ 1 1 [.string (s.extract p q),.int .i64 p] rfl rfl L2.mZ L2.rW t2 t3 (by simp;omega) ?_;intro v2 w2 own2 grow2 _)
       have S2:=aa (SQ.out.step own2 grow2);have hpq2:=HF.out.1;clear own2 grow2;go_wp2_with fail
       go_roundw
       case rel=>exact⟨q,us ++ [(p,q)],hqs,rfl,by simp;omega,S2,aa HF.out.2⟩
       case measure=>simp [intOf];omega
  ·have hlt':¬(p:Int) < (s.size:Int):=(by omega);have hlt2:decide ((p:Int) < (s.size:Int))=false:=(by simpa using hlt');obtain rfl:us=ws:=by
    have:=HR.out;rw [List.drop_eq_nil_of_le (by have e9:s.data.toList.length=s.size:=(by simp);omega)] at this;injection this
   obtain⟨ao,cp,rfl⟩:=aI S.out.1;obtain⟨o1,s3,bb,hwz⟩:=S.out;have u1:wr.cell? ⟨w.heap.size,0,none⟩=some (.int .i64 0):=(by simp [World.cell?,s3]);have u2:wr.cell? ⟨w.heap.size,1,none⟩=some (.int .i64 0):=(by simp [World.cell?,s3]);have v1:wr.frozen? ⟨w.heap.size,0,none⟩=false:=(by simp [World.frozen?,s3]);have v2:wr.frozen? ⟨w.heap.size,1,none⟩=false:=(by simp [World.frozen?,s3]);have FF:=((Far.refl w.heap.size wr).set 0 (.int .i64 0)).set 1 (.int .i64 0);have OO:=aa (aL (FF.own o1 (bp o1 s3 (by decide))) (Nat.le_succ w.heap.size));have BB:=aa ((bb.setCell (p:=⟨w.heap.size,0,none⟩) (Nat.le_refl _) (.int .i64 0)).setCell (p:=⟨w.heap.size,1,none⟩) (Nat.le_refl _) (.int .i64 0));have HL:=aa (show us.length=(nH s us).length by simp [nH]);have HC:=aa (xp s us);clear o1 s3 bb FF S HR;go_wp2_with fail
   exact bodyPost_ret (v:= .tuple #[.slice ao us.length cp,.agg #[.int .i64 0,.int .i64 0]]) (by simp [results,Tryz.results95,go_sem,u1,u2]) rfl ⟨_,rfl,by rw [←HC.out,←HL.out];exact OO.out,BB.out⟩
theorem Jl {E:Int}:∀(f n:Nat) (acc:List Fun) (l:List Tok) (xs:List Fun) (n':Nat) (r:List Tok),l.length < f→fwG E f n acc l= .ok ((xs,n'),r)→r= []:=by
 intro f;induction f with
 |zero=>intro n acc l xs n' r h;omega
 |succ f ih=>
  intro n acc l xs n' r h hr;by_cases hl:l= []
  ·subst hl;rw [yn] at hr;cases hr;rfl
  ·by_cases h32:acc.length < 32
   ·cases hq:pR E n l with
    |error er=>rw [EH hl h32 hq] at hr;cases hr
    |ok p=>
     have hless:=uG (x:=p.1.1) (n':=p.1.2) (l':=p.2) hq;rw [Ij (x:=p.1.1) (n':=p.1.2) (l':=p.2) hl h32 hq] at hr;exact ih _ _ _ _ _ _ (by omega) hr
   ·rw [ze hl (by omega)] at hr;cases hr
theorem Au (s:ByteArray) (hs:s.size≤65536) (hn:∀c∈s.data.toList,(c.toNat:Int)≠35) {xs:List Fun} (h:Df s= .ok xs) (w:World):
  Calls Tryz.prog 61 #[.string s] w fun e w'=>∃v,e= .returned (.tuple #[.agg #[v],.agg #[.int .i64 0,.int .i64 0]])∧eH w.heap.size xs v w'∧Below w.heap.size w w':=by
 unfold Df at h
 cases hw:L2.words s with
 |inl x=>rw [hw] at h;cases h
 |inr ws=>
  rw [hw] at h;replace h:(match yR (s.size:Int) (nH s ws)with | .ok ((xs,_),_)=>Except.ok xs | .error er=> .error er)= .ok xs:=h
  cases hp:yR (s.size:Int) (nH s ws)with
  |error er=>rw [hp] at h;cases h
  |ok p=>
   obtain⟨⟨ys,n'⟩,r⟩:=p;rw [hp] at h
   cases h;have hr:r= []:=Jl _ _ _ _ _ _ _ (Nat.lt_succ_self _) hp;subst hr;exact Kt s (wP hw hs) (J6 s hs hn hw) hp w
open Mix (Up)
theorem pY (N:Nat):∀(l:List (List Ins)) (k:Nat),(dH N k l).1=0→∀b∈l,uH N b=0:=by
 intro l;induction l with
 |nil=>intro k _ b hb;cases hb
 |cons c l ih=>
  intro k h b hb;by_cases e:uH N c=0
  ·rw [kz e] at h;rcases List.mem_cons.1 hb with rfl | hb
   ·exact e
   ·exact ih _ h b hb
  ·rw [dK rfl e] at h;exact absurd h e
theorem v8 (N n:Nat):∀(l:List Ins) (i:Nat),eN N n i l=0→∀(j:Nat) (x:Ins),l[j]? =some x→gM x.1=decide (i+j+1=n)∧ji N x=false:=by
 intro l;induction l with
 |nil=>intro i _ j x hx;simp at hx
 |cons y l ih=>
  intro i h j x hx;by_cases e:gM y.1=decide (i+1=n)
  ·cases hb:ji N y with
   |true=>rw [mw e hb] at h;cases h
   |false=>
    rw [kR e hb] at h
    cases j with
    |zero=>simp at hx;subst hx;exact⟨e,hb⟩
    |succ j=>
     have:=ih (i+1) h j x (by simpa using hx);rw [show i+1+j+1=i+(j+1)+1 by omega] at this;exact this
  ·rw [my e] at h;cases h
theorem om (f:Fun) (v:Value) (w:World) (hv:bS w f v) (hF:Ful f):
  Calls Tryz.prog 134 #[v] w fun e w'=>∃u,e= .returned u∧Below w.heap.size w w'∧jx w' (aJ f) u:=by
 obtain⟨nm,ps,rt,bl,pl⟩:=f;have hv2:=hv;obtain⟨vp,vb,rfl,⟨ao,c,rfl,h1,_⟩,h2⟩:=hv;obtain⟨bo,cb,rfl,_⟩:=h2;exact(wU nm ps rt pl bl ao bo c cb w hv2 hF).mono fun e w' ⟨u,he,h,b⟩=>⟨u,he,b,h.read⟩
theorem DE (l:List Int) (u v:Value) (w:World) (hu:bT w l u) (hv:bT w l v):Calls Tryz.prog 26 #[u,v] w fun e w'=>e= .returned (.bool true)∧Below w.heap.size w w':=by
 obtain⟨ao,ca,rfl,h1,h2,h3⟩:=hu;obtain⟨bo,cb,rfl,k1,_⟩:=hv;exact xg l ao bo ca cb w (Nat.le_trans h2 h3) h1 k1
end Go.Proofs.YtaiaakklokahjaaGreatDoor
