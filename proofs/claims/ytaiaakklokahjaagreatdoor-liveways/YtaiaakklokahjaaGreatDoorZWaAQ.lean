/- Texts of one chain, joined. -/
import Derived.Test.YtaiaakklokahjaaGreatDoorZWaAM
import Derived.Test.YtaiaakklokahjaaGreatDoorZWaAN
set_option maxHeartbeats 8000000
set_option maxRecDepth 20000
namespace Go.Proofs.YtaiaakklokahjaaGreatDoor
open Go Go.RowKit
open G (Tok Er Ins Fun ah bk fk)
theorem Ci {E:Int} {n n':Nat} {l lf:List Tok} {y:Fun} (h:pR E n l= .ok ((y,n'),lf)):
  ∃s p t b r3 r4 r5 r7,ah l= [102,117,110,99]∧G.name gX E l.tail= .ok (s,r3)∧ah r3= [40]∧G.pN E (r3.tail.length+1) [] r3.tail= .ok (p,r4)∧ah r4= [41]∧r5=r4.tail∧G.kind (ah r5)=t∧¬t < 0∧r5≠ []∧ah r5.tail= [123]∧
   mO E (r5.tail.tail.length+1) n [] r5.tail.tail= .ok ((b,n'),r7)∧ah r7= [125]∧lf=r7.tail∧y=(s,p,t,b,fk E l):=by
 obtain⟨_,r,h1,h⟩:=ax h;obtain⟨rfl,e1⟩:=eY (by simp) h1;obtain⟨s,r3,h3,h⟩:=ax h;obtain⟨_,r,h4,h⟩:=ax h;obtain⟨rfl,e4⟩:=eY (by simp) h4;obtain⟨p,r4,h5,h⟩:=ax h;obtain⟨_,r,h6,h⟩:=ax h;obtain⟨rfl,e6⟩:=eY (by simp) h6;obtain⟨t,r6,h7,h⟩:=ax h;obtain⟨hne,rfl,h7b⟩:=G.ep (by simp [G.kind]) h7;obtain⟨_,r,h8,h⟩:=ax h;obtain⟨rfl,e8⟩:=eY (by simp) h8;obtain⟨⟨b,m⟩,r7,h9,h⟩:=ax h;obtain⟨_,r,h10,h⟩:=ax h;obtain⟨rfl,e10⟩:=eY (by simp) h10
 cases h;replace h7b:(if G.kind (ah r4.tail) < 0 then none else some (G.kind (ah r4.tail)))=some t:=h7b;by_cases hk:G.kind (ah r4.tail) < 0
 ·rw [if_pos hk] at h7b;cases h7b
 ·rw [if_neg hk] at h7b;injection h7b with h7;exact⟨s,p,t,b,r3,r4,_,r7,e1,h3,e4,h5,e6,rfl,h7,by rw [←h7];exact hk,hne,e8,h9,e10,rfl,rfl⟩
theorem zO {a:Nat} {L:List Tok} {E:Int} {n n':Nat} {l lf:List Tok} {y:Fun} (w:World) (h:RR a L E n l w) (hr:pR E n l= .ok ((y,n'),lf)):
  Calls Tryz.prog 97 #[.pointer (some ⟨a,0,none⟩)] w fun e w'=>∃v,e= .returned v∧JA w.heap.size y v w'∧RR a L E n' lf w'∧Kr a w w':=by
 obtain⟨s,p,t,bl,r3,r4,r5,r7,e1,h3,e4,h5,e6,h56,ht,ht0,hne5,e8,h9,e10,rfl,rfl⟩:=Ci hr;have hl:l≠ []:=fun e=>by rw [e] at e1;cases e1
 have hn3:=sl h3;have HE1:=aa e1;replace h56:=aa h56;have HN3:=aa hn3.2;have HE4:=aa e4;have HP:=aa h5;have HE6:=aa e6;have HT:=aa ht;have HE8:=aa e8;have HB:=aa h9;have HE10:=aa e10;obtain rfl:r3=l.tail.tail:=hn3.1;obtain⟨i0,hi0,hz0,hz1,hz2⟩:=info_parts Tryz.cU;obtain⟨j0,hj0,hy0,hy1,hy2⟩:=info_parts Tryz.IC;have hb0:=af w (.cells #[.string ⟨#[]⟩,.slice none 0 0,.int .i64 0,.slice none 0 0,.int .i64 0] 29);obtain⟨gg,cap,q,c0,c1,ch,hq,hLL⟩:=(h.below hb0).here hl;have haW:=World.block_lt_of_cell? _ _ c0;have hgW:=World.block_lt_of_cell? _ _ ch;replace haW:a < (w.alloc (.cells #[.string ⟨#[]⟩,.slice none 0 0,.int .i64 0,.slice none 0 0,.int .i64 0] 29)).heap.size:=haW;replace hgW:gg < (w.alloc (.cells #[.string ⟨#[]⟩,.slice none 0 0,.int .i64 0,.slice none 0 0,.int .i64 0] 29)).heap.size:=hgW;have H:=aa h;have hq1:(q:Int) < (L.length:Int):=by omega
 clear h hr e1 h3 hn3 e4 h5 e6 ht e8 h9 e10 hb0;generalize fk E l=pp at *;go_enter Tryz.func97,Tryz.ntmps97
 go_upto_region 1 with fail
 show Code.wp _ _ _ _ (w.alloc (.cells #[.string ⟨#[]⟩,.slice none 0 0,.int .i64 0,.slice none 0 0,.int .i64 0] 29));generalize hW0:w.alloc (.cells #[.string ⟨#[]⟩,.slice none 0 0,.int .i64 0,.slice none 0 0,.int .i64 0] 29)=W0 at *;have HW0:=aa hW0.symm;clear hW0;go_region
 have M0:=aa ((fL.start H.out (pp) HW0.out (Below.refl _ _)).below (vS _));clear H HW0 c0 c1 ch hq1 haW hgW hq;generalize (W0.alloc (.cells #[.string ⟨#[]⟩,.slice none 0 0,.int .i64 0,.slice none 0 0,.int .i64 (pp)] 29)).drew=W1 at *;generalize W0.heap.size=c at *;go_wp2_with fail
 refine(pH [102,117,110,99] _ M0.out.1 HE1.out (by simp)).mono ?_;rintro e w1 ⟨rfl,a1⟩;have M1:=aa (M0.out.ate a1);clear M0 a1;go_wp2_with fail
 refine(yB s _ M1.out.1 HN3.out.1 HN3.out.2).mono ?_;rintro e w2 ⟨rfl,a2⟩;have M2:=aa (M1.out.ate a2);clear M1 a2;obtain⟨vp,vb,HC,HZ,_,_⟩:=M2.out.2.1.cells;have x0:=HC 0 _ rfl;have z0:=HZ 0;clear HC HZ;go_upto_region 4 with fail
 show Code.wp _ _ _ _ (w2.setCell ⟨c,0,none⟩ (.string (bs s)));have M3:Hid (fL w a c w.heap.size L E n (s,[],0,[],pp) l.tail.tail (w2.setCell ⟨c,0,none⟩ (.string (bs s)))):=aa (M2.out.put (M2.out.2.1.name s));clear M2 x0 z0;generalize w2.setCell ⟨c,0,none⟩ (.string (bs s))=W2 at *;go_wp2_with fail
 refine(pH [40] _ M3.out.1 HE4.out (by simp)).mono ?_;rintro e w3 ⟨rfl,a3⟩;have M4:=aa (M3.out.ate a3);clear M3 a3;go_wp2_with fail
 go_loopw [] (fun wr=>∃(f:Nat) (acc:List Int) (l':List Tok),Hid (fL w a c w.heap.size L E n (s,acc,0,[],pp) l' wr)∧acc.length≤8∧l'.length < f∧Hid (G.pN E f acc l'= .ok (p,r4))) (fun wr=>L.length - bt a wr)
 case atStart=>exact⟨_,[],_,M4,by simp,Nat.lt_succ_self _,HP⟩
 case round=>
  obtain⟨f,acc,l',M,h8,hf,HR⟩:=hrel;have hra:=M.out.1.bt;have hll:=M.out.1.len;have c4:=M.out.1.at1.2.2.1;obtain⟨f,rfl⟩:∃q,f=q+1:=⟨f - 1,by omega⟩;have HN1:=aa (iM (ah l') [41]);go_wp2_with fail
  refine(cf _ M.out.1 rfl).mono ?_;rintro e w5 ⟨rfl,b5⟩;have M5:=aa (M.out.below b5);clear M b5 c4;by_cases hc1:ah l'= [41]
  ·obtain⟨rfl,rfl⟩:acc=p∧l'=r4:=(by have:=HR.out;unfold G.pN at this;rw [if_pos hc1] at this;cases this;exact⟨rfl,rfl⟩);have hne:((bs (ah l')).toList == [41])=true:=HN1.out.trans (decide_eq_true hc1);have hne2:((bs (ah l')).toList != [41])=false:=(by rw [bne,hne];rfl);clear hc1 HN1 HR;go_wp2_with fail
   refine(pH [41] _ M5.out.1 HE6.out (by simp)).mono ?_;rintro e w6 ⟨rfl,a6⟩;have M6:=aa (M5.out.ate a6);rw [←h56.out] at M6;clear M5 a6 hne hne2;go_wp2_with fail
   refine(cf _ M6.out.1 rfl).mono ?_;rintro e w7 ⟨rfl,b7⟩;go_wp2_with fail
   refine(Iz (ah r5) _).mono ?_;rintro e w8 ⟨rfl,b8⟩;rw [HT.out];have M8:=aa ((M6.out.below b7).below b8);clear M6 b7 b8;obtain⟨vp,vb,HC,HZ,_,_⟩:=M8.out.2.1.cells;have x2:=HC 2 _ rfl;have z2:=HZ 2;clear HC HZ;go_upto_region 15 with fail
   show Code.wp _ _ _ _ (w8.setCell ⟨c,2,none⟩ (.int .i64 t));have M9:Hid (fL w a c w.heap.size L E n (s,acc,t,[],pp) r5 (w8.setCell ⟨c,2,none⟩ (.int .i64 t))):=aa (M8.out.put (M8.out.2.1.ret t));clear M8 x2 z2;generalize w8.setCell ⟨c,2,none⟩ (.int .i64 t)=W9 at *;obtain⟨vp,vb,HC,HZ,_,_⟩:=M9.out.2.1.cells;have x2:W9.cell? ⟨c,2,none⟩=some (.int .i64 t):=HC 2 _ rfl;clear HC HZ;have ht1:decide (t < 0)=false:=(by simpa using ht0);obtain⟨c1,z1,c4,hq9⟩:=M9.out.1.at1;have M10:=aa (M9.out.ate (gO M9.out.1 (Below.refl _ _) hne5));clear c4 M9;generalize L.length - r5.length=q9 at *;go_upto_region 18 with fail
   show Code.wp _ _ _ _ (W9.setCell ⟨a,1,none⟩ (.int .i64 ((q9:Int)+1)));clear c1 z1 x2;generalize W9.setCell ⟨a,1,none⟩ (.int .i64 ((q9:Int)+1))=W10 at *;go_wp2_with fail
   refine(pH [123] _ M10.out.1 HE8.out (by simp)).mono ?_;rintro e w11 ⟨rfl,a11⟩;have M11:=aa (M10.out.ate a11);clear M10 a11;go_wp2_with fail
   go_loopw [] (fun wr=>∃(f m:Nat) (bb:List (List Ins)) (l2:List Tok),Hid (fL w a c w.heap.size L E m (s,acc,t,bb,pp) l2 wr)∧l2.length < f∧bb.length+l2.length≤L.length∧Hid (mO E f m bb l2= .ok ((bl,n'),r7))) (fun wr=>L.length - bt a wr)
   case atStart=>exact⟨_,n,[],_,M11,Nat.lt_succ_self _,by rw [List.length_nil,Nat.zero_add];exact M11.out.1.len.1,HB⟩
   case round=>
    obtain⟨f2,m,bb,l2,M12,hf2,hfit,HR2⟩:=hrel;have hra2:=M12.out.1.bt;have hll2:=M12.out.1.len;have c42:=M12.out.1.at1.2.2.1;obtain⟨f2,rfl⟩:∃q,f2=q+1:=⟨f2 - 1,by omega⟩;have HN2:=aa (iM (ah l2) [125]);go_wp2_with fail
    refine(cf _ M12.out.1 rfl).mono ?_;rintro e w13 ⟨rfl,b13⟩;have M13:=aa (M12.out.below b13);clear M12 b13 c42;by_cases hc2:ah l2= [125]
    ·obtain⟨⟨rfl,rfl⟩,rfl⟩:(bb=bl∧m=n')∧l2=r7:=(by have:=HR2.out;rw [tz hc2] at this;cases this;exact⟨⟨rfl,rfl⟩,rfl⟩);have hnf:((bs (ah l2)).toList == [125])=true:=HN2.out.trans (decide_eq_true hc2);have hnf2:((bs (ah l2)).toList != [125])=false:=(by rw [bne,hnf];rfl);clear hc2 HN2 HR2;go_wp2_with fail
     refine(pH [125] _ M13.out.1 HE10.out (by simp)).mono ?_;rintro e w14 ⟨rfl,a14⟩;have M14:=aa (M13.out.ate a14);clear M13 a14 hnf hnf2;obtain⟨vp,vb,HC,HZ,o1,o2⟩:=M14.out.2.1.cells;have y0:=HC 0 _ rfl;have y1:=HC 1 _ rfl;have y2:=HC 2 _ rfl;have y3:=HC 3 _ rfl;have y4:=HC 4 _ rfl;obtain⟨aoA,mA,cA,rfl⟩:=aQ o1;obtain⟨aoT,mT,cT,rfl⟩:=aQ o2.choose_spec.1;have hS:=aa M14.out.2.2.1;obtain⟨s0,s1,s2,s3,s4,f0,f1,f2,f3,f4⟩:=LS hS.out;have hlt:=M14.out.lt;have hcn:c≠w.heap.size:=fun e=>M14.out.2.2.2.2.2.2 e.symm;have FF:=aa ((((((Far.refl w.heap.size w14).set 0 (.string (bs s))).set 1 (.slice aoA mA cA)).set 2 (.int .i64 t)).set 3 (.slice aoT mT cT)).set 4 (.int .i64 pp));have KK:=aa (FF.out.kr M14.out.2.2.2.1 (Nat.le_refl _));have QQ:=aa (FF.out.rr M14.out.1 hS.out (by decide) (by omega));have SS:=fU (B:=w.heap.size) FF.out hS.out (by decide);have OO:=aa (SS _ _ _ _ _ (by simp) o1);have OB:=aa (o2.stay SS);clear HC HZ o1 o2 SS;go_wp2_with fail
     exact bodyPost_ret (v:= .agg (aH (s,acc,t,bb,pp) (.slice aoA mA cA) (.slice aoT mT cT)).toArray) (by simp [results,Tryz.results97,go_sem,aH,s0,s1,s2,s3,s4]) rfl ⟨_,rfl,⟨_,_,rfl,OO.out,OB.out⟩,QQ.out,KK.out⟩
    ·have hnf:((bs (ah l2)).toList == [125])=false:=HN2.out.trans (decide_eq_false hc2);have hnf2:((bs (ah l2)).toList != [125])=true:=(by rw [bne,hnf];rfl);obtain⟨⟨b,m2⟩,l3,hblk,hr3⟩:=ax (show G.andThen (jy E bb.length m l2) (fun x=>mO E f2 x.2 (bb ++ [x.1]))= .ok ((bl,n'),r7) from by have:=HR2.out;unfold mO G.rO at this;rwa [if_neg hc2] at this);have hless:=pE hblk;have HBK:=aa hblk;have HR3:=aa hr3;clear hc2 HN2 HR2 hblk hr3;obtain⟨vp,vb,hc6,hp6,⟨vs,oB6,hR6⟩,hBc⟩:=M13.out.2.1;obtain⟨aoB,cB,rfl⟩:=aI oB6;have x3:w13.cell? ⟨c,3,none⟩=some (.slice aoB bb.length cB):=(by simp [World.cell?,hc6,aH]);clear hc6 hp6 oB6 hR6;go_wp2_with fail
     refine(I9 _ M13.out.1 HBK.out).mono ?_;rintro e w15 ⟨v15,rfl,hV15,r15,k15⟩;have hs13:=M13.out.lt;have M15:=aa (M13.out.kr r15 k15);have V15:=aa (hV15.base hs13.2.2.2.2.2.2);obtain⟨ao15,cp15,rfl⟩:=aI hV15.choose_spec.1;clear M13 r15 k15 hV15 x3 hnf hnf2;have hs15:=M15.out.lt;obtain⟨vp,vb,hc6,hp6,⟨vs,oB6,hR6⟩,hBc⟩:=M15.out.2.1;obtain⟨aoB,cB,rfl⟩:=aI oB6;have x3:w15.cell? ⟨c,3,none⟩=some (.slice aoB bb.length cB):=(by simp [World.cell?,hc6,aH]);have z3:w15.frozen? ⟨c,3,none⟩=false:=(by simp [World.frozen?,hc6]);have hne3:(Value.slice aoB bb.length cB).ownBlock≠some c:=bp oB6 hc6 (by decide);obtain⟨x3a,z3a⟩:=Cel.below (af w15 (.cells #[.slice ao15 b.length cp15] 36)) hs15.2.2.2.1 x3 z3;have M16:=aa (M15.out.below (af w15 (.cells #[.slice ao15 b.length cp15] 36)));have hc7:=aa ((heap_alloc_old w15 (.cells #[.slice ao15 b.length cp15] 36) (Array.getElem?_eq_some_iff.1 hc6).1).trans hc6);have hp7:=aa (hp6.alloc (.cells #[.slice ao15 b.length cp15] 36));have oB7:=aa (oB6.alloc (.cells #[.slice ao15 b.length cp15] 36));have hR7:=aa (kj.keep (fun _ _ h=>h.below (af w15 (.cells #[.slice ao15 b.length cp15] 36))) _ _ hR6);have V16:=aa (V15.out.below (af w15 (.cells #[.slice ao15 b.length cp15] 36)));clear hc6 hp6 oB6 hR6;have t2:bb.length+1≤maxLen:=(by unfold maxLen;omega);have t3:(bb.length+1) * 24≤140737488355328:=(by omega);have t4:w.heap.size≤(w15.alloc (.cells #[.slice ao15 b.length cp15] 36)).heap.size:=(by simp;omega);have t5:c < (w15.alloc (.cells #[.slice ao15 b.length cp15] 36)).heap.size:=(by simp;omega);go_wp2_with (at_builtin;refine wpList_append_lies _ rfl (.tmp 101) (.tmp 103) 27 rfl w.heap.size 36 j0 _ 1 24 Tryz.underlying27 hj0 hy0 hy1 hy2 rfl (by decide) _ _ _ rfl oB7.out ⟨w15.heap.size,0,none⟩ 1 1 [.slice ao15 b.length cp15] rfl rfl one_cell AE (by decide) t2 t3 t4 (w15.heap.size+1) (by simp) ?_;intro gg2 cap2 w17 hown hgrow hat hlt;obtain⟨x3b,z3b⟩:=Cel.grown hgrow t5 hne3 x3a z3a)
     have M17:=aa (M16.out.grow hgrow oB7.out (by decide) (vF hc7.out hp7.out oB7.out hR7.out V16.out hBc hown hgrow));have hra3:=M17.out.1.bt;have hll3:=M17.out.1.len;go_roundw
     case rel=>exact⟨f2,m2,bb ++ [b],l3,M17,by omega,by simp;omega,HR3⟩
     case measure=>rw [hra2,hra3];omega
  ·have hne:((bs (ah l')).toList == [41])=false:=HN1.out.trans (decide_eq_false hc1);have hne2:((bs (ah l')).toList != [41])=true:=(by rw [bne,hne];rfl);obtain⟨t1,l3,hpm,hr3⟩:=ax (show G.andThen (G.param E acc.length l') (fun t=>G.pN E f (acc ++ [t]))= .ok (p,r4) from by have:=HR.out;unfold G.pN at this;rwa [if_neg hc1] at this);obtain⟨hl',rfl,hpm2⟩:=G.ep (by simp [G.kind]) hpm;have hkk:G.kind (ah l')=t1∧1≤t1∧acc.length < 8:=by
    replace hpm2:(if G.kind (ah l') < 1∨8≤acc.length then none else some (G.kind (ah l')))=some t1:=hpm2;by_cases hcc:G.kind (ah l') < 1∨8≤acc.length
    ·rw [if_pos hcc] at hpm2;cases hpm2
    ·rw [if_neg hcc] at hpm2;injection hpm2 with hpm2;refine⟨hpm2,?_,?_⟩ <;> omega
   have HKK:=aa hkk.1;have h1t:=hkk.2.1;have hac:=hkk.2.2;have g1:decide (t1 < 1)=false:=(by simp;omega);have g2:¬t1 < 1:=(by omega);have g3:decide ((8:Int)≤(acc.length:Int))=false:=(by simp;omega);have g4:¬(8:Int)≤(acc.length:Int):=(by omega);have HR3:=aa hr3;clear hc1 HN1 HR hpm hpm2 hr3 hkk;go_wp2_with fail
   refine(cf _ M5.out.1 rfl).mono ?_;rintro e w6 ⟨rfl,b6⟩;go_wp2_with fail
   refine(Iz (ah l') _).mono ?_;rintro e w7 ⟨rfl,b7⟩;rw [HKK.out];have M7:=aa ((M5.out.below b6).below b7);clear M5 b6 b7 hne hne2;have hs7:=M7.out.lt;obtain⟨vp,vb,hc6,hp6,hB6,hBc⟩:=M7.out.2.1;obtain⟨aoP,cP,rfl⟩:=aI hp6;have x1:w7.cell? ⟨c,1,none⟩=some (.slice aoP acc.length cP):=(by simp [World.cell?,hc6,aH]);have z1:w7.frozen? ⟨c,1,none⟩=false:=(by simp [World.frozen?,hc6]);have hne3:(Value.slice aoP acc.length cP).ownBlock≠some c:=bp hp6 hc6 (by decide);obtain⟨x1a,z1a⟩:=Cel.below (af w7 (.cells #[.int .i64 t1] 3)) hs7.2.2.2.1 x1 z1;have M8:=aa (M7.out.below (af w7 (.cells #[.int .i64 t1] 3)));have hc7:=aa ((heap_alloc_old w7 (.cells #[.int .i64 t1] 3) (Array.getElem?_eq_some_iff.1 hc6).1).trans hc6);have hp7:=aa (hp6.alloc (.cells #[.int .i64 t1] 3));have hB7:=aa (hB6.stay (kZ (af w7 (.cells #[.int .i64 t1] 3))));clear hc6 hp6 hB6;have t2:acc.length+1≤maxLen:=(by unfold maxLen;omega);have t3:(acc.length+1) * 8≤140737488355328:=(by omega);have t4:w.heap.size≤(w7.alloc (.cells #[.int .i64 t1] 3)).heap.size:=(by simp;omega);have t5:c < (w7.alloc (.cells #[.int .i64 t1] 3)).heap.size:=(by simp;omega);go_upto_region 12 with (at_builtin;refine wpList_append_lies _ rfl (.tmp 50) (.tmp 52) 26 rfl w.heap.size 3 i0 _ 1 8 Tryz.underlying26 hi0 hz0 hz1 hz2 rfl (by decide) _ _ _ rfl hp7.out ⟨w7.heap.size,0,none⟩ 1 1 [.int .i64 t1] rfl rfl one_cell one_one (by decide) t2 t3 t4 (w7.heap.size+1) (by simp) ?_;intro gg2 cap2 w9 hown hgrow hat hlt;obtain⟨x1b,z1b⟩:=Cel.grown hgrow t5 hne3 x1a z1a)
   show Code.wp _ _ _ _ (w9.setCell ⟨c,1,none⟩ (.slice (some ⟨gg2,0,none⟩) (acc.length+1) cap2));have M9:=aa (M8.out.grow hgrow hp7.out (by decide) (Aj hc7.out hp7.out hB7.out hBc hown hgrow));clear M7 M8 hown hgrow hat hlt x1b z1b x1 z1 x1a z1a hc7 hp7 hB7 t2 t3 t4 t5;generalize w9.setCell ⟨c,1,none⟩ (.slice (some ⟨gg2,0,none⟩) (acc.length+1) cap2)=W9 at *;obtain⟨c1,z1,c4,hq9⟩:=M9.out.1.at1;have M10:=aa (M9.out.ate (gO M9.out.1 (Below.refl _ _) hl'));have hra3:=M10.out.1.bt;have hll3:=M10.out.1.len;have htb:=bQ hl';clear c4 M9 g1 g2 g3 g4;have hql:L.length - l'.length≤L.length:=Nat.sub_le _ _;generalize hqe:L.length - l'.length=q9 at *;have hqe:=aa hqe;go_wp2_with fail
   go_roundw
   case rel=>exact⟨f,acc ++ [t1],l'.tail,M10,by simp;omega,by omega,HR3⟩
   case measure=>rw [hra,hra3];have:=hqe.out;omega
def pf (w:World) (a c g2 g3:Nat) (L:List Tok) (E:Int) (n:Nat) (xs:List Fun) (l:List Tok) (wk:World):Prop:=
 RR a L E n l wk∧(∃v,wk.heap[c]? =some (.cells #[v] 24 (0,0))∧eH (a+1) xs v wk)∧wk.heap[g2]? =some (.cells #[.slice none 0 0] 24 (0,0))∧wk.heap[g3]? =some (.cells #[.int .i64 0,.int .i64 0] 59 (0,0))∧Below w.heap.size w wk∧w.heap.size≤g2∧g2 < g3∧g3 < a∧a < c
section
variable {w:World} {a c g2 g3:Nat} {L:List Tok} {E:Int} {n n':Nat} {xs:List Fun} {l l':List Tok} {wk wk':World}
theorem pf.lt (h:pf w a c g2 g3 L E n xs l wk):w.heap.size≤g2∧g2 < g3∧g3 < a∧a < c∧c < wk.heap.size:=by
 obtain⟨h1,⟨v,h2,_⟩,h3,h4,h5,h6,h7,h8,h9⟩:=h;exact⟨h6,h7,h8,h9,(Array.getElem?_eq_some_iff.1 h2).1⟩
theorem uX {B a:Nat} {u v w:World} (h:Below B u v) (k:Kr a v w) (ha:B≤a) (hB:B≤v.heap.size):Below B u w:=h.trans (k.below ha hB)
theorem pf.kr (h:pf w a c g2 g3 L E n xs l wk) (r:RR a L E n' l' wk') (k:Kr a wk wk'):pf w a c g2 g3 L E n' xs l' wk':=by
 have hl:=h.lt;obtain⟨h1,⟨v,h2,cs,o1,o2⟩,h3,h4,h5,h6,h7,h8,h9⟩:=h;exact⟨r,⟨v,(k.2.2.2.2 c (by omega) (by omega)).trans h2,cs,Cp o1 k (by omega),jt.stay (yO k (by omega)) _ _ o2⟩,(k.2.2.2.2 g2 (by omega) (by omega)).trans h3,(k.2.2.2.2 g3 (by omega) (by omega)).trans h4,uX h5 k (by omega) (by omega),h6,h7,h8,h9⟩
theorem pf.below (h:pf w a c g2 g3 L E n xs l wk) (b:Below wk.heap.size wk wk'):pf w a c g2 g3 L E n xs l wk':=h.kr (h.1.below b) (Kr.br b)
end
def Splits (s:ByteArray) (L:List Tok):Prop:=∀w0:World,Calls Tryz.prog 95 #[.string s] w0 fun e w'=>∃v,e= .returned (.tuple #[v,.agg #[.int .i64 0,.int .i64 0]])∧w'.ownsRow w0.heap.size 173 2 v L.length (iN L)∧Below w0.heap.size w0 w'
theorem Kt (s:ByteArray) {L:List Tok} (hL:L.length≤131072∧∀t∈L,t.1.length≤65536) {xs:List Fun} {n':Nat} (hsp:Splits s L) (hr:yR s.size L= .ok ((xs,n'),[])) (w:World):
  Calls Tryz.prog 61 #[.string s] w fun e w'=>∃v,e= .returned (.tuple #[.agg #[v],.agg #[.int .i64 0,.int .i64 0]])∧eH w.heap.size xs v w'∧Below w.heap.size w w':=by
 obtain⟨i0,hi0,hz0,hz1,hz2⟩:=info_parts Tryz.J3;have HR:Hid (fwG s.size (L.length+1) 0 [] L= .ok ((xs,n'),[])):=aa hr;have HSP:=aa hsp;have HL:=aa hL;clear hr hsp hL;have b0:=af w (.cells #[.slice none 0 0] 24);have b1:=af (w.alloc (.cells #[.slice none 0 0] 24)) (.cells #[.int .i64 0,.int .i64 0] 59);have S2:Hid (((w.alloc (.cells #[.slice none 0 0] 24)).alloc (.cells #[.int .i64 0,.int .i64 0] 59)).heap[w.heap.size]? =some (.cells #[.slice none 0 0] 24 (0,0))):=aa ((b1.block _ (by simp)).trans (heap_alloc_new w _));have S3:Hid (((w.alloc (.cells #[.slice none 0 0] 24)).alloc (.cells #[.int .i64 0,.int .i64 0] 59)).heap[w.heap.size+1]? =some (.cells #[.int .i64 0,.int .i64 0] 59 (0,0))):=aa (by
  have s1:(w.alloc (.cells #[.slice none 0 0] 24)).heap.size=w.heap.size+1:=by simp
  rw [←s1];exact heap_alloc_new _ _)
 have B0:=aa (ae b0 b1);have hsz0:w.heap.size+1 < ((w.alloc (.cells #[.slice none 0 0] 24)).alloc (.cells #[.int .i64 0,.int .i64 0] 59)).heap.size:=by simp
 clear b0 b1;go_enter Tryz.func61,Tryz.ntmps61
 go_upto_region 1 with fail
 show Code.wp _ _ _ _ ((w.alloc (.cells #[.slice none 0 0] 24)).alloc (.cells #[.int .i64 0,.int .i64 0] 59));generalize (w.alloc (.cells #[.slice none 0 0] 24)).alloc (.cells #[.int .i64 0,.int .i64 0] 59)=W0 at *;go_wp2_with fail
 refine(HSP.out _).mono ?_;rintro e w1 ⟨v1,rfl,o1,b1⟩;obtain⟨ao,cp,rfl⟩:=aI o1;have b2:=af w1 (.cells #[.int .i64 0,.int .i64 0] 59);have O2:=aa (o1.alloc (.cells #[.int .i64 0,.int .i64 0] 59));have B2:=aa (ae b1 b2);have x0:(w1.alloc (.cells #[.int .i64 0,.int .i64 0] 59)).cell? ⟨w1.heap.size,0,none⟩=some (.int .i64 0):=by simp
 clear o1 b1 b2;go_upto_region 2 with fail
 show Code.wp _ _ _ _ (w1.alloc (.cells #[.int .i64 0,.int .i64 0] 59));generalize w1.alloc (.cells #[.int .i64 0,.int .i64 0] 59)=W2 at *;generalize w1.heap.size=g5 at *;have b3:=af W2 (.cells #[.slice ao L.length cp,.int .i64 0,.int .i64 s.size,.int .i64 0,.int .i64 0,.int .i64 0] 132);have b4:=af (W2.alloc (.cells #[.slice ao L.length cp,.int .i64 0,.int .i64 s.size,.int .i64 0,.int .i64 0,.int .i64 0] 132)) (.cells #[.slice none 0 0] 24);have hW3:(W2.alloc (.cells #[.slice ao L.length cp,.int .i64 0,.int .i64 s.size,.int .i64 0,.int .i64 0,.int .i64 0] 132)).heap.size=W2.heap.size+1:=by simp
 have M0:Hid (pf w W2.heap.size (W2.heap.size+1) w.heap.size (w.heap.size+1) L s.size 0 [] L ((W2.alloc (.cells #[.slice ao L.length cp,.int .i64 0,.int .i64 s.size,.int .i64 0,.int .i64 0,.int .i64 0] 132)).alloc (.cells #[.slice none 0 0] 24))):=aa (by
  have hz:=B2.out.size;have hB:=B0.out.size;have BB:=ae B2.out (ae b3 b4);refine⟨⟨.slice ao L.length cp,?_,?_,List.suffix_refl _,HL.out,by omega⟩,⟨.slice none 0 0,?_,[],World.ownsRow_nil _ _ _ _,rfl⟩,(BB.block _ (by omega)).trans S2.out,(BB.block _ (by omega)).trans S3.out,ae B0.out BB,Nat.le_refl _,by omega,by omega,by omega⟩
  ·refine(b4.block _ (by omega)).trans ((heap_alloc_new W2 _).trans ?_);simp
  ·exact aL ((O2.out.alloc _).alloc _) (Nat.zero_le _)
  ·rw [←hW3];exact heap_alloc_new _ _)
 clear b3 b4 hW3 B2 O2 S2 S3 B0 hsz0;go_wp2_with fail
 generalize (W2.alloc (.cells #[.slice ao L.length cp,.int .i64 0,.int .i64 s.size,.int .i64 0,.int .i64 0,.int .i64 0] 132)).alloc (.cells #[.slice none 0 0] 24)=W4 at *;generalize W2.heap.size=a at *;generalize a+1=c at *;generalize w.heap.size+1=g3 at *;clear x0;go_loopw [] (fun wr=>∃(f m:Nat) (acc:List Fun) (l':List Tok),Hid (pf w a c w.heap.size g3 L s.size m acc l' wr)∧l'.length < f∧Hid (fwG s.size f m acc l'= .ok ((xs,n'),[]))) (fun wr=>L.length - bt a wr)
 case atStart=>exact⟨_,0,[],L,M0,Nat.lt_succ_self _,HR⟩
 case round=>
  obtain⟨f,m,acc,l',M,hf,HR'⟩:=hrel;have hra:=M.out.1.bt;have hll:=M.out.1.len;obtain⟨c1,_,c4,hq9⟩:=M.out.1.at1;obtain⟨f,rfl⟩:∃q,f=q+1:=⟨f - 1,by omega⟩;have hlt:=M.out.lt;by_cases hl:l'= []
  ·subst hl;obtain⟨rfl,rfl⟩:acc=xs∧m=n':=(by have:=HR'.out;rw [yn] at this;cases this;exact⟨rfl,rfl⟩);have hq1:¬((L.length - ([]:List Tok).length:Nat):Int) < (L.length:Int):=(by simp);have hq2:decide (((L.length - ([]:List Tok).length:Nat):Int) < (L.length:Int))=false:=(by simp);generalize L.length - ([]:List Tok).length=q at *;obtain⟨_,⟨v,hc,cs,o1,o2⟩,s2,s3,bb,_⟩:=M.out;obtain⟨aoV,cpV,rfl⟩:=aI o1;have y0:wr.cell? ⟨c,0,none⟩=some (.slice aoV acc.length cpV):=(by simp [World.cell?,hc]);have u0:wr.cell? ⟨w.heap.size,0,none⟩=some (.slice none 0 0):=(by simp [World.cell?,s2]);have u1:wr.cell? ⟨g3,0,none⟩=some (.int .i64 0):=(by simp [World.cell?,s3]);have u2:wr.cell? ⟨g3,1,none⟩=some (.int .i64 0):=(by simp [World.cell?,s3]);have v0:wr.frozen? ⟨w.heap.size,0,none⟩=false:=(by simp [World.frozen?,s2]);have v1:wr.frozen? ⟨g3,0,none⟩=false:=(by simp [World.frozen?,s3]);have v2:wr.frozen? ⟨g3,1,none⟩=false:=(by simp [World.frozen?,s3]);have hg23:g3≠w.heap.size:=(by omega);have F1:=(Far.refl w.heap.size wr).set 0 (.slice aoV acc.length cpV);have hs3:=(F1.2.2.2.2 g3 hg23).trans s3;have F2:=(((Far.refl g3 (wr.setCell ⟨w.heap.size,0,none⟩ (.slice aoV acc.length cpV))).set 0 (.int .i64 0)).set 1 (.int .i64 0));have PV:=aa (show eH w.heap.size acc (.slice aoV acc.length cpV) (((wr.setCell ⟨w.heap.size,0,none⟩ (.slice aoV acc.length cpV)).setCell ⟨g3,0,none⟩ (.int .i64 0)).setCell ⟨g3,1,none⟩ (.int .i64 0)) from
    ⟨cs,aL (F2.own (F1.own o1 (bp o1 s2 (by decide))) (bp (F1.own o1 (bp o1 s2 (by decide))) hs3 (by decide))) (by omega),jt.stay (((fU F1 s2 (by decide)).trans (fU F2 hs3 (by decide))).trans (qQ (by omega))) _ _ o2⟩)
   have BBf:=aa ((((bb.setCell (p:=⟨w.heap.size,0,none⟩) (Nat.le_refl _) (.slice aoV acc.length cpV)).setCell (p:=⟨g3,0,none⟩) (by show _≤g3;omega) (.int .i64 0)).setCell (p:=⟨g3,1,none⟩) (by show _≤g3;omega) (.int .i64 0)));clear hc o1 o2 s2 s3 bb F1 F2 hs3 M;go_wp2_with fail
   exact bodyPost_ret (v:= .tuple #[.agg #[.slice aoV acc.length cpV],.agg #[.int .i64 0,.int .i64 0]]) (by simp [results,Tryz.results61,go_sem,u0,u1,u2]) rfl ⟨_,rfl,PV.out,BBf.out⟩
  ·have h32:acc.length < 32:=by
    refine Classical.byContradiction fun q=> ?_;have:=HR'.out;rw [ze hl (by omega)] at this
    cases this
   obtain⟨x,m2,l3,hx⟩:∃x m2 l3,pR s.size m l'= .ok ((x,m2),l3):=by
    cases hq:pR s.size m l' with
    |error er=>have:=HR'.out;rw [EH hl h32 hq] at this;cases this
    |ok p=>exact⟨p.1.1,p.1.2,p.2,rfl⟩
   have HE:Hid (fwG s.size f m2 (acc ++ [x]) l3= .ok ((xs,n'),[])):=aa (by have:=HR'.out;rwa [Ij hl h32 hx] at this);have hless:=uG hx;have HX:=aa hx;have hlp:0 < l'.length:=List.length_pos_iff.2 hl;have hq1:((L.length - l'.length:Nat):Int) < (L.length:Int):=(by omega);have hq2:decide (((L.length - l'.length:Nat):Int) < (L.length:Int))=true:=(by simpa using hq1);have hqr:Hid (bt a wr=L.length - l'.length):=aa hra;clear hx HR' hl hra;have hll':=aa hll;generalize hqe:L.length - l'.length=q at *;have hqe:=aa hqe;obtain⟨v,hc,cs,o1,o2⟩:=M.out.2.1;obtain⟨aoV,cpV,rfl⟩:=aI o1;have y0:wr.cell? ⟨c,0,none⟩=some (.slice aoV acc.length cpV):=(by simp [World.cell?,hc]);have g4:¬(32:Int)≤(acc.length:Int):=(by omega);have g5':decide ((32:Int)≤(acc.length:Int))=false:=(by simpa using g4);clear hc o1 o2;go_wp2_with fail
   refine(zO _ M.out.1 HX.out).mono ?_;rintro e w9 ⟨v9,rfl,⟨vp,vb,rfl,V9a,V9⟩,r9,k9⟩;obtain⟨aoA,mA,cA,rfl⟩:=aQ V9a;obtain⟨aoT,mT,cT,rfl⟩:=aQ V9.choose_spec.1;have b9:=af w9 (.cells (aH x (.slice aoA mA cA) (.slice aoT mT cT)).toArray 29);have M9:=aa ((M.out.kr r9 k9).below b9);have SB:jg wr.heap.size (a+1) w9 (w9.alloc (.cells (aH x (.slice aoA mA cA) (.slice aoT mT cT)).toArray 29)):=(qQ (show a+1≤wr.heap.size by omega)).trans (kZ b9);have V9a:=aa (SB _ _ _ _ _ (by simp) V9a);have V9:=aa (V9.stay SB);have yy:∀i u,(aH x (.slice aoA mA cA) (.slice aoT mT cT))[i]? =some u→(w9.alloc (.cells (aH x (.slice aoA mA cA) (.slice aoT mT cT)).toArray 29)).cell? ⟨w9.heap.size,i,none⟩=some u:=fun i u hu=>by
    have:=qN (w:=w9) (x:=x) (vp:= .slice aoA mA cA) (vb:= .slice aoT mT cT) i u hu;rw [Addr.add_lit,Nat.zero_add] at this;exact this
   have p0:=yy 0 _ rfl;have p1:=yy 1 _ rfl;have p2:=yy 2 _ rfl;have p3:=yy 3 _ rfl;have p4:=yy 4 _ rfl;clear yy SB r9 k9 b9 M y0 c1 c4 g4 g5' hq1 hq2;unfold aH;go_upto_region 10 with fail
   show Code.wp _ _ _ _ (w9.alloc (.cells (aH x (.slice aoA mA cA) (.slice aoT mT cT)).toArray 29));generalize w9.alloc (.cells (aH x (.slice aoA mA cA) (.slice aoT mT cT)).toArray 29)=W9 at *;have hlt9:=M9.out.lt;obtain⟨v,hc,cs,o1,o2⟩:=M9.out.2.1;obtain⟨aoV,cpV,rfl⟩:=aI o1;have y0:W9.cell? ⟨c,0,none⟩=some (.slice aoV acc.length cpV):=(by simp [World.cell?,hc]);have z0:W9.frozen? ⟨c,0,none⟩=false:=(by simp [World.frozen?,hc]);have hne:(Value.slice aoV acc.length cpV).ownBlock≠some c:=bp o1 hc (by decide);obtain⟨y0a,z0a⟩:=Cel.below (af W9 (.cells (aH x (.slice aoA mA cA) (.slice aoT mT cT)).toArray 29)) hlt9.2.2.2.2 y0 z0;have O1:=aa (o1.alloc (.cells (aH x (.slice aoA mA cA) (.slice aoT mT cT)).toArray 29));have hc:=aa hc;have o2:=aa o2;clear o1;have t2:acc.length+1≤maxLen:=(by unfold maxLen;omega);have t3:(acc.length+1) * 80≤140737488355328:=(by omega);have t4:a+1≤(W9.alloc (.cells (aH x (.slice aoA mA cA) (.slice aoT mT cT)).toArray 29)).heap.size:=(by simp;omega);have t5:c < (W9.alloc (.cells (aH x (.slice aoA mA cA) (.slice aoT mT cT)).toArray 29)).heap.size:=(by simp;omega);go_wp2_with (at_builtin;refine wpList_append_lies _ rfl (.tmp 49) (.tmp 51) 22 rfl (a+1) 29 i0 _ 5 80 Tryz.underlying22 hi0 hz0 hz1 hz2 rfl (by decide) _ _ _ rfl O1.out ⟨W9.heap.size,0,none⟩ 1 1 (aH x (.slice aoA mA cA) (.slice aoT mT cT)) rfl rfl qN Db (by decide) t2 t3 t4 (W9.heap.size+1) (by simp) ?_;intro gg cap w10 hown hgrow hat hlt10;obtain⟨y0b,z0b⟩:=Cel.grown hgrow t5 hne y0a z0a)
   have M10:Hid (pf w a c w.heap.size g3 L s.size m2 (acc ++ [x]) l3 (w10.setCell ⟨c,0,none⟩ (.slice (some ⟨gg,0,none⟩) (acc.length+1) cap))):=aa (by
    obtain⟨h1,_,h3,h4,h5,h6,h7,h8,h9⟩:=M9.out;have bx:=af W9 (.cells (aH x (.slice aoA mA cA) (.slice aoT mT cT)).toArray 29);have hrow:∀q,(Value.slice aoV acc.length cpV).ownBlock=some q→a+1≤q:=fun q hq=>(O1.out.lt q hq).1;have hc9:=(bx.block c (by omega)).trans hc.out;have hc10:=(hgrow.block c t5 (fun e=>hne e.symm)).trans hc9;have F10:=(Far.refl c w10).set 0 (.slice (some ⟨gg,0,none⟩) (acc.length+1) cap);have Sg:=vu (B:=a+1) hgrow O1.out (by decide);have Sf:=fU (B:=a+1) F10 hc10 (by decide);have Sa:=(kZ (B:=a+1) bx).trans (Sg.trans Sf);have blk:∀k,k < a→(w10.setCell ⟨c,0,none⟩ (.slice (some ⟨gg,0,none⟩) (acc.length+1) cap)).heap[k]? =W9.heap[k]? :=fun k hk=>(F10.2.2.2.2 k (by omega)).trans ((hgrow.block k (show k < (W9.alloc (.cells (aH x (.slice aoA mA cA) (.slice aoT mT cT)).toArray 29)).heap.size by have:=bx.size;omega) (fun e=>by have:=hrow k e.symm;omega)).trans (bx.block k (by omega)));have hsz:W9.heap.size≤(w10.setCell ⟨c,0,none⟩ (.slice (some ⟨gg,0,none⟩) (acc.length+1) cap)).heap.size:=(by rw [F10.2.2.2.1];exact Nat.le_trans bx.size hgrow.size);refine⟨?_,⟨_,(heap_setCell_same w10 c 0 _ 24 _ hc10).trans rfl,cs ++ aH x (.slice aoA mA cA) (.slice aoT mT cT),by rw [List.length_append];exact F10.own hown (bp hown hc10 (by decide)),jt.snoc (Sa _ _ _ _ _ (by simp) V9a.out) (V9.out.stay Sa) _ _ (jt.stay Sa _ _ o2.out)⟩,(blk _ (by omega)).trans h3,(blk _ (by omega)).trans h4,?_,h6,h7,h8,h9⟩
    ·exact((h1.below bx).grown hgrow O1.out (by decide) (Nat.lt_succ_self a)).set hc10 (by decide) (by omega) 0 _
    ·exact⟨F10.1.trans (hgrow.os.trans (bx.os.trans h5.os)),F10.2.1.trans (hgrow.tape.trans (bx.tape.trans h5.tape)),F10.2.2.1.trans (hgrow.output.trans (bx.output.trans h5.output)),Nat.le_trans h5.size hsz,fun k hk=>(blk k (by omega)).trans (h5.block k hk)⟩)
   have hra3:=M10.out.1.bt;have hll3:=M10.out.1.len;go_roundw
   case rel=>exact⟨f,m2,acc ++ [x],l3,M10,by omega,HE⟩
   case measure=>rw [hqr.out,hra3];have:=hqe.out;have:=hll'.out;omega
def inB:List UInt8→UInt8→Bool
 |[],_=>false
 |d :: r,c=>if d=c then true else inB r c
theorem DH {t:List UInt8} {k:Nat} {c d:UInt8} (h:t[k]? =some d):inB (t.drop k) c=if d=c then true else inB (t.drop (k+1)) c:=by
 obtain⟨h1,h2⟩:=List.getElem?_eq_some_iff.1 h;rw [List.drop_eq_getElem_cons h1,h2];rfl
theorem rin (c:UInt8) (t:List UInt8) (w:World) (ht:t.length≤100):Calls Tryz.prog 142 #[.int .u8 (c.toNat:Int),.string (bs t)] w fun e w'=>e= .returned (.bool (inB t c))∧w'=w:=by
 have hz:(bs t).size≤100:=by rw [bE];exact ht
 have HZ:=aa (bE t);go_enter Tryz.func142,Tryz.ntmps142
 go_wp2_with fail
 go_loopw [5] (fun i wr=>∃k:Nat,k≤t.length∧i= .int .i64 k∧Hid (wr=w)∧Hid (inB t c=inB (t.drop k) c)) (fun i _=>t.length - (intOf i).toNat)
 case atStart=>exact⟨0,Nat.zero_le _,rfl,aa rfl,rfl⟩
 case round=>
  obtain⟨k,hk,rfl,hw,HC⟩:=hrel;obtain rfl:=hw.out;by_cases hlt:k < t.length
  ·obtain⟨d,hd,_⟩:=yC hlt;obtain⟨hkz,hb⟩:=Is hd;have hkz':(k:Int) < ((bs t).size:Int):=(by omega);have HD:=aa (DH (c:=c) hd);by_cases hdc:d=c
   ·have hb1:((bs t)[k].toNat:Int)=(c.toNat:Int):=(by rw [hb,hdc]);have HE:Hid (inB t c=true):=aa (by rw [HC.out,HD.out,if_pos hdc]);clear hb hd hdc HD HC;go_wp2_with fail
    go_ret;exact⟨aw HE.out.symm,rfl⟩
   ·have hb1:(((bs t)[k].toNat:Int) == (c.toNat:Int))=false:=by
     rw [hb];have h2:d.toNat≠c.toNat:=fun e=>hdc (UInt8.toNat_inj.1 e);simpa using fun e:(d.toNat:Int)=c.toNat=>h2 (by omega)
    have HE:Hid (inB t c=inB (t.drop (k+1)) c):=aa (by rw [HC.out,HD.out,if_neg hdc]);clear hb hd hdc HD HC;go_wp2_with fail
    go_roundw
    case rel=>exact⟨k+1,by omega,by go_num,aa trivial,HE⟩
    case measure=>simp [intOf];omega
  ·have HE:Hid (inB t c=false):=aa (by rw [HC.out,List.drop_eq_nil_of_le (by omega)];rfl);have hkz':¬(k:Int) < ((bs t).size:Int):=(by have:=HZ.out;omega);have hkz2:decide ((k:Int) < ((bs t).size:Int))=false:=(by simpa using hkz');go_wp2_with fail
   go_ret;exact⟨aw HE.out.symm,rfl⟩
def vM (c:UInt8):Bool:=(decide (97≤c.toNat) && decide (c.toNat≤122)) || (decide (65≤c.toNat) && decide (c.toNat≤90)) || (decide (48≤c.toNat) && decide (c.toNat≤57)) || inB [46,37,64,45,95] c
theorem lS (c:UInt8):vM c=L2.gu c.toNat:=by
 have key:∀n:Fin 256,vM (UInt8.ofNat n.val)=L2.gu (UInt8.ofNat n.val).toNat:=by decide +kernel
 have:=key ⟨c.toNat,c.toNat_lt⟩;rwa [show UInt8.ofNat c.toNat=c from UInt8.ofNat_toNat] at this
theorem Fp (c:UInt8):inB [40,41,123,125,61,58] c=L2.jR c.toNat:=by
 have key:∀n:Fin 256,inB [40,41,123,125,61,58] (UInt8.ofNat n.val)=L2.jR (UInt8.ofNat n.val).toNat:=by decide +kernel
 have:=key ⟨c.toNat,c.toNat_lt⟩;rwa [show UInt8.ofNat c.toNat=c from UInt8.ofNat_toNat] at this
theorem Fy (c:UInt8):inB [32,9,10,13] c=L2.pe c.toNat:=by
 have key:∀n:Fin 256,inB [32,9,10,13] (UInt8.ofNat n.val)=L2.pe (UInt8.ofNat n.val).toNat:=by decide +kernel
 have:=key ⟨c.toNat,c.toNat_lt⟩;rwa [show UInt8.ofNat c.toNat=c from UInt8.ofNat_toNat] at this
theorem yQ (c:UInt8) (w:World):Calls Tryz.prog 143 #[.int .u8 (c.toNat:Int)] w fun e w'=>e= .returned (.bool (vM c))∧w'=w:=by
 have HB:Hid (vM c=((decide (97≤c.toNat) && decide (c.toNat≤122)) || (decide (65≤c.toNat) && decide (c.toNat≤90)) || (decide (48≤c.toNat) && decide (c.toNat≤57)) || inB [46,37,64,45,95] c)):=aa rfl;have key:∀n:Nat,(c.toNat:Int)=n→Calls Tryz.prog 143 #[.int .u8 (n:Int)] w fun e w'=>e= .returned (.bool ((decide (97≤n) && decide (n≤122)) || (decide (65≤n) && decide (n≤90)) || (decide (48≤n) && decide (n≤57)) || inB [46,37,64,45,95] c))∧w'=w:=by
  intro n hn;have HI:=aa (rin c [46,37,64,45,95] w (by simp));rw [hn] at HI;clear hn HB;have hyes:(97≤n∧n≤122)∨(65≤n∧n≤90)∨(48≤n∧n≤57)→true=((decide (97≤n) && decide (n≤122)) || (decide (65≤n) && decide (n≤90)) || (decide (48≤n) && decide (n≤57)) || inB [46,37,64,45,95] c):=by
   rintro (h | h | h) <;> simp [h]
  have hno:¬((97≤n∧n≤122)∨(65≤n∧n≤90)∨(48≤n∧n≤57))→inB [46,37,64,45,95] c=((decide (97≤n) && decide (n≤122)) || (decide (65≤n) && decide (n≤90)) || (decide (48≤n) && decide (n≤57)) || inB [46,37,64,45,95] c):=by
   intro h;have e1:(decide (97≤n) && decide (n≤122))=false:=(by simp;omega);have e2:(decide (65≤n) && decide (n≤90))=false:=(by simp;omega);have e3:(decide (48≤n) && decide (n≤57))=false:=(by simp;omega);rw [e1,e2,e3];rfl
  have hyes:=aa hyes;have hno:=aa hno;by_cases h1:(97:Int)≤n <;> by_cases h2:(n:Int)≤122 <;> by_cases h3:(65:Int)≤n <;> by_cases h4:(n:Int)≤90 <;> by_cases h5:(48:Int)≤n <;> by_cases h6:(n:Int)≤57
  all_goals first
   |(exfalso;omega)
   |(go_enter Tryz.func143,Tryz.ntmps143
     go_wp2_with fail
     go_ret;exact⟨aw (hyes.out (by omega)),rfl⟩)
   |(go_enter Tryz.func143,Tryz.ntmps143
     go_wp2_with fail
     refine HI.out.mono ?_;rintro e w1 ⟨rfl,hw1⟩;rw [hw1];go_wp2_with fail
     go_ret;exact⟨aw (hno.out (by omega)),rfl⟩)
 rw [HB.out];exact key c.toNat rfl
open G (Tok Er Ins Fun)
theorem nk (f:Fun) (v:Value) (w:World) (hv:bS w f v) (hF:Ful f) (hT:Tos f):
  Calls Tryz.prog 64 #[v] w fun e w'=>∃u,e= .returned u∧bf w.heap.size w' (aC f) u∧Below w.heap.size w w':=by
 obtain⟨nm,ps,rt,bl,pl⟩:=f;have hv2:=hv;obtain⟨vp,vb,rfl,⟨ao,c,rfl,h1,_⟩,h2⟩:=hv;obtain⟨bo,cb,rfl,_⟩:=h2;exact zW nm ps rt pl bl ao bo c cb w hv2 hF hT
def AH (g1:Nat) (W w2:World) (n:Nat) (ll:List (List Int)) (B1:Nat) (wr:World):Prop:=∃us,bg wr W.heap.size 26 g1 n us∧dI w2.heap.size wr ll us∧Below W.heap.size W wr∧Mid B1 w2 wr
theorem Be (nm:List UInt8) (ps:List Int) (rt pl:Int) (bl:List (List Ins)) (ao bo:Option Addr) (c cb:Nat) (w:World)
  (hv:bS w (nm,ps,rt,bl,pl) (.agg #[.string (bs nm),.slice ao ps.length c,.int .i64 rt,.slice bo bl.length cb,.int .i64 pl])) (hF:Ful (nm,ps,rt,bl,pl)) (hT:Tos (nm,ps,rt,bl,pl)):
  Calls Tryz.prog 65 #[.agg #[.string (bs nm),.slice ao ps.length c,.int .i64 rt,.slice bo bl.length cb,.int .i64 pl]] w fun e w'=>∃v,e= .returned v∧bf w.heap.size w' (aJ (nm,ps,rt,bl,pl)) v∧Below w.heap.size w w':=by
 obtain⟨i0,hi0,hz0,hz1,hz2⟩:=info_parts Tryz.sx;obtain⟨i3,hi3,hz3,hz4,hz5⟩:=info_parts Tryz.cU;have b0:=af w (.cells #[.string (bs nm),.slice ao ps.length c,.int .i64 rt,.slice bo bl.length cb,.int .i64 pl] 29);have X0:=aa (L5.Box.new w [.string (bs nm),.slice ao ps.length c,.int .i64 rt,.slice bo bl.length cb,.int .i64 pl] 29);have HV:=aa (hv.below b0);have B0:=aa b0;have HFu:=aa hF;have HTo:=aa hT;have hbl:bl.length≤1000000:=hF.1;clear b0 hv hF hT;go_enter Tryz.func65,Tryz.ntmps65
 go_upto_region 1 with fail
 show Code.wp _ _ _ _ (w.alloc (.cells #[.string (bs nm),.slice ao ps.length c,.int .i64 rt,.slice bo bl.length cb,.int .i64 pl] 29));replace X0:Hid (L5.Box (w.alloc (.cells #[.string (bs nm),.slice ao ps.length c,.int .i64 rt,.slice bo bl.length cb,.int .i64 pl] 29)) w.heap.size [.string (bs nm),.slice ao ps.length c,.int .i64 rt,.slice bo bl.length cb,.int .i64 pl]):=X0;generalize w.alloc (.cells #[.string (bs nm),.slice ao ps.length c,.int .i64 rt,.slice bo bl.length cb,.int .i64 pl] 29)=W at *;have x3:=X0.out.2 3 _ rfl;go_upto_region 2 with (at_make;refine wpList_make_full _ rfl _ _ 65 rfl W.heap.size 26 i0 _ 1 Tryz.underlying65 hi0 hz0 hz1 .i64 .i64 bl.length bl.length bl.length rfl rfl rfl rfl (by rw [hz2];omega) (by unfold maxLen;omega) (Nat.le_refl _) ?_;intro w1 own1 grow1;refine Hid.out ?_)
 rw [re] at own1;have R1:Hid (bg w1 W.heap.size 26 W.heap.size bl.length (List.replicate bl.length (.slice none 0 0))):=aa own1;have B1:=aa (jX grow1);clear own1 grow1 x3;have hg1:W.heap.size < w1.heap.size:=R1.out.lt.2;obtain⟨x0,x1,x2,x3,x4⟩:_∧_∧_∧_∧_:=⟨(X0.out.below B1.out).2 0 _ rfl,(X0.out.below B1.out).2 1 _ rfl,(X0.out.below B1.out).2 2 _ rfl,(X0.out.below B1.out).2 3 _ rfl,(X0.out.below B1.out).2 4 _ rfl⟩;have HC:=aa (nk (nm,ps,rt,bl,pl) _ w1 (HV.out.below B1.out) HFu.out HTo.out);refine aa ?_;go_wp2_with fail
 refine HC.out.mono ?_;rintro e w2 ⟨v,rfl,hr,b2⟩;clear x0 x1 x2 x3 x4;have HR:=aa hr;obtain⟨so,sc,rfl⟩:=hr.len;have hsl:(aC (nm,ps,rt,bl,pl)).length=bl.length:=bP _;rw [hsl] at HR ⊢;have B12:=aa (ae B1.out b2);have HSt:Hid (AH W.heap.size W w2 bl.length (dz (nm,ps,rt,bl,pl) 0 []) w1.heap.size w2):=aa ⟨_,R1.out.below b2,by
  have:=dI.start w2.heap.size w2 bl.length;have e:=tA (nm,ps,rt,bl,pl);rw [e];exact this,B12.out,Mid.refl _ _⟩
 have hg2:w1.heap.size≤w2.heap.size:=b2.size;clear R1 B1 B12 b2 hr HC hsl;generalize w1.heap.size=Bq at *;generalize hg:W.heap.size=g1 at *;go_wp2_with fail
 go_loopw [15] (fun i wr=>∃K:Nat,K≤bl.length∧i= .int .i64 K∧Hid (AH g1 W w2 bl.length (dz (nm,ps,rt,bl,pl) K []) Bq wr)) (fun i _=>bl.length - (intOf i).toNat)
 case atStart=>exact⟨0,Nat.zero_le _,rfl,HSt⟩
 case round=>
  clear HSt;obtain⟨K,hK,rfl,HS⟩:=hrel;by_cases hkt:K < bl.length
  ·have hkI:(K:Int) < bl.length:=(by omega);have HMi:Hid (Mid Bq w2 wr):=aa (by obtain⟨us,_,_,_,h⟩:=HS.out;exact h);obtain⟨gs,lo,lc,rfl,c0,hlw,hgs,hgt⟩:=HR.out.row (eU (f:=(nm,ps,rt,bl,pl)) hkt);have c1:=(HMi.out.cell (p:=⟨gs,K,none⟩) hgs hgt).trans c0;have HLw:=aa hlw;have HPn:Hid (dz (nm,ps,rt,bl,pl) K (aB (nm,ps,rt,bl,pl) K)=dz (nm,ps,rt,bl,pl) (K+1) []):=aa (wZ _ K);have HNu:Hid (Num bl.length (aB (nm,ps,rt,bl,pl) K)):=aa (HTo.out K);have hll:(aB (nm,ps,rt,bl,pl) K).length≤1000000:=j8 HFu.out hkt;have HNd:Hid (aB (nm,ps,rt,bl,pl) K).Nodup:=aa (oZ _);have HS0:Hid (AH g1 W w2 bl.length (dz (nm,ps,rt,bl,pl) K ((aB (nm,ps,rt,bl,pl) K).take 0)) Bq wr):=aa HS.out;have hpl:=fun M=>kU (nm,ps,rt,bl,pl) M K;generalize aB (nm,ps,rt,bl,pl) K=l at *;clear HMi c0 hlw HS;go_wp2_with fail
   clear c1;go_loopw [22] (fun i wr=>∃J:Nat,J≤l.length∧i= .int .i64 J∧Hid (AH g1 W w2 bl.length (dz (nm,ps,rt,bl,pl) K (l.take J)) Bq wr)) (fun i _=>l.length - (intOf i).toNat)
   case atStart=>exact⟨0,Nat.zero_le _,rfl,HS0⟩
   case round=>
    clear HS0;obtain⟨J,hJ,rfl,HS⟩:=hrel;by_cases hjt:J < l.length
    ·have hjI:(J:Int) < l.length:=(by omega);obtain⟨m,hm⟩:∃m,l[J]? =some m:=⟨l[J],List.getElem?_eq_getElem hjt⟩;obtain⟨hm0,hm1⟩:=HNu.out m (List.mem_of_getElem? hm);obtain⟨M,rfl⟩:∃M:Nat,m=(M:Int):=⟨m.toNat,by omega⟩;have hMl:M < bl.length:=(by omega);have HTk:Hid (l.take (J+1)=l.take J ++ [(M:Int)]):=aa (aR hm);have hfr:=pz HNd.out hm;obtain⟨us,q1,q2,q3,q4⟩:=HS.out;obtain⟨gl,rfl,c9,_⟩:=Ff (sN HLw.out q4) hm;obtain⟨row,u,y1,y2,y3⟩:=q2.at (i:=M) (by rw [fP];exact hMl);rw [gC _ _ hMl,hfr] at y1;simp only [Bool.false_eq_true,if_false,List.append_nil,Option.some.injEq] at y1;have hrl:=hpl M;have HPu:Hid ((dz (nm,ps,rt,bl,pl) K (l.take J)).set M (row ++ [(K:Int)])=dz (nm,ps,rt,bl,pl) K (l.take J ++ [(M:Int)])):=aa (by rw [←y1];exact zT hMl);have HPa:Hid ((dz (nm,ps,rt,bl,pl) K (l.take J))[M]? =some row):=aa (by rw [gC _ _ hMl,hfr,←y1];simp);rw [y1] at hrl;have c8:=q1.cell y2;have Q1:=aa q1;have Q2:=aa q2;have Q3:=aa q3;have Q4:=aa q4;have Y2:=aa y2;have Y3:=aa y3;obtain⟨uo,uc,rfl⟩:=aI y3;have hws:=q4.1;have hMI:(M:Int) < bl.length:=(by omega);clear hm q1 q2 q3 q4 y1 y2 y3 HS hfr hm0 hm1;go_wp2_with (at_builtin;refine wpList_append_own_at _ rfl (.tmp 31) (.tmp 33) 26 rfl w2.heap.size 3 i3 _ 1 8 Tryz.underlying26 hi3 hz3 hz4 hz5 rfl (by decide) _ _ _ rfl (Y3.out.alloc _) ⟨wr.heap.size,0,none⟩ 1 1 [.int .i64 K] rfl rfl one_cell one_one (by unfold maxLen;omega) (by omega) (by simp;omega) ?_;intro v2 wB own2 grow2 _ at2;refine Hid.out ?_)
     have far:∀g,g < w2.heap.size→some g≠(Value.slice uo row.length uc).ownBlock:=fun g hg e=>by have:=(Y3.out.lt g e.symm).1;omega
     have P1:Hid (bg wB W.heap.size 26 g1 bl.length us):=aa ((Q1.out.alloc _).kept grow2 (far g1 (by omega)));have P2:=aa (Q2.out.step HPa.out Y2.out own2 grow2 at2);rw [HPu.out,←HTk.out] at P2;have P3:Hid (Below W.heap.size W wB):=aa (Below.grown (Q3.out.alloc Q3.out.size _) grow2 (by simp;omega) (fun k hk=>by have:=(Y3.out.lt k hk).1;omega));have P4:Hid (Mid Bq w2 wB):=aa ((Q4.out.alloc _).grown grow2 (fun k hk=> .inr (Y3.out.lt k hk).1));have HE:Hid (AH g1 W w2 bl.length (dz (nm,ps,rt,bl,pl) K (l.take (J+1))) Bq (wB.setCell ⟨g1,M,none⟩ v2)):=aa (by
      exact⟨us.set M v2,P1.out.set M v2,P2.out.put (p:=⟨g1,M,none⟩) (by show g1 < w2.heap.size;omega) _,P3.out.setCell (p:=⟨g1,M,none⟩) (by show W.heap.size≤g1;omega) _,P4.out.put (p:=⟨g1,M,none⟩) (.inl (by show g1 < Bq;omega)) _⟩)
     obtain⟨vo,vc,rfl⟩:=aI own2;have k2:=P1.out.cell Y2.out;have k3:=P1.out.frozen M;clear own2 grow2 at2 far P1 P2 P3 P4 Q1 Q2 Q3 Q4 Y2 Y3 c8 c9;refine aa ?_;go_wp2_with fail
     go_roundw
     case rel=>exact⟨J+1,by omega,by go_num,HE⟩
     case measure=>simp [intOf];omega
    ·obtain rfl:J=l.length:=(by omega);have HE:Hid (AH g1 W w2 bl.length (dz (nm,ps,rt,bl,pl) (K+1) []) Bq wr):=aa (by
      have:=HS.out;rw [List.take_length,HPn.out] at this;exact this)
     go_wp2_with fail
     go_roundw
     case rel=>exact⟨K+1,by omega,by go_num,HE⟩
     case measure=>simp [intOf];omega
  ·obtain rfl:K=bl.length:=(by omega);have HE:Hid (bf w.heap.size wr (aJ (nm,ps,rt,bl,pl)) (.slice (some ⟨g1,0,none⟩) bl.length bl.length)∧Below w.heap.size w wr):=aa (by
    obtain⟨us,q1,q2,q3,q4⟩:=HS.out;refine⟨?_,ae B0.out q3⟩;have:=q2.rows q1 (by omega);have e:dz (nm,ps,rt,bl,pl) bl.length []=aJ (nm,ps,rt,bl,pl):=AV (nm,ps,rt,bl,pl);rw [e] at this;exact this.base B0.out.size)
   go_wp2_with fail
   go_ret;exact⟨_,rfl,HE.out.1,HE.out.2⟩
theorem Bh (f:Fun) (v:Value) (w:World) (hv:bS w f v) (hF:Ful f) (hT:Tos f):
  Calls Tryz.prog 65 #[v] w fun e w'=>∃u,e= .returned u∧bf w.heap.size w' (aJ f) u∧Below w.heap.size w w':=by
 obtain⟨nm,ps,rt,bl,pl⟩:=f;have hv2:=hv;obtain⟨vp,vb,rfl,⟨ao,c,rfl,h1,_⟩,h2⟩:=hv;obtain⟨bo,cb,rfl,_⟩:=h2;exact Be nm ps rt pl bl ao bo c cb w hv2 hF hT
end Go.Proofs.YtaiaakklokahjaaGreatDoor
