/- Texts of one chain, joined. -/
import Derived.Test.YtljkgcfnoegibaaGreatDoorZAAM
import Derived.Maps.AppendAt
set_option maxHeartbeats 8000000
set_option maxRecDepth 20000
namespace Go.Proofs.YtljkgcfnoegibaaGreatDoor
open Go Go.RowKit
open G (Tok Er Ins Fun peek0 peek1 fG)
theorem DI {E:Int} {n n':Nat} {l lf:List Tok} {y:Fun} (h:rF E n l= .ok ((y,n'),lf)):
  ∃s p t b r3 r4 r5 r7,peek0 l= [102,117,110,99]∧G.name iP E l.tail= .ok (s,r3)∧peek0 r3= [40]∧G.rH E (r3.tail.length+1) [] r3.tail= .ok (p,r4)∧peek0 r4= [41]∧r5=r4.tail∧G.kind (peek0 r5)=t∧¬t < 0∧r5≠ []∧peek0 r5.tail= [123]∧
   nV E (r5.tail.tail.length+1) n [] r5.tail.tail= .ok ((b,n'),r7)∧peek0 r7= [125]∧lf=r7.tail∧y=(s,p,t,b,fG E l):=by
 obtain⟨_,r,h1,h⟩:=aB h;obtain⟨rfl,e1⟩:=gm (by simp) h1;obtain⟨s,r3,h3,h⟩:=aB h;obtain⟨_,r,h4,h⟩:=aB h;obtain⟨rfl,e4⟩:=gm (by simp) h4;obtain⟨p,r4,h5,h⟩:=aB h;obtain⟨_,r,h6,h⟩:=aB h;obtain⟨rfl,e6⟩:=gm (by simp) h6;obtain⟨t,r6,h7,h⟩:=aB h;obtain⟨hne,rfl,h7b⟩:=G.fw (by simp [G.kind]) h7;obtain⟨_,r,h8,h⟩:=aB h;obtain⟨rfl,e8⟩:=gm (by simp) h8;obtain⟨⟨b,m⟩,r7,h9,h⟩:=aB h;obtain⟨_,r,h10,h⟩:=aB h;obtain⟨rfl,e10⟩:=gm (by simp) h10
 cases h;replace h7b:(if G.kind (peek0 r4.tail) < 0 then none else some (G.kind (peek0 r4.tail)))=some t:=h7b;by_cases hk:G.kind (peek0 r4.tail) < 0
 ·rw [if_pos hk] at h7b;cases h7b
 ·rw [if_neg hk] at h7b;injection h7b with h7;exact⟨s,p,t,b,r3,r4,_,r7,e1,h3,e4,h5,e6,rfl,h7,by rw [←h7];exact hk,hne,e8,h9,e10,rfl,rfl⟩
theorem Dq {a:Nat} {L:List Tok} {E:Int} {n n':Nat} {l lf:List Tok} {y:Fun} (w:World) (h:RR a L E n l w) (hr:rF E n l= .ok ((y,n'),lf)):
  Calls Tryz.prog 36 #[.pointer (some ⟨a,0,none⟩)] w fun e w'=>∃v,e= .returned v∧DS w.heap.size y v w'∧RR a L E n' lf w'∧Kr a w w':=by
 obtain⟨s,p,t,bl,r3,r4,r5,r7,e1,h3,e4,h5,e6,h56,ht,ht0,hne5,e8,h9,e10,rfl,rfl⟩:=DI hr;have hl:l≠ []:=fun e=>by rw [e] at e1;cases e1
 have hn3:=uq h3;have HE1:=ae e1;replace h56:=ae h56;have HN3:=ae hn3.2;have HE4:=ae e4;have HP:=ae h5;have HE6:=ae e6;have HT:=ae ht;have HE8:=ae e8;have HB:=ae h9;have HE10:=ae e10;obtain rfl:r3=l.tail.tail:=hn3.1;obtain⟨i0,hi0,hz0,hz1,hz2⟩:=info_parts Tryz.cr;obtain⟨j0,hj0,hy0,hy1,hy2⟩:=info_parts Tryz.DK;have hb0:=ah w (.cells #[.string ⟨#[]⟩,.slice none 0 0,.int .i64 0,.slice none 0 0,.int .i64 0] 36);obtain⟨gg,cap,q,c0,c1,ch,hq,hLL⟩:=(h.below hb0).here hl;have haW:=World.block_lt_of_cell? _ _ c0;have hgW:=World.block_lt_of_cell? _ _ ch;replace haW:a < (w.alloc (.cells #[.string ⟨#[]⟩,.slice none 0 0,.int .i64 0,.slice none 0 0,.int .i64 0] 36)).heap.size:=haW;replace hgW:gg < (w.alloc (.cells #[.string ⟨#[]⟩,.slice none 0 0,.int .i64 0,.slice none 0 0,.int .i64 0] 36)).heap.size:=hgW;have H:=ae h;have hq1:(q:Int) < (L.length:Int):=by omega
 clear h hr e1 h3 hn3 e4 h5 e6 ht e8 h9 e10 hb0;generalize fG E l=pp at *;go_enter Tryz.func36,Tryz.ntmps36
 go_upto_region 1 with fail
 show Code.wp _ _ _ _ (w.alloc (.cells #[.string ⟨#[]⟩,.slice none 0 0,.int .i64 0,.slice none 0 0,.int .i64 0] 36));generalize hW0:w.alloc (.cells #[.string ⟨#[]⟩,.slice none 0 0,.int .i64 0,.slice none 0 0,.int .i64 0] 36)=W0 at *;have HW0:=ae hW0.symm;clear hW0;go_region
 have M0:=ae ((gL.start H.out (pp) HW0.out (Below.refl _ _)).below (qV _));clear H HW0 c0 c1 ch hq1 haW hgW hq;generalize (W0.alloc (.cells #[.string ⟨#[]⟩,.slice none 0 0,.int .i64 0,.slice none 0 0,.int .i64 (pp)] 36)).drew=W1 at *;generalize W0.heap.size=c at *;go_wp2_with fail
 refine(qT [102,117,110,99] _ M0.out.1 HE1.out (by simp)).mono ?_;rintro e w1 ⟨rfl,a1⟩;have M1:=ae (M0.out.ate a1);clear M0 a1;go_wp2_with fail
 refine(Ai s _ M1.out.1 HN3.out.1 HN3.out.2).mono ?_;rintro e w2 ⟨rfl,a2⟩;have M2:=ae (M1.out.ate a2);clear M1 a2;obtain⟨vp,vb,HC,HZ,_,_⟩:=M2.out.2.1.cells;have x0:=HC 0 _ rfl;have z0:=HZ 0;clear HC HZ;go_upto_region 4 with fail
 show Code.wp _ _ _ _ (w2.setCell ⟨c,0,none⟩ (.string (bs s)));have M3:Hid (gL w a c w.heap.size L E n (s,[],0,[],pp) l.tail.tail (w2.setCell ⟨c,0,none⟩ (.string (bs s)))):=ae (M2.out.put (M2.out.2.1.name s));clear M2 x0 z0;generalize w2.setCell ⟨c,0,none⟩ (.string (bs s))=W2 at *;go_wp2_with fail
 refine(qT [40] _ M3.out.1 HE4.out (by simp)).mono ?_;rintro e w3 ⟨rfl,a3⟩;have M4:=ae (M3.out.ate a3);clear M3 a3;go_wp2_with fail
 go_loopw [] (fun wr=>∃(f:Nat) (acc:List Int) (l':List Tok),Hid (gL w a c w.heap.size L E n (s,acc,0,[],pp) l' wr)∧acc.length≤8∧l'.length < f∧Hid (G.rH E f acc l'= .ok (p,r4))) (fun wr=>L.length - bQ a wr)
 case atStart=>exact⟨_,[],_,M4,by simp,Nat.lt_succ_self _,HP⟩
 case round=>
  obtain⟨f,acc,l',M,h8,hf,HR⟩:=hrel;have hra:=M.out.1.bQ;have hll:=M.out.1.len;have c4:=M.out.1.at1.2.2.1;obtain⟨f,rfl⟩:∃q,f=q+1:=⟨f - 1,by omega⟩;have HN1:=ae (jB (peek0 l') [41]);go_wp2_with fail
  refine(dp _ M.out.1 rfl).mono ?_;rintro e w5 ⟨rfl,b5⟩;have M5:=ae (M.out.below b5);clear M b5 c4;by_cases hc1:peek0 l'= [41]
  ·obtain⟨rfl,rfl⟩:acc=p∧l'=r4:=(by have:=HR.out;unfold G.rH at this;rw [if_pos hc1] at this;cases this;exact⟨rfl,rfl⟩);have hne:((bs (peek0 l')).toList == [41])=true:=HN1.out.trans (decide_eq_true hc1);have hne2:((bs (peek0 l')).toList != [41])=false:=(by rw [bne,hne];rfl);clear hc1 HN1 HR;go_wp2_with fail
   refine(qT [41] _ M5.out.1 HE6.out (by simp)).mono ?_;rintro e w6 ⟨rfl,a6⟩;have M6:=ae (M5.out.ate a6);rw [←h56.out] at M6;clear M5 a6 hne hne2;go_wp2_with fail
   refine(dp _ M6.out.1 rfl).mono ?_;rintro e w7 ⟨rfl,b7⟩;go_wp2_with fail
   refine(As (peek0 r5) _).mono ?_;rintro e w8 ⟨rfl,b8⟩;rw [HT.out];have M8:=ae ((M6.out.below b7).below b8);clear M6 b7 b8;obtain⟨vp,vb,HC,HZ,_,_⟩:=M8.out.2.1.cells;have x2:=HC 2 _ rfl;have z2:=HZ 2;clear HC HZ;go_upto_region 15 with fail
   show Code.wp _ _ _ _ (w8.setCell ⟨c,2,none⟩ (.int .i64 t));have M9:Hid (gL w a c w.heap.size L E n (s,acc,t,[],pp) r5 (w8.setCell ⟨c,2,none⟩ (.int .i64 t))):=ae (M8.out.put (M8.out.2.1.ret t));clear M8 x2 z2;generalize w8.setCell ⟨c,2,none⟩ (.int .i64 t)=W9 at *;obtain⟨vp,vb,HC,HZ,_,_⟩:=M9.out.2.1.cells;have x2:W9.cell? ⟨c,2,none⟩=some (.int .i64 t):=HC 2 _ rfl;clear HC HZ;have ht1:decide (t < 0)=false:=(by simpa using ht0);obtain⟨c1,z1,c4,hq9⟩:=M9.out.1.at1;have M10:=ae (M9.out.ate (iR M9.out.1 (Below.refl _ _) hne5));clear c4 M9;generalize L.length - r5.length=q9 at *;go_upto_region 18 with fail
   show Code.wp _ _ _ _ (W9.setCell ⟨a,1,none⟩ (.int .i64 ((q9:Int)+1)));clear c1 z1 x2;generalize W9.setCell ⟨a,1,none⟩ (.int .i64 ((q9:Int)+1))=W10 at *;go_wp2_with fail
   refine(qT [123] _ M10.out.1 HE8.out (by simp)).mono ?_;rintro e w11 ⟨rfl,a11⟩;have M11:=ae (M10.out.ate a11);clear M10 a11;go_wp2_with fail
   go_loopw [] (fun wr=>∃(f m:Nat) (bb:List (List Ins)) (l2:List Tok),Hid (gL w a c w.heap.size L E m (s,acc,t,bb,pp) l2 wr)∧l2.length < f∧bb.length+l2.length≤L.length∧Hid (nV E f m bb l2= .ok ((bl,n'),r7))) (fun wr=>L.length - bQ a wr)
   case atStart=>exact⟨_,n,[],_,M11,Nat.lt_succ_self _,by rw [List.length_nil,Nat.zero_add];exact M11.out.1.len.1,HB⟩
   case round=>
    obtain⟨f2,m,bb,l2,M12,hf2,hfit,HR2⟩:=hrel;have hra2:=M12.out.1.bQ;have hll2:=M12.out.1.len;have c42:=M12.out.1.at1.2.2.1;obtain⟨f2,rfl⟩:∃q,f2=q+1:=⟨f2 - 1,by omega⟩;have HN2:=ae (jB (peek0 l2) [125]);go_wp2_with fail
    refine(dp _ M12.out.1 rfl).mono ?_;rintro e w13 ⟨rfl,b13⟩;have M13:=ae (M12.out.below b13);clear M12 b13 c42;by_cases hc2:peek0 l2= [125]
    ·obtain⟨⟨rfl,rfl⟩,rfl⟩:(bb=bl∧m=n')∧l2=r7:=(by have:=HR2.out;rw [vf hc2] at this;cases this;exact⟨⟨rfl,rfl⟩,rfl⟩);have hnf:((bs (peek0 l2)).toList == [125])=true:=HN2.out.trans (decide_eq_true hc2);have hnf2:((bs (peek0 l2)).toList != [125])=false:=(by rw [bne,hnf];rfl);clear hc2 HN2 HR2;go_wp2_with fail
     refine(qT [125] _ M13.out.1 HE10.out (by simp)).mono ?_;rintro e w14 ⟨rfl,a14⟩;have M14:=ae (M13.out.ate a14);clear M13 a14 hnf hnf2;obtain⟨vp,vb,HC,HZ,o1,o2⟩:=M14.out.2.1.cells;have y0:=HC 0 _ rfl;have y1:=HC 1 _ rfl;have y2:=HC 2 _ rfl;have y3:=HC 3 _ rfl;have y4:=HC 4 _ rfl;obtain⟨aoA,mA,cA,rfl⟩:=aN o1;obtain⟨aoT,mT,cT,rfl⟩:=aN o2.choose_spec.1;have hS:=ae M14.out.2.2.1;obtain⟨s0,s1,s2,s3,s4,f0,f1,f2,f3,f4⟩:=LA hS.out;have hlt:=M14.out.lt;have hcn:c≠w.heap.size:=fun e=>M14.out.2.2.2.2.2.2 e.symm;have FF:=ae ((((((Far.refl w.heap.size w14).set 0 (.string (bs s))).set 1 (.slice aoA mA cA)).set 2 (.int .i64 t)).set 3 (.slice aoT mT cT)).set 4 (.int .i64 pp));have KK:=ae (FF.out.kr M14.out.2.2.2.1 (Nat.le_refl _));have QQ:=ae (FF.out.rr M14.out.1 hS.out (by decide) (by omega));have SS:=eF (B:=w.heap.size) FF.out hS.out (by decide);have OO:=ae (SS _ _ _ _ _ (by simp) o1);have OB:=ae (o2.stay SS);clear HC HZ o1 o2 SS;go_wp2_with fail
     exact bodyPost_ret (v:= .agg (aA (s,acc,t,bb,pp) (.slice aoA mA cA) (.slice aoT mT cT)).toArray) (by simp [results,Tryz.results36,go_sem,aA,s0,s1,s2,s3,s4]) rfl ⟨_,rfl,⟨_,_,rfl,OO.out,OB.out⟩,QQ.out,KK.out⟩
    ·have hnf:((bs (peek0 l2)).toList == [125])=false:=HN2.out.trans (decide_eq_false hc2);have hnf2:((bs (peek0 l2)).toList != [125])=true:=(by rw [bne,hnf];rfl);obtain⟨⟨b,m2⟩,l3,hblk,hr3⟩:=aB (show G.andThen (kV E bb.length m l2) (fun x=>nV E f2 x.2 (bb ++ [x.1]))= .ok ((bl,n'),r7) from by have:=HR2.out;unfold nV G.blkW at this;rwa [if_neg hc2] at this);have hless:=qN hblk;have HBK:=ae hblk;have HR3:=ae hr3;clear hc2 HN2 HR2 hblk hr3;obtain⟨vp,vb,hc6,hp6,⟨vs,oB6,hR6⟩,hBc⟩:=M13.out.2.1;obtain⟨aoB,cB,rfl⟩:=aL oB6;have x3:w13.cell? ⟨c,3,none⟩=some (.slice aoB bb.length cB):=(by simp [World.cell?,hc6,aA]);clear hc6 hp6 oB6 hR6;go_wp2_with fail
     refine(Js _ M13.out.1 HBK.out).mono ?_;rintro e w15 ⟨v15,rfl,hV15,r15,k15⟩;have hs13:=M13.out.lt;have M15:=ae (M13.out.kr r15 k15);have V15:=ae (hV15.base hs13.2.2.2.2.2.2);obtain⟨ao15,cp15,rfl⟩:=aL hV15.choose_spec.1;clear M13 r15 k15 hV15 x3 hnf hnf2;have hs15:=M15.out.lt;obtain⟨vp,vb,hc6,hp6,⟨vs,oB6,hR6⟩,hBc⟩:=M15.out.2.1;obtain⟨aoB,cB,rfl⟩:=aL oB6;have x3:w15.cell? ⟨c,3,none⟩=some (.slice aoB bb.length cB):=(by simp [World.cell?,hc6,aA]);have z3:w15.frozen? ⟨c,3,none⟩=false:=(by simp [World.frozen?,hc6]);have hne3:(Value.slice aoB bb.length cB).ownBlock≠some c:=aU oB6 hc6 (by decide);obtain⟨x3a,z3a⟩:=Cel.below (ah w15 (.cells #[.slice ao15 b.length cp15] 45)) hs15.2.2.2.1 x3 z3;have M16:=ae (M15.out.below (ah w15 (.cells #[.slice ao15 b.length cp15] 45)));have hc7:=ae ((heap_alloc_old w15 (.cells #[.slice ao15 b.length cp15] 45) (Array.getElem?_eq_some_iff.1 hc6).1).trans hc6);have hp7:=ae (hp6.alloc (.cells #[.slice ao15 b.length cp15] 45));have oB7:=ae (oB6.alloc (.cells #[.slice ao15 b.length cp15] 45));have hR7:=ae (kq.kX (fun _ _ h=>h.below (ah w15 (.cells #[.slice ao15 b.length cp15] 45))) _ _ hR6);have V16:=ae (V15.out.below (ah w15 (.cells #[.slice ao15 b.length cp15] 45)));clear hc6 hp6 oB6 hR6;have t2:bb.length+1≤maxLen:=(by unfold maxLen;omega);have t3:(bb.length+1) * 24≤140737488355328:=(by omega);have t4:w.heap.size≤(w15.alloc (.cells #[.slice ao15 b.length cp15] 45)).heap.size:=(by simp;omega);have t5:c < (w15.alloc (.cells #[.slice ao15 b.length cp15] 45)).heap.size:=(by simp;omega);go_wp2_with (at_builtin;refine wpList_append_lies _ rfl (.tmp 101) (.tmp 103) 34 rfl w.heap.size 45 j0 _ 1 24 Tryz.underlying34 hj0 hy0 hy1 hy2 rfl (by decide) _ _ _ rfl oB7.out ⟨w15.heap.size,0,none⟩ 1 1 [.slice ao15 b.length cp15] rfl rfl aM sd (by decide) t2 t3 t4 (w15.heap.size+1) (by simp) ?_;intro gg2 cap2 w17 hown hgrow hat hlt;obtain⟨x3b,z3b⟩:=Cel.grown hgrow t5 hne3 x3a z3a)
     have M17:=ae (M16.out.grow hgrow oB7.out (by decide) (pL hc7.out hp7.out oB7.out hR7.out V16.out hBc hown hgrow));have hra3:=M17.out.1.bQ;have hll3:=M17.out.1.len;go_roundw
     case rel=>exact⟨f2,m2,bb ++ [b],l3,M17,by omega,by simp;omega,HR3⟩
     case measure=>rw [hra2,hra3];omega
  ·have hne:((bs (peek0 l')).toList == [41])=false:=HN1.out.trans (decide_eq_false hc1);have hne2:((bs (peek0 l')).toList != [41])=true:=(by rw [bne,hne];rfl);obtain⟨t1,l3,hpm,hr3⟩:=aB (show G.andThen (G.param E acc.length l') (fun t=>G.rH E f (acc ++ [t]))= .ok (p,r4) from by have:=HR.out;unfold G.rH at this;rwa [if_neg hc1] at this);obtain⟨hl',rfl,hpm2⟩:=G.fw (by simp [G.kind]) hpm;have hkk:G.kind (peek0 l')=t1∧1≤t1∧acc.length < 8:=by
    replace hpm2:(if G.kind (peek0 l') < 1∨8≤acc.length then none else some (G.kind (peek0 l')))=some t1:=hpm2;by_cases hcc:G.kind (peek0 l') < 1∨8≤acc.length
    ·rw [if_pos hcc] at hpm2;cases hpm2
    ·rw [if_neg hcc] at hpm2;injection hpm2 with hpm2;refine⟨hpm2,?_,?_⟩ <;> omega
   have HKK:=ae hkk.1;have h1t:=hkk.2.1;have hac:=hkk.2.2;have g1:decide (t1 < 1)=false:=(by simp;omega);have g2:¬t1 < 1:=(by omega);have g3:decide ((8:Int)≤(acc.length:Int))=false:=(by simp;omega);have g4:¬(8:Int)≤(acc.length:Int):=(by omega);have HR3:=ae hr3;clear hc1 HN1 HR hpm hpm2 hr3 hkk;go_wp2_with fail
   refine(dp _ M5.out.1 rfl).mono ?_;rintro e w6 ⟨rfl,b6⟩;go_wp2_with fail
   refine(As (peek0 l') _).mono ?_;rintro e w7 ⟨rfl,b7⟩;rw [HKK.out];have M7:=ae ((M5.out.below b6).below b7);clear M5 b6 b7 hne hne2;have hs7:=M7.out.lt;obtain⟨vp,vb,hc6,hp6,hB6,hBc⟩:=M7.out.2.1;obtain⟨aoP,cP,rfl⟩:=aL hp6;have x1:w7.cell? ⟨c,1,none⟩=some (.slice aoP acc.length cP):=(by simp [World.cell?,hc6,aA]);have z1:w7.frozen? ⟨c,1,none⟩=false:=(by simp [World.frozen?,hc6]);have hne3:(Value.slice aoP acc.length cP).ownBlock≠some c:=aU hp6 hc6 (by decide);obtain⟨x1a,z1a⟩:=Cel.below (ah w7 (.cells #[.int .i64 t1] 3)) hs7.2.2.2.1 x1 z1;have M8:=ae (M7.out.below (ah w7 (.cells #[.int .i64 t1] 3)));have hc7:=ae ((heap_alloc_old w7 (.cells #[.int .i64 t1] 3) (Array.getElem?_eq_some_iff.1 hc6).1).trans hc6);have hp7:=ae (hp6.alloc (.cells #[.int .i64 t1] 3));have hB7:=ae (hB6.stay (gh (ah w7 (.cells #[.int .i64 t1] 3))));clear hc6 hp6 hB6;have t2:acc.length+1≤maxLen:=(by unfold maxLen;omega);have t3:(acc.length+1) * 8≤140737488355328:=(by omega);have t4:w.heap.size≤(w7.alloc (.cells #[.int .i64 t1] 3)).heap.size:=(by simp;omega);have t5:c < (w7.alloc (.cells #[.int .i64 t1] 3)).heap.size:=(by simp;omega);go_upto_region 12 with (at_builtin;refine wpList_append_lies _ rfl (.tmp 50) (.tmp 52) 33 rfl w.heap.size 3 i0 _ 1 8 Tryz.underlying33 hi0 hz0 hz1 hz2 rfl (by decide) _ _ _ rfl hp7.out ⟨w7.heap.size,0,none⟩ 1 1 [.int .i64 t1] rfl rfl aM bt (by decide) t2 t3 t4 (w7.heap.size+1) (by simp) ?_;intro gg2 cap2 w9 hown hgrow hat hlt;obtain⟨x1b,z1b⟩:=Cel.grown hgrow t5 hne3 x1a z1a)
   show Code.wp _ _ _ _ (w9.setCell ⟨c,1,none⟩ (.slice (some ⟨gg2,0,none⟩) (acc.length+1) cap2));have M9:=ae (M8.out.grow hgrow hp7.out (by decide) (rY hc7.out hp7.out hB7.out hBc hown hgrow));clear M7 M8 hown hgrow hat hlt x1b z1b x1 z1 x1a z1a hc7 hp7 hB7 t2 t3 t4 t5;generalize w9.setCell ⟨c,1,none⟩ (.slice (some ⟨gg2,0,none⟩) (acc.length+1) cap2)=W9 at *;obtain⟨c1,z1,c4,hq9⟩:=M9.out.1.at1;have M10:=ae (M9.out.ate (iR M9.out.1 (Below.refl _ _) hl'));have hra3:=M10.out.1.bQ;have hll3:=M10.out.1.len;have htb:=cG hl';clear c4 M9 g1 g2 g3 g4;have hql:L.length - l'.length≤L.length:=Nat.sub_le _ _;generalize hqe:L.length - l'.length=q9 at *;have hqe:=ae hqe;go_wp2_with fail
   go_roundw
   case rel=>exact⟨f,acc ++ [t1],l'.tail,M10,by simp;omega,by omega,HR3⟩
   case measure=>rw [hra,hra3];have:=hqe.out;omega
def qY (w:World) (a c g2 g3:Nat) (L:List Tok) (E:Int) (n:Nat) (xs:List Fun) (l:List Tok) (wk:World):Prop:=
 RR a L E n l wk∧(∃v,wk.heap[c]? =some (.cells #[v] 24 (0,0))∧iM (a+1) xs v wk)∧wk.heap[g2]? =some (.cells #[.slice none 0 0] 24 (0,0))∧wk.heap[g3]? =some (.cells #[.int .i64 0,.int .i64 0] 29 (0,0))∧Below w.heap.size w wk∧w.heap.size≤g2∧g2 < g3∧g3 < a∧a < c
section
variable {w:World} {a c g2 g3:Nat} {L:List Tok} {E:Int} {n n':Nat} {xs:List Fun} {l l':List Tok} {wk wk':World}
theorem qY.lt (h:qY w a c g2 g3 L E n xs l wk):w.heap.size≤g2∧g2 < g3∧g3 < a∧a < c∧c < wk.heap.size:=by
 obtain⟨h1,⟨v,h2,_⟩,h3,h4,h5,h6,h7,h8,h9⟩:=h;exact⟨h6,h7,h8,h9,(Array.getElem?_eq_some_iff.1 h2).1⟩
theorem vT {B a:Nat} {u v w:World} (h:Below B u v) (k:Kr a v w) (ha:B≤a) (hB:B≤v.heap.size):Below B u w:=h.trans (k.below ha hB)
theorem qY.kr (h:qY w a c g2 g3 L E n xs l wk) (r:RR a L E n' l' wk') (k:Kr a wk wk'):qY w a c g2 g3 L E n' xs l' wk':=by
 have hl:=h.lt;obtain⟨h1,⟨v,h2,cs,o1,o2⟩,h3,h4,h5,h6,h7,h8,h9⟩:=h;exact⟨r,⟨v,(k.2.2.2.2 c (by omega) (by omega)).trans h2,cs,zG o1 k (by omega),jX.stay (oX k (by omega)) _ _ o2⟩,(k.2.2.2.2 g2 (by omega) (by omega)).trans h3,(k.2.2.2.2 g3 (by omega) (by omega)).trans h4,vT h5 k (by omega) (by omega),h6,h7,h8,h9⟩
theorem qY.below (h:qY w a c g2 g3 L E n xs l wk) (b:Below wk.heap.size wk wk'):qY w a c g2 g3 L E n xs l wk':=h.kr (h.1.below b) (Kr.bJ b)
end
def Splits (s:ByteArray) (L:List Tok):Prop:=∀w0:World,Calls Tryz.prog 34 #[.string s] w0 fun e w'=>∃v,e= .returned (.tuple #[v,.agg #[.int .i64 0,.int .i64 0]])∧w'.ownsRow w0.heap.size 95 2 v L.length (cellsK L)∧Below w0.heap.size w0 w'
theorem Lv (s:ByteArray) {L:List Tok} (hL:L.length≤131072∧∀t∈L,t.1.length≤65536) {xs:List Fun} {n':Nat} (hsp:Splits s L) (hr:AQ s.size L= .ok ((xs,n'),[])) (w:World):
  Calls Tryz.prog 20 #[.string s] w fun e w'=>∃v,e= .returned (.tuple #[.agg #[v],.agg #[.int .i64 0,.int .i64 0]])∧iM w.heap.size xs v w'∧Below w.heap.size w w':=by
 obtain⟨i0,hi0,hz0,hz1,hz2⟩:=info_parts Tryz.FC;have HR:Hid (fwG s.size (L.length+1) 0 [] L= .ok ((xs,n'),[])):=ae hr;have HSP:=ae hsp;have HL:=ae hL;clear hr hsp hL;have b0:=ah w (.cells #[.slice none 0 0] 24);have b1:=ah (w.alloc (.cells #[.slice none 0 0] 24)) (.cells #[.int .i64 0,.int .i64 0] 29);have S2:Hid (((w.alloc (.cells #[.slice none 0 0] 24)).alloc (.cells #[.int .i64 0,.int .i64 0] 29)).heap[w.heap.size]? =some (.cells #[.slice none 0 0] 24 (0,0))):=ae ((b1.block _ (by simp)).trans (heap_alloc_new w _));have S3:Hid (((w.alloc (.cells #[.slice none 0 0] 24)).alloc (.cells #[.int .i64 0,.int .i64 0] 29)).heap[w.heap.size+1]? =some (.cells #[.int .i64 0,.int .i64 0] 29 (0,0))):=ae (by
  have s1:(w.alloc (.cells #[.slice none 0 0] 24)).heap.size=w.heap.size+1:=by simp
  rw [←s1];exact heap_alloc_new _ _)
 have B0:=ae (af b0 b1);have hsz0:w.heap.size+1 < ((w.alloc (.cells #[.slice none 0 0] 24)).alloc (.cells #[.int .i64 0,.int .i64 0] 29)).heap.size:=by simp
 clear b0 b1;go_enter Tryz.func20,Tryz.ntmps20
 go_upto_region 1 with fail
 show Code.wp _ _ _ _ ((w.alloc (.cells #[.slice none 0 0] 24)).alloc (.cells #[.int .i64 0,.int .i64 0] 29));generalize (w.alloc (.cells #[.slice none 0 0] 24)).alloc (.cells #[.int .i64 0,.int .i64 0] 29)=W0 at *;go_wp2_with fail
 refine(HSP.out _).mono ?_;rintro e w1 ⟨v1,rfl,o1,b1⟩;obtain⟨ao,cp,rfl⟩:=aL o1;have b2:=ah w1 (.cells #[.int .i64 0,.int .i64 0] 29);have O2:=ae (o1.alloc (.cells #[.int .i64 0,.int .i64 0] 29));have B2:=ae (af b1 b2);have x0:(w1.alloc (.cells #[.int .i64 0,.int .i64 0] 29)).cell? ⟨w1.heap.size,0,none⟩=some (.int .i64 0):=by simp
 clear o1 b1 b2;go_upto_region 2 with fail
 show Code.wp _ _ _ _ (w1.alloc (.cells #[.int .i64 0,.int .i64 0] 29));generalize w1.alloc (.cells #[.int .i64 0,.int .i64 0] 29)=W2 at *;generalize w1.heap.size=g5 at *;have b3:=ah W2 (.cells #[.slice ao L.length cp,.int .i64 0,.int .i64 s.size,.int .i64 0,.int .i64 0,.int .i64 0] 70);have b4:=ah (W2.alloc (.cells #[.slice ao L.length cp,.int .i64 0,.int .i64 s.size,.int .i64 0,.int .i64 0,.int .i64 0] 70)) (.cells #[.slice none 0 0] 24);have hW3:(W2.alloc (.cells #[.slice ao L.length cp,.int .i64 0,.int .i64 s.size,.int .i64 0,.int .i64 0,.int .i64 0] 70)).heap.size=W2.heap.size+1:=by simp
 have M0:Hid (qY w W2.heap.size (W2.heap.size+1) w.heap.size (w.heap.size+1) L s.size 0 [] L ((W2.alloc (.cells #[.slice ao L.length cp,.int .i64 0,.int .i64 s.size,.int .i64 0,.int .i64 0,.int .i64 0] 70)).alloc (.cells #[.slice none 0 0] 24))):=ae (by
  have hz:=B2.out.size;have hB:=B0.out.size;have BB:=af B2.out (af b3 b4);refine⟨⟨.slice ao L.length cp,?_,?_,List.suffix_refl _,HL.out,by omega⟩,⟨.slice none 0 0,?_,[],World.ownsRow_nil _ _ _ _,rfl⟩,(BB.block _ (by omega)).trans S2.out,(BB.block _ (by omega)).trans S3.out,af B0.out BB,Nat.le_refl _,by omega,by omega,by omega⟩
  ·refine(b4.block _ (by omega)).trans ((heap_alloc_new W2 _).trans ?_);simp
  ·exact aT ((O2.out.alloc _).alloc _) (Nat.zero_le _)
  ·rw [←hW3];exact heap_alloc_new _ _)
 clear b3 b4 hW3 B2 O2 S2 S3 B0 hsz0;go_wp2_with fail
 generalize (W2.alloc (.cells #[.slice ao L.length cp,.int .i64 0,.int .i64 s.size,.int .i64 0,.int .i64 0,.int .i64 0] 70)).alloc (.cells #[.slice none 0 0] 24)=W4 at *;generalize W2.heap.size=a at *;generalize a+1=c at *;generalize w.heap.size+1=g3 at *;clear x0;go_loopw [] (fun wr=>∃(f m:Nat) (acc:List Fun) (l':List Tok),Hid (qY w a c w.heap.size g3 L s.size m acc l' wr)∧l'.length < f∧Hid (fwG s.size f m acc l'= .ok ((xs,n'),[]))) (fun wr=>L.length - bQ a wr)
 case atStart=>exact⟨_,0,[],L,M0,Nat.lt_succ_self _,HR⟩
 case round=>
  obtain⟨f,m,acc,l',M,hf,HR'⟩:=hrel;have hra:=M.out.1.bQ;have hll:=M.out.1.len;obtain⟨c1,_,c4,hq9⟩:=M.out.1.at1;obtain⟨f,rfl⟩:∃q,f=q+1:=⟨f - 1,by omega⟩;have hlt:=M.out.lt;by_cases hl:l'= []
  ·subst hl;obtain⟨rfl,rfl⟩:acc=xs∧m=n':=(by have:=HR'.out;rw [AF] at this;cases this;exact⟨rfl,rfl⟩);have hq1:¬((L.length - ([]:List Tok).length:Nat):Int) < (L.length:Int):=(by simp);have hq2:decide (((L.length - ([]:List Tok).length:Nat):Int) < (L.length:Int))=false:=(by simp);generalize L.length - ([]:List Tok).length=q at *;obtain⟨_,⟨v,hc,cs,o1,o2⟩,s2,s3,bb,_⟩:=M.out;obtain⟨aoV,cpV,rfl⟩:=aL o1;have y0:wr.cell? ⟨c,0,none⟩=some (.slice aoV acc.length cpV):=(by simp [World.cell?,hc]);have u0:wr.cell? ⟨w.heap.size,0,none⟩=some (.slice none 0 0):=(by simp [World.cell?,s2]);have u1:wr.cell? ⟨g3,0,none⟩=some (.int .i64 0):=(by simp [World.cell?,s3]);have u2:wr.cell? ⟨g3,1,none⟩=some (.int .i64 0):=(by simp [World.cell?,s3]);have v0:wr.frozen? ⟨w.heap.size,0,none⟩=false:=(by simp [World.frozen?,s2]);have v1:wr.frozen? ⟨g3,0,none⟩=false:=(by simp [World.frozen?,s3]);have v2:wr.frozen? ⟨g3,1,none⟩=false:=(by simp [World.frozen?,s3]);have hg23:g3≠w.heap.size:=(by omega);have F1:=(Far.refl w.heap.size wr).set 0 (.slice aoV acc.length cpV);have hs3:=(F1.2.2.2.2 g3 hg23).trans s3;have F2:=(((Far.refl g3 (wr.setCell ⟨w.heap.size,0,none⟩ (.slice aoV acc.length cpV))).set 0 (.int .i64 0)).set 1 (.int .i64 0));have PV:=ae (show iM w.heap.size acc (.slice aoV acc.length cpV) (((wr.setCell ⟨w.heap.size,0,none⟩ (.slice aoV acc.length cpV)).setCell ⟨g3,0,none⟩ (.int .i64 0)).setCell ⟨g3,1,none⟩ (.int .i64 0)) from
    ⟨cs,aT (F2.own (F1.own o1 (aU o1 s2 (by decide))) (aU (F1.own o1 (aU o1 s2 (by decide))) hs3 (by decide))) (by omega),jX.stay (((eF F1 s2 (by decide)).trans (eF F2 hs3 (by decide))).trans (lz (by omega))) _ _ o2⟩)
   have BBf:=ae ((((bb.setCell (p:=⟨w.heap.size,0,none⟩) (Nat.le_refl _) (.slice aoV acc.length cpV)).setCell (p:=⟨g3,0,none⟩) (by show _≤g3;omega) (.int .i64 0)).setCell (p:=⟨g3,1,none⟩) (by show _≤g3;omega) (.int .i64 0)));clear hc o1 o2 s2 s3 bb F1 F2 hs3 M;go_wp2_with fail
   exact bodyPost_ret (v:= .tuple #[.agg #[.slice aoV acc.length cpV],.agg #[.int .i64 0,.int .i64 0]]) (by simp [results,Tryz.results20,go_sem,u0,u1,u2]) rfl ⟨_,rfl,PV.out,BBf.out⟩
  ·have h32:acc.length < 32:=by
    refine Classical.byContradiction fun q=> ?_;have:=HR'.out;rw [AJ hl (by omega)] at this
    cases this
   obtain⟨x,m2,l3,hx⟩:∃x m2 l3,rF s.size m l'= .ok ((x,m2),l3):=by
    cases hq:rF s.size m l' with
    |error er=>have:=HR'.out;rw [Fe hl h32 hq] at this;cases this
    |ok p=>exact⟨p.1.1,p.1.2,p.2,rfl⟩
   have HE:Hid (fwG s.size f m2 (acc ++ [x]) l3= .ok ((xs,n'),[])):=ae (by have:=HR'.out;rwa [Iy hl h32 hx] at this);have hless:=xK hx;have HX:=ae hx;have hlp:0 < l'.length:=List.length_pos_iff.2 hl;have hq1:((L.length - l'.length:Nat):Int) < (L.length:Int):=(by omega);have hq2:decide (((L.length - l'.length:Nat):Int) < (L.length:Int))=true:=(by simpa using hq1);have hqr:Hid (bQ a wr=L.length - l'.length):=ae hra;clear hx HR' hl hra;have hll':=ae hll;generalize hqe:L.length - l'.length=q at *;have hqe:=ae hqe;obtain⟨v,hc,cs,o1,o2⟩:=M.out.2.1;obtain⟨aoV,cpV,rfl⟩:=aL o1;have y0:wr.cell? ⟨c,0,none⟩=some (.slice aoV acc.length cpV):=(by simp [World.cell?,hc]);have g4:¬(32:Int)≤(acc.length:Int):=(by omega);have g5':decide ((32:Int)≤(acc.length:Int))=false:=(by simpa using g4);clear hc o1 o2;go_wp2_with fail
   refine(Dq _ M.out.1 HX.out).mono ?_;rintro e w9 ⟨v9,rfl,⟨vp,vb,rfl,V9a,V9⟩,r9,k9⟩;obtain⟨aoA,mA,cA,rfl⟩:=aN V9a;obtain⟨aoT,mT,cT,rfl⟩:=aN V9.choose_spec.1;have b9:=ah w9 (.cells (aA x (.slice aoA mA cA) (.slice aoT mT cT)).toArray 36);have M9:=ae ((M.out.kr r9 k9).below b9);have SB:jS wr.heap.size (a+1) w9 (w9.alloc (.cells (aA x (.slice aoA mA cA) (.slice aoT mT cT)).toArray 36)):=(lz (show a+1≤wr.heap.size by omega)).trans (gh b9);have V9a:=ae (SB _ _ _ _ _ (by simp) V9a);have V9:=ae (V9.stay SB);have yy:∀i u,(aA x (.slice aoA mA cA) (.slice aoT mT cT))[i]? =some u→(w9.alloc (.cells (aA x (.slice aoA mA cA) (.slice aoT mT cT)).toArray 36)).cell? ⟨w9.heap.size,i,none⟩=some u:=fun i u hu=>by
    have:=lP (w:=w9) (x:=x) (vp:= .slice aoA mA cA) (vb:= .slice aoT mT cT) i u hu;rw [Addr.add_lit,Nat.zero_add] at this;exact this
   have p0:=yy 0 _ rfl;have p1:=yy 1 _ rfl;have p2:=yy 2 _ rfl;have p3:=yy 3 _ rfl;have p4:=yy 4 _ rfl;clear yy SB r9 k9 b9 M y0 c1 c4 g4 g5' hq1 hq2;unfold aA;go_upto_region 10 with fail
   show Code.wp _ _ _ _ (w9.alloc (.cells (aA x (.slice aoA mA cA) (.slice aoT mT cT)).toArray 36));generalize w9.alloc (.cells (aA x (.slice aoA mA cA) (.slice aoT mT cT)).toArray 36)=W9 at *;have hlt9:=M9.out.lt;obtain⟨v,hc,cs,o1,o2⟩:=M9.out.2.1;obtain⟨aoV,cpV,rfl⟩:=aL o1;have y0:W9.cell? ⟨c,0,none⟩=some (.slice aoV acc.length cpV):=(by simp [World.cell?,hc]);have z0:W9.frozen? ⟨c,0,none⟩=false:=(by simp [World.frozen?,hc]);have hne:(Value.slice aoV acc.length cpV).ownBlock≠some c:=aU o1 hc (by decide);obtain⟨y0a,z0a⟩:=Cel.below (ah W9 (.cells (aA x (.slice aoA mA cA) (.slice aoT mT cT)).toArray 36)) hlt9.2.2.2.2 y0 z0;have O1:=ae (o1.alloc (.cells (aA x (.slice aoA mA cA) (.slice aoT mT cT)).toArray 36));have hc:=ae hc;have o2:=ae o2;clear o1;have t2:acc.length+1≤maxLen:=(by unfold maxLen;omega);have t3:(acc.length+1) * 80≤140737488355328:=(by omega);have t4:a+1≤(W9.alloc (.cells (aA x (.slice aoA mA cA) (.slice aoT mT cT)).toArray 36)).heap.size:=(by simp;omega);have t5:c < (W9.alloc (.cells (aA x (.slice aoA mA cA) (.slice aoT mT cT)).toArray 36)).heap.size:=(by simp;omega);go_wp2_with (at_builtin;refine wpList_append_lies _ rfl (.tmp 49) (.tmp 51) 22 rfl (a+1) 36 i0 _ 5 80 Tryz.underlying22 hi0 hz0 hz1 hz2 rfl (by decide) _ _ _ rfl O1.out ⟨W9.heap.size,0,none⟩ 1 1 (aA x (.slice aoA mA cA) (.slice aoT mT cT)) rfl rfl lP uE (by decide) t2 t3 t4 (W9.heap.size+1) (by simp) ?_;intro gg cap w10 hown hgrow hat hlt10;obtain⟨y0b,z0b⟩:=Cel.grown hgrow t5 hne y0a z0a)
   have M10:Hid (qY w a c w.heap.size g3 L s.size m2 (acc ++ [x]) l3 (w10.setCell ⟨c,0,none⟩ (.slice (some ⟨gg,0,none⟩) (acc.length+1) cap))):=ae (by
    obtain⟨h1,_,h3,h4,h5,h6,h7,h8,h9⟩:=M9.out;have bx:=ah W9 (.cells (aA x (.slice aoA mA cA) (.slice aoT mT cT)).toArray 36);have hrow:∀q,(Value.slice aoV acc.length cpV).ownBlock=some q→a+1≤q:=fun q hq=>(O1.out.lt q hq).1;have hc9:=(bx.block c (by omega)).trans hc.out;have hc10:=(hgrow.block c t5 (fun e=>hne e.symm)).trans hc9;have F10:=(Far.refl c w10).set 0 (.slice (some ⟨gg,0,none⟩) (acc.length+1) cap);have Sg:=o8 (B:=a+1) hgrow O1.out (by decide);have Sf:=eF (B:=a+1) F10 hc10 (by decide);have Sa:=(gh (B:=a+1) bx).trans (Sg.trans Sf);have blk:∀k,k < a→(w10.setCell ⟨c,0,none⟩ (.slice (some ⟨gg,0,none⟩) (acc.length+1) cap)).heap[k]? =W9.heap[k]? :=fun k hk=>(F10.2.2.2.2 k (by omega)).trans ((hgrow.block k (show k < (W9.alloc (.cells (aA x (.slice aoA mA cA) (.slice aoT mT cT)).toArray 36)).heap.size by have:=bx.size;omega) (fun e=>by have:=hrow k e.symm;omega)).trans (bx.block k (by omega)));have hsz:W9.heap.size≤(w10.setCell ⟨c,0,none⟩ (.slice (some ⟨gg,0,none⟩) (acc.length+1) cap)).heap.size:=(by rw [F10.2.2.2.1];exact Nat.le_trans bx.size hgrow.size);refine⟨?_,⟨_,(heap_setCell_same w10 c 0 _ 24 _ hc10).trans rfl,cs ++ aA x (.slice aoA mA cA) (.slice aoT mT cT),by rw [List.length_append];exact F10.own hown (aU hown hc10 (by decide)),jX.snoc (Sa _ _ _ _ _ (by simp) V9a.out) (V9.out.stay Sa) _ _ (jX.stay Sa _ _ o2.out)⟩,(blk _ (by omega)).trans h3,(blk _ (by omega)).trans h4,?_,h6,h7,h8,h9⟩
    ·exact((h1.below bx).grown hgrow O1.out (by decide) (Nat.lt_succ_self a)).set hc10 (by decide) (by omega) 0 _
    ·exact⟨F10.1.trans (hgrow.os.trans (bx.os.trans h5.os)),F10.2.1.trans (hgrow.tape.trans (bx.tape.trans h5.tape)),F10.2.2.1.trans (hgrow.output.trans (bx.output.trans h5.output)),Nat.le_trans h5.size hsz,fun k hk=>(blk k (by omega)).trans (h5.block k hk)⟩)
   have hra3:=M10.out.1.bQ;have hll3:=M10.out.1.len;go_roundw
   case rel=>exact⟨f,m2,acc ++ [x],l3,M10,by omega,HE⟩
   case measure=>rw [hqr.out,hra3];have:=hqe.out;have:=hll'.out;omega
def inB:List UInt8→UInt8→Bool
 |[],_=>false
 |d :: r,c=>if d=c then true else inB r c
theorem DL {t:List UInt8} {k:Nat} {c d:UInt8} (h:t[k]? =some d):inB (t.drop k) c=if d=c then true else inB (t.drop (k+1)) c:=by
 obtain⟨h1,h2⟩:=List.getElem?_eq_some_iff.1 h;rw [List.drop_eq_getElem_cons h1,h2];rfl
theorem rin (c:UInt8) (t:List UInt8) (w:World) (ht:t.length≤100):Calls Tryz.prog 55 #[.int .u8 (c.toNat:Int),.string (bs t)] w fun e w'=>e= .returned (.bool (inB t c))∧w'=w:=by
 have hz:(bs t).size≤100:=by rw [aY];exact ht
 have HZ:=ae (aY t);go_enter Tryz.func55,Tryz.ntmps55
 go_wp2_with fail
 go_loopw [5] (fun i wr=>∃k:Nat,k≤t.length∧i= .int .i64 k∧Hid (wr=w)∧Hid (inB t c=inB (t.drop k) c)) (fun i _=>t.length - (intOf i).toNat)
 case atStart=>exact⟨0,Nat.zero_le _,rfl,ae rfl,rfl⟩
 case round=>
  obtain⟨k,hk,rfl,hw,HC⟩:=hrel;obtain rfl:=hw.out;by_cases hlt:k < t.length
  ·obtain⟨d,hd,_⟩:=sX hlt;obtain⟨hkz,hb⟩:=Fq hd;have hkz':(k:Int) < ((bs t).size:Int):=(by omega);have HD:=ae (DL (c:=c) hd);by_cases hdc:d=c
   ·have hb1:((bs t)[k].toNat:Int)=(c.toNat:Int):=(by rw [hb,hdc]);have HE:Hid (inB t c=true):=ae (by rw [HC.out,HD.out,if_pos hdc]);clear hb hd hdc HD HC;go_wp2_with fail
    go_ret;exact⟨aw HE.out.symm,rfl⟩
   ·have hb1:(((bs t)[k].toNat:Int) == (c.toNat:Int))=false:=by
     rw [hb];have h2:d.toNat≠c.toNat:=fun e=>hdc (UInt8.toNat_inj.1 e);simpa using fun e:(d.toNat:Int)=c.toNat=>h2 (by omega)
    have HE:Hid (inB t c=inB (t.drop (k+1)) c):=ae (by rw [HC.out,HD.out,if_neg hdc]);clear hb hd hdc HD HC;go_wp2_with fail
    go_roundw
    case rel=>exact⟨k+1,by omega,by go_num,ae trivial,HE⟩
    case measure=>simp [intOf];omega
  ·have HE:Hid (inB t c=false):=ae (by rw [HC.out,List.drop_eq_nil_of_le (by omega)];rfl);have hkz':¬(k:Int) < ((bs t).size:Int):=(by have:=HZ.out;omega);have hkz2:decide ((k:Int) < ((bs t).size:Int))=false:=(by simpa using hkz');go_wp2_with fail
   go_ret;exact⟨aw HE.out.symm,rfl⟩
def tI (c:UInt8):Bool:=(decide (97≤c.toNat) && decide (c.toNat≤122)) || (decide (65≤c.toNat) && decide (c.toNat≤90)) || (decide (48≤c.toNat) && decide (c.toNat≤57)) || inB [46,37,64,45,95] c
theorem ng (c:UInt8):tI c=L2.gJ c.toNat:=by
 have key:∀n:Fin 256,tI (UInt8.ofNat n.val)=L2.gJ (UInt8.ofNat n.val).toNat:=by decide +kernel
 have:=key ⟨c.toNat,c.toNat_lt⟩;rwa [show UInt8.ofNat c.toNat=c from UInt8.ofNat_toNat] at this
theorem GP (c:UInt8):inB [40,41,123,125,61,58] c=L2.jO c.toNat:=by
 have key:∀n:Fin 256,inB [40,41,123,125,61,58] (UInt8.ofNat n.val)=L2.jO (UInt8.ofNat n.val).toNat:=by decide +kernel
 have:=key ⟨c.toNat,c.toNat_lt⟩;rwa [show UInt8.ofNat c.toNat=c from UInt8.ofNat_toNat] at this
theorem Ig (c:UInt8):inB [32,9,10,13] c=L2.nW c.toNat:=by
 have key:∀n:Fin 256,inB [32,9,10,13] (UInt8.ofNat n.val)=L2.nW (UInt8.ofNat n.val).toNat:=by decide +kernel
 have:=key ⟨c.toNat,c.toNat_lt⟩;rwa [show UInt8.ofNat c.toNat=c from UInt8.ofNat_toNat] at this
theorem o0 (c:UInt8) (w:World):Calls Tryz.prog 56 #[.int .u8 (c.toNat:Int)] w fun e w'=>e= .returned (.bool (tI c))∧w'=w:=by
 have HB:Hid (tI c=((decide (97≤c.toNat) && decide (c.toNat≤122)) || (decide (65≤c.toNat) && decide (c.toNat≤90)) || (decide (48≤c.toNat) && decide (c.toNat≤57)) || inB [46,37,64,45,95] c)):=ae rfl;have key:∀n:Nat,(c.toNat:Int)=n→Calls Tryz.prog 56 #[.int .u8 (n:Int)] w fun e w'=>e= .returned (.bool ((decide (97≤n) && decide (n≤122)) || (decide (65≤n) && decide (n≤90)) || (decide (48≤n) && decide (n≤57)) || inB [46,37,64,45,95] c))∧w'=w:=by
  intro n hn;have HI:=ae (rin c [46,37,64,45,95] w (by simp));rw [hn] at HI;clear hn HB;have hyes:(97≤n∧n≤122)∨(65≤n∧n≤90)∨(48≤n∧n≤57)→true=((decide (97≤n) && decide (n≤122)) || (decide (65≤n) && decide (n≤90)) || (decide (48≤n) && decide (n≤57)) || inB [46,37,64,45,95] c):=by
   rintro (h | h | h) <;> simp [h]
  have hno:¬((97≤n∧n≤122)∨(65≤n∧n≤90)∨(48≤n∧n≤57))→inB [46,37,64,45,95] c=((decide (97≤n) && decide (n≤122)) || (decide (65≤n) && decide (n≤90)) || (decide (48≤n) && decide (n≤57)) || inB [46,37,64,45,95] c):=by
   intro h;have e1:(decide (97≤n) && decide (n≤122))=false:=(by simp;omega);have e2:(decide (65≤n) && decide (n≤90))=false:=(by simp;omega);have e3:(decide (48≤n) && decide (n≤57))=false:=(by simp;omega);rw [e1,e2,e3];rfl
  have hyes:=ae hyes;have hno:=ae hno;by_cases h1:(97:Int)≤n <;> by_cases h2:(n:Int)≤122 <;> by_cases h3:(65:Int)≤n <;> by_cases h4:(n:Int)≤90 <;> by_cases h5:(48:Int)≤n <;> by_cases h6:(n:Int)≤57
  all_goals first
   |(exfalso;omega)
   |(go_enter Tryz.func56,Tryz.ntmps56
     go_wp2_with fail
     go_ret;exact⟨aw (hyes.out (by omega)),rfl⟩)
   |(go_enter Tryz.func56,Tryz.ntmps56
     go_wp2_with fail
     refine HI.out.mono ?_;rintro e w1 ⟨rfl,hw1⟩;rw [hw1];go_wp2_with fail
     go_ret;exact⟨aw (hno.out (by omega)),rfl⟩)
 rw [HB.out];exact key c.toNat rfl
open G (Tok Er Ins Fun)
def aS (w:World) (B e g n:Nat) (xs:List Value):Prop:=w.ownsRow B e 1 (.slice (some ⟨g,0,none⟩) n n) n xs
theorem aS.len {w:World} {B e g n:Nat} {xs:List Value} (h:aS w B e g n xs):xs.length=n:=by have:=h.1;omega
theorem aS.lt {w:World} {B e g n:Nat} {xs:List Value} (h:aS w B e g n xs):B≤g∧g < w.heap.size:=World.ownsRow.lt h g rfl
theorem aS.cell {w:World} {B e g n:Nat} {xs:List Value} (h:aS w B e g n xs) {j:Nat} {u:Value} (hj:xs[j]? =some u):w.cell? ⟨g,j,none⟩=some u:=by
 have h1:=(List.getElem?_eq_some_iff.1 hj).1;have h2:=h.len;rw [World.ownsRow.cellAt h j (by omega),hj]
theorem aS.frozen {w:World} {B e g n:Nat} {xs:List Value} (h:aS w B e g n xs) (j:Nat):w.frozen? ⟨g,j,none⟩=false:=World.ownsRow.frozenAt h j
theorem aS.set {w:World} {B e g n:Nat} {xs:List Value} (h:aS w B e g n xs) (j:Nat) (u:Value):aS (w.setCell ⟨g,j,none⟩ u) B e g n (xs.set j u):=(World.ownsRow.stored h j u).1
theorem aS.below {w w':World} {B e g n:Nat} {xs:List Value} (h:aS w B e g n xs) (b:Below w.heap.size w w'):aS w' B e g n xs:=br b _ _ _ _ _ _ h
theorem aS.base {w:World} {B B' e g n:Nat} {xs:List Value} (h:aS w B e g n xs) (hB:B'≤B):aS w B' e g n xs:=aT h hB
theorem aS.alloc {w:World} {B e g n:Nat} {xs:List Value} (h:aS w B e g n xs) (o:Obj):aS (w.alloc o) B e g n xs:=World.ownsRow.alloc h o
theorem aS.kept {w w':World} {B e g n:Nat} {xs:List Value} {row:Option Nat} (h:aS w B e g n xs) (hg:w.grownBy w' row) (hne:some g≠row):aS w' B e g n xs:=World.ownsRow.kept h hg (.inr hne)
theorem aS.other {w:World} {B e g n:Nat} {xs:List Value} (h:aS w B e g n xs) {p:Addr} (hp:g≠p.block) (u:Value):aS (w.setCell p u) B e g n xs:=bO h (by simpa [Value.ownBlock] using hp) u
theorem ints_set (l:List Int) (j:Nat) (x:Int):(ints l).set j (.int .i64 x)=ints (l.set j x):=by simp [ints,List.map_set]
def fi (l:List Bool):List Value:=l.map Value.bool
theorem rW (l:List Bool) (j:Nat) (x:Bool):(fi l).set j (.bool x)=fi (l.set j x):=by simp [fi,List.map_set]
theorem nf {l:List Bool} {j:Nat} {x:Bool} (h:l[j]? =some x):(fi l)[j]? =some (.bool x):=by simp [fi,h]
theorem fW (n:Nat):(madeCells (Value.int .i64 0).cells (n * 1)).toList=ints (List.replicate n 0):=by
 show(madeCells #[Value.int .i64 0] (n * 1)).toList=_;rw [toList_madeCells_one,Nat.mul_one];simp [ints]
theorem zT (n:Nat):(madeCells (Value.bool false).cells (n * 1)).toList=fi (List.replicate n false):=by
 show(madeCells #[Value.bool false] (n * 1)).toList=_;rw [toList_madeCells_one,Nat.mul_one];simp [fi]
theorem sB (n:Nat):(madeCells (Value.slice none 0 0).cells (n * 1)).toList=List.replicate n (.slice none 0 0):=by
 show(madeCells #[Value.slice none 0 0] (n * 1)).toList=_;rw [toList_madeCells_one,Nat.mul_one]
theorem gq {w w':World} (h:w.grownBy w' none):Below w.heap.size w w':=Below.grown (Below.refl _ _) h (Nat.le_refl _) (by intro k hk;cases hk)
def fA (B:Nat) (w:World) (ll:List (List Int)) (us:List Value):Prop:=
 us.length=ll.length∧(∀(i:Nat) (l:List Int),ll[i]? =some l→∃u,us[i]? =some u∧w.ownsRow B 3 1 u l.length (ints l))∧
 (∀(i j:Nat) (u v:Value),i≠j→us[i]? =some u→us[j]? =some v→u.ownBlock=none∨u.ownBlock≠v.ownBlock)
theorem fA.start (B:Nat) (w:World) (n:Nat):fA B w (List.replicate n []) (List.replicate n (.slice none 0 0)):=by
 refine⟨by simp,fun i l h=> ?_,fun i j u v _ h _=> ?_⟩
 ·obtain⟨hi,rfl⟩:=List.getElem?_eq_some_iff.1 h;refine⟨.slice none 0 0,by rw [List.getElem?_replicate,if_pos (by simpa using hi)],?_⟩;rw [List.getElem_replicate];exact World.ownsRow_nil _ _ _ _
 ·obtain⟨hi,rfl⟩:=List.getElem?_eq_some_iff.1 h;rw [List.getElem_replicate];exact .inl rfl
theorem fA.map {B:Nat} {w w':World} {ll:List (List Int)} {us:List Value} (h:fA B w ll us) (f:∀(v:Value) (n:Nat) (xs:List Value),w.ownsRow B 3 1 v n xs→w'.ownsRow B 3 1 v n xs):fA B w' ll us:=by
 refine⟨h.1,fun i l hl=> ?_,h.2.2⟩;obtain⟨u,k1,k2⟩:=h.2.1 i l hl;exact⟨u,k1,f _ _ _ k2⟩
theorem fA.put {B:Nat} {w:World} {ll:List (List Int)} {us:List Value} (h:fA B w ll us) {p:Addr} (hp:p.block < B) (x:Value):fA B (w.setCell p x) ll us:=h.map fun _ _ _ hv=>ownsRow_setCell_below hv hp x
theorem fA.at {B:Nat} {w:World} {ll:List (List Int)} {us:List Value} (h:fA B w ll us) {i:Nat} (hi:i < ll.length):∃l u,ll[i]? =some l∧us[i]? =some u∧w.ownsRow B 3 1 u l.length (ints l):=by
 have hl:ll[i]? =some ll[i]:=List.getElem?_eq_getElem hi;obtain⟨u,k1,k2⟩:=h.2.1 i _ hl;exact⟨_,u,hl,k1,k2⟩
theorem fA.step {B:Nat} {wr w2:World} {ll:List (List Int)} {us:List Value} {i:Nat} {l:List Int} {u v':Value} {x:Int} {o:Obj} (h:fA B wr ll us) (hl:ll[i]? =some l) (hu:us[i]? =some u)
  (own:w2.ownsRow B 3 1 v' (l.length+1) (ints l ++ [.int .i64 x])) (hg:(wr.alloc o).grownBy w2 u.ownBlock) (hat:v'.ownBlock=u.ownBlock∨v'.ownBlock=some (wr.alloc o).heap.size):fA B w2 (ll.set i (l ++ [x])) (us.set i v'):=by
 obtain⟨h1,h2,h3⟩:=h;have hi:=(List.getElem?_eq_some_iff.1 hl).1;have hiu:=(List.getElem?_eq_some_iff.1 hu).1;have small:∀(j:Nat) (v:Value),us[j]? =some v→∀k,v.ownBlock=some k→k < wr.heap.size:=by
  intro j v hv k hk;have hj:j < ll.length:=by have:=(List.getElem?_eq_some_iff.1 hv).1;omega
  obtain⟨y,q1,q2⟩:=h2 j _ (List.getElem?_eq_getElem hj);rw [hv] at q1;injection q1 with q1;subst q1;exact(q2.lt k hk).2
 have far:∀(j:Nat) (v:Value),j≠i→us[j]? =some v→v.ownBlock=none∨v.ownBlock≠v'.ownBlock:=by
  intro j v hj hv;rcases hat with e | e
  ·rw [e];exact h3 j i v u hj hv hu
  ·cases hb:v.ownBlock with
   |none=>exact .inl rfl
   |some k=>
    right;rw [e];have:=small j v hv k hb;simp;omega
 refine⟨by simp [h1],fun j m hm=> ?_,fun j k a b hjk ha hb=> ?_⟩
 ·rw [List.getElem?_set] at hm;by_cases e:i=j
  ·subst e;rw [if_pos rfl,if_pos hi] at hm;injection hm with hm;subst hm;refine⟨v',by rw [List.getElem?_set,if_pos rfl,if_pos hiu],by simpa [ints] using own⟩
  ·rw [if_neg e] at hm;obtain⟨y,q1,q2⟩:=h2 j m hm;refine⟨y,by rw [List.getElem?_set_ne e];exact q1,?_⟩;exact(q2.alloc o).kept hg (h3 j i y u (fun e2=>e e2.symm) q1 hu)
 ·rw [List.getElem?_set] at ha hb;by_cases e:i=j
  ·subst e;rw [if_pos rfl,if_pos hiu] at ha;injection ha with ha;subst ha;rw [if_neg hjk] at hb;rcases far k b (fun e=>hjk e.symm) hb with q | q
   ·cases hv:v'.ownBlock with
    |none=>exact .inl rfl
    |some z=>right;rw [q];simp
   ·exact .inr fun e=>q e.symm
  ·rw [if_neg e] at ha;by_cases e2:i=k
   ·subst e2;rw [if_pos rfl,if_pos hiu] at hb;injection hb with hb;subst hb;exact far j a hjk ha
   ·rw [if_neg e2] at hb;exact h3 j k a b hjk ha hb
theorem fA.rows {B B' g n:Nat} {w:World} {ll:List (List Int)} {us:List Value} (h:fA B w ll us) (hr:aS w B' 33 g n us) (hB:B'≤B):cF B' w ll (.slice (some ⟨g,0,none⟩) n n):=by
 have e:n=ll.length:=by have:=hr.len;have:=h.1;omega
 subst e;refine⟨us,hr,h.1,fun i l hl=> ?_⟩;obtain⟨u,k1,k2⟩:=h.2.1 i l hl;exact⟨u,k1,aT k2 hB⟩
end Go.Proofs.YtljkgcfnoegibaaGreatDoor
