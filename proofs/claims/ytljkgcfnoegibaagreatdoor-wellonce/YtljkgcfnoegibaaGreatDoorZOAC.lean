/- Texts of one chain, joined. -/
import Derived.Test.YtljkgcfnoegibaaGreatDoorZOAB
set_option maxHeartbeats 4000000
set_option maxRecDepth 20000
namespace Go.Proofs.YtljkgcfnoegibaaGreatDoor
open Go Go.RowKit
open G (Tok Er Ins Fun peek0 peek1 fG)
section
variable {a:Nat} {L:List Tok} {E:Int} {q n:Nat} {ec:Int}
theorem KN (op id ty p:Int) (w:World) (h:RA a L E q n ec w) (h1:I64 id) (h2:0≤p∧p≤E):
  Calls Tryz.prog 136 #[.pointer (some ⟨a,0,none⟩),.agg (al op id 0 ty (bs []) p)] w (mw a L E n q ec 0 w):=by
 obtain⟨i0,hi0,hz0,hz1,hz2⟩:=info_parts Tryz.cr;have M0:=ae (cq.start h op id ty p h1 h2);have hlm:=h.lim;clear h h1 h2;generalize hg:w.heap.size+1=g at *;generalize hc:g+1=c at *;go_enter Tryz.func136,Tryz.ntmps136
 go_upto_region 2 with fail
 show Code.wp _ _ _ _ (((w.alloc (.cells (al op id 0 ty (bs []) p) 47)).alloc (.cells (al 0 0 0 0 ⟨#[]⟩ 0) 47)).alloc (.cells (al op id 0 ty (bs []) p) 47));generalize ((w.alloc (.cells (al op id 0 ty (bs []) p) 47)).alloc (.cells (al 0 0 0 0 ⟨#[]⟩ 0) 47)).alloc (.cells (al op id 0 ty (bs []) p) 47)=W0 at *;clear hg hc;go_wp2_with fail
 refine(fS 0 _ M0.out.1 (by omega)).mono ?_;rintro e w1 ⟨⟨t,rfl,hz,_⟩,b1⟩;have M1:=ae (M0.out.below b1);have hzz:(bs t).size≤65536:=by rw [aY];exact hz
 have hor:=jx 64 t;clear M0 b1 hz;generalize bs t=C at *;refine hor.elim (fun hh=> ?one) (fun hh=> ?oth)
 case' oth=>
  obtain⟨x,r,hs,e0,hp,hx⟩:=hh;clear hs hor;refine hx.elim (fun hh=> ?two) (fun hh=> ?three)
 case' one=>
  obtain⟨_,e0⟩:=hh;clear hor;obtain⟨N,q2,ec2,M2,AD2⟩:∃N q2 ec2,Hid (cq w a c g L E q2 n ec2 (op,id,N,ty,[],[],[],p) w1)∧Hid (Adv L q ec q2 ec2 0):=⟨0,q,ec,M1,ae (Adv.refl _ _)⟩;clear M1;go_wp2_with fail
  clear e0
 case' three=>
  obtain⟨_,e1⟩:=hh;replace e1:((C[0].toNat:Int) == 64)=false:=e1 hp;clear hx;obtain⟨N,q2,ec2,M2,AD2⟩:∃N q2 ec2,Hid (cq w a c g L E q2 n ec2 (op,id,N,ty,[],[],[],p) w1)∧Hid (Adv L q ec q2 ec2 0):=⟨0,q,ec,M1,ae (Adv.refl _ _)⟩;clear M1;go_wp2_with fail
  clear e0 e1
 case' two=>
  obtain⟨_,e1⟩:=hh;replace e1:(C[0].toNat:Int)=64:=e1 hp;clear hx;go_wp2_with fail
  clear e0 e1 hp;refine(yK 64 1048576 3 (by omega) (by omega) _ M1.out.1).mono ?_;rintro e w2 ⟨⟨N,rfl,hN⟩,a2⟩;obtain⟨q2,ec2,m2,ad2⟩:=M1.out.ran a2;have M1a:=ae m2;have AD2:=ae (ad2.less (Nat.zero_le _));obtain⟨va,vt,HC,HZ4,o1,o2,o3⟩:=M1a.out.2.1.cells;have cA:=HC 2 _ rfl;have zA:=HZ4 2;have M2:Hid (cq w a c g L E q2 n ec2 (op,id,N,ty,[],[],[],p) (w2.setCell ⟨c,2,none⟩ (.int .i64 N))):=ae (M1a.out.put (M1a.out.2.1.dO N) (M1a.out.2.2.2.2.2.n (jP hN (by omega))));clear HC HZ4 o1 o2 o3 M1a M1 a2 m2 ad2 hN;go_wp2_with fail
  clear cA zA;generalize w2.setCell ⟨c,2,none⟩ (.int .i64 N)=W2 at *;clear va vt
 all_goals
  refine(IA _ M2.out.1).mono ?_;rintro e w3 ⟨⟨s,rfl,hsl⟩,a3⟩;obtain⟨q3,ec3,m3,ad3⟩:=M2.out.ran a3;have M3:=ae m3;have AD3:=ae ((AD2.out.trans ad3).less (Nat.zero_le _));have HSL:=ae hsl;clear M2 a3 m3 ad3 AD2 hsl;obtain⟨va,vt,HC,HZ4,o1,o2,o3⟩:=M3.out.2.1.cells;have cA:=HC 6 _ rfl;have zA:=HZ4 6;have M4:Hid (cq w a c g L E q3 n ec3 (op,id,N,ty,[],[],s,p) (w3.setCell ⟨c,6,none⟩ (.string (bs s)))):=ae (M3.out.put (M3.out.2.1.setName s) (M3.out.2.2.2.2.2.name HSL.out));clear HC HZ4 o1 o2 o3 M3;go_wp2_with fail
  clear cA zA;generalize w3.setCell ⟨c,6,none⟩ (.string (bs s))=W3 at *;go_loopw [] (fun wr=>∃(acc:List Int) (q':Nat) (ec':Int),Hid (cq w a c g L E q' n ec' (op,id,N,ty,acc,[],s,p) wr)∧Hid (Adv L q ec q' ec' 0)∧acc.length≤L.length+1∧(ec'=0→acc.length≤q')) (fun wr=>left a L.length wr)
  case atStart=>exact⟨[],q3,ec3,M4,AD3,by simp,fun _=>by simp⟩
  case round=>
   obtain⟨acc,q',ec',M,AD,hA,hTA⟩:=hrel;have hlm':=M.out.1.lim;have MM:=M;go_wp2_with fail
   refine(Ez _ M.out.1).mono ?_;rintro e w7 ⟨⟨b,rfl,hb⟩,b7⟩;have M7:=ae (M.out.below b7);clear M b7
   cases b with
   |false=>
    obtain⟨aoA,mA,cA,aoT,mT,cT,HC,⟨s0,s1,s2,s3,s4,s5,s6,s7,f0,f1,f2,f3,f4,f5,f6,f7⟩,hcn,HF⟩:=M7.out.tail AD.out;have y0:=HC 0 _ rfl;have y1:=HC 1 _ rfl;have y2:=HC 2 _ rfl;have y3:=HC 3 _ rfl;have y4:=HC 4 _ rfl;have y5:=HC 5 _ rfl;have y6:=HC 6 _ rfl;have y7:=HC 7 _ rfl;have FF:=ae (HF _ (((((((((Far.refl g w7).set 0 (.int .i64 op)).set 1 (.int .i64 id)).set 2 (.int .i64 N)).set 3 (.int .i64 ty)).set 4 (.slice aoA mA cA)).set 5 (.slice aoT mT cT)).set 6 (.string (bs s))).set 7 (.int .i64 p)));clear HC HF;go_wp2_with fail
    exact bodyPost_ret (v:= .agg (ak (op,id,N,ty,acc,[],s,p) (.slice aoA mA cA) (.slice aoT mT cT)).toArray) (by simp [results,Tryz.results136,go_sem,ak,s0,s1,s2,s3,s4,s5,s6,s7]) rfl FF.out
   |true=>
    obtain rfl:ec'=0:=hb rfl;have hta:=hTA rfl;have hlz:=hlm'.2.2.2.2 rfl;clear hTA hb;go_wp2_with fail
    refine(pZ _ M7.out.1).mono ?_;rintro e w8 ⟨⟨v,rfl,hv⟩,a8⟩;obtain⟨q1,ec1,m1,ad1⟩:=M7.out.ran a8;have M8:=ae m1;have HV:=ae hv;have AD1:=ae ad1;clear M7 a8 m1 hv ad1;obtain⟨ao9,cp9,cA,zA,cB,zB,hne,O9,t49,t59⟩:=M8.out.mU v;have t29:acc.length+1≤maxLen:=(by unfold maxLen;omega);have t39:(acc.length+1) * 8≤140737488355328:=(by omega);go_wp2_with (at_builtin;refine wpList_append_lies _ rfl (.tmp 29) (.tmp 31) 33 rfl w.heap.size 3 i0 _ 1 8 Tryz.underlying33 hi0 hz0 hz1 hz2 rfl (by decide) _ _ _ rfl O9.out ⟨w8.heap.size,0,none⟩ 1 1 [.int .i64 v] rfl rfl aM bt (by decide) t29 t39 t49 (w8.heap.size+1) (by simp) ?_;intro gg9 cap9 w9 hown9 hgrow9 hat9 hlt9;obtain⟨cC9,zC9⟩:=Cel.grown hgrow9 t59 hne cB zB)
    have M9:=ae ((M8.out.below (ah w8 (.cells #[.int .i64 v] 3))).arg cB hown9 hgrow9 (hat9.imp (fun e=>e) (fun e=>e.trans (by simp))) (jP HV.out (by omega)) (show acc.length < 140000 by omega));have hlm9:=M9.out.1.lim;have AD9:=ae ((AD.out.trans AD1.out).less (Nat.zero_le _));have ad1:=AD1.out;unfold Adv at ad1;have hms:=ae (jU MM.out.1 M9.out.1 AD1.out (by omega));go_roundw
    case rel=>exact⟨acc ++ [v],q1,ec1,M9,AD9,by simp;omega,fun e=>by simp;omega⟩
    case measure=>exact hms.out
theorem Jg (id ty p:Int) (w:World) (h:RA a L E q n ec w) (h1:I64 id) (h2:0≤p∧p≤E):
  Calls Tryz.prog 109 #[.pointer (some ⟨a,0,none⟩),.agg (al 1 id 0 ty (bs []) p)] w (mw a L E n q ec 0 w):=by
 obtain⟨i0,hi0,hz0,hz1,hz2⟩:=info_parts Tryz.cr;have M0:=ae (cq.start h 1 id ty p h1 h2);have HC0:=ae (bV w 1 id 0 ty (bs []) p);have HI:=ae h1;have HP:=ae h2;clear h h1 h2;generalize hg:w.heap.size+1=g at *;generalize hc:g+1=c at *;go_enter Tryz.func109,Tryz.ntmps109
 go_upto_region 2 with fail
 show Code.wp _ _ _ _ (((w.alloc (.cells (al 1 id 0 ty (bs []) p) 47)).alloc (.cells (al 0 0 0 0 ⟨#[]⟩ 0) 47)).alloc (.cells (al 1 id 0 ty (bs []) p) 47));generalize ((w.alloc (.cells (al 1 id 0 ty (bs []) p) 47)).alloc (.cells (al 0 0 0 0 ⟨#[]⟩ 0) 47)).alloc (.cells (al 1 id 0 ty (bs []) p) 47)=W0 at *;clear hg hc;obtain⟨x0,x2⟩:W0.cell? ⟨c,0,none⟩=some (.int .i64 1)∧True:=by obtain⟨va,vt,HC,_⟩:=M0.out.2.1.cells;exact⟨HC 0 _ rfl,trivial⟩
 clear HC0 x2;go_wp2_with fail
 refine(oN (-9223372036854775808) 9223372036854775807 _ M0.out.1).mono ?_;rintro e w1 ⟨⟨v,rfl,hv⟩,a1⟩;obtain⟨q1,ec1,m1,ad1⟩:=M0.out.ran a1;have M1:=ae m1;have AD:=ae (ad1.less (Nat.zero_le _));have HV:=ae hv;clear M0 a1 x0 m1 ad1 hv;obtain⟨va,vt,HC,HZ4,o1,o2,o3⟩:=M1.out.2.1.cells;have cA:=HC 2 _ rfl;have zA:=HZ4 2;have M2:Hid (cq w a c g L E q1 n ec1 (1,id,v,ty,[],[],[],p) (w1.setCell ⟨c,2,none⟩ (.int .i64 v))):=ae (M1.out.put (M1.out.2.1.dO v) (M1.out.2.2.2.2.2.n HV.out));clear HC HZ4 o1 o2 o3 M1;go_upto_region 23 with fail
 show Code.wp _ _ _ _ (w1.setCell ⟨c,2,none⟩ (.int .i64 v));clear cA zA;generalize w1.setCell ⟨c,2,none⟩ (.int .i64 v)=W1 at *;clear va vt;obtain⟨aoA,mA,cA,aoT,mT,cT,HC,⟨s0,s1,s2,s3,s4,s5,s6,s7,f0,f1,f2,f3,f4,f5,f6,f7⟩,hcn,HF⟩:=M2.out.tail AD.out;have y0:=HC 0 _ rfl;have y1:=HC 1 _ rfl;have y2:=HC 2 _ rfl;have y3:=HC 3 _ rfl;have y4:=HC 4 _ rfl;have y5:=HC 5 _ rfl;have y6:=HC 6 _ rfl;have y7:=HC 7 _ rfl;have FF:=ae (HF _ (((((((((Far.refl g W1).set 0 (.int .i64 1)).set 1 (.int .i64 id)).set 2 (.int .i64 v)).set 3 (.int .i64 ty)).set 4 (.slice aoA mA cA)).set 5 (.slice aoT mT cT)).set 6 (.string (bs []))).set 7 (.int .i64 p)));clear HC HF;go_wp2_with fail
 exact bodyPost_ret (v:= .agg (ak (1,id,v,ty,[],[],[],p) (.slice aoA mA cA) (.slice aoT mT cT)).toArray) (by simp [results,Tryz.results109,go_sem,ak,s0,s1,s2,s3,s4,s5,s6,s7]) rfl FF.out
theorem Hc (id ty p:Int) (w:World) (h:RA a L E q n ec w) (h1:I64 id) (h2:0≤p∧p≤E):
  Calls Tryz.prog 109 #[.pointer (some ⟨a,0,none⟩),.agg (al 29 id 0 ty (bs []) p)] w (mw a L E n q ec 0 w):=by
 obtain⟨i0,hi0,hz0,hz1,hz2⟩:=info_parts Tryz.cr;have M0:=ae (cq.start h 29 id ty p h1 h2);have HC0:=ae (bV w 29 id 0 ty (bs []) p);have HI:=ae h1;have HP:=ae h2;clear h h1 h2;generalize hg:w.heap.size+1=g at *;generalize hc:g+1=c at *;go_enter Tryz.func109,Tryz.ntmps109
 go_upto_region 2 with fail
 show Code.wp _ _ _ _ (((w.alloc (.cells (al 29 id 0 ty (bs []) p) 47)).alloc (.cells (al 0 0 0 0 ⟨#[]⟩ 0) 47)).alloc (.cells (al 29 id 0 ty (bs []) p) 47));generalize ((w.alloc (.cells (al 29 id 0 ty (bs []) p) 47)).alloc (.cells (al 0 0 0 0 ⟨#[]⟩ 0) 47)).alloc (.cells (al 29 id 0 ty (bs []) p) 47)=W0 at *;clear hg hc;obtain⟨x0,x2⟩:W0.cell? ⟨c,0,none⟩=some (.int .i64 29)∧True:=by obtain⟨va,vt,HC,_⟩:=M0.out.2.1.cells;exact⟨HC 0 _ rfl,trivial⟩
 clear HC0 x2;go_wp2_with fail
 refine(oN 0 255 _ M0.out.1).mono ?_;rintro e w1 ⟨⟨v,rfl,hv⟩,a1⟩;obtain⟨q1,ec1,m1,ad1⟩:=M0.out.ran a1;have M1:=ae m1;have AD:=ae (ad1.less (Nat.zero_le _));have HV:=ae hv;clear M0 a1 x0 m1 ad1 hv;obtain⟨va,vt,HC,HZ4,o1,o2,o3⟩:=M1.out.2.1.cells;have cA:=HC 2 _ rfl;have zA:=HZ4 2;have M2:Hid (cq w a c g L E q1 n ec1 (29,id,v,ty,[],[],[],p) (w1.setCell ⟨c,2,none⟩ (.int .i64 v))):=ae (M1.out.put (M1.out.2.1.dO v) (M1.out.2.2.2.2.2.n HV.out));clear HC HZ4 o1 o2 o3 M1;go_upto_region 23 with fail
 show Code.wp _ _ _ _ (w1.setCell ⟨c,2,none⟩ (.int .i64 v));clear cA zA;generalize w1.setCell ⟨c,2,none⟩ (.int .i64 v)=W1 at *;clear va vt;obtain⟨aoA,mA,cA,aoT,mT,cT,HC,⟨s0,s1,s2,s3,s4,s5,s6,s7,f0,f1,f2,f3,f4,f5,f6,f7⟩,hcn,HF⟩:=M2.out.tail AD.out;have y0:=HC 0 _ rfl;have y1:=HC 1 _ rfl;have y2:=HC 2 _ rfl;have y3:=HC 3 _ rfl;have y4:=HC 4 _ rfl;have y5:=HC 5 _ rfl;have y6:=HC 6 _ rfl;have y7:=HC 7 _ rfl;have FF:=ae (HF _ (((((((((Far.refl g W1).set 0 (.int .i64 29)).set 1 (.int .i64 id)).set 2 (.int .i64 v)).set 3 (.int .i64 ty)).set 4 (.slice aoA mA cA)).set 5 (.slice aoT mT cT)).set 6 (.string (bs []))).set 7 (.int .i64 p)));clear HC HF;go_wp2_with fail
 exact bodyPost_ret (v:= .agg (ak (29,id,v,ty,[],[],[],p) (.slice aoA mA cA) (.slice aoT mT cT)).toArray) (by simp [results,Tryz.results109,go_sem,ak,s0,s1,s2,s3,s4,s5,s6,s7]) rfl FF.out
theorem Ht (id ty p:Int) (w:World) (h:RA a L E q n ec w) (h1:I64 id) (h2:0≤p∧p≤E):
  Calls Tryz.prog 109 #[.pointer (some ⟨a,0,none⟩),.agg (al 20 id 0 ty (bs []) p)] w (mw a L E n q ec 0 w):=by
 obtain⟨i0,hi0,hz0,hz1,hz2⟩:=info_parts Tryz.cr;have M0:=ae (cq.start h 20 id ty p h1 h2);have HC0:=ae (bV w 20 id 0 ty (bs []) p);have HI:=ae h1;have HP:=ae h2;clear h h1 h2;generalize hg:w.heap.size+1=g at *;generalize hc:g+1=c at *;go_enter Tryz.func109,Tryz.ntmps109
 go_upto_region 2 with fail
 show Code.wp _ _ _ _ (((w.alloc (.cells (al 20 id 0 ty (bs []) p) 47)).alloc (.cells (al 0 0 0 0 ⟨#[]⟩ 0) 47)).alloc (.cells (al 20 id 0 ty (bs []) p) 47));generalize ((w.alloc (.cells (al 20 id 0 ty (bs []) p) 47)).alloc (.cells (al 0 0 0 0 ⟨#[]⟩ 0) 47)).alloc (.cells (al 20 id 0 ty (bs []) p) 47)=W0 at *;clear hg hc;obtain⟨x0,x1,x2,x3,x4,x5,x6,x7,xz,xl⟩:=a9 HC0.out;clear HC0;go_wp2_with fail
 refine(MC 20 id ty p _ M0.out.1 HI.out HP.out).mono ?_;intro e w1 ho;clear x0 x1 x2 x3 x4 x5 x6 x7 xz xl;obtain⟨y,aoA,mA,cA,aoT,mT,cT,rfl,⟨s0,s1,s2,s3,s4,s5,s6,s7,f0,f1,f2,f3,f4,f5,f6,f7⟩,HF⟩:=M0.out.pass (Adv.refl _ _) ho;have FF:=ae (HF _ (((((((((Far.refl g w1).set 0 (.int .i64 y.1)).set 1 (.int .i64 y.2.1)).set 2 (.int .i64 y.2.2.1)).set 3 (.int .i64 y.2.2.2.1)).set 4 (.slice aoA mA cA)).set 5 (.slice aoT mT cT)).set 6 (.string (bs y.2.2.2.2.2.2.1))).set 7 (.int .i64 y.2.2.2.2.2.2.2)));clear HF ho;simp only [ak];go_wp2_with fail
 exact bodyPost_ret (v:= .agg (ak y (.slice aoA mA cA) (.slice aoT mT cT)).toArray) (by simp [results,Tryz.results109,go_sem,ak,s0,s1,s2,s3,s4,s5,s6,s7]) rfl FF.out
theorem Il (id ty p:Int) (w:World) (h:RA a L E q n ec w) (h1:I64 id) (h2:0≤p∧p≤E):
  Calls Tryz.prog 109 #[.pointer (some ⟨a,0,none⟩),.agg (al 21 id 0 ty (bs []) p)] w (mw a L E n q ec 0 w):=by
 obtain⟨i0,hi0,hz0,hz1,hz2⟩:=info_parts Tryz.cr;have M0:=ae (cq.start h 21 id ty p h1 h2);have HC0:=ae (bV w 21 id 0 ty (bs []) p);have HI:=ae h1;have HP:=ae h2;clear h h1 h2;generalize hg:w.heap.size+1=g at *;generalize hc:g+1=c at *;go_enter Tryz.func109,Tryz.ntmps109
 go_upto_region 2 with fail
 show Code.wp _ _ _ _ (((w.alloc (.cells (al 21 id 0 ty (bs []) p) 47)).alloc (.cells (al 0 0 0 0 ⟨#[]⟩ 0) 47)).alloc (.cells (al 21 id 0 ty (bs []) p) 47));generalize ((w.alloc (.cells (al 21 id 0 ty (bs []) p) 47)).alloc (.cells (al 0 0 0 0 ⟨#[]⟩ 0) 47)).alloc (.cells (al 21 id 0 ty (bs []) p) 47)=W0 at *;clear hg hc;obtain⟨x0,x1,x2,x3,x4,x5,x6,x7,xz,xl⟩:=a9 HC0.out;clear HC0;go_wp2_with fail
 refine(KN 21 id ty p _ M0.out.1 HI.out HP.out).mono ?_;intro e w1 ho;clear x0 x1 x2 x3 x4 x5 x6 x7 xz xl;obtain⟨y,aoA,mA,cA,aoT,mT,cT,rfl,⟨s0,s1,s2,s3,s4,s5,s6,s7,f0,f1,f2,f3,f4,f5,f6,f7⟩,HF⟩:=M0.out.pass (Adv.refl _ _) ho;have FF:=ae (HF _ (((((((((Far.refl g w1).set 0 (.int .i64 y.1)).set 1 (.int .i64 y.2.1)).set 2 (.int .i64 y.2.2.1)).set 3 (.int .i64 y.2.2.2.1)).set 4 (.slice aoA mA cA)).set 5 (.slice aoT mT cT)).set 6 (.string (bs y.2.2.2.2.2.2.1))).set 7 (.int .i64 y.2.2.2.2.2.2.2)));clear HF ho;simp only [ak];go_wp2_with fail
 exact bodyPost_ret (v:= .agg (ak y (.slice aoA mA cA) (.slice aoT mT cT)).toArray) (by simp [results,Tryz.results109,go_sem,ak,s0,s1,s2,s3,s4,s5,s6,s7]) rfl FF.out
theorem Gy (id ty p:Int) (w:World) (h:RA a L E q n ec w) (h1:I64 id) (h2:0≤p∧p≤E):
  Calls Tryz.prog 109 #[.pointer (some ⟨a,0,none⟩),.agg (al 28 id 0 ty (bs []) p)] w (mw a L E n q ec 0 w):=by
 obtain⟨i0,hi0,hz0,hz1,hz2⟩:=info_parts Tryz.cr;have M0:=ae (cq.start h 28 id ty p h1 h2);have HC0:=ae (bV w 28 id 0 ty (bs []) p);have HI:=ae h1;have HP:=ae h2;clear h h1 h2;generalize hg:w.heap.size+1=g at *;generalize hc:g+1=c at *;go_enter Tryz.func109,Tryz.ntmps109
 go_upto_region 2 with fail
 show Code.wp _ _ _ _ (((w.alloc (.cells (al 28 id 0 ty (bs []) p) 47)).alloc (.cells (al 0 0 0 0 ⟨#[]⟩ 0) 47)).alloc (.cells (al 28 id 0 ty (bs []) p) 47));generalize ((w.alloc (.cells (al 28 id 0 ty (bs []) p) 47)).alloc (.cells (al 0 0 0 0 ⟨#[]⟩ 0) 47)).alloc (.cells (al 28 id 0 ty (bs []) p) 47)=W0 at *;clear hg hc;obtain⟨x0,x1,x2,x3,x4,x5,x6,x7,xz,xl⟩:=a9 HC0.out;go_wp2_with fail
 refine(Ez _ M0.out.1).mono ?_;rintro e w1 ⟨⟨b,rfl,_⟩,b1⟩;have M1:=ae (M0.out.below b1);replace HC0:=ae ((b1.block c xl).trans HC0.out);clear M0 b1 x0 x1 x2 x3 x4 x5 x6 x7 xz xl
 cases b with
 |true=>
  obtain⟨x0,x1,x2,x3,x4,x5,x6,x7,xz,xl⟩:=a9 HC0.out;go_wp2_with fail
  refine(IC [118] 28 id ty p _ M1.out.1 HI.out HP.out (by simp) (by simp)).mono ?_;intro e w2 ho;clear x0 x1 x2 x3 x4 x5 x6 x7 xz xl;obtain⟨y,aoA,mA,cA,aoT,mT,cT,rfl,⟨s0,s1,s2,s3,s4,s5,s6,s7,f0,f1,f2,f3,f4,f5,f6,f7⟩,HF⟩:=M1.out.pass (Adv.refl _ _) ho;have FF:=ae (HF _ (((((((((Far.refl g w2).set 0 (.int .i64 y.1)).set 1 (.int .i64 y.2.1)).set 2 (.int .i64 y.2.2.1)).set 3 (.int .i64 y.2.2.2.1)).set 4 (.slice aoA mA cA)).set 5 (.slice aoT mT cT)).set 6 (.string (bs y.2.2.2.2.2.2.1))).set 7 (.int .i64 y.2.2.2.2.2.2.2)));clear HF ho;simp only [ak];go_wp2_with fail
  exact bodyPost_ret (v:= .agg (ak y (.slice aoA mA cA) (.slice aoT mT cT)).toArray) (by simp [results,Tryz.results109,go_sem,ak,s0,s1,s2,s3,s4,s5,s6,s7]) rfl FF.out
 |false=>
  clear HC0;have AD:Hid (Adv L q ec q ec 0):=ae (Adv.refl _ _);obtain⟨aoA,mA,cA,aoT,mT,cT,HC,⟨s0,s1,s2,s3,s4,s5,s6,s7,f0,f1,f2,f3,f4,f5,f6,f7⟩,hcn,HF⟩:=M1.out.tail AD.out;have y0:=HC 0 _ rfl;have y1:=HC 1 _ rfl;have y2:=HC 2 _ rfl;have y3:=HC 3 _ rfl;have y4:=HC 4 _ rfl;have y5:=HC 5 _ rfl;have y6:=HC 6 _ rfl;have y7:=HC 7 _ rfl;have FF:=ae (HF _ (((((((((Far.refl g w1).set 0 (.int .i64 28)).set 1 (.int .i64 id)).set 2 (.int .i64 0)).set 3 (.int .i64 ty)).set 4 (.slice aoA mA cA)).set 5 (.slice aoT mT cT)).set 6 (.string (bs []))).set 7 (.int .i64 p)));clear HC HF;go_wp2_with fail
  exact bodyPost_ret (v:= .agg (ak (28,id,0,ty,[],[],[],p) (.slice aoA mA cA) (.slice aoT mT cT)).toArray) (by simp [results,Tryz.results109,go_sem,ak,s0,s1,s2,s3,s4,s5,s6,s7]) rfl FF.out
theorem G9 (id ty p:Int) (w:World) (h:RA a L E q n ec w) (h1:I64 id) (h2:0≤p∧p≤E):
  Calls Tryz.prog 109 #[.pointer (some ⟨a,0,none⟩),.agg (al 10 id 0 ty (bs []) p)] w (mw a L E n q ec 0 w):=by
 obtain⟨i0,hi0,hz0,hz1,hz2⟩:=info_parts Tryz.cr;have M0:=ae (cq.start h 10 id ty p h1 h2);have HC0:=ae (bV w 10 id 0 ty (bs []) p);have HI:=ae h1;have HP:=ae h2;clear h h1 h2;generalize hg:w.heap.size+1=g at *;generalize hc:g+1=c at *;go_enter Tryz.func109,Tryz.ntmps109
 go_upto_region 2 with fail
 show Code.wp _ _ _ _ (((w.alloc (.cells (al 10 id 0 ty (bs []) p) 47)).alloc (.cells (al 0 0 0 0 ⟨#[]⟩ 0) 47)).alloc (.cells (al 10 id 0 ty (bs []) p) 47));generalize ((w.alloc (.cells (al 10 id 0 ty (bs []) p) 47)).alloc (.cells (al 0 0 0 0 ⟨#[]⟩ 0) 47)).alloc (.cells (al 10 id 0 ty (bs []) p) 47)=W0 at *;clear hg hc;obtain⟨x0,x1,x2,x3,x4,x5,x6,x7,xz,xl⟩:=a9 HC0.out;clear HC0;clear x1 x2 x3 x4 x5 x6 x7 xz xl;go_wp2_with fail
 refine(fS 0 _ M0.out.1 (by omega)).mono ?_;rintro e w1 ⟨⟨s,rfl,hz,hsn⟩,b1⟩;have M1:=ae (M0.out.below b1);clear M0 b1 x0;obtain⟨sa,sb,hsh⟩:=FG s;have HSH:=ae hsh;have HZ:=ae hz;have HN:Hid (fy s=0→ec=0∧q < L.length):=ae (fun e=>hsn (fun e2=>by subst e2;exact tV e));clear hsh hz hsn;go_wp2_with fail
 refine(L3.jY (bs s) w1).mono ?_;rintro e w2 ⟨rfl,b2⟩;rw [HSH.out];have M2:=ae ((M1.out.below b2).below (ah w2 (.cells #[.int .i64 sa,.int .i64 sb] 119)));clear M1 b2;by_cases h0:fy s=0
 ·have HQ:=ae (HN.out h0);rw [h0];clear h0 HN;go_upto_region 11 with fail
  show Code.wp _ _ _ _ (w2.alloc (.cells #[.int .i64 sa,.int .i64 sb] 119));generalize w2.alloc (.cells #[.int .i64 sa,.int .i64 sb] 119)=W2 at *;obtain⟨va,vt,HC,HZ4,o1,o2,o3⟩:=M2.out.2.1.cells;have cA:=HC 6 _ rfl;have zA:=HZ4 6;have M3:Hid (cq w a c g L E q n ec (10,id,0,ty,[],[],s,p) (W2.setCell ⟨c,6,none⟩ (.string (bs s)))):=ae (M2.out.put (M2.out.2.1.setName s) (M2.out.2.2.2.2.2.name HZ.out));clear HC HZ4 o1 o2 o3 M2;go_upto_region 15 with fail
  show Code.wp _ _ _ _ (W2.setCell ⟨c,6,none⟩ (.string (bs s)));clear cA zA va vt;generalize W2.setCell ⟨c,6,none⟩ (.string (bs s))=W3 at *;obtain⟨c1,z1,c4,hq⟩:=M3.out.1.at1;obtain⟨q4,ec4,m4,ad4⟩:=M3.out.ran (ly M3.out.1 (Below.refl _ _) HQ.out);have M4:=ae m4;have AD:=ae (ad4.less (Nat.zero_le _));clear c4 M3 m4 ad4;go_upto_region 23 with fail
  show Code.wp _ _ _ _ (W3.setCell ⟨a,1,none⟩ (.int .i64 ((q:Int)+1)));clear c1 z1;generalize W3.setCell ⟨a,1,none⟩ (.int .i64 ((q:Int)+1))=W4 at *;obtain⟨aoA,mA,cA,aoT,mT,cT,HC,⟨s0,s1,s2,s3,s4,s5,s6,s7,f0,f1,f2,f3,f4,f5,f6,f7⟩,hcn,HF⟩:=M4.out.tail AD.out;have y0:=HC 0 _ rfl;have y1:=HC 1 _ rfl;have y2:=HC 2 _ rfl;have y3:=HC 3 _ rfl;have y4:=HC 4 _ rfl;have y5:=HC 5 _ rfl;have y6:=HC 6 _ rfl;have y7:=HC 7 _ rfl;have FF:=ae (HF _ (((((((((Far.refl g W4).set 0 (.int .i64 10)).set 1 (.int .i64 id)).set 2 (.int .i64 0)).set 3 (.int .i64 ty)).set 4 (.slice aoA mA cA)).set 5 (.slice aoT mT cT)).set 6 (.string (bs s))).set 7 (.int .i64 p)));clear HC HF;go_wp2_with fail
  exact bodyPost_ret (v:= .agg (ak (10,id,0,ty,[],[],s,p) (.slice aoA mA cA) (.slice aoT mT cT)).toArray) (by simp [results,Tryz.results109,go_sem,ak,s0,s1,s2,s3,s4,s5,s6,s7]) rfl FF.out
 ·have k1:(fy s == 0)=false:=by simpa using h0
  have k2:(fy s != 0)=true:=by simpa using h0
  clear HN;generalize fy s=cc at *;go_wp2_with fail
  refine(gE cc h0 _ M2.out.1).mono ?_;rintro e w3 ⟨rfl,b3⟩;obtain⟨q4,ec4,m4,ad4⟩:=M2.out.ran (b3.ran (Below.refl _ _) 0);have M4:=ae m4;have AD:=ae ad4;clear M2 m4 ad4 b3;obtain⟨aoA,mA,cA,aoT,mT,cT,HC,⟨s0,s1,s2,s3,s4,s5,s6,s7,f0,f1,f2,f3,f4,f5,f6,f7⟩,hcn,HF⟩:=M4.out.tail AD.out;have y0:=HC 0 _ rfl;have y1:=HC 1 _ rfl;have y2:=HC 2 _ rfl;have y3:=HC 3 _ rfl;have y4:=HC 4 _ rfl;have y5:=HC 5 _ rfl;have y6:=HC 6 _ rfl;have y7:=HC 7 _ rfl;have FF:=ae (HF _ (((((((((Far.refl g w3).set 0 (.int .i64 10)).set 1 (.int .i64 id)).set 2 (.int .i64 0)).set 3 (.int .i64 ty)).set 4 (.slice aoA mA cA)).set 5 (.slice aoT mT cT)).set 6 (.string (bs []))).set 7 (.int .i64 p)));clear HC HF;go_wp2_with fail
  exact bodyPost_ret (v:= .agg (ak (10,id,0,ty,[],[],[],p) (.slice aoA mA cA) (.slice aoT mT cT)).toArray) (by simp [results,Tryz.results109,go_sem,ak,s0,s1,s2,s3,s4,s5,s6,s7]) rfl FF.out
theorem Ci (op id ty p:Int) (w:World) (h:RA a L E q n ec w) (h1:I64 id) (h2:0≤p∧p≤E) (g1:¬op=1) (g29:¬op=29) (g10:¬op=10) (g20:¬op=20) (g21:¬op=21) (g28:¬op=28):
  Calls Tryz.prog 109 #[.pointer (some ⟨a,0,none⟩),.agg (al op id 0 ty (bs []) p)] w (mw a L E n q ec 0 w):=by
 have LI:=ae (Ek op);have k1:(op == 1)=false:=by simpa using g1
 have k29:(op == 29)=false:=by simpa using g29
 have k10:(op == 10)=false:=by simpa using g10
 have k20:(op == 20)=false:=by simpa using g20
 have k21:(op == 21)=false:=by simpa using g21
 have k28:(op == 28)=false:=by simpa using g28
 clear g1 g29 g10 g20 g21 g28;obtain⟨i0,hi0,hz0,hz1,hz2⟩:=info_parts Tryz.cr;have M0:=ae (cq.start h op id ty p h1 h2);have HC0:=ae (bV w op id 0 ty (bs []) p);have HI:=ae h1;have HP:=ae h2;clear h h1 h2;generalize hg:w.heap.size+1=g at *;generalize hc:g+1=c at *;go_enter Tryz.func109,Tryz.ntmps109
 go_upto_region 2 with fail
 show Code.wp _ _ _ _ (((w.alloc (.cells (al op id 0 ty (bs []) p) 47)).alloc (.cells (al 0 0 0 0 ⟨#[]⟩ 0) 47)).alloc (.cells (al op id 0 ty (bs []) p) 47));generalize ((w.alloc (.cells (al op id 0 ty (bs []) p) 47)).alloc (.cells (al 0 0 0 0 ⟨#[]⟩ 0) 47)).alloc (.cells (al op id 0 ty (bs []) p) 47)=W0 at *;clear hg hc;obtain⟨x0,x1,x2,x3,x4,x5,x6,x7,xz,xl⟩:=a9 HC0.out;go_wp2_with fail
 clear k1 k29 k10 k20 k21 k28;go_region_with ((first
  |(go_at_call 139;refine(vZ op _).mono ?_;rintro e w1 ⟨rfl,b1⟩;have M1:=ae (M0.out.below (Below.qv (w:=W0) b1));obtain⟨y0,y1,y2,y3,y4,y5,y6,y7,yz,yl⟩:=a9 (((Below.qv (w:=W0) b1).block c xl).trans HC0.out))
  |(go_at_call 138;refine(IC (eY op) op id ty p _ M1.out.1 HI.out HP.out LI.out.1 LI.out.2).mono ?_;intro e w2 ho;obtain⟨y,aoA,mA,cA,aoT,mT,cT,rfl,⟨s0,s1,s2,s3,s4,s5,s6,s7,f0,f1,f2,f3,f4,f5,f6,f7⟩,HF⟩:=M1.out.pass (Adv.refl _ _) ho;have HF:=ae HF;clear ho;simp only [ak])))
 all_goals
  have FF:=ae (HF.out _ (((((((((Far.refl g w2).set 0 (.int .i64 y.1)).set 1 (.int .i64 y.2.1)).set 2 (.int .i64 y.2.2.1)).set 3 (.int .i64 y.2.2.2.1)).set 4 (.slice aoA mA cA)).set 5 (.slice aoT mT cT)).set 6 (.string (bs y.2.2.2.2.2.2.1))).set 7 (.int .i64 y.2.2.2.2.2.2.2)));go_wp2_with fail
  exact bodyPost_ret (v:= .agg (ak y (.slice aoA mA cA) (.slice aoT mT cT)).toArray) (by simp [results,Tryz.results109,go_sem,ak,s0,s1,s2,s3,s4,s5,s6,s7]) rfl FF.out
theorem Dr (op id ty p:Int) (w:World) (h:RA a L E q n ec w) (h1:I64 id) (h2:0≤p∧p≤E):
  Calls Tryz.prog 109 #[.pointer (some ⟨a,0,none⟩),.agg (al op id 0 ty (bs []) p)] w (mw a L E n q ec 0 w):=by
 by_cases g1:op=1
 ·subst g1;exact Jg id ty p w h h1 h2
 by_cases g29:op=29
 ·subst g29;exact Hc id ty p w h h1 h2
 by_cases g10:op=10
 ·subst g10;exact G9 id ty p w h h1 h2
 by_cases g20:op=20
 ·subst g20;exact Ht id ty p w h h1 h2
 by_cases g21:op=21
 ·subst g21;exact Il id ty p w h h1 h2
 by_cases g28:op=28
 ·subst g28;exact Gy id ty p w h h1 h2
 exact Ci op id ty p w h h1 h2 g1 g29 g10 g20 g21 g28
end
def eX (w:World) (a c g:Nat) (L:List Tok) (E:Int) (q n:Nat) (ec op id ty p:Int) (wk:World):Prop:=
 RA a L E q n ec wk∧wk.heap[c]? =some (.cells (al op id 0 ty (bs []) p) 47 (0,0))∧wk.heap[g]? =some (.cells ID 47 (0,0))∧Kr a w wk∧a < w.heap.size∧w.heap.size≤g∧w.heap.size≤c∧g≠c
section
variable {w:World} {a c g:Nat} {L:List Tok} {E:Int} {q n q':Nat} {ec ec' op id ty p:Int} {wk wk':World}
theorem eX.mid (h:eX w a c g L E q n ec op id ty p wk) (k1:I64 id) (k2:0≤p∧p≤E):cq w a c g L E q n ec (op,id,0,ty,[],[],[],p) wk:=by
 obtain⟨h1,h2,h3,h4,h5,h6,h7,h8⟩:=h;exact⟨h1,⟨.slice none 0 0,.slice none 0 0,h2,World.ownsRow_nil _ _ _ _,World.ownsRow_nil _ _ _ _,.inl rfl,h7⟩,h3,h4,⟨h5,h6,h8⟩,GI.bare k1 k2⟩
theorem eX.kr (h:eX w a c g L E q n ec op id ty p wk) (r:RA a L E q' n ec' wk') (k:Kr a wk wk'):eX w a c g L E q' n ec' op id ty p wk':=by
 obtain⟨h1,h2,h3,h4,h5,h6,h7,h8⟩:=h;exact⟨r,(k.2.2.2.2 c (Array.getElem?_eq_some_iff.1 h2).1 (by omega)).trans h2,(k.2.2.2.2 g (Array.getElem?_eq_some_iff.1 h3).1 (by omega)).trans h3,h4.trans k,h5,h6,h7,h8⟩
theorem eX.below (h:eX w a c g L E q n ec op id ty p wk) (b:Below wk.heap.size wk wk'):eX w a c g L E q n ec op id ty p wk':=h.kr (h.1.below b) (Kr.bJ b)
theorem eX.ran {d:Nat} (h:eX w a c g L E q n ec op id ty p wk) (r:Ran a L E n q ec d wk wk'):∃q' ec',eX w a c g L E q' n ec' op id ty p wk'∧Adv L q ec q' ec' d:=by
 obtain⟨q',ec',r1,k,ad⟩:=r;exact⟨q',ec',h.kr r1 k,ad⟩
theorem eX.put {op' id' ty' p':Int} {i:Nat} {v:Value} (h:eX w a c g L E q n ec op id ty p wk) (hc:(wk.setCell ⟨c,i,none⟩ v).heap[c]? =some (.cells (al op' id' 0 ty' (bs []) p') 47 (0,0))):eX w a c g L E q n ec op' id' ty' p' (wk.setCell ⟨c,i,none⟩ v):=by
 obtain⟨h1,h2,h3,h4,h5,h6,h7,h8⟩:=h;exact⟨h1.set h2 (by decide) (by omega) i v,hc,(Below.heap_setCell _ _ _ _ (fun e=>h8 e)).trans h3,py h4 h7,h5,h6,h7,h8⟩
theorem eX.vE (h:eX w a c g L E q n ec op id ty p wk) (v:Int):eX w a c g L E q n ec v id ty p (wk.setCell ⟨c,0,none⟩ (.int .i64 v)):=h.put ((heap_setCell_same wk c 0 _ 47 _ h.2.1).trans rfl)
theorem eX.A4 (h:eX w a c g L E q n ec op id ty p wk) (v:Int):eX w a c g L E q n ec op v ty p (wk.setCell ⟨c,1,none⟩ (.int .i64 v)):=h.put ((heap_setCell_same wk c 1 _ 47 _ h.2.1).trans rfl)
theorem eX.xL (h:eX w a c g L E q n ec op id ty p wk) (v:Int):eX w a c g L E q n ec op id v p (wk.setCell ⟨c,3,none⟩ (.int .i64 v)):=h.put ((heap_setCell_same wk c 3 _ 47 _ h.2.1).trans rfl)
theorem eX.J5 (h:eX w a c g L E q n ec op id ty p wk) (v:Int):eX w a c g L E q n ec op id ty v (wk.setCell ⟨c,7,none⟩ (.int .i64 v)):=h.put ((heap_setCell_same wk c 7 _ 47 _ h.2.1).trans rfl)
end
section
variable {a:Nat} {L:List Tok} {E:Int} {q n:Nat} {ec:Int}
theorem eX.start {w:World} (h:RA a L E q n ec w):
  eX w a (w.heap.size+1) w.heap.size L E q n ec 0 (-1) 0 E ((w.alloc (.cells (al 0 0 0 0 ⟨#[]⟩ 0) 47)).alloc (.cells (al 0 (-1) 0 0 ⟨#[]⟩ E) 47)):=by
 have b1:=ah w (.cells (al 0 0 0 0 ⟨#[]⟩ 0) 47);have b2:=ah (w.alloc (.cells (al 0 0 0 0 ⟨#[]⟩ 0) 47)) (.cells (al 0 (-1) 0 0 ⟨#[]⟩ E) 47);have s1:(w.alloc (.cells (al 0 0 0 0 ⟨#[]⟩ 0) 47)).heap.size=w.heap.size+1:=by simp
 refine⟨(h.below b1).below b2,?_,?_,Kr.bJ (af b1 b2),h.lt,Nat.le_refl _,Nat.le_succ _,by omega⟩
 ·rw [←s1];exact heap_alloc_new _ _
 ·exact(b2.block w.heap.size (by rw [s1];omega)).trans (heap_alloc_new _ _)
theorem RA.here {w:World} (h:RA a L E q n ec w) (hq:q < L.length):∃g cap t,w.cell? ⟨a,0,none⟩=some (.slice (some ⟨g,0,none⟩) L.length cap)∧w.cell? ⟨a,1,none⟩=some (.int .i64 (q:Int))∧w.cell? ⟨g,q * 2+1,none⟩=some (.int .i64 t)∧0≤t∧t≤E:=by
 obtain⟨ao,cap,ea,c0,c1,c2,c3,c4,c5,fz,hL⟩:=h.cells;obtain⟨t,ht⟩:∃t,L[q]? =some t:=⟨_,List.getElem?_eq_getElem hq⟩;obtain⟨g,rfl,_,k⟩:=hL q t ht;exact⟨g,cap,t.2,c0,c1,k,(h.lim.1.2 t (List.mem_of_getElem? ht)).2⟩
theorem JB (w:World) (h:RA a L E q n ec w):
  Calls Tryz.prog 86 #[.pointer (some ⟨a,0,none⟩)] w (mw a L E n q ec 1 w):=by
 have M0:=ae (eX.start h);have hb0:=ah w (.cells (al 0 0 0 0 ⟨#[]⟩ 0) 47);obtain⟨_,_,_,_,_,d2,_⟩:=(h.below hb0).cells;have hlm:=h.lim;clear h hb0;have hW0:(w.alloc (.cells (al 0 0 0 0 ⟨#[]⟩ 0) 47)).heap.size=w.heap.size+1:=by simp
 generalize hg:w.heap.size=g at *;generalize hc:g+1=c at *;go_enter Tryz.func86,Tryz.ntmps86
 go_upto_region 1 with fail
 show Code.wp _ _ _ _ (w.alloc (.cells (al 0 0 0 0 ⟨#[]⟩ 0) 47));generalize w.alloc (.cells (al 0 0 0 0 ⟨#[]⟩ 0) 47)=W0 at *;clear hg hc;go_upto_region 2 with fail
 show Code.wp _ _ _ _ (W0.alloc (.cells (al 0 (-1) 0 0 ⟨#[]⟩ E) 47));clear hW0 d2;generalize W0.alloc (.cells (al 0 (-1) 0 0 ⟨#[]⟩ E) 47)=W1 at *;refine(Decidable.em (q < L.length)).elim (fun hq=> ?lt) (fun hq=> ?ge)
 case' lt=>
  obtain⟨gg,cap,t,c0,c1,ch,ht⟩:=M0.out.1.here hq;have hq1:(q:Int) < (L.length:Int):=by omega
  have hq2:decide ((q:Int) < (L.length:Int))=true:=by simpa using hq1
  obtain⟨_,_,_,_,_,_,_,x7,xz,_⟩:=a9 M0.out.2.1;have z7:=xz 7;have HT:=ae ht;clear xz ht;go_wp2_with fail
  go_quiet (fail)
  go_wp2_with fail
  go_region
  have M1:=ae ((M0.out.below (below_drewN (Below.refl _ _) (nq+1))).J5 t);clear M0 c0 c1 ch hq hq1 hq2 x7 z7;generalize (W1.drewN (nq+1)).setCell ⟨c,7,none⟩ (.int .i64 t)=W2 at *;obtain⟨pp,M1,HP⟩:∃pp,Hid (eX w a c g L E q n ec 0 (-1) 0 pp W2)∧Hid (0≤pp∧pp≤E):=⟨t,M1,HT⟩;go_wp2_with fail
 case' ge=>
  obtain⟨_,_,_,c0,c1,_⟩:=M0.out.1.cells;have hq1:¬(q:Int) < (L.length:Int):=by omega
  have hq2:decide ((q:Int) < (L.length:Int))=false:=by simpa using hq1
  go_wp2_with fail
  go_quiet (fail)
  have M1:=ae (M0.out.below (below_drewN (Below.refl _ _) nq));clear M0 c0 c1 hq hq1 hq2;generalize W1.drewN nq=W2 at *;obtain⟨pp,M1,HP⟩:∃pp,Hid (eX w a c g L E q n ec 0 (-1) 0 pp W2)∧Hid (0≤pp∧pp≤E):=⟨E,M1,ae ⟨hlm.2.1,by omega⟩⟩;go_wp2_with fail
 all_goals
  refine(fS 1 _ M1.out.1 (by omega)).mono ?_;rintro e w2 ⟨⟨s1,rfl,_,_⟩,b2⟩;have M1b:=ae (M1.out.below b2);clear M1 b2;by_cases hne:((bs s1).toList == [61])=true
  case' pos=>
   go_wp2_with fail
   refine(pZ _ M1b.out.1).mono ?_;rintro e w21 ⟨⟨v,rfl,hv⟩,a21⟩;obtain⟨q1,ec1,m1,ad1⟩:=M1b.out.ran a21;have M1c:=ae m1;have AD1:=ae ad1;have HV:=ae hv;clear M1b a21 hne m1 ad1 hv;obtain⟨_,x1,_,_,_,_,_,_,xz,_⟩:=a9 M1c.out.2.1;have z1:=xz 1;clear xz;go_upto_region 6 with fail
   show Code.wp _ _ _ _ (w21.setCell ⟨c,1,none⟩ (.int .i64 v));have M1d:=ae (M1c.out.A4 v);clear M1c x1 z1;generalize w21.setCell ⟨c,1,none⟩ (.int .i64 v)=W21 at *;go_wp2_with fail
   refine(qd [61] _ M1d.out.1 (by simp)).mono ?_;rintro e w22 ⟨rfl,a22⟩;obtain⟨q2,ec2,m2,ad2⟩:=M1d.out.ran a22;obtain⟨id,q2,ec2,M2,AD2,HI⟩:∃id q2 ec2,Hid (eX w a c g L E q2 n ec2 0 id 0 pp w22)∧Hid (Adv L q ec q2 ec2 0)∧Hid (I64 id):=⟨v,q2,ec2,ae m2,ae ((AD1.out.trans ad2).less (by omega)),ae (jP HV.out (by omega))⟩;clear M1d a22 m2 ad2 AD1 HV;go_wp2_with fail
  case' neg=>
   replace hne:((bs s1).toList == [61])=false:=(by simpa using hne);obtain⟨id,q2,ec2,M2,AD2,HI⟩:∃id q2 ec2,Hid (eX w a c g L E q2 n ec2 0 id 0 pp w2)∧Hid (Adv L q ec q2 ec2 0)∧Hid (I64 id):=⟨-1,q,ec,M1b,ae (Adv.refl _ _),ae ⟨by omega,by omega⟩⟩;clear M1b;go_wp2_with fail
   clear hne
  all_goals
   refine(fS 0 _ M2.out.1 (by omega)).mono ?_;rintro e w3 ⟨⟨r,rfl,_,hr⟩,b3⟩;have M3:=ae (M2.out.below b3);have HR:Hid ((jN r).1≠0→ec2=0∧q2 < L.length):=ae (fun e=>hr (fun e2=>by subst e2;exact e oV));clear M2 b3 hr;go_wp2_with fail
   refine(L5.kE (bs r) _).mono ?_;rintro e w4 ⟨rfl,b4⟩;obtain⟨o,ho⟩:∃o,o=jN r:=⟨_,rfl⟩;rw [show L5.find (bs r)=o from ho.symm];rw [←ho] at HR;have M4:=ae (M3.out.below b4);clear M3 b4 ho;obtain⟨x0,_,_,x3,_,_,_,_,xz,_⟩:=a9 M4.out.2.1;have z0:=xz 0;clear xz;go_upto_region 9 with fail
   show Code.wp _ _ _ _ (w4.setCell ⟨c,0,none⟩ (.int .i64 o.1));have M5:=ae (M4.out.vE o.1);clear M4 x0 x3 z0;generalize w4.setCell ⟨c,0,none⟩ (.int .i64 o.1)=W5 at *;obtain⟨x0,_,_,x3,_,_,_,_,xz,_⟩:=a9 M5.out.2.1;have z3:=xz 3;clear xz;go_upto_region 10 with fail
   show Code.wp _ _ _ _ (W5.setCell ⟨c,3,none⟩ (.int .i64 o.2));have M6:=ae (M5.out.xL o.2);clear M5 x0 x3 z3;generalize W5.setCell ⟨c,3,none⟩ (.int .i64 o.2)=W6 at *;by_cases ho0:o.1=0
   ·have ho1:(o.1 == 0)=true:=(by simpa using ho0);have M7:=M6;clear M6 HR ho0;go_wp2_with fail
    clear ho1;refine(gE 2 (by omega) _ M7.out.1).mono ?_;rintro e w9 ⟨rfl,b9⟩;obtain⟨q9,ec9,m9,ad9⟩:=(M7.out.mid HI.out HP.out).ran (b9.ran (Below.refl _ _) 1);have M9:=ae m9;have AD:=ae ((AD2.out.trans ad9).less (d':=1) (by omega));clear M7 m9 ad9 b9;obtain⟨aoA,mA,cA,aoT,mT,cT,HC,⟨s0,s1,s2,s3,s4,s5,s6,s7,f0,f1,f2,f3,f4,f5,f6,f7⟩,hcn,HF⟩:=M9.out.tail AD.out;have y0:=HC 0 _ rfl;have y1:=HC 1 _ rfl;have y2:=HC 2 _ rfl;have y3:=HC 3 _ rfl;have y4:=HC 4 _ rfl;have y5:=HC 5 _ rfl;have y6:=HC 6 _ rfl;have y7:=HC 7 _ rfl;have FF:=ae (HF _ (((((((((Far.refl g w9).set 0 (.int .i64 o.1)).set 1 (.int .i64 id)).set 2 (.int .i64 0)).set 3 (.int .i64 o.2)).set 4 (.slice aoA mA cA)).set 5 (.slice aoT mT cT)).set 6 (.string (bs []))).set 7 (.int .i64 pp)));clear HC HF;go_wp2_with fail
    exact bodyPost_ret (v:= .agg (ak (o.1,id,0,o.2,[],[],[],pp) (.slice aoA mA cA) (.slice aoT mT cT)).toArray) (by simp [results,Tryz.results86,go_sem,ak,s0,s1,s2,s3,s4,s5,s6,s7]) rfl FF.out
   have ho1:(o.1 == 0)=false:=(by simpa using ho0);have HR2:=ae (HR.out ho0);clear HR ho0;have BX:Hid (L5.Box W6 c [.int .i64 o.1,.int .i64 id,.int .i64 0,.int .i64 o.2,.slice none 0 0,.slice none 0 0,.string (bs []),.int .i64 pp]):=ae ⟨(a9 M6.out.2.1).2.2.2.2.2.2.2.2.2,fun i v hv=>by have:=M6.out.2.1;simp only [World.cell?,this];simpa using hv⟩;have x0:=fun x=>(L5.bu BX.out x).2 0 _ rfl;have x1:=fun x=>(L5.bu BX.out x).2 1 _ rfl;have x2:=fun x=>(L5.bu BX.out x).2 2 _ rfl;have x3:=fun x=>(L5.bu BX.out x).2 3 _ rfl;have x4:=fun x=>(L5.bu BX.out x).2 4 _ rfl;have x5:=fun x=>(L5.bu BX.out x).2 5 _ rfl;have x6:=fun x=>(L5.bu BX.out x).2 6 _ rfl;have x7:=fun x=>(L5.bu BX.out x).2 7 _ rfl;obtain⟨bb,hb1⟩:∃bb,(L5.bD o.1 o.2 != 0)=bb:=⟨_,rfl⟩;by_cases hb2:decide (0≤id)=bb
   case' neg=>replace hb2:decide (0≤id)= !bb:=by cases bb <;> simp_all
   all_goals
    go_wp2_with fail
    refine L5.aE (by kernel_rfl) (by kernel_rfl) ?_;repeat (go_big_quiet_step ((first
     |(go_at_call 18;exact L5.bC (L5.dV o.1 o.2 _ _ _ _ _ _ _)))))
    refine wpQuiet_nil ?_;rintro _ ⟨x,rfl⟩;have M7:=ae (M6.out.below (L5.ax _ x));clear M6 BX x0 x1 x2 x3 x4 x5 x6 x7;generalize hW7:L5.aZ W6 x=W7 at *;clear hW7
   ·go_wp2_with fail
    clear hb1 hb2 ho1;refine(gE 8 (by omega) _ M7.out.1).mono ?_;rintro e w9 ⟨rfl,b9⟩;obtain⟨q9,ec9,m9,ad9⟩:=(M7.out.mid HI.out HP.out).ran (b9.ran (Below.refl _ _) 1);have M9:=ae m9;have AD:=ae ((AD2.out.trans ad9).less (d':=1) (by omega));clear M7 m9 ad9 b9;obtain⟨aoA,mA,cA,aoT,mT,cT,HC,⟨s0,s1,s2,s3,s4,s5,s6,s7,f0,f1,f2,f3,f4,f5,f6,f7⟩,hcn,HF⟩:=M9.out.tail AD.out;have y0:=HC 0 _ rfl;have y1:=HC 1 _ rfl;have y2:=HC 2 _ rfl;have y3:=HC 3 _ rfl;have y4:=HC 4 _ rfl;have y5:=HC 5 _ rfl;have y6:=HC 6 _ rfl;have y7:=HC 7 _ rfl;have FF:=ae (HF _ (((((((((Far.refl g w9).set 0 (.int .i64 o.1)).set 1 (.int .i64 id)).set 2 (.int .i64 0)).set 3 (.int .i64 o.2)).set 4 (.slice aoA mA cA)).set 5 (.slice aoT mT cT)).set 6 (.string (bs []))).set 7 (.int .i64 pp)));clear HC HF;go_wp2_with fail
    exact bodyPost_ret (v:= .agg (ak (o.1,id,0,o.2,[],[],[],pp) (.slice aoA mA cA) (.slice aoT mT cT)).toArray) (by simp [results,Tryz.results86,go_sem,ak,s0,s1,s2,s3,s4,s5,s6,s7]) rfl FF.out
   ·obtain⟨c1,z1,c4,hq9⟩:=M7.out.1.at1;obtain⟨q8,ec8,m8,ad8⟩:=M7.out.ran (ly M7.out.1 (Below.refl _ _) HR2.out);have M8:=ae m8;have AD8:=ae ((AD2.out.trans ad8).less (d':=1) (by omega));clear c4 M7 m8 ad8;go_upto_region 17 with fail
    show Code.wp _ _ _ _ (W7.setCell ⟨a,1,none⟩ (.int .i64 ((q2:Int)+1)));clear c1 z1;generalize W7.setCell ⟨a,1,none⟩ (.int .i64 ((q2:Int)+1))=W8 at *;obtain⟨x0,x1,x2,x3,x4,x5,x6,x7,xz,_⟩:=a9 M8.out.2.1;clear xz;go_wp2_with fail
    refine(Dr o.1 id o.2 pp _ M8.out.1 HI.out HP.out).mono ?_;intro e w9 ho;clear x0 x1 x2 x3 x4 x5 x6 x7;have M9:=ae (M8.out.mid HI.out HP.out);obtain⟨y,aoA,mA,cA,aoT,mT,cT,rfl,⟨s0,s1,s2,s3,s4,s5,s6,s7,f0,f1,f2,f3,f4,f5,f6,f7⟩,HF⟩:=M9.out.pass AD8.out ho;have FF:=ae (HF _ (((((((((Far.refl g w9).set 0 (.int .i64 y.1)).set 1 (.int .i64 y.2.1)).set 2 (.int .i64 y.2.2.1)).set 3 (.int .i64 y.2.2.2.1)).set 4 (.slice aoA mA cA)).set 5 (.slice aoT mT cT)).set 6 (.string (bs y.2.2.2.2.2.2.1))).set 7 (.int .i64 y.2.2.2.2.2.2.2)));clear HF ho;simp only [ak];go_wp2_with fail
    exact bodyPost_ret (v:= .agg (ak y (.slice aoA mA cA) (.slice aoT mT cT)).toArray) (by simp [results,Tryz.results86,go_sem,ak,s0,s1,s2,s3,s4,s5,s6,s7]) rfl FF.out
end
end Go.Proofs.YtljkgcfnoegibaaGreatDoor
