/- Texts of one chain, joined. -/
import Derived.Test.YtljkgcfnoegibaaGreatDoorZAAQ
import Derived.Test.YtljkgcfnoegibaaGreatDoorZOAC
import Derived.Lib.ItoaLen
set_option maxHeartbeats 8000000
set_option maxRecDepth 20000
namespace Go.Proofs.YtljkgcfnoegibaaGreatDoor
open Go Go.RowKit
open G (Tok Er Ins Fun peek0 peek1 fG)
section
variable {a:Nat} {L:List Tok} {E:Int} {q n:Nat}
theorem Jy (k:Nat) (hk:k≤200000) (w:World) (h:RA a L E q n 0 w):
  Calls Tryz.prog 61 #[.pointer (some ⟨a,0,none⟩),.int .i64 (k:Int)] w fun e w'=>∃v xs q' n' ec',e= .returned v∧ck w.heap.size xs v w'∧(∀x∈xs,GI E x)∧xs.length≤140000∧RA a L E q' n' ec' w'∧Kr a w w'∧q≤q'∧q'≤L.length+1∧(ec'=0→q+1≤q'):=by
 obtain⟨i0,hi0,hz0,hz1,hz2⟩:=info_parts Tryz.Dw;have ha:=h.lt;have hlm:=h.lim;have hq0:=(hlm.2.2.2.2 rfl).2;have hLL:=hlm.1.1;have hdl:(bs (dig (k:Int))).size≤100:=by rw [aY];have:=Lib.itoa_length_le (k:Int) (by omega) (by omega);unfold dig;omega
 have hsz0:(bs [98]).size≤100:=by rw [aY];decide
 have hbb:(⟨#[98]⟩:ByteArray)=bs [98]:=rfl;have HD:Hid (∀t,((bs t).toList == (bs [98] ++ bs (dig (k:Int))).toList)=true→t≠ []):=ae (fun t ht=>by rw [Af] at ht;rw [beq_eq ht];simp);have H:=ae h;clear h hlm;go_enter Tryz.func61,Tryz.ntmps61
 by_cases hk2:k < 256
 case' pos=>
  have g1:¬(256:Int)≤(k:Int):=by omega
  have g2:decide ((256:Int)≤(k:Int))=false:=by simpa using g1
  obtain⟨ec1,R1,K1⟩:∃ec1,Hid (RA a L E q n ec1 w)∧Hid (Kr a w w):=⟨0,H,ae (Kr.refl _ _)⟩;clear H;go_wp2_with fail
  clear g1 g2
 case' neg=>
  have g1:(256:Int)≤(k:Int):=by omega
  have g2:decide ((256:Int)≤(k:Int))=true:=by simpa using g1
  go_wp2_with fail
  refine(gE 6 (by omega) w H.out).mono ?_;rintro e w1 ⟨rfl,⟨ec1,_,r1⟩,k1⟩;have R1:=ae r1;have K1:=ae k1;clear g1 g2 H r1 k1;go_wp2_with fail
 all_goals
  clear hk2;refine(fS 0 _ R1.out (by omega)).mono ?_;rintro e w2 ⟨⟨t,rfl,htl,ht⟩,b2⟩;have R2:=ae (R1.out.below b2);have K2:=ae (K1.out.step b2);have htz:(bs t).size≤65536:=by rw [aY];exact htl
  have HT0:=ae ht;clear R1 K1 b2 ht;go_wp2_with fail
  refine(AZ (k:Int) _ (by omega) (by omega)).mono ?_;rintro e w3 ⟨rfl,b3⟩;have R3:=ae (R2.out.below b3);have K3:=ae (K2.out.step b3);clear R2 K2 b3;by_cases hb:((bs t).toList == (bs [98] ++ bs (dig (k:Int))).toList)=true
  case' pos=>
   have HT:=ae (HT0.out (HD.out t hb));have hb2:((bs t).toList != (bs [98] ++ bs (dig (k:Int))).toList)=false:=(by rw [bne,hb];rfl);obtain⟨c1,z1,c4,_⟩:=R3.out.at1;have R4:=ae (R3.out.vr (by omega) (fun _=>HT.out.2));have K4:=ae (K3.out.set (i:=1) (.int .i64 ((q:Int)+1)));clear c4 R3 K3;go_upto_region 6 with fail
   show Code.wp _ _ _ _ (w3.setCell ⟨a,1,none⟩ (.int .i64 ((q:Int)+1)));clear c1 z1 hb hb2 HT HT0 HD;generalize w3.setCell ⟨a,1,none⟩ (.int .i64 ((q:Int)+1))=W4 at *
  case' neg=>
   replace hb:((bs t).toList == (bs [98] ++ bs (dig (k:Int))).toList)=false:=(by simpa using hb);have hb2:((bs t).toList != (bs [98] ++ bs (dig (k:Int))).toList)=true:=(by rw [bne,hb];rfl);go_wp2_with fail
   refine(gE 7 (by omega) _ R3.out).mono ?_;rintro e w4 ⟨rfl,⟨ec4,he4,r4⟩,k4⟩;obtain⟨c1,z1,c4,_⟩:=r4.at1;have R4:=ae (r4.vr (by omega) (fun e=>absurd e he4));have K4:=ae ((K3.out.trans k4).set (i:=1) (.int .i64 ((q:Int)+1)));clear c4 R3 K3 r4 k4;go_upto_region 6 with fail
   show Code.wp _ _ _ _ (w4.setCell ⟨a,1,none⟩ (.int .i64 ((q:Int)+1)));clear c1 z1 hb hb2 HT0 HD he4;generalize w4.setCell ⟨a,1,none⟩ (.int .i64 ((q:Int)+1))=W4 at *
  all_goals
   go_wp2_with fail
   refine(qd [58] _ R4.out (by simp)).mono ?_;rintro e w5 ⟨rfl,q5,ec5,r5,k5,ad5,ad6,_⟩;have R5:=ae r5;have K5:=ae (K4.out.trans k5);clear R4 K4 r5 k5 hsz0 hbb hdl htl htz;go_wp2_with fail
   go_loopw [5] (fun v wr=>∃(m:Nat) (acc:List Ins) (q':Nat) (ec':Int),ck w.heap.size acc v wr∧RA a L E q' m ec' wr∧Kr a w wr∧Hid (∀x∈acc,GI E x)∧q+1≤q'∧q'≤L.length+1∧acc.length≤L.length+2∧(ec'=0→acc.length≤q')) (fun _ wr=>left a L.length wr)
   case atStart=>exact⟨n,[],q5,ec5,⟨[],World.ownsRow_nil _ _ _ _,rfl⟩,R5.out,K5.out,ae (by simp),by omega,by omega,by simp,fun _=>by simp⟩
   case round=>
    obtain⟨m,acc,q',ec',hV,H5,K5,HG,hq1,hq2,hac,hae⟩:=hrel;have hlm5:=H5.lim;have hs:=K5.size;have c4:=H5.at1.2.2.1;obtain⟨ao6,cap6,rfl⟩:=aL hV.choose_spec.1;have hV:=ae hV;have H5:=ae H5;have K5:=ae K5;by_cases he:ec'=0
    ·subst he;have hae':=hae rfl;have hlz:=hlm5.2.2.2.2 rfl;go_wp2_with fail
     refine(fS 0 _ H5.out (by omega)).mono ?_;rintro e w6 ⟨⟨t1,rfl,_,_⟩,b6⟩
     cases h1:((bs t1).toList == [125])with
     |true=>
      have h2:((bs t1).toList != [125])=false:=(by rw [bne,h1];rfl);go_wp2_with fail
      go_ret;exact⟨_,acc,q',m,0,rfl,hV.out.below b6,HG.out,by omega,H5.out.below b6,K5.out.step b6,by omega,by omega,fun _=>by omega⟩
     |false=>
      have h2:((bs t1).toList != [125])=true:=(by rw [bne,h1];rfl);go_wp2_with fail
      refine(fS 1 _ (H5.out.below b6) (by omega)).mono ?_;rintro e w7 ⟨⟨t2,rfl,_,_⟩,b7⟩;have B7:=ae (af b6 b7);clear b6 b7
      cases h3:((bs t2).toList == [58])with
      |true=>
       have h4:((bs t2).toList != [58])=false:=(by rw [bne,h3];rfl);go_wp2_with fail
       go_ret;exact⟨_,acc,q',m,0,rfl,hV.out.below B7.out,HG.out,by omega,H5.out.below B7.out,K5.out.step B7.out,by omega,by omega,fun _=>by omega⟩
      |false=>
       have h4:((bs t2).toList != [58])=true:=(by rw [bne,h3];rfl);have V7:=ae (hV.out.below B7.out);have H7:=ae (H5.out.below B7.out);have K7:=ae (K5.out.step B7.out);clear hV K5 B7 hs c4;obtain⟨_,_,_,_,_,_,c3,_,_,fz,_⟩:=H7.out.cells;have f3:=fz 3;clear fz;by_cases hm:m < 4096
       case' pos=>
        have g1:¬(4096:Int)≤(m:Int):=(by omega);have g2:decide ((4096:Int)≤(m:Int))=false:=(by simpa using g1);have R8:=ae (H7.out.Lr (by omega) (fun _=>hm));have K8:=ae (K7.out.set (i:=3) (.int .i64 ((m:Int)+1)));have V8:=ae (V7.out.kr (RR.kr (a:=a) (w:=w7) 3 (.int .i64 ((m:Int)+1))) ha);go_upto_region 12 with fail
        show Code.wp _ _ _ _ (w7.setCell ⟨a,3,none⟩ (.int .i64 ((m:Int)+1)));clear c3 f3 H7 K7 V7 h1 h2 h3 h4 g1 g2;generalize w7.setCell ⟨a,3,none⟩ (.int .i64 ((m:Int)+1))=W8 at *
       case' neg=>
        have g1:(4096:Int)≤(m:Int):=(by omega);have g2:decide ((4096:Int)≤(m:Int))=true:=(by simpa using g1);go_wp2_with fail
        refine(gE 6 (by omega) _ H7.out).mono ?_;rintro e w8 ⟨rfl,⟨ec8,he8,r8⟩,k8⟩;clear c3 f3;obtain⟨_,_,_,_,_,_,c3,_,_,fz,_⟩:=r8.cells;have f3:=fz 3;clear fz;have R8:=ae (r8.Lr (by omega) (fun e=>absurd e he8));have K8:=ae ((K7.out.trans k8).set (i:=3) (.int .i64 ((m:Int)+1)));have V8:=ae ((V7.out.kr k8 ha).kr (RR.kr (a:=a) (w:=w8) 3 (.int .i64 ((m:Int)+1))) ha);clear r8 k8 H7 K7 V7 he8;go_upto_region 12 with fail
        show Code.wp _ _ _ _ (w8.setCell ⟨a,3,none⟩ (.int .i64 ((m:Int)+1)));clear c3 f3 h1 h2 h3 h4 g1 g2;generalize w8.setCell ⟨a,3,none⟩ (.int .i64 ((m:Int)+1))=W8 at *
       all_goals
        have hs8:=K8.out.size;go_wp2_with fail
        refine(JB _ R8.out).mono ?_;rintro e w10 ⟨v,x,rfl,⟨va,vt,rfl,o1,o2⟩,gx,q10,ec10,r10,k10,ad10⟩;obtain⟨aoA,mA,cA,rfl⟩:=aN o1;obtain⟨aoT,mT,cT,rfl⟩:=aN o2;have b11:=ah w10 (.cells (ak x (.slice aoA mA cA) (.slice aoT mT cT)).toArray 47);have V11:=(V8.out.kr k10 ha).below b11;obtain⟨cs,oR,hR⟩:=V11;have K11:=ae ((K8.out.trans k10).step b11);have R11:=ae (r10.below b11);have AD:Hid (Adv L q' 0 q10 ec10 1):=ae ⟨ad10.1,ad10.2.1,fun z=>⟨rfl,(ad10.2.2 z).2⟩⟩;have GX:=ae gx;have o1:=ae ((aT o1 hs8).alloc (.cells (ak x (.slice aoA mA cA) (.slice aoT mT cT)).toArray 47));have o2:=ae ((aT o2 hs8).alloc (.cells (ak x (.slice aoA mA cA) (.slice aoT mT cT)).toArray 47));have y:∀i u,(ak x (.slice aoA mA cA) (.slice aoT mT cT))[i]? =some u→(w10.alloc (.cells (ak x (.slice aoA mA cA) (.slice aoT mT cT)).toArray 47)).cell? ⟨w10.heap.size,i,none⟩=some u:=fun i u hu=>by
         have:=jG (w:=w10) (x:=x) (va:= .slice aoA mA cA) (vt:= .slice aoT mT cT) i u hu;rw [Addr.add_lit,Nat.zero_add] at this;exact this
        have y0:=y 0 _ rfl;have y1:=y 1 _ rfl;have y2:=y 2 _ rfl;have y3:=y 3 _ rfl;have y4:=y 4 _ rfl;have y5:=y 5 _ rfl;have y6:=y 6 _ rfl;have y7:=y 7 _ rfl;have oR:=ae oR;have hR:=ae hR;clear y V8 R8 K8 k10 r10 b11 ad10 gx;unfold ak;go_upto_region 13 with fail
        show Code.wp _ _ _ _ (w10.alloc (.cells (ak x (.slice aoA mA cA) (.slice aoT mT cT)).toArray 47));generalize w10.alloc (.cells (ak x (.slice aoA mA cA) (.slice aoT mT cT)).toArray 47)=W10 at *;have hs10:=K11.out.size;have t2:acc.length+1≤maxLen:=(by unfold maxLen;omega);have t3:(acc.length+1) * 104≤140737488355328:=(by omega);go_wp2_with (at_builtin;refine wpList_append_own _ rfl (.tmp 62) (.tmp 64) 45 rfl w.heap.size 47 i0 _ 8 104 Tryz.underlying45 hi0 hz0 hz1 hz2 rfl (by decide) _ _ _ rfl (oR.out.alloc _) ⟨W10.heap.size,0,none⟩ 1 1 (ak x (.slice aoA mA cA) (.slice aoT mT cT)) rfl rfl jG sI t2 t3 (by simp;omega) ?_;intro v11 w11 own11 grow11 _)
        have V11:=ae (ck.snoc oR.out hR.out o1.out o2.out own11 grow11);have K12:=ae ((K11.out.step (ah W10 _)).grown grow11 (fun q hq=>(oR.out.lt q hq).1));have R12:=ae ((R11.out.below (ah W10 _)).grown grow11 (oR.out.alloc _) (by decide) ha);have HG2:Hid (∀x'∈acc ++ [x],GI E x'):=ae (fun x' hx=>(List.mem_append.1 hx).elim (HG.out x') (fun h=>by rw [List.mem_singleton.1 h];exact GX.out));have hms:=ae (jU H5.out R12.out AD.out (by omega));have ad:=AD.out;unfold Adv at ad;have hl12:=R12.out.lim;clear own11 grow11;go_wp2_with fail
        go_roundw
        case rel=>exact⟨m+1,acc ++ [x],q10,ec10,V11.out,R12.out,K12.out,HG2,by omega,by omega,by simp;omega,fun e=>by simp;omega⟩
        case measure=>exact hms.out
    ·have he2:(ec' == 0)=false:=(by simpa using he);go_wp2_with fail
     go_ret;exact⟨_,acc,q',m,ec',rfl,hV.out,HG.out,by omega,H5.out,K5.out,by omega,by omega,fun e=>absurd e he⟩
end
def GF (E:Int) (f:Fun):Prop:=f.1.length≤65536∧f.2.1.length≤140000∧f.2.2.2.1.length≤140000∧(∀b∈f.2.2.2.1,∀x∈b,GI E x)∧0≤f.2.2.2.2∧f.2.2.2.2≤E
abbrev mX:Array Value:= #[.string ⟨#[]⟩,.slice none 0 0,.int .i64 0,.slice none 0 0,.int .i64 0]
def ew (w:World) (a c g:Nat) (L:List Tok) (E:Int) (q n:Nat) (ec:Int) (x:Fun) (wk:World):Prop:=
 RA a L E q n ec wk∧dJ w.heap.size c x wk∧wk.heap[g]? =some (.cells mX 36 (0,0))∧Kr a w wk∧(a < w.heap.size∧w.heap.size≤g∧g≠c)∧GF E x
section
variable {w:World} {a c g:Nat} {L:List Tok} {E:Int} {q n q' n':Nat} {ec ec':Int} {x y:Fun} {wk wk':World}
theorem ew.lt (h:ew w a c g L E q n ec x wk):a < w.heap.size∧w.heap.size≤g∧w.heap.size≤c∧c < wk.heap.size∧g < wk.heap.size∧g≠c∧w.heap.size≤wk.heap.size:=by
 obtain⟨h1,h2,h3,h4,⟨h5,h6,h7⟩,_⟩:=h;exact⟨h5,h6,h2.lt.2,h2.lt.1,(Array.getElem?_eq_some_iff.1 h3).1,h7,h4.size⟩
theorem ew.kr (h:ew w a c g L E q n ec x wk) (r:RA a L E q' n' ec' wk') (k:Kr a wk wk'):ew w a c g L E q' n' ec' x wk':=by
 have hl:=h.lt;obtain⟨h1,h2,h3,h4,h5,h6⟩:=h;exact⟨r,h2.stay (oX k h5.1) (k.2.2.2.2 c (by omega) (by omega)),(k.2.2.2.2 g (by omega) (by omega)).trans h3,h4.trans k,h5,h6⟩
theorem ew.below (h:ew w a c g L E q n ec x wk) (b:Below wk.heap.size wk wk'):ew w a c g L E q n ec x wk':=h.kr (h.1.below b) (Kr.bJ b)
theorem ew.ran {d:Nat} (h:ew w a c g L E q n ec x wk) (r:Ran a L E n q ec d wk wk'):∃q' ec',ew w a c g L E q' n ec' x wk'∧Adv L q ec q' ec' d:=by
 obtain⟨q',ec',r1,k,ad⟩:=r;exact⟨q',ec',h.kr r1 k,ad⟩
theorem ew.vr (h:ew w a c g L E q n ec x wk) (h1:q≤L.length+2) (h2:ec=0→q < L.length):ew w a c g L E (q+1) n ec x (wk.setCell ⟨a,1,none⟩ (.int .i64 ((q:Int)+1))):=h.kr (h.1.vr h1 h2) ((Kr.refl a wk).set _)
theorem ew.put {i:Nat} {v:Value} (h:ew w a c g L E q n ec x wk) (hy:dJ w.heap.size c y (wk.setCell ⟨c,i,none⟩ v)) (gy:GF E y):ew w a c g L E q n ec y (wk.setCell ⟨c,i,none⟩ v):=by
 have hl:=h.lt;obtain⟨h1,h2,h3,h4,h5,h6⟩:=h;obtain⟨cs,hc⟩:∃cs,wk.heap[c]? =some (.cells cs 36 (0,0)):=by obtain⟨va,vt,k1,_⟩:=h2;exact⟨_,k1⟩
 exact⟨h1.set hc (by decide) (by omega) i v,hy,(Below.heap_setCell _ _ _ _ (fun e=>h5.2.2 e)).trans h3,py h4 (by omega),h5,gy⟩
theorem ew.grow {w3:World} {row:Value} {e' s' m i:Nat} {ys:List Value} {v:Value} (h:ew w a c g L E q n ec x wk) (hg:wk.grownBy w3 row.ownBlock) (hr:wk.ownsRow w.heap.size e' s' row m ys) (he:95≠e'∧36≠e') (hy:dJ w.heap.size c y (w3.setCell ⟨c,i,none⟩ v)) (gy:GF E y):ew w a c g L E q n ec y (w3.setCell ⟨c,i,none⟩ v):=by
 have hl:=h.lt;obtain⟨h1,h2,h3,h4,h5,h6⟩:=h;obtain⟨cs,hc⟩:∃cs,wk.heap[c]? =some (.cells cs 36 (0,0)):=by obtain⟨va,vt,k1,_⟩:=h2;exact⟨_,k1⟩
 have hc3:=(hg.block c (by omega) (fun e=>aU hr hc he.2 e.symm)).trans hc;exact⟨(h1.grown hg hr he.1 h5.1).set hc3 (by decide) (by omega) i v,hy,(Below.heap_setCell _ _ _ _ (fun e=>h5.2.2 e)).trans ((hg.block g (by omega) (fun e=>aU hr h3 he.2 e.symm)).trans h3),py (h4.grown hg fun q hq=>(hr.lt q hq).1) (by omega),h5,gy⟩
end
section
variable {a:Nat} {L:List Tok} {E:Int} {q n:Nat}
theorem ew.start {w:World} {ec:Int} (h:RA a L E q n ec w) (p:Int) (hp:0≤p∧p≤E) {W0 W1:World} (hW0:W0=w.alloc (.cells mX 36)) (hW1:Below W0.heap.size W0 W1):
  ew w a W1.heap.size w.heap.size L E q n ec ([],[],0,[],p) (W1.alloc (.cells #[.string ⟨#[]⟩,.slice none 0 0,.int .i64 0,.slice none 0 0,.int .i64 p] 36)):=by
 subst hW0;have b1:=ah w (.cells mX 36);have b3:=ah W1 (.cells #[.string ⟨#[]⟩,.slice none 0 0,.int .i64 0,.slice none 0 0,.int .i64 p] 36);have s1:(w.alloc (.cells mX 36)).heap.size=w.heap.size+1:=by simp
 have hz:=hW1.size;refine⟨((h.below b1).below hW1).below b3,dJ.new (by omega) p,?_,Kr.bJ (af (af b1 hW1) b3),⟨h.lt,Nat.le_refl _,by omega⟩,by simp,by simp,by simp,by simp,hp⟩;exact(b3.block w.heap.size (by omega)).trans ((hW1.block w.heap.size (by omega)).trans (heap_alloc_new w _))
theorem mi {q' n':Nat} {ec':Int} {w w':World} (h:RA a L E q n 0 w) (h':RA a L E q' n' ec' w') (hz:ec'=0→q+1≤q'):YtljkgcfnoegibaaGreatDoor.left a L.length w' < YtljkgcfnoegibaaGreatDoor.left a L.length w:=by
 rw [h.left,h'.left,if_pos rfl];have h1:=(h.lim.2.2.2.2 rfl).2;split
 ·rename_i hc;have:=hz hc;have:=(h'.lim.2.2.2.2 hc).2;omega
 ·omega
theorem Av {s:List UInt8} (h:0≤G.kind s):s≠ []:=fun e=>by subst e;simp [G.kind] at h
theorem Bk (w:World) (h:RA a L E q n 0 w) (hq:q < L.length):
  Calls Tryz.prog 36 #[.pointer (some ⟨a,0,none⟩)] w fun e w'=>∃v y q' n' ec',e= .returned v∧DS w.heap.size y v w'∧GF E y∧RA a L E q' n' ec' w'∧Kr a w w'∧q≤q'∧(ec'=0→q+1≤q'):=by
 obtain⟨i0,hi0,hz0,hz1,hz2⟩:=info_parts Tryz.cr;obtain⟨j0,hj0,hy0,hy1,hy2⟩:=info_parts Tryz.DK;have hb0:=ah w (.cells mX 36);obtain⟨gg,cap,pp,c0,c1,ch,hpp⟩:=(h.below hb0).here hq;have haW:a < (w.alloc (.cells mX 36)).heap.size:=World.block_lt_of_cell? _ _ c0;have hgW:gg < (w.alloc (.cells mX 36)).heap.size:=World.block_lt_of_cell? _ _ ch;have hLL:=h.lim.1.1;have H:=ae h;have HP:=ae hpp;have hq1:(q:Int) < (L.length:Int):=by omega
 clear h hb0 hpp;go_enter Tryz.func36,Tryz.ntmps36
 go_upto_region 1 with fail
 show Code.wp _ _ _ _ (w.alloc (.cells mX 36));generalize hW0:w.alloc (.cells mX 36)=W0 at *;have HW0:=ae hW0.symm;clear hW0;go_region
 have M0:=ae ((ew.start H.out pp HP.out HW0.out (Below.refl _ _)).below (qV _));clear H HW0 c0 c1 ch hq1 haW hgW;generalize (W0.alloc (.cells #[.string ⟨#[]⟩,.slice none 0 0,.int .i64 0,.slice none 0 0,.int .i64 pp] 36)).drew=W1 at *;generalize W0.heap.size=c at *;go_wp2_with fail
 refine(qd [102,117,110,99] _ M0.out.1 (by simp)).mono ?_;rintro e w1 ⟨rfl,a1⟩;obtain⟨q1,ec1,m1,ad1⟩:=M0.out.ran a1;have M1:=ae m1;have AD1:=ae ad1;clear M0 a1 m1 ad1;go_wp2_with fail
 refine(IA _ M1.out.1).mono ?_;rintro e w2 ⟨⟨s,rfl,hsl⟩,a2⟩;obtain⟨q2,ec2,m2,ad2⟩:=M1.out.ran a2;have M2:=ae m2;have AD2:=ae (AD1.out.trans ad2);have HSL:=ae hsl;clear M1 a2 m2 ad2 AD1 hsl;obtain⟨vp,vb,HC,HZ,_,_⟩:=M2.out.2.1.cells;have x0:=HC 0 _ rfl;have z0:=HZ 0;clear HC HZ;go_upto_region 4 with fail
 show Code.wp _ _ _ _ (w2.setCell ⟨c,0,none⟩ (.string (bs s)));have M3:Hid (ew w a c w.heap.size L E q2 n ec2 (s,[],0,[],pp) (w2.setCell ⟨c,0,none⟩ (.string (bs s)))):=ae (M2.out.put (M2.out.2.1.name s) ⟨HSL.out,by simp,by simp,by simp,HP.out⟩);clear M2 x0 z0;generalize w2.setCell ⟨c,0,none⟩ (.string (bs s))=W2 at *;go_wp2_with fail
 refine(qd [40] _ M3.out.1 (by simp)).mono ?_;rintro e w3 ⟨rfl,a3⟩;obtain⟨q3,ec3,m3,ad3⟩:=M3.out.ran a3;have M4:=ae m3;have AD4:=ae (AD2.out.trans ad3);clear M3 a3 m3 ad3 AD2;go_wp2_with fail
 go_loopw [] (fun wr=>∃(acc:List Int) (q':Nat) (ec':Int),Hid (ew w a c w.heap.size L E q' n ec' (s,acc,0,[],pp) wr)∧acc.length≤9∧(ec'=0→acc.length≤8)∧q≤q'∧q'≤L.length+1∧(ec'=0→q+1≤q')) (fun wr=>left a L.length wr)
 case atStart=>
  have ad:=AD4.out;exact⟨[],q3,ec3,M4,by simp,fun _=>by simp,ad.1,by have:=ad.2.1;omega,fun e=>by have:=(ad.2.2 e).2;omega⟩
 case round=>
  obtain⟨acc,q',ec',M,h9,h8,hqa,hqb,hqc⟩:=hrel;have hlm:=M.out.1.lim;have c4:=M.out.1.at1.2.2.1;by_cases he:ec'=0
  case' pos=>
   subst he;have h8':=h8 rfl;have hqc':=hqc rfl;have hlz:=(hlm.2.2.2.2 rfl).2;have MM:=M;go_wp2_with fail
   refine(fS 0 _ M.out.1 (by omega)).mono ?_;rintro e w5 ⟨⟨t0,rfl,_,_⟩,b5⟩;have M5:=ae (M.out.below b5);clear M b5 c4;by_cases h1:((bs t0).toList == [41])=true
   case neg=>
    replace h1:((bs t0).toList == [41])=false:=(by simpa using h1);have h2:((bs t0).toList != [41])=true:=(by rw [bne,h1];rfl);go_wp2_with fail
    refine(fS 0 _ M5.out.1 (by omega)).mono ?_;rintro e w6 ⟨⟨s2,rfl,_,hs2⟩,b6⟩;go_wp2_with fail
    refine(As s2 _).mono ?_;rintro e w7 ⟨rfl,b7⟩;have HS2:=ae hs2;have HKN:=ae (Av (s:=s2));have M7:=ae ((M5.out.below b6).below b7);generalize G.kind s2=t1 at *;clear M5 b6 b7 h1 h2 hs2;by_cases ht:t1 < 1
    case' pos=>
     have g1:decide (t1 < 1)=true:=(by simpa using ht);go_wp2_with fail
     refine(gE 9 (by omega) _ M7.out.1).mono ?_;rintro e w8 ⟨rfl,⟨ec8,he8,r8⟩,k8⟩;obtain⟨ec8,M8,HQ8⟩:∃ec8,Hid (ew w a c w.heap.size L E q' n ec8 (s,acc,0,[],pp) w8)∧Hid (ec8=0→q' < L.length):=⟨ec8,ae (M7.out.kr r8 k8),ae (fun e=>absurd e he8)⟩;clear M7 r8 k8 g1 ht;generalize w8=W8 at *
    case' neg=>
     have g1:decide (t1 < 1)=false:=(by simpa using ht);obtain⟨ec8,M8,HQ8⟩:∃ec8,Hid (ew w a c w.heap.size L E q' n ec8 (s,acc,0,[],pp) w7)∧Hid (ec8=0→q' < L.length):=⟨0,M7,ae (fun _=>(HS2.out (HKN.out (by omega))).2)⟩;clear M7;generalize w7=W8 at *
    all_goals
     obtain⟨vp,vb,hc6,hp6,hB6,hBc⟩:=M8.out.2.1;obtain⟨aoP,cP,rfl⟩:=aL hp6;have x1:W8.cell? ⟨c,1,none⟩=some (.slice aoP acc.length cP):=(by simp [World.cell?,hc6,aA]);clear hc6 hp6 hB6 hBc;by_cases hl8:8≤acc.length
     case' pos=>
      have g3:decide ((8:Int)≤(acc.length:Int))=true:=(by simp;omega);have g4:(8:Int)≤(acc.length:Int):=(by omega);go_wp2_with fail
      refine(gE 6 (by omega) _ M8.out.1).mono ?_;rintro e w9 ⟨rfl,⟨ec9,he9,r9⟩,k9⟩;obtain⟨ec9,M9,HQ9⟩:∃ec9,Hid (ew w a c w.heap.size L E q' n ec9 (s,acc,0,[],pp) w9)∧Hid (ec9=0→q' < L.length∧acc.length < 8):=⟨ec9,ae (M8.out.kr r9 k9),ae (fun e=>absurd e he9)⟩;clear M8 r9 k9 g3 g4 x1;generalize w9=W9 at *
     case' neg=>
      have g3:decide ((8:Int)≤(acc.length:Int))=false:=(by simp;omega);have g4:¬(8:Int)≤(acc.length:Int):=(by omega);obtain⟨ec9,M9,HQ9⟩:∃ec9,Hid (ew w a c w.heap.size L E q' n ec9 (s,acc,0,[],pp) W8)∧Hid (ec9=0→q' < L.length∧acc.length < 8):=⟨ec8,M8,ae (fun e=>⟨HQ8.out e,by omega⟩)⟩;clear M8;clear x1;generalize W8=W9 at *
     all_goals
      have hs7:=M9.out.lt;obtain⟨vp,vb,hc6,hp6,hB6,hBc⟩:=M9.out.2.1;obtain⟨aoP,cP,rfl⟩:=aL hp6;have x1:W9.cell? ⟨c,1,none⟩=some (.slice aoP acc.length cP):=(by simp [World.cell?,hc6,aA]);have z1:W9.frozen? ⟨c,1,none⟩=false:=(by simp [World.frozen?,hc6]);have hne3:(Value.slice aoP acc.length cP).ownBlock≠some c:=aU hp6 hc6 (by decide);obtain⟨x1a,z1a⟩:=Cel.below (ah W9 (.cells #[.int .i64 t1] 3)) hs7.2.2.2.1 x1 z1;have M10:=ae (M9.out.below (ah W9 (.cells #[.int .i64 t1] 3)));have hc7:=ae ((heap_alloc_old W9 (.cells #[.int .i64 t1] 3) (Array.getElem?_eq_some_iff.1 hc6).1).trans hc6);have hp7:=ae (hp6.alloc (.cells #[.int .i64 t1] 3));have hB7:=ae (hB6.stay (gh (ah W9 (.cells #[.int .i64 t1] 3))));clear hc6 hp6 hB6;have t2:acc.length+1≤maxLen:=(by unfold maxLen;omega);have t3:(acc.length+1) * 8≤140737488355328:=(by omega);have t4:w.heap.size≤(W9.alloc (.cells #[.int .i64 t1] 3)).heap.size:=(by simp;omega);have t5:c < (W9.alloc (.cells #[.int .i64 t1] 3)).heap.size:=(by simp;omega);go_upto_region 12 with (at_builtin;refine wpList_append_lies _ rfl (.tmp 50) (.tmp 52) 33 rfl w.heap.size 3 i0 _ 1 8 Tryz.underlying33 hi0 hz0 hz1 hz2 rfl (by decide) _ _ _ rfl hp7.out ⟨W9.heap.size,0,none⟩ 1 1 [.int .i64 t1] rfl rfl aM bt (by decide) t2 t3 t4 (W9.heap.size+1) (by simp) ?_;intro gg2 cap2 w10 hown hgrow hat hlt;obtain⟨x1b,z1b⟩:=Cel.grown hgrow t5 hne3 x1a z1a)
      show Code.wp _ _ _ _ (w10.setCell ⟨c,1,none⟩ (.slice (some ⟨gg2,0,none⟩) (acc.length+1) cap2));have M11:=ae (M10.out.grow hgrow hp7.out (by decide) (rY hc7.out hp7.out hB7.out hBc hown hgrow) ⟨M10.out.2.2.2.2.2.1,by simp;omega,by simp,by simp,HP.out⟩);clear M9 M10 hown hgrow hat hlt x1b z1b x1 z1 x1a z1a hc7 hp7 hB7 t2 t3 t4 t5;generalize w10.setCell ⟨c,1,none⟩ (.slice (some ⟨gg2,0,none⟩) (acc.length+1) cap2)=W10 at *;obtain⟨c1,z1,c4,hq9⟩:=M11.out.1.at1;have M12:=ae (M11.out.vr (by omega) (fun e=>(HQ9.out e).1));have hms:=ae (mi MM.out.1 M12.out.1 (fun _=>Nat.le_refl _));have HQ8':=HQ9.out;clear c4 M11;go_wp2_with fail
      go_roundw
      case rel=>exact⟨acc ++ [t1],q'+1,ec9,M12,by simp;omega,fun e=>by have:=HQ8' e;simp;omega,by omega,by omega,fun e=>by omega⟩
      case measure=>exact hms.out
   have h2:((bs t0).toList != [41])=false:=(by rw [bne,h1];rfl);obtain⟨ec6,M6,hq6⟩:∃ec6,Hid (ew w a c w.heap.size L E q' n ec6 (s,acc,0,[],pp) w5)∧(ec6=0→q+1≤q'):=⟨0,M5,fun _=>hqc'⟩;clear M5 MM;go_wp2_with fail
   clear h1 h2
  case' neg=>
   have he2:(ec' == 0)=false:=(by simpa using he);obtain⟨ec6,M6,hq6⟩:∃ec6,Hid (ew w a c w.heap.size L E q' n ec6 (s,acc,0,[],pp) wr)∧(ec6=0→q+1≤q'):=⟨ec',M,hqc⟩;clear M;go_wp2_with fail
   clear he he2 c4
  all_goals
   refine(qd [41] _ M6.out.1 (by simp)).mono ?_;rintro e w6 ⟨rfl,a6⟩;obtain⟨q7,ec7,m7,ad7⟩:=M6.out.ran a6;have M7:=ae m7;obtain⟨ad7a,ad7b,ad7c⟩:=ad7;clear M6 a6 m7;go_wp2_with fail
   refine(fS 0 _ M7.out.1 (by omega)).mono ?_;rintro e w7 ⟨⟨s2,rfl,_,hs2⟩,b7⟩;go_wp2_with fail
   refine(As s2 _).mono ?_;rintro e w8 ⟨rfl,b8⟩;have HS2:Hid (0≤G.kind s2→q7 < L.length):=ae (fun e=>(hs2 (Av e)).2);have M8:=ae ((M7.out.below b7).below b8);generalize G.kind s2=t at *;clear M7 b7 b8 hs2;obtain⟨vp,vb,HC,HZ,_,_⟩:=M8.out.2.1.cells;have x2:=HC 2 _ rfl;have z2:=HZ 2;clear HC HZ;go_upto_region 15 with fail
   show Code.wp _ _ _ _ (w8.setCell ⟨c,2,none⟩ (.int .i64 t));have M9:Hid (ew w a c w.heap.size L E q7 n ec7 (s,acc,t,[],pp) (w8.setCell ⟨c,2,none⟩ (.int .i64 t))):=ae (M8.out.put (M8.out.2.1.ret t) M8.out.2.2.2.2.2);clear M8 x2 z2;generalize w8.setCell ⟨c,2,none⟩ (.int .i64 t)=W9 at *;obtain⟨vp,vb,HC,HZ,_,_⟩:=M9.out.2.1.cells;have x2:W9.cell? ⟨c,2,none⟩=some (.int .i64 t):=HC 2 _ rfl;clear HC HZ;by_cases ht:t < 0
   case' pos=>
    have g1:decide (t < 0)=true:=(by simpa using ht);go_wp2_with fail
    refine(gE 9 (by omega) _ M9.out.1).mono ?_;rintro e w10 ⟨rfl,⟨ec8,he8,r8⟩,k8⟩;have M10:=ae (M9.out.kr r8 k8);obtain⟨c1,z1,_,_⟩:=M10.out.1.at1;obtain⟨ec11,M11,hq11⟩:∃ec11,Hid (ew w a c w.heap.size L E (q7+1) n ec11 (s,acc,t,[],pp) (w10.setCell ⟨a,1,none⟩ (.int .i64 ((q7:Int)+1))))∧(ec11=0→ec7=0):=⟨ec8,ae (M10.out.vr (by omega) (fun e=>absurd e he8)),fun e=>absurd e he8⟩;clear M9 M10 r8 k8 x2;go_upto_region 18 with fail
    show Code.wp _ _ _ _ (w10.setCell ⟨a,1,none⟩ (.int .i64 ((q7:Int)+1)));clear c1 z1 g1;generalize w10.setCell ⟨a,1,none⟩ (.int .i64 ((q7:Int)+1))=W11 at *
   case' neg=>
    have g1:decide (t < 0)=false:=(by simpa using ht);obtain⟨c1,z1,_,_⟩:=M9.out.1.at1;obtain⟨ec11,M11,hq11⟩:∃ec11,Hid (ew w a c w.heap.size L E (q7+1) n ec11 (s,acc,t,[],pp) (W9.setCell ⟨a,1,none⟩ (.int .i64 ((q7:Int)+1))))∧(ec11=0→ec7=0):=⟨ec7,ae (M9.out.vr (by omega) (fun _=>HS2.out (by omega))),fun e=>e⟩;clear M9;go_upto_region 18 with fail
    show Code.wp _ _ _ _ (W9.setCell ⟨a,1,none⟩ (.int .i64 ((q7:Int)+1)));clear c1 z1 g1 x2;generalize W9.setCell ⟨a,1,none⟩ (.int .i64 ((q7:Int)+1))=W11 at *
   all_goals
    go_wp2_with fail
    refine(qd [123] _ M11.out.1 (by simp)).mono ?_;rintro e w12 ⟨rfl,a12⟩;obtain⟨q12,ec12,m12,ad12a,ad12b,ad12c⟩:=M11.out.ran a12;have M12:=ae m12;clear M11 a12 m12;go_wp2_with fail
    go_loopw [] (fun wr=>∃(m:Nat) (bb:List (List Ins)) (q':Nat) (ec':Int),Hid (ew w a c w.heap.size L E q' m ec' (s,acc,t,bb,pp) wr)∧bb.length≤L.length+2∧(ec'=0→bb.length≤q')∧q≤q'∧(ec'=0→q+1≤q')) (fun wr=>left a L.length wr)
    case atStart=>exact⟨n,[],q12,ec12,M12,by simp,fun _=>by simp,by omega,fun e=>by omega⟩
    case round=>
     obtain⟨m,bb,q2',ec2',M13,hbl,hbe,hqd,hqe⟩:=hrel;have hlm2:=M13.out.1.lim;have c42:=M13.out.1.at1.2.2.1;by_cases he2:ec2'=0
     case' pos=>
      subst he2;have hbe':=hbe rfl;have hqe':=hqe rfl;have hlz2:=(hlm2.2.2.2.2 rfl).2;have MM2:=M13;go_wp2_with fail
      refine(fS 0 _ M13.out.1 (by omega)).mono ?_;rintro e w14 ⟨⟨t3,rfl,_,_⟩,b14⟩;have M14:=ae (M13.out.below b14);clear M13 b14 c42;by_cases h3:((bs t3).toList == [125])=true
      case neg=>
       replace h3:((bs t3).toList == [125])=false:=(by simpa using h3);have h4:((bs t3).toList != [125])=true:=(by rw [bne,h3];rfl);obtain⟨vp,vb,hc6,hp6,⟨vs,oB6,hR6⟩,hBc⟩:=M14.out.2.1;obtain⟨aoB,cB,rfl⟩:=aL oB6;have x3:w14.cell? ⟨c,3,none⟩=some (.slice aoB bb.length cB):=(by simp [World.cell?,hc6,aA]);clear hc6 hp6 oB6 hR6;go_wp2_with fail
       refine(Jy bb.length (by omega) _ M14.out.1).mono ?_;rintro e w15 ⟨v15,b,q15,m15,ec15,rfl,hV15,hG15,hz15,r15,k15,hqf,hqg,hqh⟩;have hs13:=M14.out.lt;have M15:=ae (M14.out.kr r15 k15);have V15:=ae (hV15.base hs13.2.2.2.2.2.2);have HG15:=ae hG15;obtain⟨ao15,cp15,rfl⟩:=aL hV15.choose_spec.1;clear M14 r15 k15 hV15 x3 h3 h4 hG15;have hs15:=M15.out.lt;obtain⟨vp,vb,hc6,hp6,⟨vs,oB6,hR6⟩,hBc⟩:=M15.out.2.1;obtain⟨aoB,cB,rfl⟩:=aL oB6;have x3:w15.cell? ⟨c,3,none⟩=some (.slice aoB bb.length cB):=(by simp [World.cell?,hc6,aA]);have z3:w15.frozen? ⟨c,3,none⟩=false:=(by simp [World.frozen?,hc6]);have hne3:(Value.slice aoB bb.length cB).ownBlock≠some c:=aU oB6 hc6 (by decide);obtain⟨x3a,z3a⟩:=Cel.below (ah w15 (.cells #[.slice ao15 b.length cp15] 45)) hs15.2.2.2.1 x3 z3;have M16:=ae (M15.out.below (ah w15 (.cells #[.slice ao15 b.length cp15] 45)));have hc7:=ae ((heap_alloc_old w15 (.cells #[.slice ao15 b.length cp15] 45) (Array.getElem?_eq_some_iff.1 hc6).1).trans hc6);have hp7:=ae (hp6.alloc (.cells #[.slice ao15 b.length cp15] 45));have oB7:=ae (oB6.alloc (.cells #[.slice ao15 b.length cp15] 45));have hR7:=ae (kq.kX (fun _ _ h=>h.below (ah w15 (.cells #[.slice ao15 b.length cp15] 45))) _ _ hR6);have V16:=ae (V15.out.below (ah w15 (.cells #[.slice ao15 b.length cp15] 45)));clear hc6 hp6 oB6 hR6;have t2:bb.length+1≤maxLen:=(by unfold maxLen;omega);have t3:(bb.length+1) * 24≤140737488355328:=(by omega);have t4:w.heap.size≤(w15.alloc (.cells #[.slice ao15 b.length cp15] 45)).heap.size:=(by simp;omega);have t5:c < (w15.alloc (.cells #[.slice ao15 b.length cp15] 45)).heap.size:=(by simp;omega);go_wp2_with (at_builtin;refine wpList_append_lies _ rfl (.tmp 101) (.tmp 103) 34 rfl w.heap.size 45 j0 _ 1 24 Tryz.underlying34 hj0 hy0 hy1 hy2 rfl (by decide) _ _ _ rfl oB7.out ⟨w15.heap.size,0,none⟩ 1 1 [.slice ao15 b.length cp15] rfl rfl aM sd (by decide) t2 t3 t4 (w15.heap.size+1) (by simp) ?_;intro gg2 cap2 w17 hown hgrow hat hlt;obtain⟨x3b,z3b⟩:=Cel.grown hgrow t5 hne3 x3a z3a)
       have M17:=ae (M16.out.grow hgrow oB7.out (by decide) (pL hc7.out hp7.out oB7.out hR7.out V16.out hBc hown hgrow) (by
        obtain⟨k1,k2,k3,k4,k5⟩:=M16.out.2.2.2.2.2;have hbn:(bb ++ [b]).length=bb.length+1:=(by simp);refine⟨k1,k2,by show(bb ++ [b]).length≤140000;omega,fun b' hb'=>(List.mem_append.1 hb').elim (k4 b') (fun h=>by rw [List.mem_singleton.1 h];exact HG15.out),k5⟩))
       have hl17:=M17.out.1.lim;have hms:=ae (mi MM2.out.1 M17.out.1 hqh);go_roundw
       case rel=>exact⟨m15,bb ++ [b],q15,ec15,M17,by simp;omega,fun e=>by have:=hqh e;simp;omega,by omega,fun e=>by have:=hqh e;omega⟩
       case measure=>exact hms.out
      have h4:((bs t3).toList != [125])=false:=(by rw [bne,h3];rfl);obtain⟨ec18,M18,hq18⟩:∃ec18,Hid (ew w a c w.heap.size L E q2' m ec18 (s,acc,t,bb,pp) w14)∧(ec18=0→q+1≤q2'):=⟨0,M14,fun _=>hqe'⟩;clear M14 MM2;go_wp2_with fail
      clear h3 h4
     case' neg=>
      have he3:(ec2' == 0)=false:=(by simpa using he2);obtain⟨ec18,M18,hq18⟩:∃ec18,Hid (ew w a c w.heap.size L E q2' m ec18 (s,acc,t,bb,pp) wr)∧(ec18=0→q+1≤q2'):=⟨ec2',M13,hqe⟩;clear M13;go_wp2_with fail
      clear he2 he3 c42
     all_goals
      refine(qd [125] _ M18.out.1 (by simp)).mono ?_;rintro e w19 ⟨rfl,a19⟩;obtain⟨q19,ec19,m19,ad19a,ad19b,ad19c⟩:=M18.out.ran a19;have M19:=ae m19;clear M18 a19 m19;obtain⟨vp,vb,HC,HZ,o1,o2⟩:=M19.out.2.1.cells;have y0:=HC 0 _ rfl;have y1:=HC 1 _ rfl;have y2:=HC 2 _ rfl;have y3:=HC 3 _ rfl;have y4:=HC 4 _ rfl;obtain⟨aoA,mA,cA,rfl⟩:=aN o1;obtain⟨aoT,mT,cT,rfl⟩:=aN o2.choose_spec.1;have hS:=ae M19.out.2.2.1;obtain⟨s0,s1,s2,s3,s4,f0,f1,f2,f3,f4⟩:=LA hS.out;have hlt:=M19.out.lt;have hcn:c≠w.heap.size:=fun e=>M19.out.2.2.2.2.1.2.2 e.symm;have FF:=ae ((((((Far.refl w.heap.size w19).set 0 (.string (bs s))).set 1 (.slice aoA mA cA)).set 2 (.int .i64 t)).set 3 (.slice aoT mT cT)).set 4 (.int .i64 pp));have KK:=ae (FF.out.kr M19.out.2.2.2.1 (Nat.le_refl _));have QQ:=ae (FF.out.ra M19.out.1 hS.out (by decide) (by omega));have SS:=eF (B:=w.heap.size) FF.out hS.out (by decide);have OO:=ae (SS _ _ _ _ _ (by simp) o1);have OB:=ae (o2.stay SS);have GG:=ae M19.out.2.2.2.2.2;clear HC HZ o1 o2 SS;go_wp2_with fail
      exact bodyPost_ret (v:= .agg (aA (s,acc,t,bb,pp) (.slice aoA mA cA) (.slice aoT mT cT)).toArray) (by simp [results,Tryz.results36,go_sem,aA,s0,s1,s2,s3,s4]) rfl ⟨_,_,q19,m,ec19,rfl,⟨_,_,rfl,OO.out,OB.out⟩,GG.out,QQ.out,KK.out,by omega,fun e=>by have:=ad19c e;have:=hq18 this.1;omega⟩
end
theorem Jr {s:ByteArray} {us:List (Nat × Nat)} (hs:s.size≤65536) (hl:us.length≤s.size) (h:∀x∈us,x.1≤s.size):(ko s us).length≤131072∧∀t∈ko s us,t.1.length≤65536∧0≤t.2∧t.2≤(s.size:Int):=by
 refine⟨by simp [ko];omega,fun t ht=> ?_⟩;obtain⟨x,hx,rfl⟩:=List.mem_map.1 ht;have h1:=h x hx;have h2:(s.extract x.1 x.2).size≤s.size:=by rw [ByteArray.size_extract];omega
 refine⟨?_,by simp,by simp;omega⟩;show(s.extract x.1 x.2).data.toList.length≤65536;have:(s.extract x.1 x.2).data.toList.length=(s.extract x.1 x.2).size:=by simp;omega
 omega
theorem qK {us:List (Nat × Nat)} {n p r:Nat} (h:∀x∈us,x.1≤n) (hp:p≤n):∀x∈us ++ [(p,r)],x.1≤n:=fun x hx=>(List.mem_append.1 hx).elim (h x) (fun e=>by rw [List.mem_singleton.1 e];exact hp)
def LL (s:ByteArray) (w:World) (e:Ending) (w':World):Prop:=
 ((∃p,e= .returned (.tuple #[.slice none 0 0,.agg #[.int .i64 1,.int .i64 p]]))∨∃(v:Value) (L:List Tok),e= .returned (.tuple #[v,.agg #[.int .i64 0,.int .i64 0]])∧w'.ownsRow w.heap.size 95 2 v L.length (cellsK L)∧(L.length≤131072∧∀t∈L,t.1.length≤65536∧0≤t.2∧t.2≤(s.size:Int)))∧Below w.heap.size w w'
theorem Kh (s:ByteArray) (hs:s.size≤65536) (w:World):Calls Tryz.prog 34 #[.string s] w (LL s w):=by
 obtain⟨i0,hi,hz0,hz1,hz2⟩:=info_parts L2.Tryz.FL;have hs1:¬(65536:Int) < (s.size:Int):=by omega
 have hs2:decide ((65536:Int) < (s.size:Int))=false:=by simpa using hs1
 have S0:Hid (SpR w s (.slice none 0 0) [] (w.alloc (.cells #[.int .i64 0,.int .i64 0] 29))):=ae ⟨World.ownsRow_nil _ _ _ _,heap_alloc_new w _,ah w _,by simp⟩;go_enter Tryz.func34,Tryz.ntmps34
 go_upto_region 1 with fail
 show Code.wp _ _ _ _ (w.alloc (.cells #[.int .i64 0,.int .i64 0] 29));generalize w.alloc (.cells #[.int .i64 0,.int .i64 0] 29)=W0 at *;go_wp2_with fail
 go_loopw [4,5] (fun v i wr=>∃(p:Nat) (us:List (Nat × Nat)),p≤s.size∧i= .int .i64 p∧us.length≤p∧Hid (SpR w s v us wr)∧Hid (∀x∈us,x.1≤s.size)) (fun _ i _=>s.size - (intOf i).toNat)
 case atStart=>exact⟨0,[],Nat.zero_le _,rfl,by simp,S0,ae (by simp)⟩
 case round=>
  obtain⟨p,us,hp,rfl,hus,S,HU⟩:=hrel;by_cases hlt:p < s.size
  ·have hlt':(p:Int) < (s.size:Int):=(by omega);obtain⟨d,hd⟩:∃d,d=s[p]:=⟨_,rfl⟩;have hd1:(s[p].toNat:Int)=(d.toNat:Int):=(by rw [hd]);clear hd;obtain⟨ao,cp,rfl⟩:=aL S.out.1;go_wp2_with fail
   refine(rin d [32,9,10,13] _ (by simp)).mono ?_;rintro e w1 ⟨rfl,hw1⟩;rw [hw1];clear hw1
   cases hb:inB [32,9,10,13] d with
   |true=>
    clear hb;go_wp2_with fail
    go_roundw
    case rel=>exact⟨p+1,us,by omega,by go_num,by omega,S,HU⟩
    case measure=>simp [intOf];omega
   |false=>
    clear hb
    cases hn35:((d.toNat:Int) == 35)with
    |true=>
     have hd35:(d.toNat:Int)=35:=(by simpa using hn35);go_wp2_with fail
     go_loopw [5] (fun j wr2=>∃r:Nat,p≤r∧r≤s.size∧j= .int .i64 r∧Hid (SpR w s (.slice ao us.length cp) us wr2)) (fun j _=>s.size - (intOf j).toNat)
     case atStart=>exact⟨p,Nat.le_refl _,by omega,rfl,S⟩
     case round=>
      obtain⟨r,hpr,hrs,rfl,S2⟩:=hrel;by_cases hr:r < s.size
      ·have hr':(r:Int) < (s.size:Int):=by omega
       cases h10:((s[r].toNat:Int) == 10)with
       |true=>
        have h11:((s[r].toNat:Int) != 10)=false:=(by rw [bne,h10];rfl);have h12:(s[r].toNat:Int)=10:=(by simpa using h10);have hne:p < r:=by
         refine Classical.byContradiction fun hc=> ?_;obtain rfl:r=p:=(by omega);rw [hd1,hd35] at h12;omega
        clear h12 hd1 hd35 hn35;go_wp2_with fail
        go_roundw
        case rel=>exact⟨r,us,by omega,rfl,by omega,S2,HU⟩
        case measure=>simp [intOf];omega
       |false=>
        have h11:((s[r].toNat:Int) != 10)=true:=(by rw [bne,h10];rfl);go_wp2_with fail
        go_roundw
        case rel=>exact⟨r+1,by omega,by omega,by go_num,S2⟩
        case measure=>simp [intOf];omega
      ·have hr':¬(r:Int) < (s.size:Int):=(by omega);have hr2:decide ((r:Int) < (s.size:Int))=false:=(by simpa using hr');go_wp2_with fail
       go_roundw
       case rel=>exact⟨r,us,by omega,rfl,by omega,S2,HU⟩
       case measure=>simp [intOf];omega
    |false=>
     go_wp2_with fail
     refine(rin d [40,41,123,125,61,58] _ (by simp)).mono ?_;rintro e w1 ⟨rfl,hw1⟩;rw [hw1];clear hw1
     cases ha:inB [40,41,123,125,61,58] d with
     |true=>
      have OS:=ae S.out.1;have hsw:=S.out.2.2.2;have t2:us.length+1≤maxLen:=(by unfold maxLen;omega);have t3:(us.length+1) * 24≤140737488355328:=(by omega);clear ha;go_wp2_with (at_builtin;refine wpList_append_own _ rfl (.tmp 39) (.tmp 47) 65 rfl (w.heap.size+1) 95 i0 _ 2 24 Tryz.underlying65 hi hz0 hz1 hz2 rfl (by decide) _ _ _ rfl (OS.out.alloc _) ⟨wr.heap.size,0,none⟩ 1 1 [.string (s.extract p (p+1)),.int .i64 p] rfl rfl L2.gV L2.lL t2 t3 (by simp;omega) ?_;intro v2 w2 own2 grow2 _)
      have S2:=ae (S.out.step own2 grow2);clear own2 grow2;go_wp2_with fail
      go_roundw
      case rel=>exact⟨p+1,us ++ [(p,p+1)],by omega,by go_num,by simp;omega,S2,ae (qK HU.out hp)⟩
      case measure=>simp [intOf];omega
     |false=>
      clear ha;go_wp2_with fail
      refine(o0 d _).mono ?_;rintro e w1 ⟨rfl,hw1⟩;rw [hw1];clear hw1
      cases hlet:tI d with
      |false=>
       obtain⟨o1,s3,bb,hwz⟩:=S.out;have u1:wr.cell? ⟨w.heap.size,0,none⟩=some (.int .i64 0):=(by simp [World.cell?,s3]);have u2:wr.cell? ⟨w.heap.size,1,none⟩=some (.int .i64 0):=(by simp [World.cell?,s3]);have v1:wr.frozen? ⟨w.heap.size,0,none⟩=false:=(by simp [World.frozen?,s3]);have v2:wr.frozen? ⟨w.heap.size,1,none⟩=false:=(by simp [World.frozen?,s3]);have BB:=ae ((bb.setCell (p:=⟨w.heap.size,0,none⟩) (Nat.le_refl _) (.int .i64 1)).setCell (p:=⟨w.heap.size,1,none⟩) (Nat.le_refl _) (.int .i64 p));clear o1 s3 bb S hlet;go_wp2_with fail
       exact bodyPost_ret (v:= .tuple #[.slice none 0 0,.agg #[.int .i64 1,.int .i64 p]]) (by simp [results,Tryz.results34,go_sem,u1,u2]) rfl ⟨.inl ⟨_,rfl⟩,BB.out⟩
      |true=>
       have HLET:=ae hlet;clear hlet;go_wp2_with fail
       go_loopw [7] (fun j wr2=>∃r:Nat,p≤r∧r≤s.size∧j= .int .i64 r∧Hid (SpR w s (.slice ao us.length cp) us wr2)) (fun j _=>s.size - (intOf j).toNat)
       case atStart=>exact⟨p,Nat.le_refl _,by omega,rfl,S⟩
       case round=>
        obtain⟨r,hpr,hrs,rfl,S2⟩:=hrel;by_cases hr:r < s.size
        ·have hr':(r:Int) < (s.size:Int):=(by omega);obtain⟨d2,hd2⟩:∃d2,d2=s[r]:=⟨_,rfl⟩;have hd3:(s[r].toNat:Int)=(d2.toNat:Int):=(by rw [hd2]);have HD2:Hid (r=p→d2=d):=ae (fun e=>by subst e;rw [hd2];exact UInt8.toNat_inj.1 (by omega));clear hd2;go_wp2_with fail
         refine(o0 d2 _).mono ?_;rintro e w1 ⟨rfl,hw1⟩;rw [hw1];clear hw1
         cases hl2:tI d2 with
         |true=>
          clear hl2;go_wp2_with fail
          go_roundw
          case rel=>exact⟨r+1,by omega,by omega,by go_num,S2⟩
          case measure=>simp [intOf];omega
         |false=>
          have hpr2:p < r:=by
           refine Classical.byContradiction fun hc=> ?_;rw [HD2.out (by omega),HLET.out] at hl2
           cases hl2
          clear hl2;have OS:=ae S2.out.1;have hsw:=S2.out.2.2.2;have t2:us.length+1≤maxLen:=(by unfold maxLen;omega);have t3:(us.length+1) * 24≤140737488355328:=(by omega);go_wp2_with (at_builtin;refine wpList_append_own _ rfl (.tmp 66) (.tmp 73) 65 rfl (w.heap.size+1) 95 i0 _ 2 24 Tryz.underlying65 hi hz0 hz1 hz2 rfl (by decide) _ _ _ rfl (OS.out.alloc _) ⟨wr.heap.size,0,none⟩ 1 1 [.string (s.extract p r),.int .i64 p] rfl rfl L2.gV L2.lL t2 t3 (by simp;omega) ?_;intro v2 w2 own2 grow2 _)
          have S3:=ae (S2.out.step own2 grow2);clear own2 grow2;go_wp2_with fail
          go_roundw
          case rel=>exact⟨r,us ++ [(p,r)],hrs,rfl,by simp;omega,S3,ae (qK HU.out hp)⟩
          case measure=>simp [intOf];omega
        ·have hr':¬(r:Int) < (s.size:Int):=(by omega);have hr2:decide ((r:Int) < (s.size:Int))=false:=(by simpa using hr');have hpr2:p < r:=(by omega);have OS:=ae S2.out.1;have hsw:=S2.out.2.2.2;have t2:us.length+1≤maxLen:=(by unfold maxLen;omega);have t3:(us.length+1) * 24≤140737488355328:=(by omega);go_wp2_with (at_builtin;refine wpList_append_own _ rfl (.tmp 66) (.tmp 73) 65 rfl (w.heap.size+1) 95 i0 _ 2 24 Tryz.underlying65 hi hz0 hz1 hz2 rfl (by decide) _ _ _ rfl (OS.out.alloc _) ⟨wr.heap.size,0,none⟩ 1 1 [.string (s.extract p r),.int .i64 p] rfl rfl L2.gV L2.lL t2 t3 (by simp;omega) ?_;intro v2 w2 own2 grow2 _)
         have S3:=ae (S2.out.step own2 grow2);clear own2 grow2;go_wp2_with fail
         go_roundw
         case rel=>exact⟨r,us ++ [(p,r)],hrs,rfl,by simp;omega,S3,ae (qK HU.out hp)⟩
         case measure=>simp [intOf];omega
  ·have hlt':¬(p:Int) < (s.size:Int):=(by omega);have hlt2:decide ((p:Int) < (s.size:Int))=false:=(by simpa using hlt');obtain⟨ao,cp,rfl⟩:=aL S.out.1;obtain⟨o1,s3,bb,hwz⟩:=S.out;have u1:wr.cell? ⟨w.heap.size,0,none⟩=some (.int .i64 0):=(by simp [World.cell?,s3]);have u2:wr.cell? ⟨w.heap.size,1,none⟩=some (.int .i64 0):=(by simp [World.cell?,s3]);have v1:wr.frozen? ⟨w.heap.size,0,none⟩=false:=(by simp [World.frozen?,s3]);have v2:wr.frozen? ⟨w.heap.size,1,none⟩=false:=(by simp [World.frozen?,s3]);have FF:=((Far.refl w.heap.size wr).set 0 (.int .i64 0)).set 1 (.int .i64 0);have OO:=ae (aT (FF.own o1 (aU o1 s3 (by decide))) (Nat.le_succ w.heap.size));have BB:=ae ((bb.setCell (p:=⟨w.heap.size,0,none⟩) (Nat.le_refl _) (.int .i64 0)).setCell (p:=⟨w.heap.size,1,none⟩) (Nat.le_refl _) (.int .i64 0));have HL:=ae (show us.length=(ko s us).length by simp [ko]);have HC:=ae (qF s us);have HK:=ae (Jr hs (by omega) HU.out);clear o1 s3 bb FF S;go_wp2_with fail
   exact bodyPost_ret (v:= .tuple #[.slice ao us.length cp,.agg #[.int .i64 0,.int .i64 0]]) (by simp [results,Tryz.results34,go_sem,u1,u2]) rfl ⟨.inr ⟨_,ko s us,rfl,by rw [←HC.out,←HL.out];exact OO.out,HK.out⟩,BB.out⟩
end Go.Proofs.YtljkgcfnoegibaaGreatDoor
