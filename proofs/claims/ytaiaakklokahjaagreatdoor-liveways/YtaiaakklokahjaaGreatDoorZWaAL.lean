/- Texts of one chain, joined. -/
import Derived.Test.YtaiaakklokahjaaGreatDoorZWaAF
import Derived.Test.YtaiaakklokahjaaGreatDoorZWaAI
import Derived.Test.YtaiaakklokahjaaGreatDoorZWaAJ
set_option maxHeartbeats 4000000
set_option maxRecDepth 20000
namespace Go.Proofs.YtaiaakklokahjaaGreatDoor
open Go Go.RowKit
open G (Tok Er Ins Fun)
def aY (f:Fun) (b k:Nat):List Int:=((List.range k).filter fun j=>ay (aB f j) b).map Int.ofNat
def aJ (f:Fun):List (List Int):=(List.range f.2.2.2.1.length).map fun b=>aY f b f.2.2.2.1.length
theorem oh {f:Fun} {b k:Nat} (h:ay (aB f k) b=true):aY f b (k+1)=aY f b k ++ [(k:Int)]:=by
 unfold aY;rw [List.range_succ,List.filter_append,List.map_append];simp [h]
theorem qZ {f:Fun} {b k:Nat} (h:ay (aB f k) b=false):aY f b (k+1)=aY f b k:=by
 unfold aY;rw [List.range_succ,List.filter_append,List.map_append];simp [h]
theorem kU (f:Fun) (b k:Nat):(aY f b k).length≤k:=by
 unfold aY;rw [List.length_map];exact Nat.le_trans (List.length_filter_le _ _) (by simp)
theorem tK {f:Fun} {b:Nat} (h:b < f.2.2.2.1.length):(aJ f).take (b+1)=(aJ f).take b ++ [aY f b f.2.2.2.1.length]:=by
 refine aR ?_;unfold aJ;rw [List.getElem?_map,List.getElem?_range h];rfl
theorem kL (f:Fun):(aJ f).length=f.2.2.2.1.length:=by simp [aJ]
theorem wU (nm:List UInt8) (ps:List Int) (rt pl:Int) (bl:List (List Ins)) (ao bo:Option Addr) (c cb:Nat) (w:World)
  (hv:bS w (nm,ps,rt,bl,pl) (.agg #[.string (bs nm),.slice ao ps.length c,.int .i64 rt,.slice bo bl.length cb,.int .i64 pl])) (hF:Ful (nm,ps,rt,bl,pl)):
  Calls Tryz.prog 134 #[.agg #[.string (bs nm),.slice ao ps.length c,.int .i64 rt,.slice bo bl.length cb,.int .i64 pl]] w fun e w'=>∃v,e= .returned v∧bf w.heap.size w' (aJ (nm,ps,rt,bl,pl)) v∧Below w.heap.size w w':=by
 obtain⟨i0,hi0,hz0,hz1,hz2⟩:=info_parts Tryz.sx;obtain⟨i3,hi3,hz3,hz4,hz5⟩:=info_parts Tryz.cU;have b0:=af w (.cells #[.string (bs nm),.slice ao ps.length c,.int .i64 rt,.slice bo bl.length cb,.int .i64 pl] 29);have X0:=aa (L5.Box.new w [.string (bs nm),.slice ao ps.length c,.int .i64 rt,.slice bo bl.length cb,.int .i64 pl] 29);have HV:=aa (hv.below b0);have B0:=aa b0;have HFu:=aa hF;have hbl:bl.length≤1000000:=hF.1;clear b0 hv hF;go_enter Tryz.func134,Tryz.ntmps134
 go_upto_region 1 with fail
 show Code.wp _ _ _ _ (w.alloc (.cells #[.string (bs nm),.slice ao ps.length c,.int .i64 rt,.slice bo bl.length cb,.int .i64 pl] 29));replace X0:Hid (L5.Box (w.alloc (.cells #[.string (bs nm),.slice ao ps.length c,.int .i64 rt,.slice bo bl.length cb,.int .i64 pl] 29)) w.heap.size [.string (bs nm),.slice ao ps.length c,.int .i64 rt,.slice bo bl.length cb,.int .i64 pl]):=X0;generalize w.alloc (.cells #[.string (bs nm),.slice ao ps.length c,.int .i64 rt,.slice bo bl.length cb,.int .i64 pl] 29)=W at *;go_wp2_with fail
 go_loopw [3,4] (fun v i wr=>∃K:Nat,K≤bl.length∧i= .int .i64 K∧Hid (bf W.heap.size wr ((aJ (nm,ps,rt,bl,pl)).take K) v)∧Hid (Below W.heap.size W wr)) (fun _ i _=>bl.length - (intOf i).toNat)
 case atStart=>exact⟨0,Nat.zero_le _,rfl,aa (bf.nil _ _),aa (Below.refl _ _)⟩
 case round=>
  obtain⟨K,hK,rfl,HR,HW⟩:=hrel;obtain⟨x0,x1,x2,x3,x4⟩:_∧_∧_∧_∧_:=⟨(X0.out.below HW.out).2 0 _ rfl,(X0.out.below HW.out).2 1 _ rfl,(X0.out.below HW.out).2 2 _ rfl,(X0.out.below HW.out).2 3 _ rfl,(X0.out.below HW.out).2 4 _ rfl⟩;by_cases hkt:K < bl.length
  ·have hkI:(K:Int) < bl.length:=(by omega);have hsk:Hid _:=aa (tK (f:=(nm,ps,rt,bl,pl)) hkt);have hlen:((aJ (nm,ps,rt,bl,pl)).take K).length=K:=(by rw [List.length_take,kL];show min K bl.length=K;omega);obtain⟨vo,vc,rfl⟩:=HR.out.len;go_wp2_with fail
   clear x0 x1 x2 x3 x4;generalize wr=W2 at *;go_loopw [5,6] (fun v i wq=>∃J:Nat,J≤bl.length∧i= .int .i64 J∧Hid (Grw W2 (aY (nm,ps,rt,bl,pl) K J) v wq)) (fun _ i _=>bl.length - (intOf i).toNat)
   case atStart=>exact⟨0,Nat.zero_le _,rfl,aa (Grw.start _)⟩
   case round=>
    obtain⟨J,hJ,rfl,HG⟩:=hrel;have HWq:=aa (ae HW.out HG.out.2);obtain⟨x0,x1,x2,x3,x4⟩:_∧_∧_∧_∧_:=⟨(X0.out.below HWq.out).2 0 _ rfl,(X0.out.below HWq.out).2 1 _ rfl,(X0.out.below HWq.out).2 2 _ rfl,(X0.out.below HWq.out).2 3 _ rfl,(X0.out.below HWq.out).2 4 _ rfl⟩;by_cases hjt:J < bl.length
    ·have hjI:(J:Int) < bl.length:=(by omega);have HN:=aa (mg (nm,ps,rt,bl,pl) J _ wr (HV.out.below HWq.out) HFu.out hjt);have hyes:=fun h=>aa (oh (f:=(nm,ps,rt,bl,pl)) (b:=K) (k:=J) h);have hno:=fun h=>aa (qZ (f:=(nm,ps,rt,bl,pl)) (b:=K) (k:=J) h);have hpl:=kU (nm,ps,rt,bl,pl) K J;generalize aB (nm,ps,rt,bl,pl) J=l at *;go_wp2_with fail
     refine HN.out.mono ?_;rintro e w1 ⟨u,rfl,hu,b1⟩;obtain⟨uo,uc,rfl,hs1,hs2,hs3⟩:=fe hu;have HH:=aa (dr l K uo uc w1 hs1 (Nat.le_trans hs2 hs3));clear hs1 hs2 hs3 hu;have HG1:Hid (Grw W2 (aY (nm,ps,rt,bl,pl) K J) _ w1):=aa ⟨az b1 _ _ _ _ _ _ HG.out.1,ae HG.out.2 b1⟩;clear x0 x1 x2 x3 x4;go_wp2_with fail
     refine HH.out.mono ?_;rintro e w2 ⟨rfl,rfl⟩
     cases hh:ay l K with
     |true=>
      have HN2:=hyes hh;replace hh:=aa hh;have hWs:=HG1.out.2.size;go_wp2_with (at_builtin;refine wpList_append_own _ rfl (.tmp 26) (.tmp 28) 26 rfl W2.heap.size 3 i3 _ 1 8 Tryz.underlying26 hi3 hz3 hz4 hz5 rfl (by decide) _ _ _ rfl (HG1.out.1.alloc _) ⟨w2.heap.size,0,none⟩ 1 1 [.int .i64 J] rfl rfl one_cell one_one (by unfold maxLen;omega) (by omega) (by simp;omega) ?_;intro v2 w3 own2 grow2 _)
      have HE:Hid (Grw W2 (aY (nm,ps,rt,bl,pl) K (J+1)) v2 w3):=aa (by rw [HN2.out];exact HG1.out.step own2 grow2);clear own2 grow2;go_wp2_with fail
      go_roundw
      case rel=>exact⟨J+1,by omega,by go_num,HE⟩
      case measure=>simp [intOf];omega
     |false=>
      have HE:Hid (Grw W2 (aY (nm,ps,rt,bl,pl) K (J+1)) _ w2):=aa (by rw [(hno hh).out];exact HG1.out);replace hh:=aa hh;go_wp2_with fail
      go_roundw
      case rel=>exact⟨J+1,by omega,by go_num,HE⟩
      case measure=>simp [intOf];omega
    ·obtain rfl:J=bl.length:=(by omega);have HR1:=aa (HR.out.below HG.out.2);have HU:=aa (aL HG.out.1 HW.out.size);have HW1:=aa (ae HW.out HG.out.2);replace hsk:Hid ((aJ (nm,ps,rt,bl,pl)).take (K+1)=(aJ (nm,ps,rt,bl,pl)).take K ++ [aY (nm,ps,rt,bl,pl) K bl.length]):=hsk;clear HG;generalize aY (nm,ps,rt,bl,pl) K bl.length=l at *;obtain⟨us,ho,hus⟩:=HR1.out;obtain⟨uo,uc,rfl⟩:=aI HU.out;have hWs:=HW1.out.size;have ho2:=ho;rw [hlen] at ho2;go_wp2_with (at_builtin;refine wpList_append_own _ rfl (.tmp 30) (.tmp 32) 65 rfl W.heap.size 26 i0 _ 1 24 Tryz.underlying65 hi0 hz0 hz1 hz2 rfl (by decide) _ _ _ rfl (ho2.alloc _) ⟨wr.heap.size,0,none⟩ 1 1 [.slice uo l.length uc] rfl rfl one_cell (sB rfl) (by unfold maxLen;omega) (by omega) (by simp;omega) ?_;intro v2 w2 own2 grow2 _)
     have HE:Hid (bf W.heap.size w2 ((aJ (nm,ps,rt,bl,pl)).take (K+1)) v2):=aa (by
      rw [hsk.out];exact bf.step ho hus HU.out (by rw [hlen];exact own2) (by rw [hlen];exact grow2))
     have HW2:Hid (Below W.heap.size W w2):=aa (by
      refine Below.grown (HW1.out.alloc HW1.out.size _) grow2 (by simp;omega) ?_;intro k hk;exact(ho2.lt k hk).1)
     clear own2 grow2;go_wp2_with fail
     go_roundw
     case rel=>exact⟨K+1,by omega,by go_num,HE,HW2⟩
     case measure=>simp [intOf];omega
  ·obtain rfl:K=bl.length:=(by omega);have HE:Hid (bf W.heap.size wr (aJ (nm,ps,rt,bl,pl)) _):=aa (by have:=HR.out;rwa [List.take_of_length_le (by rw [kL];exact Nat.le_refl _)] at this);have HE2:=aa (HE.out.base B0.out.size);go_wp2_with fail
   go_ret;exact⟨_,rfl,HE2.out,ae B0.out HW.out⟩
theorem Bv (op:Int) (w:World):Calls Tryz.prog 132 #[.int .i64 op] w fun e w'=>e= .returned (.bool (gM op))∧w'=w:=by
 go_enter Tryz.func132,Tryz.ntmps132
 go_wp2
 all_goals (go_ret;refine⟨L5.aw ?_,rfl⟩;rw [Bool.eq_iff_iff];simp [gM];try omega)
def kF (N:Nat) (t:List Int):Bool:=t.any fun m=>decide (m < 0∨(N:Int)≤m)
def ji (N:Nat) (x:Ins):Bool:=decide (x.1≠20) && kF N x.2.2.2.2.2.1
def eN (N n:Nat):Nat→List Ins→Int
 |_,[]=>0
 |i,x :: r=>if gM x.1≠decide (i+1=n)then 15 else if ji N x then 7 else eN N n (i+1) r
def uH (N:Nat) (b:List Ins):Int:=if b.length=0 then 15 else eN N b.length 0 b
def dH (N:Nat):Nat→List (List Ins)→Int × Int
 |_,[]=>(0,0)
 |k,b :: r=>if uH N b≠0 then(uH N b,(k:Int))else dH N (k+1) r
def aS (f:Fun):Int × Int:=if f.2.2.2.1.length=0 then(15,0)else dH f.2.2.2.1.length 0 f.2.2.2.1
theorem og {α:Type} {l:List α} {i:Nat} {x:α} (h:l[i]? =some x):l.drop i=x :: l.drop (i+1):=by
 obtain⟨h1,rfl⟩:=List.getElem?_eq_some_iff.1 h;exact List.drop_eq_getElem_cons h1
theorem my {N n i:Nat} {x:Ins} {r:List Ins} (h:gM x.1≠decide (i+1=n)):eN N n i (x :: r)=15:=by rw [eN,if_pos h]
theorem mw {N n i:Nat} {x:Ins} {r:List Ins} (h:gM x.1=decide (i+1=n)) (hb:ji N x=true):eN N n i (x :: r)=7:=by rw [eN,if_neg (by simp [h]),if_pos hb]
theorem kR {N n i:Nat} {x:Ins} {r:List Ins} (h:gM x.1=decide (i+1=n)) (hb:ji N x=false):eN N n i (x :: r)=eN N n (i+1) r:=by rw [eN,if_neg (by simp [h]),if_neg (by simp [hb])]
theorem dK {N k:Nat} {b:List Ins} {r:List (List Ins)} {z:Int} (h:uH N b=z) (hz:z≠0):dH N k (b :: r)=(z,(k:Int)):=by rw [dH,h,if_pos hz]
theorem kz {N k:Nat} {b:List Ins} {r:List (List Ins)} (h:uH N b=0):dH N k (b :: r)=dH N (k+1) r:=by rw [dH,if_neg (by simp [h])]
theorem qn {N:Nat} {t:List Int} {j:Nat} {m:Int} (h:t[j]? =some m):kF N (t.drop j)=(decide (m < 0∨(N:Int)≤m) || kF N (t.drop (j+1))):=by
 rw [og h];rfl
theorem A4 (w:World) (cs:Array Value):Below w.heap.size w ((w.alloc (.cells cs 29)).alloc (.cells #[.int .i64 0,.int .i64 0] 59))∧((w.alloc (.cells cs 29)).alloc (.cells #[.int .i64 0,.int .i64 0] 59)).heap[w.heap.size]? =some (.cells cs 29 (0,0))∧
  ((w.alloc (.cells cs 29)).alloc (.cells #[.int .i64 0,.int .i64 0] 59)).heap[w.heap.size+1]? =some (.cells #[.int .i64 0,.int .i64 0] 59 (0,0))∧w.heap.size+1 < ((w.alloc (.cells cs 29)).alloc (.cells #[.int .i64 0,.int .i64 0] 59)).heap.size:=by
 refine⟨ae (af w _) (af _ _),(heap_alloc_old _ _ (by simp)).trans (heap_alloc_new w _),?_,by simp⟩;have:=heap_alloc_new (w.alloc (.cells cs 29)) (.cells #[.int .i64 0,.int .i64 0] 59);rwa [show(w.alloc (.cells cs 29)).heap.size=w.heap.size+1 from by simp] at this
theorem fH {w:World} {c:Nat} {a b:Value} (h:w.heap[c]? =some (.cells #[a,b] 59 (0,0))):w.cell? ⟨c,0,none⟩=some a∧w.cell? ⟨c,1,none⟩=some b∧w.frozen? ⟨c,0,none⟩=false∧w.frozen? ⟨c,1,none⟩=false:=by
 simp [World.cell?,World.frozen?,h]
theorem dR {w W wr:World} {a b:Value} (h0:Below w.heap.size w W) (h:Below W.heap.size W wr):Below w.heap.size w ((wr.setCell ⟨w.heap.size+1,0,none⟩ a).setCell ⟨w.heap.size+1,1,none⟩ b):=
 ((ae h0 h).setCell (p:=⟨w.heap.size+1,0,none⟩) (Nat.le_succ _) a).setCell (p:=⟨w.heap.size+1,1,none⟩) (Nat.le_succ _) b
theorem tR (nm:List UInt8) (ps:List Int) (rt pl:Int) (bl:List (List Ins)) (ao bo:Option Addr) (c cb:Nat) (w:World)
  (hv:bS w (nm,ps,rt,bl,pl) (.agg #[.string (bs nm),.slice ao ps.length c,.int .i64 rt,.slice bo bl.length cb,.int .i64 pl])):
  Calls Tryz.prog 89 #[.agg #[.string (bs nm),.slice ao ps.length c,.int .i64 rt,.slice bo bl.length cb,.int .i64 pl]] w fun e w'=>e= .returned (.agg #[.int .i64 (aS (nm,ps,rt,bl,pl)).1,.int .i64 (aS (nm,ps,rt,bl,pl)).2])∧Below w.heap.size w w':=by
 obtain⟨b0,h0,h1,hz0⟩:=A4 w #[.string (bs nm),.slice ao ps.length c,.int .i64 rt,.slice bo bl.length cb,.int .i64 pl];have H0:=aa h0;have H1:=aa h1;have HV:=aa (hv.below b0);have B0:=aa b0;have hbc:bl.length≤cb∧cb≤maxLen:=by
  obtain⟨vp,vb,e,_,⟨ao',c',e',h1,h2,_⟩⟩:=hv;injection e with e;have e3:=congrArg (fun a=>a[3]?) e;simp at e3;subst e3;injection e' with e1 e2 e3;subst e3;exact⟨h1,h2⟩
 have hz2:w.heap.size < ((w.alloc (.cells #[.string (bs nm),.slice ao ps.length c,.int .i64 rt,.slice bo bl.length cb,.int .i64 pl] 29)).alloc (.cells #[.int .i64 0,.int .i64 0] 59)).heap.size:=by omega
 unfold maxLen at hbc;clear b0 h0 h1 hv;go_enter Tryz.func89,Tryz.ntmps89
 go_upto_region 1 with fail
 show Code.wp _ _ _ _ ((w.alloc (.cells #[.string (bs nm),.slice ao ps.length c,.int .i64 rt,.slice bo bl.length cb,.int .i64 pl] 29)).alloc (.cells #[.int .i64 0,.int .i64 0] 59));generalize (w.alloc (.cells #[.string (bs nm),.slice ao ps.length c,.int .i64 rt,.slice bo bl.length cb,.int .i64 pl] 29)).alloc (.cells #[.int .i64 0,.int .i64 0] 59)=W at *;obtain⟨x0,x1,x2,x3,x4⟩:=mG H0.out;by_cases hn0:bl.length=0
 ·have HE:Hid (aS (nm,ps,rt,bl,pl)=(15,0)):=aa (if_pos hn0);obtain⟨d0,d1,z0,z1⟩:=fH H1.out;go_wp2_with fail
  exact bodyPost_ret (v:= .agg #[.int .i64 15,.int .i64 0]) (by simp [results,Tryz.results89,go_sem,d0,d1]) rfl ⟨by rw [HE.out],dR B0.out (Below.refl _ _)⟩
 have hn1:((bl.length:Int) == 0)=false:=by simpa using hn0
 have HB:Hid (fj W bl (.slice bo bl.length cb)):=aa (by
  obtain⟨vp,vb,e,_,hB⟩:=HV.out;injection e with e;have e3:=congrArg (fun a=>a[3]?) e;simp at e3;rw [e3];exact hB)
 have HS:Hid (aS (nm,ps,rt,bl,pl)=dH bl.length 0 bl):=aa (if_neg hn0);go_wp2_with fail
 clear x0 x1 x2 x3 x4;go_loopw [3] (fun i wr=>∃K:Nat,K≤bl.length∧i= .int .i64 K∧Hid (aS (nm,ps,rt,bl,pl)=dH bl.length K (bl.drop K))∧Hid (Below W.heap.size W wr)) (fun i _=>bl.length - (intOf i).toNat)
 case atStart=>exact⟨0,Nat.zero_le _,rfl,HS,aa (Below.refl _ _)⟩
 case round=>
  obtain⟨K,hK,rfl,HR,HW⟩:=hrel;obtain⟨x0,x1,x2,x3,x4⟩:=mG ((HW.out.block _ hz2).trans H0.out);by_cases hkt:K < bl.length
  ·obtain⟨b,hbK⟩:∃b,bl[K]? =some b:=⟨bl[K],List.getElem?_eq_getElem hkt⟩;have hkI:(K:Int) < bl.length:=(by omega);obtain⟨_,_,e',l1,l2,l3⟩:=HB.out;injection e' with e1 e2 e4;subst e1 e4;rcases l3 with l3 | ⟨gc,oc,rfl,gk,h2⟩
   ·subst l3;simp at hkt
   obtain⟨vk,kd,aok,capk,rfl,m1,m2,kk⟩:=h2 K b hbK;have c1:=(HW.out.cell (p:=⟨gc,oc+K,none⟩) gk).trans kd;have HR2:=aa (HR.out.trans (by rw [og hbK]));have HKK:=aa kk;have KD:=aa kd;unfold maxLen at m2;clear kd kk h2 hbK e2 HR;go_wp2_with fail
   clear x0 x1 x2 x3 x4 c1;have HW0:=HW;clear HW;go_loopw [5] (fun i wq=>∃I:Nat,I≤b.length∧i= .int .i64 I∧Hid (eN bl.length b.length 0 b=eN bl.length b.length I (b.drop I))∧Hid (Below W.heap.size W wq)) (fun i _=>b.length - (intOf i).toNat)
   case atStart=>exact⟨0,Nat.zero_le _,rfl,aa rfl,HW0⟩
   case round=>
    clear HW0;obtain⟨I,hI,rfl,HI,HW⟩:=hrel;obtain⟨x0,x1,x2,x3,x4⟩:=mG ((HW.out.block _ hz2).trans H0.out);have c1:=(HW.out.cell (p:=⟨gc,oc+K,none⟩) gk).trans KD.out;by_cases hit:I < b.length
    ·have hiI:(I:Int) < b.length:=(by omega);obtain⟨x,hx⟩:∃x,b[I]? =some x:=⟨b[I],List.getElem?_eq_getElem hit⟩;rcases HKK.out with e0 | ⟨gi,oi,rfl,kk⟩
     ·subst e0;simp at hit
     have HI2:=aa (HI.out.trans (by rw [og hx]));obtain⟨ai,ti,ca,ct,hv,r0,r1,r2,r3,r4,r5,r6,r7⟩:=((kk I _ hx).below HW.out).val;obtain⟨op,id,nn,ty,ar,tt,na,pp⟩:=x;dsimp only at hv r0 r1 r2 r3 r4 r5 r6 r7
     have HSt:Hid (Sl wr ti tt∧tt.length≤maxLen):=aa (by
      obtain⟨a1,t1,c1,c2,e,s1,s2,_,_,s5,s6⟩:=hv;injection e with e;have e2:=congrArg (fun a=>a[5]?) e;simp at e2;rw [e2.1];exact⟨s2,Nat.le_trans s5 s6⟩)
     have B7:=aa (af wr (.cells #[.int .i64 op,.int .i64 id,.int .i64 nn,.int .i64 ty,.slice ai ar.length ca,.slice ti tt.length ct,.string (bs na),.int .i64 pp] 41));have H7:=aa (heap_alloc_new wr (.cells #[.int .i64 op,.int .i64 id,.int .i64 nn,.int .i64 ty,.slice ai ar.length ca,.slice ti tt.length ct,.string (bs na),.int .i64 pp] 41));have hbn:¬b.length=0:=(by omega);have HBE:Hid (uH bl.length b=eN bl.length b.length 0 b):=aa (if_neg hbn);clear kk hx hv HI;go_wp2_with fail
     refine(Bv op _).mono ?_;rintro e w8 ⟨rfl,rfl⟩;have HW8:=aa (ae HW.out B7.out);have hwl:wr.heap.size < (wr.alloc (.cells #[.int .i64 op,.int .i64 id,.int .i64 nn,.int .i64 ty,.slice ai ar.length ca,.slice ti tt.length ct,.string (bs na),.int .i64 pp] 41)).heap.size:=(by simp);obtain⟨s0,s1,s2,s3,s4,s5,s6,s7⟩:=pF H7.out;have HSt8:Hid (Sl (wr.alloc (.cells #[.int .i64 op,.int .i64 id,.int .i64 nn,.int .i64 ty,.slice ai ar.length ca,.slice ti tt.length ct,.string (bs na),.int .i64 pp] 41)) ti tt):=aa (HSt.out.1.below B7.out);have htl:tt.length≤maxLen:=HSt.out.2;unfold maxLen at htl;obtain⟨y0,y1,y2,y3,y4⟩:=mG ((HW8.out.block _ hz2).trans H0.out);generalize wr.alloc (.cells #[.int .i64 op,.int .i64 id,.int .i64 nn,.int .i64 ty,.slice ai ar.length ca,.slice ti tt.length ct,.string (bs na),.int .i64 pp] 41)=W8 at *;clear x0 x1 x2 x3 x4 c1 r0 r1 r2 r3 r4 r5 r6 r7 B7 H7 HW HSt;have SS:=aa (And.intro s0 s5);by_cases hlast:I+1=b.length
     ·have hlI:((I:Int)+1 == (b.length:Int))=true:=by simpa using (by omega:(I:Int)+1=b.length)
      cases he:gM op with
      |false=>
       have HEE:Hid (aS (nm,ps,rt,bl,pl)=(15,(K:Int))):=aa (HR2.out.trans (dK (HBE.out.trans (HI2.out.trans (my (by simp [he,hlast])))) (by decide)));obtain⟨d0,d1,z0,z1⟩:=fH ((HW8.out.block _ hz0).trans H1.out);go_wp2_with fail
       exact bodyPost_ret (v:= .agg #[.int .i64 15,.int .i64 (K:Int)]) (by simp [results,Tryz.results89,go_sem,d0,d1]) rfl ⟨by rw [HEE.out],dR B0.out HW8.out⟩
      |true=>
       have HEq:Hid (gM op=decide (I+1=b.length)):=aa (by simp [he,hlast]);have HBad:Hid (ji bl.length (op,id,nn,ty,ar,tt,na,pp)=true→aS (nm,ps,rt,bl,pl)=(7,(K:Int))):=aa (fun h=>HR2.out.trans (dK (HBE.out.trans (HI2.out.trans (mw HEq.out h))) (by decide)));have HOk:Hid (ji bl.length (op,id,nn,ty,ar,tt,na,pp)=false→eN bl.length b.length 0 b=eN bl.length b.length (I+1) (b.drop (I+1))):=aa (fun h=>HI2.out.trans (kR HEq.out h));replace he:=aa he;go_wp2_with fail
       clear s0 s1 s2 s3 s4 s5 s6 s7 y0 y1 y2 y3 y4;have S8:Hid (W8.cell? ⟨wr.heap.size,0,none⟩=some (.int .i64 op)∧W8.cell? ⟨wr.heap.size,5,none⟩=some (.slice ti tt.length ct)):=SS;generalize wr.heap.size=q at *;go_loopw [7] (fun i wq=>∃J:Nat,J≤tt.length∧i= .int .i64 J∧Hid (kF bl.length tt=kF bl.length (tt.drop J))∧Hid (Below W8.heap.size W8 wq)) (fun i _=>tt.length - (intOf i).toNat)
       case atStart=>exact⟨0,Nat.zero_le _,rfl,aa rfl,aa (Below.refl _ _)⟩
       case round=>
        obtain⟨J,hJ,rfl,HJ,HB9⟩:=hrel;have HW9:=aa (ae HW8.out HB9.out);have s0:=(HB9.out.cell (p:=⟨q,0,none⟩) hwl).trans S8.out.1;have s5:=(HB9.out.cell (p:=⟨q,5,none⟩) hwl).trans S8.out.2;by_cases hjt:J < tt.length
        ·have hjI:(J:Int) < tt.length:=(by omega);by_cases hop:op=20
         ·have hop':(op != 20)=false:=(by simpa using hop);have HE:=aa (HOk.out (by simp [ji,hop]));go_wp2_with fail
          go_roundw
          case rel=>exact⟨I+1,by omega,by go_num,HE,HW9⟩
          case measure=>simp [intOf];omega
         ·have hop':(op != 20)=true:=(by simpa using hop);obtain⟨m,hm⟩:∃m,tt[J]? =some m:=⟨tt[J],List.getElem?_eq_getElem hjt⟩;rcases HSt8.out with e0 | ⟨tb,to2,rfl,t1,t2⟩
          ·subst e0;simp at hjt
          have c9:=(HB9.out.cell (p:=⟨tb,to2+J,none⟩) t1).trans (t2 J m hm);have HJ2:=aa (HJ.out.trans (qn hm));obtain⟨y0,y1,y2,y3,y4⟩:=mG ((HW9.out.block _ hz2).trans H0.out);have hq9:q < wr.heap.size:=Nat.lt_of_lt_of_le hwl HB9.out.size;have ht9:tb < wr.heap.size:=Nat.lt_of_lt_of_le t1 HB9.out.size;have hf9:w.heap.size < wr.heap.size:=Nat.lt_of_lt_of_le hz2 HW9.out.size;have f1:=fun x=>((L5.aD wr x).cell (p:=⟨q,5,none⟩) hq9).trans s5;have f2:=fun x=>((L5.aD wr x).cell (p:=⟨tb,to2+J,none⟩) ht9).trans c9;have f3:=fun x=>((L5.aD wr x).cell (p:=⟨w.heap.size,3,none⟩) hf9).trans y3;have HX:=aa (fun x=>ae HW9.out (L5.aD wr x));have HX9:=aa (fun x=>ae HB9.out (L5.aD wr x));clear t2 hm y0 y1 y2 y4 c9;by_cases hneg:m < 0
          ·have HE:=aa (HBad.out (by simp only [ji,HJ2.out];simp [hop,hneg]));go_wp2_with fail
           refine L5.aM (by kernel_rfl) (by kernel_rfl) ?_;repeat (go_big_quiet_step (fail))
           refine wpQuiet_nil ?_;rintro _ ⟨x,rfl⟩;obtain⟨d0,d1,z0,z1⟩:=fH (((HX.out x).block _ hz0).trans H1.out);go_wp2_with fail
           exact bodyPost_ret (v:= .agg #[.int .i64 7,.int .i64 (K:Int)]) (by simp [results,Tryz.results89,go_sem,d0,d1]) rfl ⟨by rw [HE.out],dR B0.out (HX.out x)⟩
          ·have hdn:decide (m < 0)=false:=(by simpa using hneg);by_cases hbig:(bl.length:Int)≤m
           ·have HE:=aa (HBad.out (by simp only [ji,HJ2.out];simp [hop,hneg,hbig]));go_wp2_with fail
            refine L5.aM (by kernel_rfl) (by kernel_rfl) ?_;repeat (go_big_quiet_step (fail))
            refine wpQuiet_nil ?_;rintro _ ⟨x,rfl⟩;obtain⟨d0,d1,z0,z1⟩:=fH (((HX.out x).block _ hz0).trans H1.out);go_wp2_with fail
            exact bodyPost_ret (v:= .agg #[.int .i64 7,.int .i64 (K:Int)]) (by simp [results,Tryz.results89,go_sem,d0,d1]) rfl ⟨by rw [HE.out],dR B0.out (HX.out x)⟩
           ·have HE:Hid (kF bl.length tt=kF bl.length (tt.drop (J+1))):=aa (by rw [HJ2.out];simp [hneg,hbig]);go_wp2_with fail
            refine L5.aM (by kernel_rfl) (by kernel_rfl) ?_;repeat (go_big_quiet_step (fail))
            refine wpQuiet_nil ?_;rintro _ ⟨x,rfl⟩;have HX9x:=aa (HX9.out x);go_wp2_with fail
            go_roundw
            case rel=>exact⟨J+1,by omega,by go_num,HE,HX9x⟩
            case measure=>simp [intOf];omega
        ·obtain rfl:J=tt.length:=(by omega);have HE:=aa (HOk.out (by simp only [ji,HJ.out,List.drop_length];simp [kF]));go_wp2_with fail
         go_roundw
         case rel=>exact⟨I+1,by omega,by go_num,HE,HW9⟩
         case measure=>simp [intOf];omega
     ·have hlI:((I:Int)+1 == (b.length:Int))=false:=beq_eq_false_iff_ne.2 (by omega)
      cases he:gM op with
      |true=>
       have HEE:Hid (aS (nm,ps,rt,bl,pl)=(15,(K:Int))):=aa (HR2.out.trans (dK (HBE.out.trans (HI2.out.trans (my (by simp [he,hlast])))) (by decide)));obtain⟨d0,d1,z0,z1⟩:=fH ((HW8.out.block _ hz0).trans H1.out);go_wp2_with fail
       exact bodyPost_ret (v:= .agg #[.int .i64 15,.int .i64 (K:Int)]) (by simp [results,Tryz.results89,go_sem,d0,d1]) rfl ⟨by rw [HEE.out],dR B0.out HW8.out⟩
      |false=>
       have HEq:Hid (gM op=decide (I+1=b.length)):=aa (by simp [he,hlast]);have HBad:Hid (ji bl.length (op,id,nn,ty,ar,tt,na,pp)=true→aS (nm,ps,rt,bl,pl)=(7,(K:Int))):=aa (fun h=>HR2.out.trans (dK (HBE.out.trans (HI2.out.trans (mw HEq.out h))) (by decide)));have HOk:Hid (ji bl.length (op,id,nn,ty,ar,tt,na,pp)=false→eN bl.length b.length 0 b=eN bl.length b.length (I+1) (b.drop (I+1))):=aa (fun h=>HI2.out.trans (kR HEq.out h));replace he:=aa he;go_wp2_with fail
       clear s0 s1 s2 s3 s4 s5 s6 s7 y0 y1 y2 y3 y4;have S8:Hid (W8.cell? ⟨wr.heap.size,0,none⟩=some (.int .i64 op)∧W8.cell? ⟨wr.heap.size,5,none⟩=some (.slice ti tt.length ct)):=SS;generalize wr.heap.size=q at *;go_loopw [7] (fun i wq=>∃J:Nat,J≤tt.length∧i= .int .i64 J∧Hid (kF bl.length tt=kF bl.length (tt.drop J))∧Hid (Below W8.heap.size W8 wq)) (fun i _=>tt.length - (intOf i).toNat)
       case atStart=>exact⟨0,Nat.zero_le _,rfl,aa rfl,aa (Below.refl _ _)⟩
       case round=>
        obtain⟨J,hJ,rfl,HJ,HB9⟩:=hrel;have HW9:=aa (ae HW8.out HB9.out);have s0:=(HB9.out.cell (p:=⟨q,0,none⟩) hwl).trans S8.out.1;have s5:=(HB9.out.cell (p:=⟨q,5,none⟩) hwl).trans S8.out.2;by_cases hjt:J < tt.length
        ·have hjI:(J:Int) < tt.length:=(by omega);by_cases hop:op=20
         ·have hop':(op != 20)=false:=(by simpa using hop);have HE:=aa (HOk.out (by simp [ji,hop]));go_wp2_with fail
          go_roundw
          case rel=>exact⟨I+1,by omega,by go_num,HE,HW9⟩
          case measure=>simp [intOf];omega
         ·have hop':(op != 20)=true:=(by simpa using hop);obtain⟨m,hm⟩:∃m,tt[J]? =some m:=⟨tt[J],List.getElem?_eq_getElem hjt⟩;rcases HSt8.out with e0 | ⟨tb,to2,rfl,t1,t2⟩
          ·subst e0;simp at hjt
          have c9:=(HB9.out.cell (p:=⟨tb,to2+J,none⟩) t1).trans (t2 J m hm);have HJ2:=aa (HJ.out.trans (qn hm));obtain⟨y0,y1,y2,y3,y4⟩:=mG ((HW9.out.block _ hz2).trans H0.out);have hq9:q < wr.heap.size:=Nat.lt_of_lt_of_le hwl HB9.out.size;have ht9:tb < wr.heap.size:=Nat.lt_of_lt_of_le t1 HB9.out.size;have hf9:w.heap.size < wr.heap.size:=Nat.lt_of_lt_of_le hz2 HW9.out.size;have f1:=fun x=>((L5.aD wr x).cell (p:=⟨q,5,none⟩) hq9).trans s5;have f2:=fun x=>((L5.aD wr x).cell (p:=⟨tb,to2+J,none⟩) ht9).trans c9;have f3:=fun x=>((L5.aD wr x).cell (p:=⟨w.heap.size,3,none⟩) hf9).trans y3;have HX:=aa (fun x=>ae HW9.out (L5.aD wr x));have HX9:=aa (fun x=>ae HB9.out (L5.aD wr x));clear t2 hm y0 y1 y2 y4 c9;by_cases hneg:m < 0
          ·have HE:=aa (HBad.out (by simp only [ji,HJ2.out];simp [hop,hneg]));go_wp2_with fail
           refine L5.aM (by kernel_rfl) (by kernel_rfl) ?_;repeat (go_big_quiet_step (fail))
           refine wpQuiet_nil ?_;rintro _ ⟨x,rfl⟩;obtain⟨d0,d1,z0,z1⟩:=fH (((HX.out x).block _ hz0).trans H1.out);go_wp2_with fail
           exact bodyPost_ret (v:= .agg #[.int .i64 7,.int .i64 (K:Int)]) (by simp [results,Tryz.results89,go_sem,d0,d1]) rfl ⟨by rw [HE.out],dR B0.out (HX.out x)⟩
          ·have hdn:decide (m < 0)=false:=(by simpa using hneg);by_cases hbig:(bl.length:Int)≤m
           ·have HE:=aa (HBad.out (by simp only [ji,HJ2.out];simp [hop,hneg,hbig]));go_wp2_with fail
            refine L5.aM (by kernel_rfl) (by kernel_rfl) ?_;repeat (go_big_quiet_step (fail))
            refine wpQuiet_nil ?_;rintro _ ⟨x,rfl⟩;obtain⟨d0,d1,z0,z1⟩:=fH (((HX.out x).block _ hz0).trans H1.out);go_wp2_with fail
            exact bodyPost_ret (v:= .agg #[.int .i64 7,.int .i64 (K:Int)]) (by simp [results,Tryz.results89,go_sem,d0,d1]) rfl ⟨by rw [HE.out],dR B0.out (HX.out x)⟩
           ·have HE:Hid (kF bl.length tt=kF bl.length (tt.drop (J+1))):=aa (by rw [HJ2.out];simp [hneg,hbig]);go_wp2_with fail
            refine L5.aM (by kernel_rfl) (by kernel_rfl) ?_;repeat (go_big_quiet_step (fail))
            refine wpQuiet_nil ?_;rintro _ ⟨x,rfl⟩;have HX9x:=aa (HX9.out x);go_wp2_with fail
            go_roundw
            case rel=>exact⟨J+1,by omega,by go_num,HE,HX9x⟩
            case measure=>simp [intOf];omega
        ·obtain rfl:J=tt.length:=(by omega);have HE:=aa (HOk.out (by simp only [ji,HJ.out,List.drop_length];simp [kF]));go_wp2_with fail
         go_roundw
         case rel=>exact⟨I+1,by omega,by go_num,HE,HW9⟩
         case measure=>simp [intOf];omega
    ·obtain rfl:I=b.length:=(by omega);have HE:=HI.out;rw [List.drop_length] at HE;by_cases hbn:b.length=0
     ·have hbn':((b.length:Int) == 0)=true:=(by simpa using hbn);have HEE:Hid (aS (nm,ps,rt,bl,pl)=(15,(K:Int))):=aa (HR2.out.trans (dK (if_pos hbn) (by decide)));obtain⟨d0,d1,z0,z1⟩:=fH ((HW.out.block _ hz0).trans H1.out);clear HE;go_wp2_with fail
      exact bodyPost_ret (v:= .agg #[.int .i64 15,.int .i64 (K:Int)]) (by simp [results,Tryz.results89,go_sem,d0,d1]) rfl ⟨by rw [HEE.out],dR B0.out HW.out⟩
     ·have hbn':((b.length:Int) == 0)=false:=(by simpa using hbn);have HEE:Hid (aS (nm,ps,rt,bl,pl)=dH bl.length (K+1) (bl.drop (K+1))):=aa (HR2.out.trans (kz ((if_neg hbn).trans HE)));clear HE;go_wp2_with fail
      go_roundw
      case rel=>exact⟨K+1,by omega,by go_num,HEE,HW⟩
      case measure=>simp [intOf];omega
  ·obtain rfl:K=bl.length:=(by omega);have HE:=HR.out;rw [List.drop_length] at HE;replace HE:Hid (aS (nm,ps,rt,bl,pl)=(0,0)):=aa HE;obtain⟨d0,d1,z0,z1⟩:=fH ((HW.out.block _ hz0).trans H1.out);go_wp2_with fail
   exact bodyPost_ret (v:= .agg #[.int .i64 0,.int .i64 0]) (by simp [results,Tryz.results89,go_sem,d0,d1]) rfl ⟨by rw [HE.out],dR B0.out HW.out⟩
theorem tw (f:Fun) (v:Value) (w:World) (hv:bS w f v):
  Calls Tryz.prog 89 #[v] w fun e w'=>e= .returned (.agg #[.int .i64 (aS f).1,.int .i64 (aS f).2])∧Below w.heap.size w w':=by
 obtain⟨nm,ps,rt,bl,pl⟩:=f;have hv2:=hv;obtain⟨vp,vb,rfl,⟨ao,c,rfl,h1,_⟩,h2⟩:=hv;obtain⟨bo,cb,rfl,_⟩:=h2;exact tR nm ps rt pl bl ao bo c cb w hv2
def Av (t:Int):Bool:=decide (t=1) || decide (t=2)
def sF (ps:List Int):Bool:=ps.any fun t=> !Av t
def dE (f:Fun):Int:=
 if 8 < f.2.1.length∨256 < f.2.2.2.1.length then 6
 else if L2.gn f.1=false then 4
 else if(f.2.2.1 < 0∨2 < f.2.2.1)∨sF f.2.1=true then 9
 else 0
theorem mP (p:Int):(!Av p)=true↔(p < 1∨2 < p):=by
 simp [Av];omega
theorem AO (l:List Int) (j:Nat) (y:Int) (h:l[j]? =some y):sF (l.take (j+1))=(sF (l.take j) || !Av y):=by
 unfold sF;rw [List.take_add_one,h];simp
theorem EU (l:List Int) (j:Nat) (y:Int) (h:l[j]? =some y) (hb:(!Av y)=true):sF l=true:=by
 unfold sF;rw [List.any_eq_true];exact⟨y,List.mem_of_getElem? h,hb⟩
def dd (i:Nat) (f:Fun):Int:=if 32≤i then 6 else dE f
theorem Al (i:Nat) (nm:List UInt8) (ps:List Int) (rt pl:Int) (bl:List (List Ins)) (ao bo:Option Addr) (c cb:Nat) (w:World) (hs:Sl w ao ps) (hL:ps.length≤maxLen∧bl.length≤maxLen) (hl:nm.length≤maxLen) (hi:i≤maxLen):
  Calls Tryz.prog 86 #[.agg #[.string (bs nm),.slice ao ps.length c,.int .i64 rt,.slice bo bl.length cb,.int .i64 pl],.int .i64 i] w fun e w'=>e= .returned (.int .i64 (dd i (nm,ps,rt,bl,pl)))∧Below w.heap.size w w':=by
 unfold maxLen at hi;have b0:=af w (.cells #[.string (bs nm),.slice ao ps.length c,.int .i64 rt,.slice bo bl.length cb,.int .i64 pl] 29);have H0:=aa (heap_alloc_new w (.cells #[.string (bs nm),.slice ao ps.length c,.int .i64 rt,.slice bo bl.length cb,.int .i64 pl] 29));have A0:=aa (hs.below b0);have B0:=aa b0;have hz0:(w.alloc (.cells #[.string (bs nm),.slice ao ps.length c,.int .i64 rt,.slice bo bl.length cb,.int .i64 pl] 29)).heap.size > w.heap.size:=by simp
 have HSZ:Hid ((bs nm).size≤maxLen):=aa (by rw [bE];exact hl);obtain⟨hLa,hLt⟩:=hL;have HL:=aa hLa;unfold maxLen at hLa hLt;clear b0 hs hl;go_enter Tryz.func86,Tryz.ntmps86
 go_upto_region 1 with fail
 show Code.wp _ _ _ _ (w.alloc (.cells #[.string (bs nm),.slice ao ps.length c,.int .i64 rt,.slice bo bl.length cb,.int .i64 pl] 29));generalize w.alloc (.cells #[.string (bs nm),.slice ao ps.length c,.int .i64 rt,.slice bo bl.length cb,.int .i64 pl] 29)=W at *;obtain⟨c0,c1,c2,c3,c4⟩:=mG H0.out;by_cases h32:32≤i
 ·have HC:Hid ((6:Int)=dd i (nm,ps,rt,bl,pl)):=aa (if_pos h32).symm;have h32':(32:Int)≤i:=by omega
  go_wp2_with fail
  go_ret;exact⟨L5.aX HC.out,B0.out⟩
 have HG:Hid (dE (nm,ps,rt,bl,pl)=dd i (nm,ps,rt,bl,pl)):=aa (if_neg h32).symm;have h32':¬(32:Int)≤i:=by omega
 by_cases h8:8 < ps.length
 ·have HC:Hid ((6:Int)=dd i (nm,ps,rt,bl,pl)):=aa (by rw [←HG.out];unfold dE;rw [if_pos (.inl h8)]);have h8':(8:Int) < ps.length:=by omega
  go_wp2_with fail
  go_ret;exact⟨L5.aX HC.out,B0.out⟩
 have h8':¬(8:Int) < ps.length:=by omega
 by_cases h256:256 < bl.length
 ·have HC:Hid ((6:Int)=dd i (nm,ps,rt,bl,pl)):=aa (by rw [←HG.out];unfold dE;rw [if_pos (.inr h256)]);have h256':(256:Int) < bl.length:=by omega
  go_wp2_with fail
  go_ret;exact⟨L5.aX HC.out,B0.out⟩
 have h256':¬(256:Int) < bl.length:=by omega
 have HF1:Hid (¬(8 < ps.length∨256 < bl.length)):=aa (by omega);go_wp2_with fail
 refine(L2.mu (bs nm) W HSZ.out).mono ?_;rintro e w1 ⟨rfl,hw1⟩;rw [hw1,eC];clear hw1
 cases hb:L2.gn nm with
 |false=>
  have HC:Hid ((4:Int)=dd i (nm,ps,rt,bl,pl)):=aa (by rw [←HG.out];unfold dE;rw [if_neg HF1.out,if_pos hb]);replace hb:=aa hb;go_wp2_with fail
  go_ret;exact⟨L5.aX HC.out,B0.out⟩
 |true=>
 have HF2:Hid (¬(L2.gn nm=false)):=aa (by rw [hb];simp);replace hb:=aa hb;by_cases hr0:rt < 0
 ·have HC:Hid ((9:Int)=dd i (nm,ps,rt,bl,pl)):=aa (by rw [←HG.out];unfold dE;rw [if_neg HF1.out,if_neg HF2.out,if_pos (.inl (.inl hr0))]);go_wp2_with fail
  go_ret;exact⟨L5.aX HC.out,B0.out⟩
 by_cases hr2:2 < rt
 ·have HC:Hid ((9:Int)=dd i (nm,ps,rt,bl,pl)):=aa (by rw [←HG.out];unfold dE;rw [if_neg HF1.out,if_neg HF2.out,if_pos (.inl (.inr hr2))]);go_wp2_with fail
  go_ret;exact⟨L5.aX HC.out,B0.out⟩
 have HF3:Hid (¬(rt < 0∨2 < rt)):=aa (by omega);go_wp2_with fail
 clear c0 c1 c2 c3 c4;go_loopw [5] (fun i wr=>∃j:Nat,j≤ps.length∧i= .int .i64 j∧Hid (sF (ps.take j)=false)∧Hid (Below W.heap.size W wr)) (fun i _=>ps.length - (intOf i).toNat)
 case atStart=>exact⟨0,Nat.zero_le _,rfl,aa rfl,aa (Below.refl _ _)⟩
 case round=>
  obtain⟨j,hj,rfl,HA,HW⟩:=hrel;obtain⟨c0,c1,c2,c3,c4⟩:=mG ((HW.out.block _ (by omega)).trans H0.out);by_cases hlt:j < ps.length
  ·obtain⟨y,hy⟩:∃y,ps[j]? =some y:=⟨_,List.getElem?_eq_getElem hlt⟩;rcases A0.out with he | ⟨g,o,rfl,hg,hcc⟩
   ·subst he;simp at hlt
   have hcell:=(HW.out.cell (p:=⟨g,o+j,none⟩) hg).trans (hcc j y hy);have hlt':(j:Int) < ps.length:=(by omega);have HT:=aa (AO ps j y hy);have HH:=aa (EU ps j y hy);clear hcc hy;by_cases hy0:y < 1
   ·have HC:Hid ((9:Int)=dd i (nm,ps,rt,bl,pl)):=aa (by rw [←HG.out];unfold dE;rw [if_neg HF1.out,if_neg HF2.out,if_pos (.inr (HH.out ((mP y).2 (.inl hy0))))]);clear HH HT;go_wp2_with fail
    go_ret;exact⟨L5.aX HC.out,ae B0.out HW.out⟩
   ·by_cases hy1:2 < y
    ·have HC:Hid ((9:Int)=dd i (nm,ps,rt,bl,pl)):=aa (by rw [←HG.out];unfold dE;rw [if_neg HF1.out,if_neg HF2.out,if_pos (.inr (HH.out ((mP y).2 (.inr hy1))))]);clear HH HT;go_wp2_with fail
     go_ret;exact⟨L5.aX HC.out,ae B0.out HW.out⟩
    ·have HT1:Hid (sF (ps.take (j+1))=false):=aa (by
      rw [HT.out,HA.out,Bool.false_or]
      cases hq:(!Av y)with
      |false=>rfl
      |true=>have:=(mP y).1 hq;omega)
     clear HH HT;go_wp2_with fail
     go_roundw
     case rel=>exact⟨j+1,by omega,by go_num,HT1,HW⟩
     case measure=>simp [intOf];omega
  ·obtain rfl:j=ps.length:=(by omega);have HC:Hid ((0:Int)=dd i (nm,ps,rt,bl,pl)):=aa (by
    rw [←HG.out];unfold dE;rw [if_neg HF1.out,if_neg HF2.out,if_neg];intro h;rcases h with h | h
    ·exact HF3.out h
    ·have h2:=HA.out;rw [List.take_length] at h2;rw [show sF ps=false from h2] at h
     cases h)
   go_wp2_with fail
   go_ret;exact⟨L5.aX HC.out,ae B0.out HW.out⟩
def gJ:Nat→List Ins→Nat × Int
 |m,[]=>(m,0)
 |m,x :: r=>if m=4096 then(m,6)else if aU x≠0 then(m+1,aU x)else gJ (m+1) r
def fT:Nat→List (List Ins)→Nat × Int
 |m,[]=>(m,0)
 |m,b :: r=>if(gJ m b).2≠0 then gJ m b else fT (gJ m b).1 r
theorem oS {α:Type} {l:List α} {j:Nat} {x:α} (h:l[j]? =some x):l.drop j=x :: l.drop (j+1):=by
 obtain⟨h1,h2⟩:=List.getElem?_eq_some_iff.1 h;rw [List.drop_eq_getElem_cons h1,h2]
def pg (m:Nat) (b:List Ins) (r:List (List Ins)):Nat × Int:=if(gJ m b).2≠0 then gJ m b else fT (gJ m b).1 r
theorem Eh (m:Nat) (r:List (List Ins)):pg m [] r=fT m r:=by unfold pg;simp [gJ]
theorem zw (x:Ins) (b:List Ins) (r:List (List Ins)):pg 4096 (x :: b) r=(4096,6):=by unfold pg;simp [gJ]
theorem BV {m:Nat} {x:Ins} (b:List Ins) (r:List (List Ins)) (hm:m≠4096) (hx:aU x≠0):pg m (x :: b) r=(m+1,aU x):=by
 have e:gJ m (x :: b)=(m+1,aU x):=by rw [gJ,if_neg hm,if_pos hx]
 unfold pg;rw [e,if_pos hx]
theorem AQ {m:Nat} {x:Ins} (b:List Ins) (r:List (List Ins)) (hm:m≠4096) (hx:aU x=0):pg m (x :: b) r=pg (m+1) b r:=by
 have e:gJ m (x :: b)=gJ (m+1) b:=by rw [gJ,if_neg hm,if_neg (by simp [hx])]
 unfold pg;rw [e]
def OkI (x:Ins):Prop:=I64 x.2.2.1∧x.2.2.2.2.2.2.1.length≤maxLen
def OkF (f:Fun):Prop:=f.1.length≤maxLen∧∀b∈f.2.2.2.1,∀x∈b,OkI x
def aT:Nat→Nat→List Fun→Int × Int
 |_,_,[]=>(0,0)
 |i,m,f :: r=>if i=32 then(6,(i:Int))else if dE f≠0 then(dE f,(i:Int))else if(fT m f.2.2.2.1).2≠0 then((fT m f.2.2.2.1).2,(i:Int))else aT (i+1) (fT m f.2.2.2.1).1 r
theorem kW (m:Nat) (f:Fun) (r:List Fun):aT 32 m (f :: r)=(6,((32:Nat):Int)):=by rw [aT,if_pos rfl]
theorem kS {i:Nat} (m:Nat) {f:Fun} (r:List Fun) (hi:i≠32) (hh:dE f≠0):aT i m (f :: r)=(dE f,(i:Int)):=by rw [aT,if_neg hi,if_pos hh]
theorem nZ {i m:Nat} {f:Fun} (r:List Fun) (hi:i≠32) (hh:dE f=0) (hb:(fT m f.2.2.2.1).2≠0):aT i m (f :: r)=((fT m f.2.2.2.1).2,(i:Int)):=by
 rw [aT,if_neg hi,if_neg (by simp [hh]),if_pos hb]
theorem pr {i m:Nat} {f:Fun} (r:List Fun) (hi:i≠32) (hh:dE f=0) (hb:(fT m f.2.2.2.1).2=0):aT i m (f :: r)=aT (i+1) (fT m f.2.2.2.1).1 r:=by
 rw [aT,if_neg hi,if_neg (by simp [hh]),if_neg (by simp [hb])]
theorem vN (w:World) (v:Value):Below w.heap.size w ((w.alloc (.cells #[v] 24)).alloc (.cells #[.int .i64 0,.int .i64 0] 59))∧((w.alloc (.cells #[v] 24)).alloc (.cells #[.int .i64 0,.int .i64 0] 59)).heap[w.heap.size]? =some (.cells #[v] 24 (0,0))∧
  ((w.alloc (.cells #[v] 24)).alloc (.cells #[.int .i64 0,.int .i64 0] 59)).heap[w.heap.size+1]? =some (.cells #[.int .i64 0,.int .i64 0] 59 (0,0))∧w.heap.size+1 < ((w.alloc (.cells #[v] 24)).alloc (.cells #[.int .i64 0,.int .i64 0] 59)).heap.size:=by
 refine⟨ae (af w _) (af _ _),(heap_alloc_old _ _ (by simp)).trans (heap_alloc_new w _),?_,by simp⟩;have:=heap_alloc_new (w.alloc (.cells #[v] 24)) (.cells #[.int .i64 0,.int .i64 0] 59);rwa [show(w.alloc (.cells #[v] 24)).heap.size=w.heap.size+1 from by simp] at this
theorem mj {w:World} {c:Nat} {a b:Value} (h:w.heap[c]? =some (.cells #[a,b] 59 (0,0))):w.cell? ⟨c,0,none⟩=some a∧w.cell? ⟨c,1,none⟩=some b∧w.frozen? ⟨c,0,none⟩=false∧w.frozen? ⟨c,1,none⟩=false:=by
 simp [World.cell?,World.frozen?,h]
theorem iD {w W wr:World} {a b:Value} (h0:Below w.heap.size w W) (h:Below W.heap.size W wr):Below w.heap.size w ((wr.setCell ⟨w.heap.size+1,0,none⟩ a).setCell ⟨w.heap.size+1,1,none⟩ b):=
 ((ae h0 h).setCell (p:=⟨w.heap.size+1,0,none⟩) (Nat.le_succ _) a).setCell (p:=⟨w.heap.size+1,1,none⟩) (Nat.le_succ _) b
end Go.Proofs.YtaiaakklokahjaaGreatDoor
