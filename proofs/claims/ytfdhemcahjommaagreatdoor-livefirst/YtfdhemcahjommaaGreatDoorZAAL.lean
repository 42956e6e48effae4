/- Texts of one chain, joined. -/
import Derived.Test.YtfdhemcahjommaaGreatDoorZAAF
import Derived.Test.YtfdhemcahjommaaGreatDoorZAAI
import Derived.Test.YtfdhemcahjommaaGreatDoorZAAJ
set_option maxHeartbeats 4000000
set_option maxRecDepth 20000
namespace Go.Proofs.YtfdhemcahjommaaGreatDoor
open Go Go.RowKit
open G (Tok Er Ins Fun)
def bg (f:Fun) (b k:Nat):List Int:=((List.range k).filter fun j=>aA (aF f j) b).map Int.ofNat
def aL (f:Fun):List (List Int):=(List.range f.2.2.2.1.length).map fun b=>bg f b f.2.2.2.1.length
theorem oI {f:Fun} {b k:Nat} (h:aA (aF f k) b=true):bg f b (k+1)=bg f b k ++ [(k:Int)]:=by
 unfold bg;rw [List.range_succ,List.filter_append,List.map_append];simp [h]
theorem qx {f:Fun} {b k:Nat} (h:aA (aF f k) b=false):bg f b (k+1)=bg f b k:=by
 unfold bg;rw [List.range_succ,List.filter_append,List.map_append];simp [h]
theorem kT (f:Fun) (b k:Nat):(bg f b k).length≤k:=by
 unfold bg;rw [List.length_map];exact Nat.le_trans (List.length_filter_le _ _) (by simp)
theorem tg {f:Fun} {b:Nat} (h:b < f.2.2.2.1.length):(aL f).take (b+1)=(aL f).take b ++ [bg f b f.2.2.2.1.length]:=by
 refine aV ?_;unfold aL;rw [List.getElem?_map,List.getElem?_range h];rfl
theorem kU (f:Fun):(aL f).length=f.2.2.2.1.length:=by simp [aL]
theorem xI (nm:List UInt8) (ps:List Int) (rt pl:Int) (bl:List (List Ins)) (ao bo:Option Addr) (c cb:Nat) (w:World)
  (hv:bG w (nm,ps,rt,bl,pl) (.agg #[.string (bs nm),.slice ao ps.length c,.int .i64 rt,.slice bo bl.length cb,.int .i64 pl])) (hF:Ful (nm,ps,rt,bl,pl)):
  Calls Tryz.prog 83 #[.agg #[.string (bs nm),.slice ao ps.length c,.int .i64 rt,.slice bo bl.length cb,.int .i64 pl]] w fun e w'=>∃v,e= .returned v∧bj w.heap.size w' (aL (nm,ps,rt,bl,pl)) v∧Below w.heap.size w w':=by
 obtain⟨i0,hi0,hz0,hz1,hz2⟩:=info_parts Tryz.sB;obtain⟨i3,hi3,hz3,hz4,hz5⟩:=info_parts Tryz.dj;have b0:=ag w (.cells #[.string (bs nm),.slice ao ps.length c,.int .i64 rt,.slice bo bl.length cb,.int .i64 pl] 28);have X0:=ae (L5.Box.new w [.string (bs nm),.slice ao ps.length c,.int .i64 rt,.slice bo bl.length cb,.int .i64 pl] 28);have HV:=ae (hv.below b0);have B0:=ae b0;have HFu:=ae hF;have hbl:bl.length≤1000000:=hF.1;clear b0 hv hF;go_enter Tryz.func83,Tryz.ntmps83
 go_upto_region 1 with fail
 show Code.wp _ _ _ _ (w.alloc (.cells #[.string (bs nm),.slice ao ps.length c,.int .i64 rt,.slice bo bl.length cb,.int .i64 pl] 28));replace X0:Hid (L5.Box (w.alloc (.cells #[.string (bs nm),.slice ao ps.length c,.int .i64 rt,.slice bo bl.length cb,.int .i64 pl] 28)) w.heap.size [.string (bs nm),.slice ao ps.length c,.int .i64 rt,.slice bo bl.length cb,.int .i64 pl]):=X0;generalize w.alloc (.cells #[.string (bs nm),.slice ao ps.length c,.int .i64 rt,.slice bo bl.length cb,.int .i64 pl] 28)=W at *;go_wp2_with fail
 go_loopw [3,4] (fun v i wr=>∃K:Nat,K≤bl.length∧i= .int .i64 K∧Hid (bj W.heap.size wr ((aL (nm,ps,rt,bl,pl)).take K) v)∧Hid (Below W.heap.size W wr)) (fun _ i _=>bl.length - (intOf i).toNat)
 case atStart=>exact⟨0,Nat.zero_le _,rfl,ae (bj.nil _ _),ae (Below.refl _ _)⟩
 case round=>
  obtain⟨K,hK,rfl,HR,HW⟩:=hrel;obtain⟨x0,x1,x2,x3,x4⟩:_∧_∧_∧_∧_:=⟨(X0.out.below HW.out).2 0 _ rfl,(X0.out.below HW.out).2 1 _ rfl,(X0.out.below HW.out).2 2 _ rfl,(X0.out.below HW.out).2 3 _ rfl,(X0.out.below HW.out).2 4 _ rfl⟩;by_cases hkt:K < bl.length
  ·have hkI:(K:Int) < bl.length:=(by omega);have hsk:Hid _:=ae (tg (f:=(nm,ps,rt,bl,pl)) hkt);have hlen:((aL (nm,ps,rt,bl,pl)).take K).length=K:=(by rw [List.length_take,kU];show min K bl.length=K;omega);obtain⟨vo,vc,rfl⟩:=HR.out.len;go_wp2_with fail
   clear x0 x1 x2 x3 x4;generalize wr=W2 at *;go_loopw [5,6] (fun v i wq=>∃J:Nat,J≤bl.length∧i= .int .i64 J∧Hid (Grw W2 (bg (nm,ps,rt,bl,pl) K J) v wq)) (fun _ i _=>bl.length - (intOf i).toNat)
   case atStart=>exact⟨0,Nat.zero_le _,rfl,ae (Grw.start _)⟩
   case round=>
    obtain⟨J,hJ,rfl,HG⟩:=hrel;have HWq:=ae (af HW.out HG.out.2);obtain⟨x0,x1,x2,x3,x4⟩:_∧_∧_∧_∧_:=⟨(X0.out.below HWq.out).2 0 _ rfl,(X0.out.below HWq.out).2 1 _ rfl,(X0.out.below HWq.out).2 2 _ rfl,(X0.out.below HWq.out).2 3 _ rfl,(X0.out.below HWq.out).2 4 _ rfl⟩;by_cases hjt:J < bl.length
    ·have hjI:(J:Int) < bl.length:=(by omega);have HN:=ae (mg (nm,ps,rt,bl,pl) J _ wr (HV.out.below HWq.out) HFu.out hjt);have hyes:=fun h=>ae (oI (f:=(nm,ps,rt,bl,pl)) (b:=K) (k:=J) h);have hno:=fun h=>ae (qx (f:=(nm,ps,rt,bl,pl)) (b:=K) (k:=J) h);have hpl:=kT (nm,ps,rt,bl,pl) K J;generalize aF (nm,ps,rt,bl,pl) J=l at *;go_wp2_with fail
     refine HN.out.mono ?_;rintro e w1 ⟨u,rfl,hu,b1⟩;obtain⟨uo,uc,rfl,hs1,hs2,hs3⟩:=eO hu;have HH:=ae (cE l K uo uc w1 hs1 (Nat.le_trans hs2 hs3));clear hs1 hs2 hs3 hu;have HG1:Hid (Grw W2 (bg (nm,ps,rt,bl,pl) K J) _ w1):=ae ⟨aB b1 _ _ _ _ _ _ HG.out.1,af HG.out.2 b1⟩;clear x0 x1 x2 x3 x4;go_wp2_with fail
     refine HH.out.mono ?_;rintro e w2 ⟨rfl,rfl⟩
     cases hh:aA l K with
     |true=>
      have HN2:=hyes hh;replace hh:=ae hh;have hWs:=HG1.out.2.size;go_wp2_with (at_builtin;refine wpList_append_own _ rfl (.tmp 26) (.tmp 28) 25 rfl W2.heap.size 3 i3 _ 1 8 Tryz.underlying25 hi3 hz3 hz4 hz5 rfl (by decide) _ _ _ rfl (HG1.out.1.alloc _) ⟨w2.heap.size,0,none⟩ 1 1 [.int .i64 J] rfl rfl one_cell one_one (by unfold maxLen;omega) (by omega) (by simp;omega) ?_;intro v2 w3 own2 grow2 _)
      have HE:Hid (Grw W2 (bg (nm,ps,rt,bl,pl) K (J+1)) v2 w3):=ae (by rw [HN2.out];exact HG1.out.step own2 grow2);clear own2 grow2;go_wp2_with fail
      go_roundw
      case rel=>exact⟨J+1,by omega,by go_num,HE⟩
      case measure=>simp [intOf];omega
     |false=>
      have HE:Hid (Grw W2 (bg (nm,ps,rt,bl,pl) K (J+1)) _ w2):=ae (by rw [(hno hh).out];exact HG1.out);replace hh:=ae hh;go_wp2_with fail
      go_roundw
      case rel=>exact⟨J+1,by omega,by go_num,HE⟩
      case measure=>simp [intOf];omega
    ·obtain rfl:J=bl.length:=(by omega);have HR1:=ae (HR.out.below HG.out.2);have HU:=ae (aO HG.out.1 HW.out.size);have HW1:=ae (af HW.out HG.out.2);replace hsk:Hid ((aL (nm,ps,rt,bl,pl)).take (K+1)=(aL (nm,ps,rt,bl,pl)).take K ++ [bg (nm,ps,rt,bl,pl) K bl.length]):=hsk;clear HG;generalize bg (nm,ps,rt,bl,pl) K bl.length=l at *;obtain⟨us,ho,hus⟩:=HR1.out;obtain⟨uo,uc,rfl⟩:=aI HU.out;have hWs:=HW1.out.size;have ho2:=ho;rw [hlen] at ho2;go_wp2_with (at_builtin;refine wpList_append_own _ rfl (.tmp 30) (.tmp 32) 60 rfl W.heap.size 25 i0 _ 1 24 Tryz.underlying60 hi0 hz0 hz1 hz2 rfl (by decide) _ _ _ rfl (ho2.alloc _) ⟨wr.heap.size,0,none⟩ 1 1 [.slice uo l.length uc] rfl rfl one_cell (ss rfl) (by unfold maxLen;omega) (by omega) (by simp;omega) ?_;intro v2 w2 own2 grow2 _)
     have HE:Hid (bj W.heap.size w2 ((aL (nm,ps,rt,bl,pl)).take (K+1)) v2):=ae (by
      rw [hsk.out];exact bj.step ho hus HU.out (by rw [hlen];exact own2) (by rw [hlen];exact grow2))
     have HW2:Hid (Below W.heap.size W w2):=ae (by
      refine Below.grown (HW1.out.alloc HW1.out.size _) grow2 (by simp;omega) ?_;intro k hk;exact(ho2.lt k hk).1)
     clear own2 grow2;go_wp2_with fail
     go_roundw
     case rel=>exact⟨K+1,by omega,by go_num,HE,HW2⟩
     case measure=>simp [intOf];omega
  ·obtain rfl:K=bl.length:=(by omega);have HE:Hid (bj W.heap.size wr (aL (nm,ps,rt,bl,pl)) _):=ae (by have:=HR.out;rwa [List.take_of_length_le (by rw [kU];exact Nat.le_refl _)] at this);have HE2:=ae (HE.out.base B0.out.size);go_wp2_with fail
   go_ret;exact⟨_,rfl,HE2.out,af B0.out HW.out⟩
theorem zZ (op:Int) (w:World):Calls Tryz.prog 81 #[.int .i64 op] w fun e w'=>e= .returned (.bool (gU op))∧w'=w:=by
 go_enter Tryz.func81,Tryz.ntmps81
 go_wp2
 all_goals (go_ret;refine⟨L5.ax ?_,rfl⟩;rw [Bool.eq_iff_iff];simp [gU];try omega)
def kR (N:Nat) (t:List Int):Bool:=t.any fun m=>decide (m < 0∨(N:Int)≤m)
def jr (N:Nat) (x:Ins):Bool:=decide (x.1≠20) && kR N x.2.2.2.2.2.1
def eW (N n:Nat):Nat→List Ins→Int
 |_,[]=>0
 |i,x :: r=>if gU x.1≠decide (i+1=n)then 15 else if jr N x then 7 else eW N n (i+1) r
def tQ (N:Nat) (b:List Ins):Int:=if b.length=0 then 15 else eW N b.length 0 b
def dP (N:Nat):Nat→List (List Ins)→Int × Int
 |_,[]=>(0,0)
 |k,b :: r=>if tQ N b≠0 then(tQ N b,(k:Int))else dP N (k+1) r
def aU (f:Fun):Int × Int:=if f.2.2.2.1.length=0 then(15,0)else dP f.2.2.2.1.length 0 f.2.2.2.1
theorem nX {α:Type} {l:List α} {i:Nat} {x:α} (h:l[i]? =some x):l.drop i=x :: l.drop (i+1):=by
 obtain⟨h1,rfl⟩:=List.getElem?_eq_some_iff.1 h;exact List.drop_eq_getElem_cons h1
theorem mB {N n i:Nat} {x:Ins} {r:List Ins} (h:gU x.1≠decide (i+1=n)):eW N n i (x :: r)=15:=by rw [eW,if_pos h]
theorem m7 {N n i:Nat} {x:Ins} {r:List Ins} (h:gU x.1=decide (i+1=n)) (hb:jr N x=true):eW N n i (x :: r)=7:=by rw [eW,if_neg (by simp [h]),if_pos hb]
theorem kM {N n i:Nat} {x:Ins} {r:List Ins} (h:gU x.1=decide (i+1=n)) (hb:jr N x=false):eW N n i (x :: r)=eW N n (i+1) r:=by rw [eW,if_neg (by simp [h]),if_neg (by simp [hb])]
theorem ee {N k:Nat} {b:List Ins} {r:List (List Ins)} {z:Int} (h:tQ N b=z) (hz:z≠0):dP N k (b :: r)=(z,(k:Int)):=by rw [dP,h,if_pos hz]
theorem kG {N k:Nat} {b:List Ins} {r:List (List Ins)} (h:tQ N b=0):dP N k (b :: r)=dP N (k+1) r:=by rw [dP,if_neg (by simp [h])]
theorem qU {N:Nat} {t:List Int} {j:Nat} {m:Int} (h:t[j]? =some m):kR N (t.drop j)=(decide (m < 0∨(N:Int)≤m) || kR N (t.drop (j+1))):=by
 rw [nX h];rfl
theorem Bd (w:World) (cs:Array Value):Below w.heap.size w ((w.alloc (.cells cs 28)).alloc (.cells #[.int .i64 0,.int .i64 0] 55))∧((w.alloc (.cells cs 28)).alloc (.cells #[.int .i64 0,.int .i64 0] 55)).heap[w.heap.size]? =some (.cells cs 28 (0,0))∧
  ((w.alloc (.cells cs 28)).alloc (.cells #[.int .i64 0,.int .i64 0] 55)).heap[w.heap.size+1]? =some (.cells #[.int .i64 0,.int .i64 0] 55 (0,0))∧w.heap.size+1 < ((w.alloc (.cells cs 28)).alloc (.cells #[.int .i64 0,.int .i64 0] 55)).heap.size:=by
 refine⟨af (ag w _) (ag _ _),(heap_alloc_old _ _ (by simp)).trans (heap_alloc_new w _),?_,by simp⟩;have:=heap_alloc_new (w.alloc (.cells cs 28)) (.cells #[.int .i64 0,.int .i64 0] 55);rwa [show(w.alloc (.cells cs 28)).heap.size=w.heap.size+1 from by simp] at this
theorem fN {w:World} {c:Nat} {a b:Value} (h:w.heap[c]? =some (.cells #[a,b] 55 (0,0))):w.cell? ⟨c,0,none⟩=some a∧w.cell? ⟨c,1,none⟩=some b∧w.frozen? ⟨c,0,none⟩=false∧w.frozen? ⟨c,1,none⟩=false:=by
 simp [World.cell?,World.frozen?,h]
theorem dU {w W wr:World} {a b:Value} (h0:Below w.heap.size w W) (h:Below W.heap.size W wr):Below w.heap.size w ((wr.setCell ⟨w.heap.size+1,0,none⟩ a).setCell ⟨w.heap.size+1,1,none⟩ b):=
 ((af h0 h).setCell (p:=⟨w.heap.size+1,0,none⟩) (Nat.le_succ _) a).setCell (p:=⟨w.heap.size+1,1,none⟩) (Nat.le_succ _) b
theorem tf (nm:List UInt8) (ps:List Int) (rt pl:Int) (bl:List (List Ins)) (ao bo:Option Addr) (c cb:Nat) (w:World)
  (hv:bG w (nm,ps,rt,bl,pl) (.agg #[.string (bs nm),.slice ao ps.length c,.int .i64 rt,.slice bo bl.length cb,.int .i64 pl])):
  Calls Tryz.prog 55 #[.agg #[.string (bs nm),.slice ao ps.length c,.int .i64 rt,.slice bo bl.length cb,.int .i64 pl]] w fun e w'=>e= .returned (.agg #[.int .i64 (aU (nm,ps,rt,bl,pl)).1,.int .i64 (aU (nm,ps,rt,bl,pl)).2])∧Below w.heap.size w w':=by
 obtain⟨b0,h0,h1,hz0⟩:=Bd w #[.string (bs nm),.slice ao ps.length c,.int .i64 rt,.slice bo bl.length cb,.int .i64 pl];have H0:=ae h0;have H1:=ae h1;have HV:=ae (hv.below b0);have B0:=ae b0;have hbc:bl.length≤cb∧cb≤maxLen:=by
  obtain⟨vp,vb,e,_,⟨ao',c',e',h1,h2,_⟩⟩:=hv;injection e with e;have e3:=congrArg (fun a=>a[3]?) e;simp at e3;subst e3;injection e' with e1 e2 e3;subst e3;exact⟨h1,h2⟩
 have hz2:w.heap.size < ((w.alloc (.cells #[.string (bs nm),.slice ao ps.length c,.int .i64 rt,.slice bo bl.length cb,.int .i64 pl] 28)).alloc (.cells #[.int .i64 0,.int .i64 0] 55)).heap.size:=by omega
 unfold maxLen at hbc;clear b0 h0 h1 hv;go_enter Tryz.func55,Tryz.ntmps55
 go_upto_region 1 with fail
 show Code.wp _ _ _ _ ((w.alloc (.cells #[.string (bs nm),.slice ao ps.length c,.int .i64 rt,.slice bo bl.length cb,.int .i64 pl] 28)).alloc (.cells #[.int .i64 0,.int .i64 0] 55));generalize (w.alloc (.cells #[.string (bs nm),.slice ao ps.length c,.int .i64 rt,.slice bo bl.length cb,.int .i64 pl] 28)).alloc (.cells #[.int .i64 0,.int .i64 0] 55)=W at *;obtain⟨x0,x1,x2,x3,x4⟩:=mG H0.out;by_cases hn0:bl.length=0
 ·have HE:Hid (aU (nm,ps,rt,bl,pl)=(15,0)):=ae (if_pos hn0);obtain⟨d0,d1,z0,z1⟩:=fN H1.out;go_wp2_with fail
  exact bodyPost_ret (v:= .agg #[.int .i64 15,.int .i64 0]) (by simp [results,Tryz.results55,go_sem,d0,d1]) rfl ⟨by rw [HE.out],dU B0.out (Below.refl _ _)⟩
 have hn1:((bl.length:Int) == 0)=false:=by simpa using hn0
 have HB:Hid (fw W bl (.slice bo bl.length cb)):=ae (by
  obtain⟨vp,vb,e,_,hB⟩:=HV.out;injection e with e;have e3:=congrArg (fun a=>a[3]?) e;simp at e3;rw [e3];exact hB)
 have HS:Hid (aU (nm,ps,rt,bl,pl)=dP bl.length 0 bl):=ae (if_neg hn0);go_wp2_with fail
 clear x0 x1 x2 x3 x4;go_loopw [3] (fun i wr=>∃K:Nat,K≤bl.length∧i= .int .i64 K∧Hid (aU (nm,ps,rt,bl,pl)=dP bl.length K (bl.drop K))∧Hid (Below W.heap.size W wr)) (fun i _=>bl.length - (intOf i).toNat)
 case atStart=>exact⟨0,Nat.zero_le _,rfl,HS,ae (Below.refl _ _)⟩
 case round=>
  obtain⟨K,hK,rfl,HR,HW⟩:=hrel;obtain⟨x0,x1,x2,x3,x4⟩:=mG ((HW.out.block _ hz2).trans H0.out);by_cases hkt:K < bl.length
  ·obtain⟨b,hbK⟩:∃b,bl[K]? =some b:=⟨bl[K],List.getElem?_eq_getElem hkt⟩;have hkI:(K:Int) < bl.length:=(by omega);obtain⟨_,_,e',l1,l2,l3⟩:=HB.out;injection e' with e1 e2 e4;subst e1 e4;rcases l3 with l3 | ⟨gc,oc,rfl,gk,h2⟩
   ·subst l3;simp at hkt
   obtain⟨vk,kd,aok,capk,rfl,m1,m2,kk⟩:=h2 K b hbK;have c1:=(HW.out.cell (p:=⟨gc,oc+K,none⟩) gk).trans kd;have HR2:=ae (HR.out.trans (by rw [nX hbK]));have HKK:=ae kk;have KD:=ae kd;unfold maxLen at m2;clear kd kk h2 hbK e2 HR;go_wp2_with fail
   clear x0 x1 x2 x3 x4 c1;have HW0:=HW;clear HW;go_loopw [5] (fun i wq=>∃I:Nat,I≤b.length∧i= .int .i64 I∧Hid (eW bl.length b.length 0 b=eW bl.length b.length I (b.drop I))∧Hid (Below W.heap.size W wq)) (fun i _=>b.length - (intOf i).toNat)
   case atStart=>exact⟨0,Nat.zero_le _,rfl,ae rfl,HW0⟩
   case round=>
    clear HW0;obtain⟨I,hI,rfl,HI,HW⟩:=hrel;obtain⟨x0,x1,x2,x3,x4⟩:=mG ((HW.out.block _ hz2).trans H0.out);have c1:=(HW.out.cell (p:=⟨gc,oc+K,none⟩) gk).trans KD.out;by_cases hit:I < b.length
    ·have hiI:(I:Int) < b.length:=(by omega);obtain⟨x,hx⟩:∃x,b[I]? =some x:=⟨b[I],List.getElem?_eq_getElem hit⟩;rcases HKK.out with e0 | ⟨gi,oi,rfl,kk⟩
     ·subst e0;simp at hit
     have HI2:=ae (HI.out.trans (by rw [nX hx]));obtain⟨ai,ti,ca,ct,hv,r0,r1,r2,r3,r4,r5,r6,r7⟩:=((kk I _ hx).below HW.out).val;obtain⟨op,id,nn,ty,ar,tt,na,pp⟩:=x;dsimp only at hv r0 r1 r2 r3 r4 r5 r6 r7
     have HSt:Hid (Sl wr ti tt∧tt.length≤maxLen):=ae (by
      obtain⟨a1,t1,c1,c2,e,s1,s2,_,_,s5,s6⟩:=hv;injection e with e;have e2:=congrArg (fun a=>a[5]?) e;simp at e2;rw [e2.1];exact⟨s2,Nat.le_trans s5 s6⟩)
     have B7:=ae (ag wr (.cells #[.int .i64 op,.int .i64 id,.int .i64 nn,.int .i64 ty,.slice ai ar.length ca,.slice ti tt.length ct,.string (bs na),.int .i64 pp] 48));have H7:=ae (heap_alloc_new wr (.cells #[.int .i64 op,.int .i64 id,.int .i64 nn,.int .i64 ty,.slice ai ar.length ca,.slice ti tt.length ct,.string (bs na),.int .i64 pp] 48));have hbn:¬b.length=0:=(by omega);have HBE:Hid (tQ bl.length b=eW bl.length b.length 0 b):=ae (if_neg hbn);clear kk hx hv HI;go_wp2_with fail
     refine(zZ op _).mono ?_;rintro e w8 ⟨rfl,rfl⟩;have HW8:=ae (af HW.out B7.out);have hwl:wr.heap.size < (wr.alloc (.cells #[.int .i64 op,.int .i64 id,.int .i64 nn,.int .i64 ty,.slice ai ar.length ca,.slice ti tt.length ct,.string (bs na),.int .i64 pp] 48)).heap.size:=(by simp);obtain⟨s0,s1,s2,s3,s4,s5,s6,s7⟩:=pr H7.out;have HSt8:Hid (Sl (wr.alloc (.cells #[.int .i64 op,.int .i64 id,.int .i64 nn,.int .i64 ty,.slice ai ar.length ca,.slice ti tt.length ct,.string (bs na),.int .i64 pp] 48)) ti tt):=ae (HSt.out.1.below B7.out);have htl:tt.length≤maxLen:=HSt.out.2;unfold maxLen at htl;obtain⟨y0,y1,y2,y3,y4⟩:=mG ((HW8.out.block _ hz2).trans H0.out);generalize wr.alloc (.cells #[.int .i64 op,.int .i64 id,.int .i64 nn,.int .i64 ty,.slice ai ar.length ca,.slice ti tt.length ct,.string (bs na),.int .i64 pp] 48)=W8 at *;clear x0 x1 x2 x3 x4 c1 r0 r1 r2 r3 r4 r5 r6 r7 B7 H7 HW HSt;have SS:=ae (And.intro s0 s5);by_cases hlast:I+1=b.length
     ·have hlI:((I:Int)+1 == (b.length:Int))=true:=by simpa using (by omega:(I:Int)+1=b.length)
      cases he:gU op with
      |false=>
       have HEE:Hid (aU (nm,ps,rt,bl,pl)=(15,(K:Int))):=ae (HR2.out.trans (ee (HBE.out.trans (HI2.out.trans (mB (by simp [he,hlast])))) (by decide)));obtain⟨d0,d1,z0,z1⟩:=fN ((HW8.out.block _ hz0).trans H1.out);go_wp2_with fail
       exact bodyPost_ret (v:= .agg #[.int .i64 15,.int .i64 (K:Int)]) (by simp [results,Tryz.results55,go_sem,d0,d1]) rfl ⟨by rw [HEE.out],dU B0.out HW8.out⟩
      |true=>
       have HEq:Hid (gU op=decide (I+1=b.length)):=ae (by simp [he,hlast]);have HBad:Hid (jr bl.length (op,id,nn,ty,ar,tt,na,pp)=true→aU (nm,ps,rt,bl,pl)=(7,(K:Int))):=ae (fun h=>HR2.out.trans (ee (HBE.out.trans (HI2.out.trans (m7 HEq.out h))) (by decide)));have HOk:Hid (jr bl.length (op,id,nn,ty,ar,tt,na,pp)=false→eW bl.length b.length 0 b=eW bl.length b.length (I+1) (b.drop (I+1))):=ae (fun h=>HI2.out.trans (kM HEq.out h));replace he:=ae he;go_wp2_with fail
       clear s0 s1 s2 s3 s4 s5 s6 s7 y0 y1 y2 y3 y4;have S8:Hid (W8.cell? ⟨wr.heap.size,0,none⟩=some (.int .i64 op)∧W8.cell? ⟨wr.heap.size,5,none⟩=some (.slice ti tt.length ct)):=SS;generalize wr.heap.size=q at *;go_loopw [7] (fun i wq=>∃J:Nat,J≤tt.length∧i= .int .i64 J∧Hid (kR bl.length tt=kR bl.length (tt.drop J))∧Hid (Below W8.heap.size W8 wq)) (fun i _=>tt.length - (intOf i).toNat)
       case atStart=>exact⟨0,Nat.zero_le _,rfl,ae rfl,ae (Below.refl _ _)⟩
       case round=>
        obtain⟨J,hJ,rfl,HJ,HB9⟩:=hrel;have HW9:=ae (af HW8.out HB9.out);have s0:=(HB9.out.cell (p:=⟨q,0,none⟩) hwl).trans S8.out.1;have s5:=(HB9.out.cell (p:=⟨q,5,none⟩) hwl).trans S8.out.2;by_cases hjt:J < tt.length
        ·have hjI:(J:Int) < tt.length:=(by omega);by_cases hop:op=20
         ·have hop':(op != 20)=false:=(by simpa using hop);have HE:=ae (HOk.out (by simp [jr,hop]));go_wp2_with fail
          go_roundw
          case rel=>exact⟨I+1,by omega,by go_num,HE,HW9⟩
          case measure=>simp [intOf];omega
         ·have hop':(op != 20)=true:=(by simpa using hop);obtain⟨m,hm⟩:∃m,tt[J]? =some m:=⟨tt[J],List.getElem?_eq_getElem hjt⟩;rcases HSt8.out with e0 | ⟨tb,to2,rfl,t1,t2⟩
          ·subst e0;simp at hjt
          have c9:=(HB9.out.cell (p:=⟨tb,to2+J,none⟩) t1).trans (t2 J m hm);have HJ2:=ae (HJ.out.trans (qU hm));obtain⟨y0,y1,y2,y3,y4⟩:=mG ((HW9.out.block _ hz2).trans H0.out);have hq9:q < wr.heap.size:=Nat.lt_of_lt_of_le hwl HB9.out.size;have ht9:tb < wr.heap.size:=Nat.lt_of_lt_of_le t1 HB9.out.size;have hf9:w.heap.size < wr.heap.size:=Nat.lt_of_lt_of_le hz2 HW9.out.size;have f1:=fun x=>((L5.aE wr x).cell (p:=⟨q,5,none⟩) hq9).trans s5;have f2:=fun x=>((L5.aE wr x).cell (p:=⟨tb,to2+J,none⟩) ht9).trans c9;have f3:=fun x=>((L5.aE wr x).cell (p:=⟨w.heap.size,3,none⟩) hf9).trans y3;have HX:=ae (fun x=>af HW9.out (L5.aE wr x));have HX9:=ae (fun x=>af HB9.out (L5.aE wr x));clear t2 hm y0 y1 y2 y4 c9;by_cases hneg:m < 0
          ·have HE:=ae (HBad.out (by simp only [jr,HJ2.out];simp [hop,hneg]));go_wp2_with fail
           refine L5.aM (by kernel_rfl) (by kernel_rfl) ?_;repeat (go_big_quiet_step (fail))
           refine wpQuiet_nil ?_;rintro _ ⟨x,rfl⟩;obtain⟨d0,d1,z0,z1⟩:=fN (((HX.out x).block _ hz0).trans H1.out);go_wp2_with fail
           exact bodyPost_ret (v:= .agg #[.int .i64 7,.int .i64 (K:Int)]) (by simp [results,Tryz.results55,go_sem,d0,d1]) rfl ⟨by rw [HE.out],dU B0.out (HX.out x)⟩
          ·have hdn:decide (m < 0)=false:=(by simpa using hneg);by_cases hbig:(bl.length:Int)≤m
           ·have HE:=ae (HBad.out (by simp only [jr,HJ2.out];simp [hop,hneg,hbig]));go_wp2_with fail
            refine L5.aM (by kernel_rfl) (by kernel_rfl) ?_;repeat (go_big_quiet_step (fail))
            refine wpQuiet_nil ?_;rintro _ ⟨x,rfl⟩;obtain⟨d0,d1,z0,z1⟩:=fN (((HX.out x).block _ hz0).trans H1.out);go_wp2_with fail
            exact bodyPost_ret (v:= .agg #[.int .i64 7,.int .i64 (K:Int)]) (by simp [results,Tryz.results55,go_sem,d0,d1]) rfl ⟨by rw [HE.out],dU B0.out (HX.out x)⟩
           ·have HE:Hid (kR bl.length tt=kR bl.length (tt.drop (J+1))):=ae (by rw [HJ2.out];simp [hneg,hbig]);go_wp2_with fail
            refine L5.aM (by kernel_rfl) (by kernel_rfl) ?_;repeat (go_big_quiet_step (fail))
            refine wpQuiet_nil ?_;rintro _ ⟨x,rfl⟩;have HX9x:=ae (HX9.out x);go_wp2_with fail
            go_roundw
            case rel=>exact⟨J+1,by omega,by go_num,HE,HX9x⟩
            case measure=>simp [intOf];omega
        ·obtain rfl:J=tt.length:=(by omega);have HE:=ae (HOk.out (by simp only [jr,HJ.out,List.drop_length];simp [kR]));go_wp2_with fail
         go_roundw
         case rel=>exact⟨I+1,by omega,by go_num,HE,HW9⟩
         case measure=>simp [intOf];omega
     ·have hlI:((I:Int)+1 == (b.length:Int))=false:=beq_eq_false_iff_ne.2 (by omega)
      cases he:gU op with
      |true=>
       have HEE:Hid (aU (nm,ps,rt,bl,pl)=(15,(K:Int))):=ae (HR2.out.trans (ee (HBE.out.trans (HI2.out.trans (mB (by simp [he,hlast])))) (by decide)));obtain⟨d0,d1,z0,z1⟩:=fN ((HW8.out.block _ hz0).trans H1.out);go_wp2_with fail
       exact bodyPost_ret (v:= .agg #[.int .i64 15,.int .i64 (K:Int)]) (by simp [results,Tryz.results55,go_sem,d0,d1]) rfl ⟨by rw [HEE.out],dU B0.out HW8.out⟩
      |false=>
       have HEq:Hid (gU op=decide (I+1=b.length)):=ae (by simp [he,hlast]);have HBad:Hid (jr bl.length (op,id,nn,ty,ar,tt,na,pp)=true→aU (nm,ps,rt,bl,pl)=(7,(K:Int))):=ae (fun h=>HR2.out.trans (ee (HBE.out.trans (HI2.out.trans (m7 HEq.out h))) (by decide)));have HOk:Hid (jr bl.length (op,id,nn,ty,ar,tt,na,pp)=false→eW bl.length b.length 0 b=eW bl.length b.length (I+1) (b.drop (I+1))):=ae (fun h=>HI2.out.trans (kM HEq.out h));replace he:=ae he;go_wp2_with fail
       clear s0 s1 s2 s3 s4 s5 s6 s7 y0 y1 y2 y3 y4;have S8:Hid (W8.cell? ⟨wr.heap.size,0,none⟩=some (.int .i64 op)∧W8.cell? ⟨wr.heap.size,5,none⟩=some (.slice ti tt.length ct)):=SS;generalize wr.heap.size=q at *;go_loopw [7] (fun i wq=>∃J:Nat,J≤tt.length∧i= .int .i64 J∧Hid (kR bl.length tt=kR bl.length (tt.drop J))∧Hid (Below W8.heap.size W8 wq)) (fun i _=>tt.length - (intOf i).toNat)
       case atStart=>exact⟨0,Nat.zero_le _,rfl,ae rfl,ae (Below.refl _ _)⟩
       case round=>
        obtain⟨J,hJ,rfl,HJ,HB9⟩:=hrel;have HW9:=ae (af HW8.out HB9.out);have s0:=(HB9.out.cell (p:=⟨q,0,none⟩) hwl).trans S8.out.1;have s5:=(HB9.out.cell (p:=⟨q,5,none⟩) hwl).trans S8.out.2;by_cases hjt:J < tt.length
        ·have hjI:(J:Int) < tt.length:=(by omega);by_cases hop:op=20
         ·have hop':(op != 20)=false:=(by simpa using hop);have HE:=ae (HOk.out (by simp [jr,hop]));go_wp2_with fail
          go_roundw
          case rel=>exact⟨I+1,by omega,by go_num,HE,HW9⟩
          case measure=>simp [intOf];omega
         ·have hop':(op != 20)=true:=(by simpa using hop);obtain⟨m,hm⟩:∃m,tt[J]? =some m:=⟨tt[J],List.getElem?_eq_getElem hjt⟩;rcases HSt8.out with e0 | ⟨tb,to2,rfl,t1,t2⟩
          ·subst e0;simp at hjt
          have c9:=(HB9.out.cell (p:=⟨tb,to2+J,none⟩) t1).trans (t2 J m hm);have HJ2:=ae (HJ.out.trans (qU hm));obtain⟨y0,y1,y2,y3,y4⟩:=mG ((HW9.out.block _ hz2).trans H0.out);have hq9:q < wr.heap.size:=Nat.lt_of_lt_of_le hwl HB9.out.size;have ht9:tb < wr.heap.size:=Nat.lt_of_lt_of_le t1 HB9.out.size;have hf9:w.heap.size < wr.heap.size:=Nat.lt_of_lt_of_le hz2 HW9.out.size;have f1:=fun x=>((L5.aE wr x).cell (p:=⟨q,5,none⟩) hq9).trans s5;have f2:=fun x=>((L5.aE wr x).cell (p:=⟨tb,to2+J,none⟩) ht9).trans c9;have f3:=fun x=>((L5.aE wr x).cell (p:=⟨w.heap.size,3,none⟩) hf9).trans y3;have HX:=ae (fun x=>af HW9.out (L5.aE wr x));have HX9:=ae (fun x=>af HB9.out (L5.aE wr x));clear t2 hm y0 y1 y2 y4 c9;by_cases hneg:m < 0
          ·have HE:=ae (HBad.out (by simp only [jr,HJ2.out];simp [hop,hneg]));go_wp2_with fail
           refine L5.aM (by kernel_rfl) (by kernel_rfl) ?_;repeat (go_big_quiet_step (fail))
           refine wpQuiet_nil ?_;rintro _ ⟨x,rfl⟩;obtain⟨d0,d1,z0,z1⟩:=fN (((HX.out x).block _ hz0).trans H1.out);go_wp2_with fail
           exact bodyPost_ret (v:= .agg #[.int .i64 7,.int .i64 (K:Int)]) (by simp [results,Tryz.results55,go_sem,d0,d1]) rfl ⟨by rw [HE.out],dU B0.out (HX.out x)⟩
          ·have hdn:decide (m < 0)=false:=(by simpa using hneg);by_cases hbig:(bl.length:Int)≤m
           ·have HE:=ae (HBad.out (by simp only [jr,HJ2.out];simp [hop,hneg,hbig]));go_wp2_with fail
            refine L5.aM (by kernel_rfl) (by kernel_rfl) ?_;repeat (go_big_quiet_step (fail))
            refine wpQuiet_nil ?_;rintro _ ⟨x,rfl⟩;obtain⟨d0,d1,z0,z1⟩:=fN (((HX.out x).block _ hz0).trans H1.out);go_wp2_with fail
            exact bodyPost_ret (v:= .agg #[.int .i64 7,.int .i64 (K:Int)]) (by simp [results,Tryz.results55,go_sem,d0,d1]) rfl ⟨by rw [HE.out],dU B0.out (HX.out x)⟩
           ·have HE:Hid (kR bl.length tt=kR bl.length (tt.drop (J+1))):=ae (by rw [HJ2.out];simp [hneg,hbig]);go_wp2_with fail
            refine L5.aM (by kernel_rfl) (by kernel_rfl) ?_;repeat (go_big_quiet_step (fail))
            refine wpQuiet_nil ?_;rintro _ ⟨x,rfl⟩;have HX9x:=ae (HX9.out x);go_wp2_with fail
            go_roundw
            case rel=>exact⟨J+1,by omega,by go_num,HE,HX9x⟩
            case measure=>simp [intOf];omega
        ·obtain rfl:J=tt.length:=(by omega);have HE:=ae (HOk.out (by simp only [jr,HJ.out,List.drop_length];simp [kR]));go_wp2_with fail
         go_roundw
         case rel=>exact⟨I+1,by omega,by go_num,HE,HW9⟩
         case measure=>simp [intOf];omega
    ·obtain rfl:I=b.length:=(by omega);have HE:=HI.out;rw [List.drop_length] at HE;by_cases hbn:b.length=0
     ·have hbn':((b.length:Int) == 0)=true:=(by simpa using hbn);have HEE:Hid (aU (nm,ps,rt,bl,pl)=(15,(K:Int))):=ae (HR2.out.trans (ee (if_pos hbn) (by decide)));obtain⟨d0,d1,z0,z1⟩:=fN ((HW.out.block _ hz0).trans H1.out);clear HE;go_wp2_with fail
      exact bodyPost_ret (v:= .agg #[.int .i64 15,.int .i64 (K:Int)]) (by simp [results,Tryz.results55,go_sem,d0,d1]) rfl ⟨by rw [HEE.out],dU B0.out HW.out⟩
     ·have hbn':((b.length:Int) == 0)=false:=(by simpa using hbn);have HEE:Hid (aU (nm,ps,rt,bl,pl)=dP bl.length (K+1) (bl.drop (K+1))):=ae (HR2.out.trans (kG ((if_neg hbn).trans HE)));clear HE;go_wp2_with fail
      go_roundw
      case rel=>exact⟨K+1,by omega,by go_num,HEE,HW⟩
      case measure=>simp [intOf];omega
  ·obtain rfl:K=bl.length:=(by omega);have HE:=HR.out;rw [List.drop_length] at HE;replace HE:Hid (aU (nm,ps,rt,bl,pl)=(0,0)):=ae HE;obtain⟨d0,d1,z0,z1⟩:=fN ((HW.out.block _ hz0).trans H1.out);go_wp2_with fail
   exact bodyPost_ret (v:= .agg #[.int .i64 0,.int .i64 0]) (by simp [results,Tryz.results55,go_sem,d0,d1]) rfl ⟨by rw [HE.out],dU B0.out HW.out⟩
theorem ui (f:Fun) (v:Value) (w:World) (hv:bG w f v):
  Calls Tryz.prog 55 #[v] w fun e w'=>e= .returned (.agg #[.int .i64 (aU f).1,.int .i64 (aU f).2])∧Below w.heap.size w w':=by
 obtain⟨nm,ps,rt,bl,pl⟩:=f;have hv2:=hv;obtain⟨vp,vb,rfl,⟨ao,c,rfl,h1,_⟩,h2⟩:=hv;obtain⟨bo,cb,rfl,_⟩:=h2;exact tf nm ps rt pl bl ao bo c cb w hv2
def z6 (t:Int):Bool:=decide (t=1) || decide (t=2)
def sP (ps:List Int):Bool:=ps.any fun t=> !z6 t
def dN (f:Fun):Int:=
 if 8 < f.2.1.length∨256 < f.2.2.2.1.length then 6
 else if L2.gE f.1=false then 4
 else if(f.2.2.1 < 0∨2 < f.2.2.1)∨sP f.2.1=true then 9
 else 0
theorem mL (p:Int):(!z6 p)=true↔(p < 1∨2 < p):=by
 simp [z6];omega
theorem Ac (l:List Int) (j:Nat) (y:Int) (h:l[j]? =some y):sP (l.take (j+1))=(sP (l.take j) || !z6 y):=by
 unfold sP;rw [List.take_add_one,h];simp
theorem EO (l:List Int) (j:Nat) (y:Int) (h:l[j]? =some y) (hb:(!z6 y)=true):sP l=true:=by
 unfold sP;rw [List.any_eq_true];exact⟨y,List.mem_of_getElem? h,hb⟩
def dq (i:Nat) (f:Fun):Int:=if 32≤i then 6 else dN f
theorem zk (i:Nat) (nm:List UInt8) (ps:List Int) (rt pl:Int) (bl:List (List Ins)) (ao bo:Option Addr) (c cb:Nat) (w:World) (hs:Sl w ao ps) (hL:ps.length≤maxLen∧bl.length≤maxLen) (hl:nm.length≤maxLen) (hi:i≤maxLen):
  Calls Tryz.prog 52 #[.agg #[.string (bs nm),.slice ao ps.length c,.int .i64 rt,.slice bo bl.length cb,.int .i64 pl],.int .i64 i] w fun e w'=>e= .returned (.int .i64 (dq i (nm,ps,rt,bl,pl)))∧Below w.heap.size w w':=by
 unfold maxLen at hi;have b0:=ag w (.cells #[.string (bs nm),.slice ao ps.length c,.int .i64 rt,.slice bo bl.length cb,.int .i64 pl] 28);have H0:=ae (heap_alloc_new w (.cells #[.string (bs nm),.slice ao ps.length c,.int .i64 rt,.slice bo bl.length cb,.int .i64 pl] 28));have A0:=ae (hs.below b0);have B0:=ae b0;have hz0:(w.alloc (.cells #[.string (bs nm),.slice ao ps.length c,.int .i64 rt,.slice bo bl.length cb,.int .i64 pl] 28)).heap.size > w.heap.size:=by simp
 have HSZ:Hid ((bs nm).size≤maxLen):=ae (by rw [bI];exact hl);obtain⟨hLa,hLt⟩:=hL;have HL:=ae hLa;unfold maxLen at hLa hLt;clear b0 hs hl;go_enter Tryz.func52,Tryz.ntmps52
 go_upto_region 1 with fail
 show Code.wp _ _ _ _ (w.alloc (.cells #[.string (bs nm),.slice ao ps.length c,.int .i64 rt,.slice bo bl.length cb,.int .i64 pl] 28));generalize w.alloc (.cells #[.string (bs nm),.slice ao ps.length c,.int .i64 rt,.slice bo bl.length cb,.int .i64 pl] 28)=W at *;obtain⟨c0,c1,c2,c3,c4⟩:=mG H0.out;by_cases h32:32≤i
 ·have HC:Hid ((6:Int)=dq i (nm,ps,rt,bl,pl)):=ae (if_pos h32).symm;have h32':(32:Int)≤i:=by omega
  go_wp2_with fail
  go_ret;exact⟨L5.aR HC.out,B0.out⟩
 have HG:Hid (dN (nm,ps,rt,bl,pl)=dq i (nm,ps,rt,bl,pl)):=ae (if_neg h32).symm;have h32':¬(32:Int)≤i:=by omega
 by_cases h8:8 < ps.length
 ·have HC:Hid ((6:Int)=dq i (nm,ps,rt,bl,pl)):=ae (by rw [←HG.out];unfold dN;rw [if_pos (.inl h8)]);have h8':(8:Int) < ps.length:=by omega
  go_wp2_with fail
  go_ret;exact⟨L5.aR HC.out,B0.out⟩
 have h8':¬(8:Int) < ps.length:=by omega
 by_cases h256:256 < bl.length
 ·have HC:Hid ((6:Int)=dq i (nm,ps,rt,bl,pl)):=ae (by rw [←HG.out];unfold dN;rw [if_pos (.inr h256)]);have h256':(256:Int) < bl.length:=by omega
  go_wp2_with fail
  go_ret;exact⟨L5.aR HC.out,B0.out⟩
 have h256':¬(256:Int) < bl.length:=by omega
 have HF1:Hid (¬(8 < ps.length∨256 < bl.length)):=ae (by omega);go_wp2_with fail
 refine(L2.mM (bs nm) W HSZ.out).mono ?_;rintro e w1 ⟨rfl,hw1⟩;rw [hw1,eM];clear hw1
 cases hb:L2.gE nm with
 |false=>
  have HC:Hid ((4:Int)=dq i (nm,ps,rt,bl,pl)):=ae (by rw [←HG.out];unfold dN;rw [if_neg HF1.out,if_pos hb]);replace hb:=ae hb;go_wp2_with fail
  go_ret;exact⟨L5.aR HC.out,B0.out⟩
 |true=>
 have HF2:Hid (¬(L2.gE nm=false)):=ae (by rw [hb];simp);replace hb:=ae hb;by_cases hr0:rt < 0
 ·have HC:Hid ((9:Int)=dq i (nm,ps,rt,bl,pl)):=ae (by rw [←HG.out];unfold dN;rw [if_neg HF1.out,if_neg HF2.out,if_pos (.inl (.inl hr0))]);go_wp2_with fail
  go_ret;exact⟨L5.aR HC.out,B0.out⟩
 by_cases hr2:2 < rt
 ·have HC:Hid ((9:Int)=dq i (nm,ps,rt,bl,pl)):=ae (by rw [←HG.out];unfold dN;rw [if_neg HF1.out,if_neg HF2.out,if_pos (.inl (.inr hr2))]);go_wp2_with fail
  go_ret;exact⟨L5.aR HC.out,B0.out⟩
 have HF3:Hid (¬(rt < 0∨2 < rt)):=ae (by omega);go_wp2_with fail
 clear c0 c1 c2 c3 c4;go_loopw [5] (fun i wr=>∃j:Nat,j≤ps.length∧i= .int .i64 j∧Hid (sP (ps.take j)=false)∧Hid (Below W.heap.size W wr)) (fun i _=>ps.length - (intOf i).toNat)
 case atStart=>exact⟨0,Nat.zero_le _,rfl,ae rfl,ae (Below.refl _ _)⟩
 case round=>
  obtain⟨j,hj,rfl,HA,HW⟩:=hrel;obtain⟨c0,c1,c2,c3,c4⟩:=mG ((HW.out.block _ (by omega)).trans H0.out);by_cases hlt:j < ps.length
  ·obtain⟨y,hy⟩:∃y,ps[j]? =some y:=⟨_,List.getElem?_eq_getElem hlt⟩;rcases A0.out with he | ⟨g,o,rfl,hg,hcc⟩
   ·subst he;simp at hlt
   have hcell:=(HW.out.cell (p:=⟨g,o+j,none⟩) hg).trans (hcc j y hy);have hlt':(j:Int) < ps.length:=(by omega);have HT:=ae (Ac ps j y hy);have HH:=ae (EO ps j y hy);clear hcc hy;by_cases hy0:y < 1
   ·have HC:Hid ((9:Int)=dq i (nm,ps,rt,bl,pl)):=ae (by rw [←HG.out];unfold dN;rw [if_neg HF1.out,if_neg HF2.out,if_pos (.inr (HH.out ((mL y).2 (.inl hy0))))]);clear HH HT;go_wp2_with fail
    go_ret;exact⟨L5.aR HC.out,af B0.out HW.out⟩
   ·by_cases hy1:2 < y
    ·have HC:Hid ((9:Int)=dq i (nm,ps,rt,bl,pl)):=ae (by rw [←HG.out];unfold dN;rw [if_neg HF1.out,if_neg HF2.out,if_pos (.inr (HH.out ((mL y).2 (.inr hy1))))]);clear HH HT;go_wp2_with fail
     go_ret;exact⟨L5.aR HC.out,af B0.out HW.out⟩
    ·have HT1:Hid (sP (ps.take (j+1))=false):=ae (by
      rw [HT.out,HA.out,Bool.false_or]
      cases hq:(!z6 y)with
      |false=>rfl
      |true=>have:=(mL y).1 hq;omega)
     clear HH HT;go_wp2_with fail
     go_roundw
     case rel=>exact⟨j+1,by omega,by go_num,HT1,HW⟩
     case measure=>simp [intOf];omega
  ·obtain rfl:j=ps.length:=(by omega);have HC:Hid ((0:Int)=dq i (nm,ps,rt,bl,pl)):=ae (by
    rw [←HG.out];unfold dN;rw [if_neg HF1.out,if_neg HF2.out,if_neg];intro h;rcases h with h | h
    ·exact HF3.out h
    ·have h2:=HA.out;rw [List.take_length] at h2;rw [show sP ps=false from h2] at h
     cases h)
   go_wp2_with fail
   go_ret;exact⟨L5.aR HC.out,af B0.out HW.out⟩
def gO:Nat→List Ins→Nat × Int
 |m,[]=>(m,0)
 |m,x :: r=>if m=4096 then(m,6)else if aX x≠0 then(m+1,aX x)else gO (m+1) r
def gy:Nat→List (List Ins)→Nat × Int
 |m,[]=>(m,0)
 |m,b :: r=>if(gO m b).2≠0 then gO m b else gy (gO m b).1 r
theorem o7 {α:Type} {l:List α} {j:Nat} {x:α} (h:l[j]? =some x):l.drop j=x :: l.drop (j+1):=by
 obtain⟨h1,h2⟩:=List.getElem?_eq_some_iff.1 h;rw [List.drop_eq_getElem_cons h1,h2]
def pz (m:Nat) (b:List Ins) (r:List (List Ins)):Nat × Int:=if(gO m b).2≠0 then gO m b else gy (gO m b).1 r
theorem EF (m:Nat) (r:List (List Ins)):pz m [] r=gy m r:=by unfold pz;simp [gO]
theorem AY (x:Ins) (b:List Ins) (r:List (List Ins)):pz 4096 (x :: b) r=(4096,6):=by unfold pz;simp [gO]
theorem EU {m:Nat} {x:Ins} (b:List Ins) (r:List (List Ins)) (hm:m≠4096) (hx:aX x≠0):pz m (x :: b) r=(m+1,aX x):=by
 have e:gO m (x :: b)=(m+1,aX x):=by rw [gO,if_neg hm,if_pos hx]
 unfold pz;rw [e,if_pos hx]
theorem Aq {m:Nat} {x:Ins} (b:List Ins) (r:List (List Ins)) (hm:m≠4096) (hx:aX x=0):pz m (x :: b) r=pz (m+1) b r:=by
 have e:gO m (x :: b)=gO (m+1) b:=by rw [gO,if_neg hm,if_neg (by simp [hx])]
 unfold pz;rw [e]
def OkI (x:Ins):Prop:=I64 x.2.2.1∧x.2.2.2.2.2.2.1.length≤maxLen
def OkF (f:Fun):Prop:=f.1.length≤maxLen∧∀b∈f.2.2.2.1,∀x∈b,OkI x
def aW:Nat→Nat→List Fun→Int × Int
 |_,_,[]=>(0,0)
 |i,m,f :: r=>if i=32 then(6,(i:Int))else if dN f≠0 then(dN f,(i:Int))else if(gy m f.2.2.2.1).2≠0 then((gy m f.2.2.2.1).2,(i:Int))else aW (i+1) (gy m f.2.2.2.1).1 r
theorem kO (m:Nat) (f:Fun) (r:List Fun):aW 32 m (f :: r)=(6,((32:Nat):Int)):=by rw [aW,if_pos rfl]
theorem kP {i:Nat} (m:Nat) {f:Fun} (r:List Fun) (hi:i≠32) (hh:dN f≠0):aW i m (f :: r)=(dN f,(i:Int)):=by rw [aW,if_neg hi,if_pos hh]
theorem oz {i m:Nat} {f:Fun} (r:List Fun) (hi:i≠32) (hh:dN f=0) (hb:(gy m f.2.2.2.1).2≠0):aW i m (f :: r)=((gy m f.2.2.2.1).2,(i:Int)):=by
 rw [aW,if_neg hi,if_neg (by simp [hh]),if_pos hb]
theorem oW {i m:Nat} {f:Fun} (r:List Fun) (hi:i≠32) (hh:dN f=0) (hb:(gy m f.2.2.2.1).2=0):aW i m (f :: r)=aW (i+1) (gy m f.2.2.2.1).1 r:=by
 rw [aW,if_neg hi,if_neg (by simp [hh]),if_neg (by simp [hb])]
theorem wN (w:World) (v:Value):Below w.heap.size w ((w.alloc (.cells #[v] 24)).alloc (.cells #[.int .i64 0,.int .i64 0] 55))∧((w.alloc (.cells #[v] 24)).alloc (.cells #[.int .i64 0,.int .i64 0] 55)).heap[w.heap.size]? =some (.cells #[v] 24 (0,0))∧
  ((w.alloc (.cells #[v] 24)).alloc (.cells #[.int .i64 0,.int .i64 0] 55)).heap[w.heap.size+1]? =some (.cells #[.int .i64 0,.int .i64 0] 55 (0,0))∧w.heap.size+1 < ((w.alloc (.cells #[v] 24)).alloc (.cells #[.int .i64 0,.int .i64 0] 55)).heap.size:=by
 refine⟨af (ag w _) (ag _ _),(heap_alloc_old _ _ (by simp)).trans (heap_alloc_new w _),?_,by simp⟩;have:=heap_alloc_new (w.alloc (.cells #[v] 24)) (.cells #[.int .i64 0,.int .i64 0] 55);rwa [show(w.alloc (.cells #[v] 24)).heap.size=w.heap.size+1 from by simp] at this
theorem lO {w:World} {c:Nat} {a b:Value} (h:w.heap[c]? =some (.cells #[a,b] 55 (0,0))):w.cell? ⟨c,0,none⟩=some a∧w.cell? ⟨c,1,none⟩=some b∧w.frozen? ⟨c,0,none⟩=false∧w.frozen? ⟨c,1,none⟩=false:=by
 simp [World.cell?,World.frozen?,h]
theorem iV {w W wr:World} {a b:Value} (h0:Below w.heap.size w W) (h:Below W.heap.size W wr):Below w.heap.size w ((wr.setCell ⟨w.heap.size+1,0,none⟩ a).setCell ⟨w.heap.size+1,1,none⟩ b):=
 ((af h0 h).setCell (p:=⟨w.heap.size+1,0,none⟩) (Nat.le_succ _) a).setCell (p:=⟨w.heap.size+1,1,none⟩) (Nat.le_succ _) b
end Go.Proofs.YtfdhemcahjommaaGreatDoor
