/- Texts of one chain, joined. -/
import Derived.Test.YtljkgcfnoegibaaGreatDoorZAAI
import Derived.Test.YtljkgcfnoegibaaGreatDoorZAAK
import Derived.Test.YtljkgcfnoegibaaGreatDoorZCAA
import Derived.Test.YtljkgcfnoegibaaGreatDoorZAAL
set_option maxHeartbeats 4000000
set_option maxRecDepth 20000
namespace Go.Proofs.YtljkgcfnoegibaaGreatDoor
open Go Go.RowKit
open G (Tok Er Ins Fun)
theorem eC (l:List Int) (n:Int) (ao:Option Addr) (c:Nat) (w:World) (hs:Sl w ao l) (hl:l.length≤maxLen):
  Calls Tryz.prog 17 #[.slice ao l.length c,.int .i64 n] w fun e w'=>e= .returned (.bool (az l n))∧w'=w:=by
 unfold maxLen at hl;have HS:=ae hs;clear hs;go_enter Tryz.func17,Tryz.ntmps17
 go_wp2
 go_loopw [5] (fun i wr=>∃k:Nat,k≤l.length∧i= .int .i64 k∧wr=w∧Hid (az (l.take k) n=false)) (fun i _=>l.length - (intOf i).toNat)
 case atStart=>exact⟨0,Nat.zero_le _,rfl,rfl,ae rfl⟩
 case round=>
  obtain⟨k,hk,rfl,hw,HF⟩:=hrel;subst hw;by_cases hlt:k < l.length
  ·obtain⟨m,hm⟩:∃m,l[k]? =some m:=⟨l[k],List.getElem?_eq_getElem hlt⟩;rcases HS.out with he | ⟨a,oa,rfl,hal,ha⟩
   ·subst he;simp at hlt
   have c1:=ha k m hm;by_cases he:m=n
   ·have HE:Hid (true=az l n):=ae (by subst he;exact(A3 hm).symm);have he':(m == n)=true:=(by simpa using he);clear ha hm he;go_wp2_with fail
    go_ret;exact⟨L5.aw HE.out,rfl⟩
   ·have HE:Hid (az (l.take (k+1)) n=false):=ae (by rw [cV hm,en,HF.out];simp [he]);have he':(m == n)=false:=(by simpa using he);clear ha hm he;go_wp2_with fail
    go_roundw
    case rel=>exact⟨k+1,by omega,by go_num,trivial,HE⟩
    case measure=>simp [intOf];omega
  ·obtain rfl:k=l.length:=(by omega);have HE:Hid (false=az l n):=ae (by have:=HF.out;rw [List.take_length] at this;exact this.symm);go_wp2_with fail
   go_ret;exact⟨L5.aw HE.out,rfl⟩
theorem Em (nm:List UInt8) (ps:List Int) (rt pl:Int) (bl:List (List Ins)) (ao bo:Option Addr) (c cb:Nat) (k:Nat) (b:List Ins) (op id nn ty pp:Int) (ar tt:List Int) (na:List UInt8) (w:World)
  (hb:dy w bl (.slice bo bl.length cb)) (hk:bl[k]? =some b) (hx:b[b.length - 1]? =some (op,id,nn,ty,ar,tt,na,pp)) (h63:tt.length≤1000000):
  Calls Tryz.prog 19 #[.agg #[.string (bs nm),.slice ao ps.length c,.int .i64 rt,.slice bo bl.length cb,.int .i64 pl],.int .i64 k] w fun e w'=>∃v,e= .returned v∧w'.ownsRow w.heap.size 3 1 v (dI tt).length (ints (dI tt))∧Below w.heap.size w w':=by
 obtain⟨i0,hi0,hz0,hz1,hz2⟩:=info_parts Tryz.cr;have b0:=ah w (.cells #[.string (bs nm),.slice ao ps.length c,.int .i64 rt,.slice bo bl.length cb,.int .i64 pl] 36);have X0:=ae (L5.Box.new w [.string (bs nm),.slice ao ps.length c,.int .i64 rt,.slice bo bl.length cb,.int .i64 pl] 36);have HB:=ae (hb.below b0);have B0:=ae b0;clear b0 hb;go_enter Tryz.func19,Tryz.ntmps19
 go_upto_region 1 with fail
 show Code.wp _ _ _ _ (w.alloc (.cells #[.string (bs nm),.slice ao ps.length c,.int .i64 rt,.slice bo bl.length cb,.int .i64 pl] 36));replace X0:Hid (L5.Box (w.alloc (.cells #[.string (bs nm),.slice ao ps.length c,.int .i64 rt,.slice bo bl.length cb,.int .i64 pl] 36)) w.heap.size [.string (bs nm),.slice ao ps.length c,.int .i64 rt,.slice bo bl.length cb,.int .i64 pl]):=X0;generalize w.alloc (.cells #[.string (bs nm),.slice ao ps.length c,.int .i64 rt,.slice bo bl.length cb,.int .i64 pl] 36)=W at *;obtain⟨_,_,e0,l1,l2,h2⟩:=HB.out;injection e0 with e1 e2 e3;subst e1 e3;clear e2;have hkt:k < bl.length:=(List.getElem?_eq_some_iff.1 hk).1;have hkI:(k:Int) < bl.length:=by omega
 rcases h2 with h2 | ⟨gc,oc,rfl,gk,h2⟩
 ·subst h2;simp at hkt
 obtain⟨vk,kd,aok,capk,rfl,m1,m2,kk⟩:=h2 k b hk;have hjt:b.length - 1 < b.length:=(List.getElem?_eq_some_iff.1 hx).1;rcases kk with kk | ⟨gi,oi,rfl,kk⟩
 ·subst kk;simp at hjt
 obtain⟨ai,ti,ca,ct,hv,r0,r1,r2,r3,r4,r5,r6,r7⟩:=(kk (b.length - 1) _ hx).val;dsimp only at hv r0 r1 r2 r3 r4 r5 r6 r7
 have HSt:Hid (Sl W ti tt):=ae (by
  obtain⟨a1,t1,c1,c2,e,s1,s2,_⟩:=hv;injection e with e;have e2:=congrArg (fun a=>a[5]?) e;simp at e2;rw [e2.1];exact s2)
 obtain⟨J,hJ⟩:∃J,J=b.length - 1:=⟨_,rfl⟩;rw [←hJ] at r0 r1 r2 r3 r4 r5 r6 r7;have hJI:(b.length:Int) - 1=(J:Int):=by omega
 have hJl:(J:Int) < b.length:=by omega
 unfold maxLen at m2 l2;have hgi:gi < W.heap.size:=(kk (b.length - 1) _ hx).1;have x3:=fun x=>(L5.bu X0.out x).2 3 _ rfl;have kd':=fun x=>((L5.ax W x).cell (p:=⟨gc,oc+k,none⟩) gk).trans kd;have r5':=fun x=>((L5.ax W x).cell (p:=⟨gi,oi+J * 8+5,none⟩) hgi).trans r5;have hwr:IntKind.i64.wrap ((b.length:Int) - 1)=(J:Int):=by
  rw [hJI];exact IntWalk.i64_in _ ⟨by omega,by omega⟩
 clear hv kk h2 hx hk r0 r1 r2 r3 r4 r5 r6 r7 kd hJ;go_wp2_with fail
 refine L5.aE (by kernel_rfl) (by kernel_rfl) ?_;repeat (go_big_quiet_step (fail))
 refine wpQuiet_nil ?_;rintro _ ⟨x,rfl⟩;clear x3 kd' r5';have HX:=ae (L5.ax W x);obtain⟨w8,hw8⟩:∃w8:World,w8=L5.aZ W x:=⟨_,rfl⟩;rw [←hw8] at HX ⊢;clear hw8;go_wp2_with fail
 go_loopw [5,7] (fun v i wr=>∃I:Nat,I≤tt.length∧i= .int .i64 I∧Hid (Grw W (dI (tt.take I)) v wr)) (fun _ i _=>tt.length - (intOf i).toNat)
 case atStart=>exact⟨0,Nat.zero_le _,rfl,ae ⟨World.ownsRow_nil _ _ _ _,HX.out⟩⟩
 case round=>
  obtain⟨I,hI,rfl,HG⟩:=hrel;by_cases hit:I < tt.length
  ·have hiI:(I:Int) < tt.length:=(by omega);obtain⟨n,hn⟩:∃n,tt[I]? =some n:=⟨tt[I],List.getElem?_eq_getElem hit⟩;rcases HSt.out with he | ⟨gt,ot,rfl,gtl,ht⟩
   ·subst he;simp at hit
   have c1:=(HG.out.2.cell (p:=⟨gt,ot+I,none⟩) gtl).trans (ht I n hn);obtain⟨vo,vc,rfl,vs,vl⟩:=HG.out.slice;have HV:=ae vs;have HN:=ae (pP hn);have hlen:=nQ (tt.take I);rw [List.length_take] at hlen;generalize dI (tt.take I)=acc at *;clear ht hn vs;go_wp2_with fail
   refine(eC acc n vo vc wr HV.out vl).mono ?_;rintro e w1 ⟨rfl,hw1⟩;rw [hw1];clear hw1
   cases hh:az acc n with
   |true=>
    have HE:Hid (Grw W (dI (tt.take (I+1))) (.slice vo acc.length vc) wr):=ae (by rw [HN.out,kF hh];exact HG.out);replace hh:=ae hh;go_wp2_with fail
    go_roundw
    case rel=>exact⟨I+1,by omega,by go_num,HE⟩
    case measure=>simp [intOf];omega
   |false=>
    have HA:=ae (HN.out.trans (nj hh));replace hh:=ae hh;have hWs:=HG.out.2.size;go_wp2_with (at_builtin;refine wpList_append_own _ rfl (.tmp 36) (.tmp 41) 33 rfl W.heap.size 3 i0 _ 1 8 Tryz.underlying33 hi0 hz0 hz1 hz2 rfl (by decide) _ _ _ rfl (HG.out.1.alloc _) ⟨wr.heap.size,0,none⟩ 1 1 [.int .i64 n] rfl rfl aM bt (by unfold maxLen;omega) (by omega) (by simp;omega) ?_;intro v2 w2 own2 grow2 _)
    have HE:Hid (Grw W (dI (tt.take (I+1))) v2 w2):=ae (by rw [HA.out];exact HG.out.step own2 grow2);clear own2 grow2;go_wp2_with fail
    go_roundw
    case rel=>exact⟨I+1,by omega,by go_num,HE⟩
    case measure=>simp [intOf];omega
  ·obtain rfl:I=tt.length:=(by omega);have HE:Hid (Grw W (dI tt) _ wr):=ae (by have:=HG.out;rwa [List.take_length] at this);have HF:=ae (aT HE.out.1 B0.out.size);go_wp2_with fail
   go_ret;exact⟨_,rfl,HF.out,af B0.out HE.out.2⟩
theorem qi (f:Fun) (k:Nat) (v:Value) (w:World) (hv:cg w f v) (hF:Ful f) (hk:k < f.2.2.2.1.length):
  Calls Tryz.prog 19 #[v,.int .i64 k] w fun e w'=>∃u,e= .returned u∧w'.ownsRow w.heap.size 3 1 u (aW f k).length (ints (aW f k))∧Below w.heap.size w w':=by
 obtain⟨b,hb⟩:∃b,f.2.2.2.1[k]? =some b:=⟨_,List.getElem?_eq_getElem hk⟩;obtain⟨x,hx,hl,h63⟩:=hF.last (List.mem_of_getElem? hb);rw [ju hb,hl];obtain⟨nm,ps,rt,bl,pl⟩:=f;obtain⟨vp,vb,rfl,⟨ao,c,rfl,h1,_⟩,h2⟩:=hv;have h2':=h2;obtain⟨bo,cb,rfl,_⟩:=h2;obtain⟨op,id,nn,ty,ar,tt,na,pp⟩:=x;exact Em nm ps rt pl bl ao bo c cb k b op id nn ty pp ar tt na w h2' hb hx h63
theorem tQ {a:Value} (h:a.oneCell'=true):∀u∈ [a],u.oneCell'=true:=by
 intro u hu;simp only [List.mem_singleton] at hu;subst hu;exact h
theorem yZ (nm:List UInt8) (ps:List Int) (rt pl:Int) (bl:List (List Ins)) (ao bo:Option Addr) (c cb:Nat) (w:World)
  (hv:cg w (nm,ps,rt,bl,pl) (.agg #[.string (bs nm),.slice ao ps.length c,.int .i64 rt,.slice bo bl.length cb,.int .i64 pl])) (hF:Ful (nm,ps,rt,bl,pl)):
  Calls Tryz.prog 81 #[.agg #[.string (bs nm),.slice ao ps.length c,.int .i64 rt,.slice bo bl.length cb,.int .i64 pl]] w fun e w'=>∃v,e= .returned v∧cF w.heap.size w' (aD (nm,ps,rt,bl,pl)) v∧Below w.heap.size w w':=by
 obtain⟨i0,hi0,hz0,hz1,hz2⟩:=info_parts Tryz.uD;have b0:=ah w (.cells #[.string (bs nm),.slice ao ps.length c,.int .i64 rt,.slice bo bl.length cb,.int .i64 pl] 36);have X0:=ae (L5.Box.new w [.string (bs nm),.slice ao ps.length c,.int .i64 rt,.slice bo bl.length cb,.int .i64 pl] 36);have HV:=ae (hv.below b0);have B0:=ae b0;have HFu:=ae hF;have hbl:bl.length≤1000000:=hF.1;clear b0 hv hF;go_enter Tryz.func81,Tryz.ntmps81
 go_upto_region 1 with fail
 show Code.wp _ _ _ _ (w.alloc (.cells #[.string (bs nm),.slice ao ps.length c,.int .i64 rt,.slice bo bl.length cb,.int .i64 pl] 36));replace X0:Hid (L5.Box (w.alloc (.cells #[.string (bs nm),.slice ao ps.length c,.int .i64 rt,.slice bo bl.length cb,.int .i64 pl] 36)) w.heap.size [.string (bs nm),.slice ao ps.length c,.int .i64 rt,.slice bo bl.length cb,.int .i64 pl]):=X0;generalize w.alloc (.cells #[.string (bs nm),.slice ao ps.length c,.int .i64 rt,.slice bo bl.length cb,.int .i64 pl] 36)=W at *;go_wp2_with fail
 go_loopw [3,4] (fun v i wr=>∃K:Nat,K≤bl.length∧i= .int .i64 K∧Hid (cF W.heap.size wr ((aD (nm,ps,rt,bl,pl)).take K) v)∧Hid (Below W.heap.size W wr)) (fun _ i _=>bl.length - (intOf i).toNat)
 case atStart=>exact⟨0,Nat.zero_le _,rfl,ae (cF.nil _ _),ae (Below.refl _ _)⟩
 case round=>
  obtain⟨K,hK,rfl,HR,HW⟩:=hrel;obtain⟨x0,x1,x2,x3,x4⟩:_∧_∧_∧_∧_:=⟨(X0.out.below HW.out).2 0 _ rfl,(X0.out.below HW.out).2 1 _ rfl,(X0.out.below HW.out).2 2 _ rfl,(X0.out.below HW.out).2 3 _ rfl,(X0.out.below HW.out).2 4 _ rfl⟩;by_cases hkt:K < bl.length
  ·have hkI:(K:Int) < bl.length:=(by omega);have hsk:Hid ((aD (nm,ps,rt,bl,pl)).take (K+1)=(aD (nm,ps,rt,bl,pl)).take K ++ [aW (nm,ps,rt,bl,pl) K]):=ae (by
    have hb:bl[K]? =some bl[K]:=List.getElem?_eq_getElem hkt;refine cV ?_;rw [ju (f:=(nm,ps,rt,bl,pl)) hb];show(bl.map _)[K]? =_;rw [List.getElem?_map,hb];rfl)
   have hlen:((aD (nm,ps,rt,bl,pl)).take K).length=K:=(by simp [aD];omega);obtain⟨vo,vc,rfl⟩:=HR.out.len;have HN:=ae (qi (nm,ps,rt,bl,pl) K _ wr (HV.out.below HW.out) HFu.out hkt);generalize aW (nm,ps,rt,bl,pl) K=l at *;go_wp2_with fail
   refine HN.out.mono ?_;rintro e w1 ⟨u,rfl,hu,b1⟩;have HR1:=ae (HR.out.below b1);have HW1:=ae (af HW.out b1);have HU:=ae (aT hu HW.out.size);obtain⟨us,ho,hus⟩:=HR1.out;obtain⟨uo,uc,rfl⟩:=aL hu;have hWs:=HW1.out.size;clear x0 x1 x2 x3 x4 hu b1;have ho2:=ho;rw [hlen] at ho2;go_wp2_with (at_builtin;refine wpList_append_own _ rfl (.tmp 12) (.tmp 16) 105 rfl W.heap.size 33 i0 _ 1 24 Tryz.underlying105 hi0 hz0 hz1 hz2 rfl (by decide) _ _ _ rfl (ho2.alloc _) ⟨w1.heap.size,0,none⟩ 1 1 [.slice uo l.length uc] rfl rfl aM (tQ rfl) (by unfold maxLen;omega) (by omega) (by simp;omega) ?_;intro v2 w2 own2 grow2 _)
   have HE:Hid (cF W.heap.size w2 ((aD (nm,ps,rt,bl,pl)).take (K+1)) v2):=ae (by
    rw [hsk.out];exact cF.step ho hus HU.out (by rw [hlen];exact own2) (by rw [hlen];exact grow2))
   have HW2:Hid (Below W.heap.size W w2):=ae (by
    refine Below.grown (HW1.out.alloc HW1.out.size _) grow2 (by simp;omega) ?_;intro k hk;exact(ho2.lt k hk).1)
   clear own2 grow2;go_wp2_with fail
   go_roundw
   case rel=>exact⟨K+1,by omega,by go_num,HE,HW2⟩
   case measure=>simp [intOf];omega
  ·obtain rfl:K=bl.length:=(by omega);have HE:Hid (cF W.heap.size wr (aD (nm,ps,rt,bl,pl)) _):=ae (by have:=HR.out;rwa [List.take_of_length_le (by simp [aD])] at this);have HE2:=ae (HE.out.base B0.out.size);go_wp2_with fail
   go_ret;exact⟨_,rfl,HE2.out,af B0.out HW.out⟩
theorem uH {f:Fun} {b:Nat} (h:b < f.2.2.2.1.length):(aK f).take (b+1)=(aK f).take b ++ [bM f b f.2.2.2.1.length]:=by
 refine cV ?_;unfold aK;rw [List.getElem?_map,List.getElem?_range h];rfl
theorem xZ (nm:List UInt8) (ps:List Int) (rt pl:Int) (bl:List (List Ins)) (ao bo:Option Addr) (c cb:Nat) (w:World)
  (hv:cg w (nm,ps,rt,bl,pl) (.agg #[.string (bs nm),.slice ao ps.length c,.int .i64 rt,.slice bo bl.length cb,.int .i64 pl])) (hF:Ful (nm,ps,rt,bl,pl)):
  Calls Tryz.prog 78 #[.agg #[.string (bs nm),.slice ao ps.length c,.int .i64 rt,.slice bo bl.length cb,.int .i64 pl]] w fun e w'=>∃v,e= .returned v∧cF w.heap.size w' (aK (nm,ps,rt,bl,pl)) v∧Below w.heap.size w w':=by
 obtain⟨i0,hi0,hz0,hz1,hz2⟩:=info_parts Tryz.uD;obtain⟨i3,hi3,hz3,hz4,hz5⟩:=info_parts Tryz.cr;have b0:=ah w (.cells #[.string (bs nm),.slice ao ps.length c,.int .i64 rt,.slice bo bl.length cb,.int .i64 pl] 36);have X0:=ae (L5.Box.new w [.string (bs nm),.slice ao ps.length c,.int .i64 rt,.slice bo bl.length cb,.int .i64 pl] 36);have HV:=ae (hv.below b0);have B0:=ae b0;have HFu:=ae hF;have hbl:bl.length≤1000000:=hF.1;clear b0 hv hF;go_enter Tryz.func78,Tryz.ntmps78
 go_upto_region 1 with fail
 show Code.wp _ _ _ _ (w.alloc (.cells #[.string (bs nm),.slice ao ps.length c,.int .i64 rt,.slice bo bl.length cb,.int .i64 pl] 36));replace X0:Hid (L5.Box (w.alloc (.cells #[.string (bs nm),.slice ao ps.length c,.int .i64 rt,.slice bo bl.length cb,.int .i64 pl] 36)) w.heap.size [.string (bs nm),.slice ao ps.length c,.int .i64 rt,.slice bo bl.length cb,.int .i64 pl]):=X0;generalize w.alloc (.cells #[.string (bs nm),.slice ao ps.length c,.int .i64 rt,.slice bo bl.length cb,.int .i64 pl] 36)=W at *;go_wp2_with fail
 go_loopw [3,4] (fun v i wr=>∃K:Nat,K≤bl.length∧i= .int .i64 K∧Hid (cF W.heap.size wr ((aK (nm,ps,rt,bl,pl)).take K) v)∧Hid (Below W.heap.size W wr)) (fun _ i _=>bl.length - (intOf i).toNat)
 case atStart=>exact⟨0,Nat.zero_le _,rfl,ae (cF.nil _ _),ae (Below.refl _ _)⟩
 case round=>
  obtain⟨K,hK,rfl,HR,HW⟩:=hrel;obtain⟨x0,x1,x2,x3,x4⟩:_∧_∧_∧_∧_:=⟨(X0.out.below HW.out).2 0 _ rfl,(X0.out.below HW.out).2 1 _ rfl,(X0.out.below HW.out).2 2 _ rfl,(X0.out.below HW.out).2 3 _ rfl,(X0.out.below HW.out).2 4 _ rfl⟩;by_cases hkt:K < bl.length
  ·have hkI:(K:Int) < bl.length:=(by omega);have hsk:Hid _:=ae (uH (f:=(nm,ps,rt,bl,pl)) hkt);have hlen:((aK (nm,ps,rt,bl,pl)).take K).length=K:=(by rw [List.length_take,iC];show min K bl.length=K;omega);obtain⟨vo,vc,rfl⟩:=HR.out.len;go_wp2_with fail
   clear x0 x1 x2 x3 x4;generalize wr=W2 at *;go_loopw [5,6] (fun v i wq=>∃J:Nat,J≤bl.length∧i= .int .i64 J∧Hid (Grw W2 (bM (nm,ps,rt,bl,pl) K J) v wq)) (fun _ i _=>bl.length - (intOf i).toNat)
   case atStart=>exact⟨0,Nat.zero_le _,rfl,ae (Grw.start _)⟩
   case round=>
    obtain⟨J,hJ,rfl,HG⟩:=hrel;have HWq:=ae (af HW.out HG.out.2);obtain⟨x0,x1,x2,x3,x4⟩:_∧_∧_∧_∧_:=⟨(X0.out.below HWq.out).2 0 _ rfl,(X0.out.below HWq.out).2 1 _ rfl,(X0.out.below HWq.out).2 2 _ rfl,(X0.out.below HWq.out).2 3 _ rfl,(X0.out.below HWq.out).2 4 _ rfl⟩;by_cases hjt:J < bl.length
    ·have hjI:(J:Int) < bl.length:=(by omega);have HN:=ae (qi (nm,ps,rt,bl,pl) J _ wr (HV.out.below HWq.out) HFu.out hjt);have hyes:=fun h=>ae (px (f:=(nm,ps,rt,bl,pl)) (b:=K) (k:=J) h);have hno:=fun h=>ae (sO (f:=(nm,ps,rt,bl,pl)) (b:=K) (k:=J) h);have hpl:=jV (nm,ps,rt,bl,pl) K J;generalize aW (nm,ps,rt,bl,pl) J=l at *;go_wp2_with fail
     refine HN.out.mono ?_;rintro e w1 ⟨u,rfl,hu,b1⟩;obtain⟨uo,uc,rfl,hs1,hs2,hs3⟩:=dG hu;have HH:=ae (eC l K uo uc w1 hs1 (Nat.le_trans hs2 hs3));clear hs1 hs2 hs3 hu;have HG1:Hid (Grw W2 (bM (nm,ps,rt,bl,pl) K J) _ w1):=ae ⟨br b1 _ _ _ _ _ _ HG.out.1,af HG.out.2 b1⟩;clear x0 x1 x2 x3 x4;go_wp2_with fail
     refine HH.out.mono ?_;rintro e w2 ⟨rfl,rfl⟩
     cases hh:az l K with
     |true=>
      have HN2:=hyes hh;replace hh:=ae hh;have hWs:=HG1.out.2.size;go_wp2_with (at_builtin;refine wpList_append_own _ rfl (.tmp 26) (.tmp 28) 33 rfl W2.heap.size 3 i3 _ 1 8 Tryz.underlying33 hi3 hz3 hz4 hz5 rfl (by decide) _ _ _ rfl (HG1.out.1.alloc _) ⟨w2.heap.size,0,none⟩ 1 1 [.int .i64 J] rfl rfl aM bt (by unfold maxLen;omega) (by omega) (by simp;omega) ?_;intro v2 w3 own2 grow2 _)
      have HE:Hid (Grw W2 (bM (nm,ps,rt,bl,pl) K (J+1)) v2 w3):=ae (by rw [HN2.out];exact HG1.out.step own2 grow2);clear own2 grow2;go_wp2_with fail
      go_roundw
      case rel=>exact⟨J+1,by omega,by go_num,HE⟩
      case measure=>simp [intOf];omega
     |false=>
      have HE:Hid (Grw W2 (bM (nm,ps,rt,bl,pl) K (J+1)) _ w2):=ae (by rw [(hno hh).out];exact HG1.out);replace hh:=ae hh;go_wp2_with fail
      go_roundw
      case rel=>exact⟨J+1,by omega,by go_num,HE⟩
      case measure=>simp [intOf];omega
    ·obtain rfl:J=bl.length:=(by omega);have HR1:=ae (HR.out.below HG.out.2);have HU:=ae (aT HG.out.1 HW.out.size);have HW1:=ae (af HW.out HG.out.2);replace hsk:Hid ((aK (nm,ps,rt,bl,pl)).take (K+1)=(aK (nm,ps,rt,bl,pl)).take K ++ [bM (nm,ps,rt,bl,pl) K bl.length]):=hsk;clear HG;generalize bM (nm,ps,rt,bl,pl) K bl.length=l at *;obtain⟨us,ho,hus⟩:=HR1.out;obtain⟨uo,uc,rfl⟩:=aL HU.out;have hWs:=HW1.out.size;have ho2:=ho;rw [hlen] at ho2;go_wp2_with (at_builtin;refine wpList_append_own _ rfl (.tmp 30) (.tmp 32) 105 rfl W.heap.size 33 i0 _ 1 24 Tryz.underlying105 hi0 hz0 hz1 hz2 rfl (by decide) _ _ _ rfl (ho2.alloc _) ⟨wr.heap.size,0,none⟩ 1 1 [.slice uo l.length uc] rfl rfl aM (tQ rfl) (by unfold maxLen;omega) (by omega) (by simp;omega) ?_;intro v2 w2 own2 grow2 _)
     have HE:Hid (cF W.heap.size w2 ((aK (nm,ps,rt,bl,pl)).take (K+1)) v2):=ae (by
      rw [hsk.out];exact cF.step ho hus HU.out (by rw [hlen];exact own2) (by rw [hlen];exact grow2))
     have HW2:Hid (Below W.heap.size W w2):=ae (by
      refine Below.grown (HW1.out.alloc HW1.out.size _) grow2 (by simp;omega) ?_;intro k hk;exact(ho2.lt k hk).1)
     clear own2 grow2;go_wp2_with fail
     go_roundw
     case rel=>exact⟨K+1,by omega,by go_num,HE,HW2⟩
     case measure=>simp [intOf];omega
  ·obtain rfl:K=bl.length:=(by omega);have HE:Hid (cF W.heap.size wr (aK (nm,ps,rt,bl,pl)) _):=ae (by have:=HR.out;rwa [List.take_of_length_le (by rw [iC];exact Nat.le_refl _)] at this);have HE2:=ae (HE.out.base B0.out.size);go_wp2_with fail
   go_ret;exact⟨_,rfl,HE2.out,af B0.out HW.out⟩
def rC (i:Nat) (x:Nat × Int) (r:List Fun):Int × Int:=if x.2≠0 then(x.2,(i:Int))else wholeF (i+1) x.1 r
theorem Dk {i m:Nat} {f:Fun} (r:List Fun) (hi:i≠32) (hh:bZ f=0):wholeF i m (f :: r)=rC i (runB m f.2.2.2.1) r:=by
 rw [wholeF,if_neg hi,if_neg (by simp [hh])];rfl
theorem AO {i m:Nat} {z:Int} (r:List Fun) (h:z≠0):rC i (m,z) r=(z,(i:Int)):=by unfold rC;rw [if_pos h]
theorem Ex (i m:Nat) (r:List Fun):rC i (m,0) r=wholeF (i+1) m r:=by unfold rC;simp
theorem Cj (i:Nat) (f:Fun) (v:Value) (w:World) (h:cg w f v) (hO:OkF f) (hi:i≤32):Calls Tryz.prog 40 #[v,.int .i64 i] w fun e w'=>e= .returned (.int .i64 (dY i f))∧Below w.heap.size w w':=by
 obtain⟨nm,ps,rt,bl,pl⟩:=f;obtain⟨vp,vb,rfl,⟨ao,c,rfl,h1,h2,h3⟩,⟨bo,cb,rfl,h4,h5,_⟩⟩:=h;exact Ce i nm ps rt pl bl ao bo c cb w h1 ⟨Nat.le_trans h2 h3,Nat.le_trans h4 h5⟩ hO.1 (by unfold maxLen;omega)
theorem yi (p:List Fun) (ao:Option Addr) (c:Nat) (w:World) (hp:bK w p (.slice ao p.length c)) (hO:∀f∈p,OkF f):
  Calls Tryz.prog 24 #[.agg #[.slice ao p.length c]] w fun e w'=>e= .returned (.agg #[.int .i64 (wholeF 0 0 p).1,.int .i64 (wholeF 0 0 p).2])∧Below w.heap.size w w':=by
 obtain⟨b0,h0,h1,hz0⟩:=qR w (.slice ao p.length c);have H0:=ae h0;have H1:=ae h1;have HP:=ae (hp.below b0);have B0:=ae b0;have HO:=ae hO;have hpc:p.length≤c∧c≤maxLen:=by
  obtain⟨ao',c',e,h1,h2,_⟩:=hp;injection e with e1 e2 e3;subst e3;exact⟨h1,h2⟩
 unfold maxLen at hpc;clear b0 h0 h1 hp hO;go_enter Tryz.func24,Tryz.ntmps24
 go_upto_region 1 with fail
 show Code.wp _ _ _ _ ((w.alloc (.cells #[.slice ao p.length c] 24)).alloc (.cells #[.int .i64 0,.int .i64 0] 29));generalize (w.alloc (.cells #[.slice ao p.length c] 24)).alloc (.cells #[.int .i64 0,.int .i64 0] 29)=W at *;go_wp2_with fail
 go_loopw [3,4] (fun mm i wr=>∃(m K:Nat),m≤4096∧mm= .int .i64 m∧K≤p.length∧K≤32∧i= .int .i64 K∧Hid (wholeF 0 0 p=wholeF K m (p.drop K))∧Hid (Below W.heap.size W wr)) (fun _ i _=>p.length - (intOf i).toNat)
 case atStart=>exact⟨0,0,by omega,rfl,Nat.zero_le _,by omega,rfl,ae rfl,ae (Below.refl _ _)⟩
 case round=>
  obtain⟨m,K,hm,rfl,hK,hK32,rfl,HR,HW⟩:=hrel;have c0:=uL ((HW.out.block _ (Nat.lt_trans (Nat.lt_succ_self _) hz0)).trans H0.out);by_cases hkt:K < p.length
  ·obtain⟨f,hfK⟩:∃f,p[K]? =some f:=⟨p[K],List.getElem?_eq_some_iff.2 ⟨hkt,rfl⟩⟩;obtain⟨ao',c',eq',hh1,hh2,hh3⟩:=HP.out;injection eq' with e1 e2 e3;subst e1 e3;rcases hh3 with hh3 | ⟨gb,ob,rfl,hin⟩
   ·subst hh3;simp at hkt
   obtain⟨aoy,boy,cy,cby,hv,q0,q1,q2,q3,q4⟩:=((hin K f hfK).below HW.out).val;have HV:=ae hv;have HOf:=ae (HO.out f (List.mem_of_getElem? hfK));have hkI:(K:Int) < p.length:=(by omega);have HR2:=ae (HR.out.trans (by rw [jd hfK]));obtain⟨nm,ps,rt,bl,pl⟩:=f;dsimp only at HV q0 q1 q2 q3 q4
   clear hin hfK hv HR;have B7:=ae (ah wr (.cells #[.string (bs nm),.slice aoy ps.length cy,.int .i64 rt,.slice boy bl.length cby,.int .i64 pl] 36));have H7:=ae (heap_alloc_new wr (.cells #[.string (bs nm),.slice aoy ps.length cy,.int .i64 rt,.slice boy bl.length cby,.int .i64 pl] 36));have hl7:=ae (Array.getElem?_eq_some_iff.1 H7.out).1;go_wp2_with fail
   refine(Cj K (nm,ps,rt,bl,pl) _ _ (HV.out.below B7.out) HOf.out hK32).mono ?_;rintro e w8 ⟨rfl,b8⟩;have HW8:=ae (af HW.out (af B7.out b8));have hwl:wr.heap.size < w8.heap.size:=Nat.lt_of_lt_of_le hl7.out b8.size;have H8:=ae ((b8.block _ hl7.out).trans H7.out);have HV8:=ae (HV.out.below (af B7.out b8));clear b8 q0 q1 q2 q3 q4;by_cases hh:dY K (nm,ps,rt,bl,pl)=0
   ·have h32:K≠32:=fun e=>by subst e;unfold dY at hh;rw [if_pos (Nat.le_refl _)] at hh;cases hh
    have HH:Hid (bZ (nm,ps,rt,bl,pl)=0):=ae (by unfold dY at hh;rwa [if_neg (by omega)] at hh);have HRF:Hid (wholeF 0 0 p=rC K (runB m (bl.drop 0)) (p.drop (K+1))):=ae (HR2.out.trans (Dk _ h32 HH.out));have HBL:Hid (dy w8 bl (.slice boy bl.length cby)):=ae (by
     obtain⟨vp,vb,e,_,h2⟩:=HV8.out;injection e with e;have e2:=congrArg (fun a=>a[3]?) e;simp at e2;rw [e2];exact h2)
    have O2:=ae HOf.out.2;dsimp only at O2
    rw [hh];clear hh HR2;go_wp2_with fail
    obtain⟨w0,hw0⟩:∃w0,w0=w8:=⟨_,rfl⟩;rw [←hw0] at HW8 H8 HBL hwl ⊢;clear hw0 HV8;go_loopw [3,7] (fun mm i wr'=>∃(m A:Nat),m≤4096∧mm= .int .i64 m∧A≤bl.length∧i= .int .i64 A∧Hid (wholeF 0 0 p=rC K (runB m (bl.drop A)) (p.drop (K+1)))∧Hid (Below w0.heap.size w0 wr')) (fun _ i _=>bl.length - (intOf i).toNat)
    case atStart=>exact⟨m,0,hm,rfl,Nat.zero_le _,rfl,HRF,ae (Below.refl _ _)⟩
    case round=>
     obtain⟨m1,A,hm1,rfl,hA,rfl,HRA,HWA⟩:=hrel;obtain⟨s0,s1,s2,s3,s4⟩:=jJ ((HWA.out.block _ hwl).trans H8.out);clear s0 s1 s2 s4;obtain⟨ao2,c2',eq2,hh1,hh2,hh3⟩:=HBL.out;injection eq2 with e1 e2 e3;subst e1 e3;unfold maxLen at hh2;by_cases hat:A < bl.length
     ·obtain⟨b,hbA⟩:∃b,bl[A]? =some b:=⟨bl[A],List.getElem?_eq_some_iff.2 ⟨hat,rfl⟩⟩;rcases hh3 with hh3 | ⟨gc,oc,rfl,hgc,hbl⟩
      ·subst hh3;simp at hat
      obtain⟨vk,kd,kk⟩:=hbl A b hbA;have KD:=ae kd;obtain⟨aok,capk,rfl,lk1,lk2,kins⟩:=kk;have HOb:=ae (O2.out b (List.mem_of_getElem? hbA));have KI:=ae kins;have haI:(A:Int) < bl.length:=(by omega);have HR3:Hid (wholeF 0 0 p=rC K (nZ m1 (b.drop 0) (bl.drop (A+1))) (p.drop (K+1))):=ae (by rw [HRA.out,jd hbA];rfl);unfold maxLen at lk2;clear kins kd hbl hbA HRA;go_wp2_with fail
      clear s3;go_loopw [3,8] (fun mm i wr''=>∃(m J:Nat),m≤4096∧mm= .int .i64 m∧J≤b.length∧i= .int .i64 J∧Hid (wholeF 0 0 p=rC K (nZ m (b.drop J) (bl.drop (A+1))) (p.drop (K+1)))∧Hid (Below w0.heap.size w0 wr'')) (fun _ i _=>b.length - (intOf i).toNat)
      case atStart=>exact⟨m1,0,hm1,rfl,Nat.zero_le _,rfl,HR3,HWA⟩
      case round=>
       obtain⟨m2,J,hm2,rfl,hJ,rfl,HRJ,HWJ⟩:=hrel;obtain⟨s0,s1,s2,s3,s4⟩:=jJ ((HWJ.out.block _ hwl).trans H8.out);clear s0 s1 s2 s4;have kd':=(HWJ.out.cell (p:=⟨gc,oc+A,none⟩) hgc).trans KD.out;by_cases hjt:J < b.length
       ·obtain⟨y,hyJ⟩:∃y,b[J]? =some y:=⟨b[J],List.getElem?_eq_some_iff.2 ⟨hjt,rfl⟩⟩;rcases KI.out with hh | ⟨gi,oi,rfl,hin⟩
        ·subst hh;simp at hjt
        obtain⟨aoz,toz,caz,ctz,hv,r0,r1,r2,r3,r4,r5,r6,r7⟩:=((hin J y hyJ).below HWJ.out).val;have HVy:=ae hv;have HOy:=ae (HOb.out y (List.mem_of_getElem? hyJ));have hjI:(J:Int) < b.length:=(by omega);have HR4:=ae (HRJ.out.trans (by rw [jd hyJ]));obtain⟨op,id,nn,ty,ar,tt,na,pp⟩:=y;dsimp only at HVy r0 r1 r2 r3 r4 r5 r6 r7
        clear hin hyJ hv HRJ;by_cases h4:m2=4096
        ·subst h4;have HE:=ae (HR4.out.trans (by rw [rU];exact AO _ (by decide):_=((6:Int),(K:Int))));obtain⟨d0,d1,z0,z1⟩:=gC (((af HW8.out HWJ.out).block _ hz0).trans H1.out);go_wp2_with fail
         exact bodyPost_ret (v:= .agg #[.int .i64 6,.int .i64 (K:Int)]) (by simp [results,Tryz.results24,go_sem,d0,d1]) rfl ⟨by rw [HE.out],eH B0.out (af HW8.out HWJ.out)⟩
        ·have h4':¬(4096:Int) < (m2:Int)+1:=(by omega);go_wp2_with fail
         refine(yY (op,id,nn,ty,ar,tt,na,pp) _ _ HVy.out HOy.out.1 HOy.out.2).mono ?_;rintro e w9 ⟨rfl,b9⟩;have HW9:=ae (af HWJ.out b9);clear r0 r1 r2 r3 r4 r5 r6 r7 b9 s3 kd';by_cases hcx:aJ (op,id,nn,ty,ar,tt,na,pp)=0
         ·have HE:=ae (HR4.out.trans (by rw [rR _ _ h4 hcx]));rw [hcx];go_wp2_with fail
          go_roundw
          case rel=>exact⟨m2+1,J+1,by omega,by go_num,by omega,by go_num,HE,HW9⟩
          case measure=>simp [intOf];omega
         ·have HE:=ae (HR4.out.trans (by rw [wK _ _ h4 hcx];exact AO _ hcx:_=(aJ (op,id,nn,ty,ar,tt,na,pp),(K:Int))));have hcx':(aJ (op,id,nn,ty,ar,tt,na,pp) != 0)=true:=(by simpa using hcx);generalize aJ (op,id,nn,ty,ar,tt,na,pp)=z at *;obtain⟨d0,d1,z0,z1⟩:=gC (((af HW8.out HW9.out).block _ hz0).trans H1.out);go_wp2_with fail
          exact bodyPost_ret (v:= .agg #[.int .i64 z,.int .i64 (K:Int)]) (by simp [results,Tryz.results24,go_sem,d0,d1]) rfl ⟨by rw [HE.out],eH B0.out (af HW8.out HW9.out)⟩
       ·obtain rfl:J=b.length:=(by omega);have HE:=ae (HRJ.out.trans (by rw [List.drop_length,vC]:_=rC K (runB m2 (bl.drop (A+1))) (p.drop (K+1))));go_wp2_with fail
        go_roundw
        case rel=>exact⟨m2,A+1,hm2,rfl,by omega,by go_num,HE,HWJ⟩
        case measure=>simp [intOf];omega
     ·obtain rfl:A=bl.length:=(by omega);have HE:=ae (HRA.out.trans (by rw [List.drop_length];exact Ex _ _ _:_=wholeF (K+1) m1 (p.drop (K+1))));have HWF:=ae (af HW8.out HWA.out);go_wp2_with fail
      go_roundw
      case rel=>exact⟨m1,K+1,hm1,rfl,by omega,by omega,by go_num,HE,HWF⟩
      case measure=>simp [intOf];omega
   ·have HE:Hid (wholeF 0 0 p=(dY K (nm,ps,rt,bl,pl),(K:Int))):=ae (by
     rw [HR2.out];by_cases h32:K=32
     ·subst h32;rw [kb];rfl
     ·have e:dY K (nm,ps,rt,bl,pl)=bZ (nm,ps,rt,bl,pl):=if_neg (by omega);rw [e];exact j5 _ _ h32 (by rw [←e];exact hh))
    have hh2:(dY K (nm,ps,rt,bl,pl) != 0)=true:=(by simpa using hh);generalize dY K (nm,ps,rt,bl,pl)=z at *;clear hh;obtain⟨d0,d1,z0,z1⟩:=gC ((HW8.out.block _ hz0).trans H1.out);go_wp2_with fail
    exact bodyPost_ret (v:= .agg #[.int .i64 z,.int .i64 (K:Int)]) (by simp [results,Tryz.results24,go_sem,d0,d1]) rfl ⟨by rw [HE.out],eH B0.out HW8.out⟩
  ·obtain rfl:K=p.length:=(by omega);have HE:Hid (wholeF 0 0 p=(0,0)):=ae (HR.out.trans (by rw [List.drop_length];rfl));obtain⟨d0,d1,z0,z1⟩:=gC ((HW.out.block _ hz0).trans H1.out);go_wp2_with fail
   exact bodyPost_ret (v:= .agg #[.int .i64 0,.int .i64 0]) (by simp [results,Tryz.results24,go_sem,d0,d1]) rfl ⟨by rw [HE.out],eH B0.out HW.out⟩
open Go.ChangeShapes Go.WideShapes Go.ChangeAt Go.RowKit
open L5 (letters tk0 tk1 mk ds word)
theorem laidOut:laidOutB Tryz.prog=true:=by kernel_rfl
end Go.Proofs.YtljkgcfnoegibaaGreatDoor
