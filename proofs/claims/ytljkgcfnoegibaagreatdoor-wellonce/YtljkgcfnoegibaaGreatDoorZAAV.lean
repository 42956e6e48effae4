/- Texts of one chain, joined. -/
import Derived.Test.YtljkgcfnoegibaaGreatDoorZAAT
import Derived.Test.YtljkgcfnoegibaaGreatDoorZAAU
set_option maxHeartbeats 4000000
set_option maxRecDepth 20000
namespace Go.Proofs.YtljkgcfnoegibaaGreatDoor
open Go Go.RowKit
open G (Tok Er Ins Fun)
open Mix (Up)
def Fy (w:World) (f:Fun) (v:Value):Prop:=∃(t:Nat) (uo dd:Option Addr) (uc dc:Nat),v= .pointer (some ⟨t,0,none⟩)∧L5.Box w t [.slice uo f.2.2.2.1.length uc,.slice dd f.2.2.2.1.length dc]∧Sl w uo (iU (aD f))∧Sl w dd (rm (aD f))
theorem Gz {f:Fun} (hF:Ful f) (hT:Tos f) (h0:0 < f.2.2.2.1.length):Lp (aD f) (atF f) (aC f) (dD f) (aK f):=by
 have hg:=fI hT h0;have hn:=bI f;refine⟨hg,DC hT h0,⟨by rw [kA,hn],fun k hk=>xS (by rw [←hn];exact hk)⟩,⟨fun i b hb=>⟨(eu hT h0 b).1 (List.mem_of_getElem? hb),fP hT h0 hb⟩,fun x hx=> ?_⟩,by rw [iC,hn],fun b l hl=> ?_,by rw [hn];exact hF.1,Nat.le_trans (gj hT h0) hF.1⟩
 ·obtain⟨i,hi,e⟩:=List.mem_iff_getElem.1 ((eu hT h0 x).2 hx);have:(aC f)[i]? =some x:=by rw [List.getElem?_eq_getElem hi,e]
  rw [fP hT h0 this];omega
 ·have hb:b < f.2.2.2.1.length:=by have:=(List.getElem?_eq_some_iff.1 hl).1;rw [iC] at this;exact this
  have e:(aK f)[b]? =some (bM f b f.2.2.2.1.length):=by
   unfold aK;rw [List.getElem?_map,List.getElem?_range hb];rfl
  rw [e] at hl;injection hl with hl;subst hl;refine⟨fun p=> ?_,Nat.le_trans (jV f b _) hF.1⟩;rw [hn];unfold bM;rw [List.mem_map];constructor
  ·rintro ⟨j,hj,rfl⟩;obtain⟨j1,j2⟩:=List.mem_filter.1 hj;have j3:j < f.2.2.2.1.length:=(by simpa using j1);refine⟨by simp,by simp;omega,?_⟩;have e2:(Int.ofNat j).toNat=j:=rfl;rw [jy (by rw [e2];exact j3),e2];exact bL.1 j2
  ·rintro ⟨q1,q2,q3⟩;refine⟨p.toNat,List.mem_filter.2 ⟨by simp;omega,?_⟩,by simp;omega⟩;rw [jy (by omega)] at q3;exact bL.2 q3
def jq (w:World) (ll:List (List Int)) (N t ub uo db dd uc dc:Nat):Prop:=t < w.heap.size∧ub < w.heap.size∧db < w.heap.size∧w.cell? ⟨t,0,none⟩=some (.slice (some ⟨ub,uo,none⟩) N uc)∧w.cell? ⟨t,1,none⟩=some (.slice (some ⟨db,dd,none⟩) N dc)∧
 (∀k:Nat,k < N→w.cell? ⟨ub,uo+k,none⟩=some (.int .i64 (upB ll k)))∧∀k:Nat,k < N→w.cell? ⟨db,dd+k,none⟩=some (.int .i64 ((bf ll k:Nat):Int))
theorem jq.below {w w':World} {ll:List (List Int)} {N t ub uo db dd uc dc:Nat} (h:jq w ll N t ub uo db dd uc dc) (b:Below w.heap.size w w'):jq w' ll N t ub uo db dd uc dc:=by
 obtain⟨h1,h2,h3,h4,h5,h6,h7⟩:=h;have hs:=b.size;exact⟨by omega,by omega,by omega,(b.cell (p:=⟨t,0,none⟩) h1).trans h4,(b.cell (p:=⟨t,1,none⟩) h1).trans h5,fun k hk=>(b.cell (p:=⟨ub,uo+k,none⟩) h2).trans (h6 k hk),fun k hk=>(b.cell (p:=⟨db,dd+k,none⟩) h3).trans (h7 k hk)⟩
theorem Fy.cells {w:World} {f:Fun} {v:Value} (h:Fy w f v) (h0:0 < f.2.2.2.1.length):∃t ub uo db dd uc dc,v= .pointer (some ⟨t,0,none⟩)∧jq w (aD f) f.2.2.2.1.length t ub uo db dd uc dc:=by
 obtain⟨t,uo,dd,uc,dc,rfl,h1,h2,h3⟩:=h;have hn:=bI f;rcases h2 with e | ⟨ub,o1,rfl,l1,c1⟩
 ·have:=fQ (aD f);rw [e,hn] at this;simp at this;omega
 rcases h3 with e | ⟨db,o2,rfl,l2,c2⟩
 ·have:=wm (aD f);rw [e,hn] at this;simp at this;omega
 exact⟨t,ub,o1,db,o2,uc,dc,rfl,h1.1,l1,l2,h1.2 0 _ rfl,h1.2 1 _ rfl,fun k hk=>c1 k _ (nd (by omega)),fun k hk=>c2 k _ (AA (by omega))⟩
theorem yP {ll:List (List Int)} {N t ub uo db dd uc dc:Nat} (k:Int) (w:World) (h:jq w ll N t ub uo db dd uc dc):
  Calls Tryz.prog 160 #[.pointer (some ⟨t,0,none⟩),.int .i64 k] w fun e w'=>e= .returned (.bool (decide (0≤k∧k < N)))∧w'=w:=by
 obtain⟨_,_,_,c1,_,_,_⟩:=h;by_cases h0:0≤k
 ·have hd:decide (0≤k∧k < N)=decide (k < (N:Int)):=by simp [h0]
  rw [hd];clear hd;go_enter Tryz.func160,Tryz.ntmps160
  go_wp2_with fail
  go_ret;exact⟨rfl,rfl⟩
 ·have hd:decide (0≤k∧k < N)=false:=by simp [h0]
  rw [hd];clear hd;go_enter Tryz.func160,Tryz.ntmps160
  go_wp2_with fail
  go_ret;exact⟨rfl,rfl⟩
theorem Ku {ll:List (List Int)} (hg:Gr ll) (b:Int):All ll b↔(b=0∨upB ll b≠ -1):=by
 constructor
 ·intro h;by_cases h0:b=0
  ·exact .inl h0
  ·right;obtain⟨a,ha⟩:=iW.ex hg h h0;rw [tq hg ha];have:=ha.2.1.1.num hg;omega
 ·rintro (rfl | h)
  ·exact All.first _
  ·refine Classical.byContradiction fun e=>h ?_;exact uC hg fun a ha=>e ha.2.1.2.1
open Classical in
noncomputable def fR (ll:List (List Int)) (b:Int):Bool:=decide (All ll b)
theorem qk {ll:List (List Int)} {t ub uo db dd uc dc:Nat} (hg:Gr ll) (k:Int) (w:World) (h:jq w ll ll.length t ub uo db dd uc dc):
  Calls Tryz.prog 157 #[.pointer (some ⟨t,0,none⟩),.int .i64 k] w fun e w'=>e= .returned (.bool (fR ll k))∧w'=w:=by
 have HC:=ae (yP k w h);obtain⟨_,ul,_,c1,_,c2,_⟩:=h;by_cases hk:0≤k∧k < ll.length
 ·rw [decide_eq_true hk] at HC;obtain⟨K,rfl⟩:∃K:Nat,k=(K:Int):=⟨k.toNat,by omega⟩;have hKl:K < ll.length:=by omega
  have hs:Sl w (some ⟨ub,uo,none⟩) (iU ll):= .inr ⟨ub,uo,rfl,ul,fun i x hx=>by
   have hi:i < ll.length:=(by have:=(List.getElem?_eq_some_iff.1 hx).1;rw [fQ] at this;exact this);rw [nd hi] at hx;injection hx with hx;subst hx;exact c2 i hi⟩
  have HR:Hid (Calls Tryz.prog 146 #[.slice (some ⟨ub,uo,none⟩) ll.length uc,.int .i64 K] w fun e w'=>e= .returned (.bool (fR ll K))∧w'=w):=ae (by
   have:=oF (iU ll) K (by rw [fQ];exact hKl) (some ⟨ub,uo,none⟩) uc w hs;have e:gU (iU ll) (K:Int)=upB ll K:=by
    have:=uJ (u:=iU ll) (A:=K) (by rw [fQ];exact hKl);rw [nd hKl] at this;injection this with this;exact this.symm
   rw [e,fQ] at this;have e2:fR ll K=decide ((K:Int)=0∨upB ll K≠ -1):=by
    unfold fR;rw [Bool.eq_iff_iff];simp only [decide_eq_true_eq];exact Ku hg K
   rw [e2];exact this)
  clear c2 hg hk hs;go_enter Tryz.func157,Tryz.ntmps157
  go_wp2_with fail
  refine HC.out.mono ?_;rintro e w1 ⟨rfl,rfl⟩;clear HC;go_wp2_with fail
  refine HR.out.mono ?_;rintro e w2 ⟨rfl,rfl⟩;clear HR;go_wp2_with fail
  go_ret;exact⟨rfl,rfl⟩
 ·rw [decide_eq_false hk] at HC;have e:fR ll k=false:=by
   unfold fR;rw [decide_eq_false_iff_not];exact fun h=>hk (h.num hg)
  rw [e];clear c2 hg hk e;go_enter Tryz.func157,Tryz.ntmps157
  go_wp2_with fail
  refine HC.out.mono ?_;rintro e w1 ⟨rfl,rfl⟩;clear HC;go_wp2_with fail
  go_ret;exact⟨rfl,rfl⟩
theorem sA {ll:List (List Int)} {b:Int} (h:All ll b):fR ll b=true:=by unfold fR;simp [h]
theorem uV {ll:List (List Int)} {b:Int} (h:¬All ll b):fR ll b=false:=by unfold fR;simp [h]
theorem IL {ll:List (List Int)} (hg:Gr ll) {a b:Int} (hb:All ll b) (hd:bf ll a < bf ll b):0≤upB ll b∧upB ll b < ll.length∧All ll (upB ll b)∧bf ll (upB ll b)+1=bf ll b∧(Ahd ll a (upB ll b)↔Ahd ll a b):=by
 have h0:b≠0:=by rintro rfl;rw [oh hg] at hd;omega
 obtain⟨c,hc⟩:=iW.ex hg hb h0;rw [tq hg hc];have hn:=hc.2.1.1.num hg;refine⟨hn.1,hn.2,hc.2.1.1,hc.2.2,fun h=>h.trans hc.2.1,fun h=>hc.last hg h ?_⟩;rintro rfl;omega
theorem IY {ll:List (List Int)} (hg:Gr ll) {a b:Int} (hb:All ll b) (hd:¬bf ll a < bf ll b):Ahd ll a b↔a=b:=by
 constructor
 ·intro h;refine Classical.byContradiction fun e=>hd (mK hg h e)
 ·rintro rfl;exact Ahd.refl hb
theorem zE {ll:List (List Int)} {t ub uo db dd uc dc:Nat} (hg:Gr ll) (a b:Int) (w:World) (h:jq w ll ll.length t ub uo db dd uc dc):
  Calls Tryz.prog 148 #[.pointer (some ⟨t,0,none⟩),.int .i64 a,.int .i64 b] w fun e w'=>e= .returned (.bool (cd ll a b))∧Below w.heap.size w w':=by
 have HA:=ae (qk hg a w h);have HB:=ae (qk hg b w h);obtain⟨r,HR⟩:∃r,Hid (cd ll a b=r):=⟨_,ae rfl⟩;rw [HR.out];by_cases ha:All ll a
 ·have e1:fR ll a=true:=sA ha;rw [e1] at HA;by_cases hb:All ll b
  ·have e2:fR ll b=true:=sA hb;rw [e2] at HB;obtain⟨tl,ul,dl,c1,c2,c3,c4⟩:=h;obtain⟨a0,a1⟩:=ha.num hg;obtain⟨A,rfl⟩:∃A:Nat,a=(A:Int):=⟨a.toNat,by omega⟩;have hAl:A < ll.length:=(by omega);have hAI:(A:Int) < ll.length:=(by omega);have HU:=ae (fun(x:Int) (hx:All ll x) (hd:bf ll (A:Int) < bf ll x)=>IL hg hx hd);have HQ:=ae (fun(x:Int) (hx:All ll x) (hd:¬bf ll (A:Int) < bf ll x)=>IY hg hx hd);have HNum:=ae (fun(x:Int) (hx:All ll x)=>hx.num hg);have HRi:Hid (r=true↔Ahd ll A b):=ae (by rw [←HR.out];exact cn hg _ _);have HMx:=ae (fun x=>sR ll x);have KB:=ae hb;have C3:=ae c3;have C4:=ae c4;clear hg ha hb e1 e2 a0 a1 HR c3 c4;go_enter Tryz.func148,Tryz.ntmps148
   go_wp2_with fail
   refine HA.out.mono ?_;rintro e w1 ⟨rfl,rfl⟩;clear HA;go_wp2_with fail
   refine HB.out.mono ?_;rintro e w2 ⟨rfl,rfl⟩;clear HB;go_wp2_with fail
   go_loopw [2] (fun bv wr=>∃B:Nat,bv= .int .i64 B∧Hid (All ll B)∧Hid (Ahd ll A B↔Ahd ll A b)∧Hid (Below w2.heap.size w2 wr)) (fun bv _=>bf ll (intOf bv))
   case atStart=>
    obtain⟨b0,b1⟩:=HNum.out b KB.out;refine⟨b.toNat,by simp;omega,?_,?_,ae (Below.refl _ _)⟩
    ·have e:((b.toNat:Nat):Int)=b:=(by omega);rw [e];exact KB
    ·have e:((b.toNat:Nat):Int)=b:=(by omega);rw [e];exact ae Iff.rfl
   case round=>
    clear KB;obtain⟨B,rfl,KB,HI,HW⟩:=hrel;have hBl:B < ll.length:=(by have:=HNum.out _ KB.out;omega);have hBI:(B:Int) < ll.length:=(by omega);have hB2:=fun x=>af HW.out (L5.ax wr x);have k1:=fun x=>((hB2 x).cell (p:=⟨t,1,none⟩) tl).trans c2;have k0:=fun x=>((hB2 x).cell (p:=⟨t,0,none⟩) tl).trans c1;have k2:=fun x=>((hB2 x).cell (p:=⟨db,dd+B,none⟩) dl).trans (C4.out B hBl);have k3:=fun x=>((hB2 x).cell (p:=⟨db,dd+A,none⟩) dl).trans (C4.out A hAl);have k4:=fun x=>((hB2 x).cell (p:=⟨ub,uo+B,none⟩) ul).trans (C3.out B hBl);replace hB2:=ae hB2;by_cases hd:bf ll (A:Int) < bf ll (B:Int)
    ·have hdI:((bf ll (A:Int):Nat):Int) < ((bf ll (B:Int):Nat):Int):=(by omega);obtain⟨u0,u1,u2,u3,u4⟩:=HU.out _ KB.out hd;obtain⟨U,hU⟩:∃U:Nat,upB ll (B:Int)=(U:Int):=⟨(upB ll (B:Int)).toNat,by omega⟩;simp only [hU] at k4 u0 u1 u2 u3 u4;have KU:=ae u2;have HU4:=ae (u4.trans HI.out);obtain⟨dA,HdA⟩:∃d,Hid (bf ll (A:Int)=d):=⟨_,ae rfl⟩;obtain⟨dB,HdB⟩:∃d,Hid (bf ll (B:Int)=d):=⟨_,ae rfl⟩;have hu3:=ae u3;simp only [HdA.out] at k3 hdI;simp only [HdB.out] at k2 hdI;clear hd u0 u1 u2 u3 u4 hU;go_wp2_with fail
     refine L5.aE (by kernel_rfl) (by kernel_rfl) ?_;repeat (go_big_quiet_step (fail))
     refine wpQuiet_nil ?_;rintro _ ⟨x,rfl⟩;go_wp2_with fail
     go_roundw
     case rel=>exact⟨U,rfl,KU,HU4,ae (hB2.out x)⟩
     case measure=>have e1:=HdB.out;have e2:=hu3.out;simp [intOf];omega
    ·have hdI:¬((bf ll (A:Int):Nat):Int) < ((bf ll (B:Int):Nat):Int):=(by omega);have hq:=HQ.out _ KB.out hd;have HE:Hid (decide ((A:Int)=(B:Int))=r):=ae (by
      rw [Bool.eq_iff_iff,decide_eq_true_eq,HRi.out,←HI.out];exact hq.symm)
     obtain⟨dA,HdA⟩:∃d,Hid (bf ll (A:Int)=d):=⟨_,ae rfl⟩;obtain⟨dB,HdB⟩:∃d,Hid (bf ll (B:Int)=d):=⟨_,ae rfl⟩;simp only [HdA.out] at k3 hdI;simp only [HdB.out] at k2 hdI;clear hd hq;go_wp2_with fail
     refine L5.aE (by kernel_rfl) (by kernel_rfl) ?_;repeat (go_big_quiet_step (fail))
     refine wpQuiet_nil ?_;rintro _ ⟨x,rfl⟩;go_wp2_with fail
     go_ret;refine⟨?_,hB2.out x⟩;rw [←HE.out];show Ending.returned (.bool ((A:Int) == (B:Int)))=_;rfl
  ·have e2:fR ll b=false:=uV hb;rw [e2] at HB;have HE:Hid (r=false):=ae (by rw [←HR.out,pE hg];exact fun h=>hb h.2.1);rw [HE.out];clear hg ha hb e1 e2 h HR;go_enter Tryz.func148,Tryz.ntmps148
   go_wp2_with fail
   refine HA.out.mono ?_;rintro e w1 ⟨rfl,rfl⟩;clear HA;go_wp2_with fail
   refine HB.out.mono ?_;rintro e w2 ⟨rfl,rfl⟩;clear HB;go_wp2_with fail
   go_ret;exact⟨rfl,Below.refl _ _⟩
 ·have e1:fR ll a=false:=uV ha;rw [e1] at HA;have HE:Hid (r=false):=ae (by rw [←HR.out,pE hg];exact fun h=>ha h.1);rw [HE.out];clear hg ha e1 h HR HB;go_enter Tryz.func148,Tryz.ntmps148
  go_wp2_with fail
  refine HA.out.mono ?_;rintro e w1 ⟨rfl,rfl⟩;clear HA;go_wp2_with fail
  go_ret;exact⟨rfl,Below.refl _ _⟩
theorem cl {w:World} {b:Nat} (po ap ab:Option Addr) (pn pc an cp bn cb:Nat) (nm:ByteArray) (rt pl:Int) (src:Bool) (qb qo qn qc tr tb mb:Nat) (h:w.heap[b]? =some (.cells #[.slice po pn pc,.string nm,.slice ap an cp,.int .i64 rt,.slice ab bn cb,.int .i64 pl,.bool src,.slice (some ⟨qb,qo,none⟩) qn qc,.pointer (some ⟨tr,0,none⟩),.map (some tb),.map (some mb)] 111 (0,0))):
  (w.cell? ⟨b,0,none⟩=some (.slice po pn pc)∧w.cell? ⟨b,1,none⟩=some (.string nm)∧w.cell? ⟨b,2,none⟩=some (.slice ap an cp)∧w.cell? ⟨b,3,none⟩=some (.int .i64 rt)∧w.cell? ⟨b,4,none⟩=some (.slice ab bn cb)∧w.cell? ⟨b,5,none⟩=some (.int .i64 pl)∧w.cell? ⟨b,6,none⟩=some (.bool src)∧w.cell? ⟨b,7,none⟩=some (.slice (some ⟨qb,qo,none⟩) qn qc)∧w.cell? ⟨b,8,none⟩=some (.pointer (some ⟨tr,0,none⟩))∧w.cell? ⟨b,9,none⟩=some (.map (some tb))∧w.cell? ⟨b,10,none⟩=some (.map (some mb)))∧b < w.heap.size:=by
 refine⟨⟨?_,?_,?_,?_,?_,?_,?_,?_,?_,?_,?_⟩,(Array.getElem?_eq_some_iff.1 h).1⟩ <;> simp [World.cell?,h]
theorem kK (w:World) (A B:Obj):Below w.heap.size w ((w.alloc A).alloc B)∧((w.alloc A).alloc B).heap[w.heap.size]? =some A∧((w.alloc A).alloc B).heap[w.heap.size+1]? =some B:=by
 have b1:=ah w A;have b2:=ah (w.alloc A) B;have hs:(w.alloc A).heap.size=w.heap.size+1:=by simp
 have h2:=heap_alloc_new (w.alloc A) B;rw [hs] at h2;exact⟨af b1 b2,(b2.block w.heap.size (by simp)).trans (heap_alloc_new w A),h2⟩
theorem EI (w:World) (A B C:Obj):Below w.heap.size w (((w.alloc A).alloc B).alloc C)∧(((w.alloc A).alloc B).alloc C).heap[w.heap.size]? =some A∧(((w.alloc A).alloc B).alloc C).heap[w.heap.size+1]? =some B∧(((w.alloc A).alloc B).alloc C).heap[w.heap.size+2]? =some C:=by
 obtain⟨b1,h1,h2⟩:=kK w A B;have b3:=ah ((w.alloc A).alloc B) C;have hs:((w.alloc A).alloc B).heap.size=w.heap.size+2:=by simp
 have h3:=heap_alloc_new ((w.alloc A).alloc B) C;rw [hs] at h3;exact⟨af b1 b3,(b3.block _ (by omega)).trans h1,(b3.block _ (by omega)).trans h2,h3⟩
def pt (ll:List (List Int)) (a1 a2 b1 b2:Int):Bool:=if a1=b1 then decide (a2 < b2)else cd ll a1 b1
theorem yG (po ap ab:Option Addr) (pn pc an cp bn cb:Nat) (nm:ByteArray) (rt pl:Int) (src:Bool) (qb qo qn qc tr tb mb:Nat) (a1 a2 b1 b2:Int) {ll:List (List Int)} {ub uo db dd uc dc:Nat} (w:World) (hg:Gr ll) (hT:jq w ll ll.length tr ub uo db dd uc dc):
  Calls Tryz.prog 131 #[.agg #[.slice po pn pc,.string nm,.slice ap an cp,.int .i64 rt,.slice ab bn cb,.int .i64 pl,.bool src,.slice (some ⟨qb,qo,none⟩) qn qc,.pointer (some ⟨tr,0,none⟩),.map (some tb),.map (some mb)],.agg #[.int .i64 a1,.int .i64 a2],.agg #[.int .i64 b1,.int .i64 b2]] w fun e w'=>e= .returned (.bool (pt ll a1 a2 b1 b2))∧Below w.heap.size w w':=by
 obtain⟨b0,h0,h1,h2⟩:=EI w (.cells #[.slice po pn pc,.string nm,.slice ap an cp,.int .i64 rt,.slice ab bn cb,.int .i64 pl,.bool src,.slice (some ⟨qb,qo,none⟩) qn qc,.pointer (some ⟨tr,0,none⟩),.map (some tb),.map (some mb)] 111) (.cells #[.int .i64 a1,.int .i64 a2] 113) (.cells #[.int .i64 b1,.int .i64 b2] 113);have HT:=ae (hT.below b0);have B0:=ae b0;have H0:=ae h0;have H1:=ae h1;have H2:=ae h2;clear b0 h0 h1 h2 hT;go_enter Tryz.func131,Tryz.ntmps131
 go_upto_region 1 with fail
 show Code.wp _ _ _ _ (((w.alloc (.cells #[.slice po pn pc,.string nm,.slice ap an cp,.int .i64 rt,.slice ab bn cb,.int .i64 pl,.bool src,.slice (some ⟨qb,qo,none⟩) qn qc,.pointer (some ⟨tr,0,none⟩),.map (some tb),.map (some mb)] 111)).alloc (.cells #[.int .i64 a1,.int .i64 a2] 113)).alloc (.cells #[.int .i64 b1,.int .i64 b2] 113));generalize ((w.alloc (.cells #[.slice po pn pc,.string nm,.slice ap an cp,.int .i64 rt,.slice ab bn cb,.int .i64 pl,.bool src,.slice (some ⟨qb,qo,none⟩) qn qc,.pointer (some ⟨tr,0,none⟩),.map (some tb),.map (some mb)] 111)).alloc (.cells #[.int .i64 a1,.int .i64 a2] 113)).alloc (.cells #[.int .i64 b1,.int .i64 b2] 113)=W at *;obtain⟨⟨_,_,_,_,_,_,_,_,c8,_,_⟩,_⟩:=cl _ _ _ _ _ _ _ _ _ _ _ _ _ _ _ _ _ _ _ _ H0.out;obtain⟨⟨x0,x1⟩,_,_⟩:=aP H1.out;obtain⟨⟨y0,y1⟩,_,_⟩:=aP H2.out;by_cases hab:a1=b1
 ·by_cases hlt:a2 < b2
  ·have HD:Hid (true=pt ll a1 a2 b1 b2):=ae (by simp [pt,hab,hlt]);subst hab;go_wp2_with fail
   go_ret;exact⟨by rw [←HD.out];rfl,B0.out⟩
  ·have HD:Hid (false=pt ll a1 a2 b1 b2):=ae (by simp [pt,hab,hlt]);subst hab;go_wp2_with fail
   go_ret;exact⟨by rw [←HD.out];rfl,B0.out⟩
 ·have HD:Hid (cd ll a1 b1=pt ll a1 a2 b1 b2):=ae (by simp [pt,hab]);go_wp2_with fail
  refine(zE hg a1 b1 _ HT.out).mono ?_;rintro e w1 ⟨rfl,b1'⟩;have HE:=ae (af B0.out b1');clear b1';go_wp2_with fail
  go_ret;exact⟨by rw [←HD.out];rfl,HE.out⟩
def tkI (ll:List (List Int)) (mk:Int→Option (Int × Int)) (ty:Int→Option Int) (v kd b1 b2:Int):Int:=match mk v with
 |none=>8
 |some s=>if(ty v).getD 0≠kd then 9 else if pt ll s.1 s.2 b1 b2 then 0 else 10
theorem BG (po ap ab:Option Addr) (pn pc an cp bn cb:Nat) (nm:ByteArray) (rt pl:Int) (src:Bool) (qb qo qn qc tr tb mb:Nat) (v kd b1 b2:Int) {ll:List (List Int)} {ub uo db dd uc dc n1 n2:Nat} {mk:Int→Option (Int × Int)} {ty:Int→Option Int} (w:World) (hg:Gr ll) (hT:jq w ll ll.length tr ub uo db dd uc dc) (hM:SMap w mb n1 mk) (hY:cI w tb n2 ty) (hI:Wf6 v):
  Calls Tryz.prog 102 #[.agg #[.slice po pn pc,.string nm,.slice ap an cp,.int .i64 rt,.slice ab bn cb,.int .i64 pl,.bool src,.slice (some ⟨qb,qo,none⟩) qn qc,.pointer (some ⟨tr,0,none⟩),.map (some tb),.map (some mb)],.int .i64 v,.int .i64 kd,.agg #[.int .i64 b1,.int .i64 b2]] w fun e w'=>e= .returned (.int .i64 (tkI ll mk ty v kd b1 b2))∧Below w.heap.size w w':=by
 obtain⟨b0,h0,h1⟩:=kK w (.cells #[.slice po pn pc,.string nm,.slice ap an cp,.int .i64 rt,.slice ab bn cb,.int .i64 pl,.bool src,.slice (some ⟨qb,qo,none⟩) qn qc,.pointer (some ⟨tr,0,none⟩),.map (some tb),.map (some mb)] 111) (.cells #[.int .i64 b1,.int .i64 b2] 113);have HT:=ae (hT.below b0);have HM:=ae (bS.below hM b0);have HY:=ae (bS.below hY b0);have B0:=ae b0;have H0:=ae h0;have H1:=ae h1;clear b0 h0 h1 hT hM hY;go_enter Tryz.func102,Tryz.ntmps102
 go_upto_region 1 with fail
 show Code.wp _ _ _ _ ((w.alloc (.cells #[.slice po pn pc,.string nm,.slice ap an cp,.int .i64 rt,.slice ab bn cb,.int .i64 pl,.bool src,.slice (some ⟨qb,qo,none⟩) qn qc,.pointer (some ⟨tr,0,none⟩),.map (some tb),.map (some mb)] 111)).alloc (.cells #[.int .i64 b1,.int .i64 b2] 113));generalize (w.alloc (.cells #[.slice po pn pc,.string nm,.slice ap an cp,.int .i64 rt,.slice ab bn cb,.int .i64 pl,.bool src,.slice (some ⟨qb,qo,none⟩) qn qc,.pointer (some ⟨tr,0,none⟩),.map (some tb),.map (some mb)] 111)).alloc (.cells #[.int .i64 b1,.int .i64 b2] 113)=W at *;obtain⟨⟨c0,c1,c2,c3,c4,c5,c6,c7,c8,c9,c10⟩,hz0⟩:=cl _ _ _ _ _ _ _ _ _ _ _ _ _ _ _ _ _ _ _ _ H0.out;obtain⟨⟨x0,x1⟩,_,hz1⟩:=aP H1.out
 cases hmk:mk v with
 |none=>
  have HD:Hid (8=tkI ll mk ty v kd b1 b2):=ae (by simp [tkI,hmk]);have HMn:=ae hmk;clear hmk;have HE:=ae (af B0.out (ah W (.cells #[.int .i64 0,.int .i64 0] 113)));go_wp2_with (first | (at_lookup;refine gP _ rfl _ _ rfl mb n1 mk rfl HM.out v hI rfl 0 0 false (by rw [HMn.out];rfl) (by rw [HMn.out];rfl) ?_) | fail)
  go_ret;exact⟨by rw [←HD.out];rfl,HE.out⟩
 |some s=>
  obtain⟨s1,s2⟩:=s;have HMs:=ae hmk;have HD:Hid (tkI ll mk ty v kd b1 b2=if(ty v).getD 0≠kd then 9 else if pt ll s1 s2 b1 b2 then 0 else 10):=ae (by simp only [tkI,hmk]);clear hmk;have b2':=ah W (.cells #[.int .i64 s1,.int .i64 s2] 113);have H2:=ae (heap_alloc_new W (.cells #[.int .i64 s1,.int .i64 s2] 113));have HT2:=ae (HT.out.below b2');have HY2:=ae (bS.below HY.out b2');have hK0:=ae ((b2'.block w.heap.size hz0).trans H0.out);have hK1:=ae ((b2'.block (w.heap.size+1) hz1).trans H1.out);have HB2:=ae (af B0.out b2');go_upto_region 2 with (first | (at_lookup;refine gP _ rfl _ _ rfl mb n1 mk rfl HM.out v hI rfl s1 s2 true (by rw [HMs.out];rfl) (by rw [HMs.out];rfl) ?_) | fail)
  show Code.wp _ _ _ _ (W.alloc (.cells #[.int .i64 s1,.int .i64 s2] 113));generalize W.alloc (.cells #[.int .i64 s1,.int .i64 s2] 113)=W2 at *;generalize W.heap.size=q2 at *;clear b2' c0 c1 c2 c3 c4 c5 c6 c7 c8 c9 c10 x0 x1;obtain⟨⟨c0,c1,c2,c3,c4,c5,c6,c7,c8,c9,c10⟩,_⟩:=cl _ _ _ _ _ _ _ _ _ _ _ _ _ _ _ _ _ _ _ _ hK0.out;obtain⟨⟨x0,x1⟩,_,_⟩:=aP hK1.out;obtain⟨⟨y0,y1⟩,_,_⟩:=aP H2.out;obtain⟨t0,ht0⟩:∃t0,(ty v).getD 0=t0:=⟨_,rfl⟩;have HTy:=ae ht0;rw [ht0] at HD;clear ht0;by_cases hkd:t0=kd
  ·have HD2:Hid (tkI ll mk ty v kd b1 b2=if pt ll s1 s2 b1 b2 then 0 else 10):=ae (by rw [HD.out,if_neg (by simp [hkd])]);subst hkd;go_wp2_with (first | (at_lookup;refine ns _ rfl _ _ rfl tb n2 ty rfl HY2.out v hI rfl t0 HTy.out ?_) | fail)
   refine(yG po ap ab pn pc an cp bn cb nm rt pl src qb qo qn qc tr tb mb s1 s2 b1 b2 _ hg HT2.out).mono ?_;rintro e w3 ⟨rfl,b3⟩;have HE:=ae (af HB2.out b3);clear b3
   cases hbf:pt ll s1 s2 b1 b2 with
   |true=>
    have HD3:=ae (HD2.out.trans (by rw [hbf];rfl:_=(0:Int)));clear hbf;go_wp2_with fail
    go_ret;exact⟨by rw [HD3.out];rfl,HE.out⟩
   |false=>
    have HD3:=ae (HD2.out.trans (by rw [hbf];rfl:_=(10:Int)));clear hbf;go_wp2_with fail
    go_ret;exact⟨by rw [HD3.out];rfl,HE.out⟩
  ·have HD2:Hid (tkI ll mk ty v kd b1 b2=9):=ae (by rw [HD.out,if_pos hkd]);go_wp2_with (first | (at_lookup;refine ns _ rfl _ _ rfl tb n2 ty rfl HY2.out v hI rfl t0 HTy.out ?_) | fail)
   go_ret;exact⟨by rw [HD2.out];rfl,HB2.out⟩
theorem yc (po ap ab:Option Addr) (pn pc an cp bn cb:Nat) (nm:ByteArray) (rt pl:Int) (src:Bool) (qb qo qn qc tr tb mb:Nat) (op id nn ty xp:Int) (ar tt:List Int) (xn:ByteArray) (ao to:Option Addr) (ca ct:Nat) (a1 a2 n:Int) (w:World) (h20:¬op=20):
  Calls Tryz.prog 103 #[.agg #[.slice po pn pc,.string nm,.slice ap an cp,.int .i64 rt,.slice ab bn cb,.int .i64 pl,.bool src,.slice (some ⟨qb,qo,none⟩) qn qc,.pointer (some ⟨tr,0,none⟩),.map (some tb),.map (some mb)],.agg #[.int .i64 a1,.int .i64 a2],.agg #[.int .i64 op,.int .i64 id,.int .i64 nn,.int .i64 ty,.slice ao ar.length ca,.slice to tt.length ct,.string xn,.int .i64 xp],.int .i64 n] w fun e w'=>e= .returned (.agg #[.int .i64 a1,.int .i64 a2])∧Below w.heap.size w w':=by
 obtain⟨b0,h0,h1,h2⟩:=EI w (.cells #[.slice po pn pc,.string nm,.slice ap an cp,.int .i64 rt,.slice ab bn cb,.int .i64 pl,.bool src,.slice (some ⟨qb,qo,none⟩) qn qc,.pointer (some ⟨tr,0,none⟩),.map (some tb),.map (some mb)] 111) (.cells #[.int .i64 a1,.int .i64 a2] 113) (.cells #[.int .i64 op,.int .i64 id,.int .i64 nn,.int .i64 ty,.slice ao ar.length ca,.slice to tt.length ct,.string xn,.int .i64 xp] 47);have b3:=ah (((w.alloc (.cells #[.slice po pn pc,.string nm,.slice ap an cp,.int .i64 rt,.slice ab bn cb,.int .i64 pl,.bool src,.slice (some ⟨qb,qo,none⟩) qn qc,.pointer (some ⟨tr,0,none⟩),.map (some tb),.map (some mb)] 111)).alloc (.cells #[.int .i64 a1,.int .i64 a2] 113)).alloc (.cells #[.int .i64 op,.int .i64 id,.int .i64 nn,.int .i64 ty,.slice ao ar.length ca,.slice to tt.length ct,.string xn,.int .i64 xp] 47)) (.cells #[.int .i64 0,.int .i64 0] 113);have h3:=heap_alloc_new (((w.alloc (.cells #[.slice po pn pc,.string nm,.slice ap an cp,.int .i64 rt,.slice ab bn cb,.int .i64 pl,.bool src,.slice (some ⟨qb,qo,none⟩) qn qc,.pointer (some ⟨tr,0,none⟩),.map (some tb),.map (some mb)] 111)).alloc (.cells #[.int .i64 a1,.int .i64 a2] 113)).alloc (.cells #[.int .i64 op,.int .i64 id,.int .i64 nn,.int .i64 ty,.slice ao ar.length ca,.slice to tt.length ct,.string xn,.int .i64 xp] 47)) (.cells #[.int .i64 0,.int .i64 0] 113);have hs:(((w.alloc (.cells #[.slice po pn pc,.string nm,.slice ap an cp,.int .i64 rt,.slice ab bn cb,.int .i64 pl,.bool src,.slice (some ⟨qb,qo,none⟩) qn qc,.pointer (some ⟨tr,0,none⟩),.map (some tb),.map (some mb)] 111)).alloc (.cells #[.int .i64 a1,.int .i64 a2] 113)).alloc (.cells #[.int .i64 op,.int .i64 id,.int .i64 nn,.int .i64 ty,.slice ao ar.length ca,.slice to tt.length ct,.string xn,.int .i64 xp] 47)).heap.size=w.heap.size+1+1+1:=by simp
 rw [hs] at h3;have H1:=ae ((b3.block _ (by omega)).trans h1);have H2:=ae ((b3.block _ (by omega)).trans h2);have H3:=ae h3;have B0:=ae (af b0 b3);clear b0 h0 h1 h2 b3 h3 hs;generalize ar.length=la at *;generalize tt.length=lt at *;go_enter Tryz.func103,Tryz.ntmps103
 go_upto_region 1 with fail
 show Code.wp _ _ _ _ ((((w.alloc (.cells #[.slice po pn pc,.string nm,.slice ap an cp,.int .i64 rt,.slice ab bn cb,.int .i64 pl,.bool src,.slice (some ⟨qb,qo,none⟩) qn qc,.pointer (some ⟨tr,0,none⟩),.map (some tb),.map (some mb)] 111)).alloc (.cells #[.int .i64 a1,.int .i64 a2] 113)).alloc (.cells #[.int .i64 op,.int .i64 id,.int .i64 nn,.int .i64 ty,.slice ao la ca,.slice to lt ct,.string xn,.int .i64 xp] 47)).alloc (.cells #[.int .i64 0,.int .i64 0] 113));generalize (((w.alloc (.cells #[.slice po pn pc,.string nm,.slice ap an cp,.int .i64 rt,.slice ab bn cb,.int .i64 pl,.bool src,.slice (some ⟨qb,qo,none⟩) qn qc,.pointer (some ⟨tr,0,none⟩),.map (some tb),.map (some mb)] 111)).alloc (.cells #[.int .i64 a1,.int .i64 a2] 113)).alloc (.cells #[.int .i64 op,.int .i64 id,.int .i64 nn,.int .i64 ty,.slice ao la ca,.slice to lt ct,.string xn,.int .i64 xp] 47)).alloc (.cells #[.int .i64 0,.int .i64 0] 113)=W at *;obtain⟨⟨x0,x1⟩,_,_⟩:=aP H1.out;obtain⟨⟨z0,z1⟩,⟨f0,f1⟩,_⟩:=aP H3.out;have y0:W.cell? ⟨w.heap.size+2,0,none⟩=some (.int .i64 op):=by simp [World.cell?,H2.out]
 have HE:Hid (Below w.heap.size w ((W.setCell ⟨w.heap.size+1+1+1,0,none⟩ (.int .i64 a1)).setCell ⟨w.heap.size+1+1+1,1,none⟩ (.int .i64 a2))):=ae (by
  have hle:w.heap.size≤w.heap.size+1+1+1:=by omega
  exact((B0.out.setCell (p:=⟨w.heap.size+1+1+1,0,none⟩) hle _).setCell (p:=⟨w.heap.size+1+1+1,1,none⟩) hle _))
 go_wp2_with fail
 exact bodyPost_ret (v:= .agg #[.int .i64 a1,.int .i64 a2]) (by simp [results,Tryz.results103,go_sem,z0,z1]) rfl ⟨rfl,HE.out⟩
def fF (y:Int) (N K:Nat):List Int:=List.replicate K y ++ List.replicate (N - K) 0
theorem mZ {N K:Nat} (y:Int) (C:Nat):splice (ints (fF y N K)) K (ints (List.replicate C y))=ints (fF y N (K+C)):=by
 unfold splice fF ints;have e1:(List.replicate (N - K) (0:Int)).drop C=List.replicate (N - (K+C)) 0:=by rw [List.drop_replicate];congr 1;omega
 have e2:List.replicate (K+C) y=List.replicate K y ++ List.replicate C y:=by rw [List.replicate_append_replicate]
 rw [←List.map_take,←List.map_drop,←List.map_append,←List.map_append];congr 1
 rw [List.take_append_of_le_length (by simp),List.take_of_length_le (by simp),List.drop_append,List.length_replicate,List.length_map,List.length_replicate,List.drop_eq_nil_of_le (by simp),Nat.add_sub_cancel_left,e1,e2];simp only [List.nil_append,List.append_assoc]
theorem uU (y:Int) (N g0:Nat) (h0:0 < N) (hN:N≤1000000) (w:World) (hg0:g0 < w.heap.size) (hx:w.cell? ⟨g0,0,none⟩=some (.int .i64 y)):
  Calls Tryz.prog 124 #[.slice (some ⟨g0,0,none⟩) 1 1,.int .i64 N] w fun e w'=>e= .returned (.slice (some ⟨w.heap.size,0,none⟩) N N)∧aS w' w.heap.size 3 w.heap.size N (ints (List.replicate N y))∧Below w.heap.size w w':=by
 obtain⟨i3,hi3,hz3,hz4,hz5⟩:=info_parts Tryz.cr;have hsz:(Tryz.prog.info? 3).map (·.size)=some 1:=by rw [hi3];simp [hz4]
 have HM:=ae (mul_one N hN w);have hw1:IntKind.u64.wrap (N:Int)=(N:Int):=by rw [IntKind.wrap_u64];omega
 have hw2:IntKind.i64.wrap (N:Int)=(N:Int):=IntWalk.i64_in _ ⟨by omega,by omega⟩;have HX:=ae hx;clear hx;go_enter Tryz.func124,Tryz.ntmps124
 go_wp2_with fail
 refine HM.out.mono ?_;rintro e w1 ⟨rfl,hw⟩;rw [hw];clear hw HM;go_upto_region 7 with (at_make;refine wpList_make_full _ rfl _ _ 33 rfl w.heap.size 3 i3 _ 1 Tryz.underlying33 hi3 hz3 hz4 .i64 .i64 N N N rfl rfl rfl rfl (by rw [hz5];omega) (by unfold maxLen;omega) (Nat.le_refl _) ?_;intro w2 own2 grow2;refine Hid.out ?_)
 rw [fW] at own2;have R0:Hid (w2.heap[w.heap.size]? =some (.cells (ints (fF y N 0)).toArray 3 (0,0))):=ae (by
  have e:fF y N 0=List.replicate N 0:=by simp [fF]
  rw [e];exact fX own2)
 have B0:=ae (gq grow2);have hc0:Hid (∀j v,(ints [y])[j]? =some v→w2.cell? ((⟨g0,0,none⟩:Addr).add j)=some v):=ae (by
  intro j v hj;match j,hj with
  |0,hj=>
   simp [ints] at hj;subst hj;have:=(B0.out.cell (p:=⟨g0,0,none⟩) hg0).trans HX.out;simpa [Addr.add] using this)
 have hm1:Hid ((ints [y]).length=Nat.min 1 N):=ae (by show 1=min 1 N;omega);have hm2:Hid (0+(ints [y]).length≤(ints (fF y N 0)).length):=ae (by simp [ints,fF];omega);clear own2 grow2;generalize hg:w.heap.size=g at *;refine ae ?_;go_wp2_with (refine wpList_copy_splice rfl (.tmp 31) (.tmp 32) 33 33 rfl 3 Tryz.underlying33 hsz (some ⟨g,0,none⟩) (some ⟨g0,0,none⟩) N N 1 1 rfl rfl g 0 (ints (fF y N 0)) 3 R0.out (ints [y]) hm1.out (fun _=>⟨rfl,_,rfl,hc0.out⟩) hm2.out (eL _) g w B0.out (Nat.le_refl _) ?_;intro w3 hr3 hb3;refine Hid.out ?_)
 have R1:Hid (w3.heap[g]? =some (.cells (ints (fF y N 1)).toArray 3 (0,0))):=ae (by
  have e:=mZ (N:=N) y (K:=0) 1;have e2:=hr3.out;have e3:ints [y]=ints (List.replicate 1 y):=rfl;rw [e3,e] at e2;exact e2)
 have B1:=ae hb3;clear hr3 hb3 R0 B0 hc0;refine ae ?_;go_wp2_with fail
 go_loopw [8] (fun i wr=>∃K:Nat,1≤K∧K≤N∧i= .int .i64 K∧Hid (wr.heap[g]? =some (.cells (ints (fF y N K)).toArray 3 (0,0)))∧Hid (Below g w wr)) (fun i _=>N - (intOf i).toNat)
 case atStart=>exact⟨1,Nat.le_refl _,h0,rfl,R1,B1⟩
 case round=>
  clear R1 B1;obtain⟨K,hK1,hK,rfl,HR,HB⟩:=hrel;by_cases hKN:K < N
  ·have hKI:(K:Int) < N:=(by omega);obtain⟨C,hC1,hC2,hC3⟩:∃C,0 < C∧K+C≤N∧C=Nat.min K (N - K):=⟨min K (N - K),by omega,by omega,rfl⟩;have HRd:Hid (wr.drew.heap[g]? =some (.cells (ints (fF y N K)).toArray 3 (0,0))):=ae HR.out;have HBd:Hid (Below g w wr.drew):=ae HB.out.drew;have Hmin:Hid ((ints (List.replicate C y)).length=Nat.min K (N - K)):=ae (by simp [ints];exact hC3);have Hfit:Hid (K+(ints (List.replicate C y)).length≤(ints (fF y N K)).length):=ae (by simp [ints,fF];omega);have hCK:C≤K:=(by rw [hC3];exact Nat.min_le_left _ _);have Hsrc:Hid (∀j v,(ints (List.replicate C y))[j]? =some v→wr.drew.cell? ((⟨g,0,none⟩:Addr).add j)=some v):=ae (by
    intro j v hj;have hjC:j < C:=(by have:=(List.getElem?_eq_some_iff.1 hj).1;simpa [ints] using this);have e:v= .int .i64 y:=by
     simp only [ints,List.getElem?_map,List.getElem?_replicate,if_pos hjC,Option.map_some,Option.some.injEq] at hj;exact hj.symm
    subst e;have hrow:=jh (B:=g) (n:=N) HRd.out (Nat.le_refl _) (by simp [ints,fF];omega) (by unfold maxLen;omega);have:=hrow.cell (j:=j) (u:= .int .i64 y) (ints_at (by unfold fF;rw [List.getElem?_append_left (by simp;omega),List.getElem?_replicate,if_pos (by omega)]));rw [Addr.add_lit,Nat.zero_add];exact this)
   have HSp:=ae (mZ (N:=N) y (K:=K) C);have hwKC:IntKind.i64.wrap ((K:Int)+(C:Int))=((K+C:Nat):Int):=(by rw [IntWalk.i64_in _ ⟨by omega,by omega⟩];omega);replace hC3:=ae hC3;go_wp2_with fail
   go_region_law (refine step_copy_splice rfl (.tmp 41) (.tmp 44) 33 33 rfl 3 Tryz.underlying33 hsz (some ⟨g,K,none⟩) (some ⟨g,0,none⟩) (N - K) (N - K) K N (by simp [Act.eval,Act.put];omega) (by simp [Act.eval,Act.put]) g K (ints (fF y N K)) 3 HRd.out (ints (List.replicate C y)) Hmin.out (fun _=>⟨rfl,_,rfl,Hsrc.out⟩) Hfit.out (eL _) g w HBd.out (Nat.le_refl _) ?_;intro w4 hr4 hb4)
   all_goals
    have HE:Hid (w4.heap[g]? =some (.cells (ints (fF y N (K+C))).toArray 3 (0,0))):=ae (by have:=hr4.out;rwa [HSp.out] at this);have HE2:=ae hb4;clear hr4 hb4;go_wp2_with fail
    go_roundw
    case rel=>exact⟨K+C,by omega,hC2,by omega,HE⟩
    case measure=>simp [intOf];omega
  ·obtain rfl:K=N:=(by omega);have HE:Hid (aS wr w.heap.size 3 g K (ints (List.replicate K y))∧Below w.heap.size w wr):=ae (by
    rw [hg];have e:fF y K K=List.replicate K y:=(by simp [fF]);refine⟨jh (by rw [←e];exact HR.out) (Nat.le_refl _) (by simp [ints]) (by unfold maxLen;omega),HB.out⟩)
   go_wp2_with fail
   go_ret;refine⟨by rw [hg];rfl,?_⟩;have:=HE.out;rw [hg] at this ⊢;exact this
theorem cH {w:World} {b:Nat} {a0 a1 a2 a3 a4 a5 a6 a7:Value} {t:Nat} (h:w.heap[b]? =some (.cells #[a0,a1,a2,a3,a4,a5,a6,a7] t (0,0))):
  (w.cell? ⟨b,0,none⟩=some a0∧w.cell? ⟨b,1,none⟩=some a1∧w.cell? ⟨b,2,none⟩=some a2∧w.cell? ⟨b,3,none⟩=some a3∧w.cell? ⟨b,4,none⟩=some a4∧w.cell? ⟨b,5,none⟩=some a5∧w.cell? ⟨b,6,none⟩=some a6∧w.cell? ⟨b,7,none⟩=some a7)∧b < w.heap.size:=by
 refine⟨⟨?_,?_,?_,?_,?_,?_,?_,?_⟩,(Array.getElem?_eq_some_iff.1 h).1⟩ <;> simp [World.cell?,h]
theorem oq {w:World} {ao:Option Addr} {l:List Int} (h:Sl w ao l) {n:Nat} (hn:n < l.length):∃g o,ao=some ⟨g,o,none⟩∧g < w.heap.size∧w.cell? ⟨g,o+n,none⟩=some (.int .i64 (l.getD n 0)):=by
 rcases h with rfl | ⟨g,o,e,hg,h⟩
 ·simp at hn
 ·exact⟨g,o,e,hg,h n _ (by rw [List.getD_eq_getElem?_getD,List.getElem?_eq_getElem hn];rfl)⟩
def KO (w:World) (p:List Fun) (f:Fun) (x:Ins) (u:Value):Prop:=∃so sc sl,u= .slice so (List.length sl) sc∧Sl w so sl∧∀n,n < x.2.2.2.2.1.length→sl[n]? =some (dC p f x n)
theorem FI (po ap ab:Option Addr) (pn pc an cp bn cb:Nat) (nm:ByteArray) (rt pl:Int) (src:Bool) (qb qo qn qc tr tb mb:Nat) (op id nn ty xp:Int) (ar tt:List Int) (xn:ByteArray) (ao to:Option Addr) (ca ct:Nat) (a1 a2:Int) (n:Nat) (q:Int) (m:Nat) (w:World) (hn:n < tt.length) (ht:Sl w to tt) (hq:tt.getD n 0=q) (h0:0≤q) (hqb:q < bn)
  (hb:∀w',Below w.heap.size w w'→∃g o ao' c,ab=some ⟨g,o,none⟩∧w'.cell? ⟨g,o+q.toNat,none⟩=some (.slice ao' m c)) (h20:op=20):
  Calls Tryz.prog 103 #[.agg #[.slice po pn pc,.string nm,.slice ap an cp,.int .i64 rt,.slice ab bn cb,.int .i64 pl,.bool src,.slice (some ⟨qb,qo,none⟩) qn qc,.pointer (some ⟨tr,0,none⟩),.map (some tb),.map (some mb)],.agg #[.int .i64 a1,.int .i64 a2],.agg #[.int .i64 op,.int .i64 id,.int .i64 nn,.int .i64 ty,.slice ao ar.length ca,.slice to tt.length ct,.string xn,.int .i64 xp],.int .i64 n] w fun e w'=>e= .returned (.agg #[.int .i64 q,.int .i64 m])∧Below w.heap.size w w':=by
 subst h20;obtain⟨b0,h0',h1,h2⟩:=EI w (.cells #[.slice po pn pc,.string nm,.slice ap an cp,.int .i64 rt,.slice ab bn cb,.int .i64 pl,.bool src,.slice (some ⟨qb,qo,none⟩) qn qc,.pointer (some ⟨tr,0,none⟩),.map (some tb),.map (some mb)] 111) (.cells #[.int .i64 a1,.int .i64 a2] 113) (.cells #[.int .i64 20,.int .i64 id,.int .i64 nn,.int .i64 ty,.slice ao ar.length ca,.slice to tt.length ct,.string xn,.int .i64 xp] 47);have b3:=ah (((w.alloc (.cells #[.slice po pn pc,.string nm,.slice ap an cp,.int .i64 rt,.slice ab bn cb,.int .i64 pl,.bool src,.slice (some ⟨qb,qo,none⟩) qn qc,.pointer (some ⟨tr,0,none⟩),.map (some tb),.map (some mb)] 111)).alloc (.cells #[.int .i64 a1,.int .i64 a2] 113)).alloc (.cells #[.int .i64 20,.int .i64 id,.int .i64 nn,.int .i64 ty,.slice ao ar.length ca,.slice to tt.length ct,.string xn,.int .i64 xp] 47)) (.cells #[.int .i64 0,.int .i64 0] 113);have h3:=heap_alloc_new (((w.alloc (.cells #[.slice po pn pc,.string nm,.slice ap an cp,.int .i64 rt,.slice ab bn cb,.int .i64 pl,.bool src,.slice (some ⟨qb,qo,none⟩) qn qc,.pointer (some ⟨tr,0,none⟩),.map (some tb),.map (some mb)] 111)).alloc (.cells #[.int .i64 a1,.int .i64 a2] 113)).alloc (.cells #[.int .i64 20,.int .i64 id,.int .i64 nn,.int .i64 ty,.slice ao ar.length ca,.slice to tt.length ct,.string xn,.int .i64 xp] 47)) (.cells #[.int .i64 0,.int .i64 0] 113);have hs:(((w.alloc (.cells #[.slice po pn pc,.string nm,.slice ap an cp,.int .i64 rt,.slice ab bn cb,.int .i64 pl,.bool src,.slice (some ⟨qb,qo,none⟩) qn qc,.pointer (some ⟨tr,0,none⟩),.map (some tb),.map (some mb)] 111)).alloc (.cells #[.int .i64 a1,.int .i64 a2] 113)).alloc (.cells #[.int .i64 20,.int .i64 id,.int .i64 nn,.int .i64 ty,.slice ao ar.length ca,.slice to tt.length ct,.string xn,.int .i64 xp] 47)).heap.size=w.heap.size+1+1+1:=by simp
 rw [hs] at h3;have H0:=ae ((b3.block _ (by omega)).trans h0');have H2:=ae ((b3.block _ (by omega)).trans h2);have H3:=ae h3;have B0:=ae (af b0 b3);clear b0 h0' h1 h2 b3 h3 hs;obtain⟨g,o,rfl,hg,hc⟩:=oq ht hn;rw [hq] at hc;have hc2:=(B0.out.cell (p:=⟨g,o+n,none⟩) hg).trans hc;obtain⟨g2,o2,ao',c2,rfl,hc3⟩:=hb _ B0.out;obtain⟨Q,rfl⟩:∃Q:Nat,q=Q:=⟨q.toNat,by omega⟩;rw [Int.toNat_natCast] at hc3;have hnI:(n:Int) < tt.length:=by omega
 clear ht hc hb hq h0;generalize ar.length=la at *;generalize tt.length=lt at *;go_enter Tryz.func103,Tryz.ntmps103
 go_upto_region 1 with fail
 show Code.wp _ _ _ _ ((((w.alloc (.cells #[.slice po pn pc,.string nm,.slice ap an cp,.int .i64 rt,.slice (some ⟨g2,o2,none⟩) bn cb,.int .i64 pl,.bool src,.slice (some ⟨qb,qo,none⟩) qn qc,.pointer (some ⟨tr,0,none⟩),.map (some tb),.map (some mb)] 111)).alloc (.cells #[.int .i64 a1,.int .i64 a2] 113)).alloc (.cells #[.int .i64 20,.int .i64 id,.int .i64 nn,.int .i64 ty,.slice ao la ca,.slice (some ⟨g,o,none⟩) lt ct,.string xn,.int .i64 xp] 47)).alloc (.cells #[.int .i64 0,.int .i64 0] 113));generalize (((w.alloc (.cells #[.slice po pn pc,.string nm,.slice ap an cp,.int .i64 rt,.slice (some ⟨g2,o2,none⟩) bn cb,.int .i64 pl,.bool src,.slice (some ⟨qb,qo,none⟩) qn qc,.pointer (some ⟨tr,0,none⟩),.map (some tb),.map (some mb)] 111)).alloc (.cells #[.int .i64 a1,.int .i64 a2] 113)).alloc (.cells #[.int .i64 20,.int .i64 id,.int .i64 nn,.int .i64 ty,.slice ao la ca,.slice (some ⟨g,o,none⟩) lt ct,.string xn,.int .i64 xp] 47)).alloc (.cells #[.int .i64 0,.int .i64 0] 113)=W at *;obtain⟨⟨c0,c1,_,c3,c4,c5,_,_,_,_,_⟩,_⟩:=cl _ _ _ _ _ _ _ _ _ _ _ _ _ _ _ _ _ _ _ _ H0.out;obtain⟨⟨x0,_,_,_,_,x5,_,_⟩,_⟩:=cH H2.out;obtain⟨⟨z0,z1⟩,⟨f0,f1⟩,_⟩:=aP H3.out;have HE:Hid (Below w.heap.size w ((W.setCell ⟨w.heap.size+1+1+1,0,none⟩ (.int .i64 Q)).setCell ⟨w.heap.size+1+1+1,1,none⟩ (.int .i64 m))):=ae (by
  have hle:w.heap.size≤w.heap.size+1+1+1:=by omega
  exact((B0.out.setCell (p:=⟨w.heap.size+1+1+1,0,none⟩) hle _).setCell (p:=⟨w.heap.size+1+1+1,1,none⟩) hle _))
 go_wp2_with fail
 exact bodyPost_ret (v:= .agg #[.int .i64 Q,.int .i64 m]) (by simp [results,Tryz.results103,go_sem,z0,z1]) rfl ⟨rfl,HE.out⟩
theorem tN (po ap ab:Option Addr) (pn pc an cp bn cb:Nat) (nm:ByteArray) (rt pl:Int) (src:Bool) (qb qo qn qc tr tb mb:Nat) (op id nn ty xp:Int) (ar tt:List Int) (xn:ByteArray) (ao to:Option Addr) (ca ct:Nat) (w:World) (hl:ar.length≤1) (c:Int) (hc:c=if(decide (rt=0) != decide (ar.length=0))=true then 13 else 0):
  Calls Tryz.prog 129 #[.agg #[.slice po pn pc,.string nm,.slice ap an cp,.int .i64 rt,.slice ab bn cb,.int .i64 pl,.bool src,.slice (some ⟨qb,qo,none⟩) qn qc,.pointer (some ⟨tr,0,none⟩),.map (some tb),.map (some mb)],.agg #[.int .i64 op,.int .i64 id,.int .i64 nn,.int .i64 ty,.slice ao ar.length ca,.slice to tt.length ct,.string xn,.int .i64 xp]] w fun e w'=>(∃u,e= .returned (.tuple #[u,.int .i64 c])∧(c=0→∃so sc sl,u= .slice so (List.length sl) sc∧Sl w' so sl∧∀n,n < ar.length→sl[n]? =some rt))∧Below w.heap.size w w':=by
 obtain⟨b0,h0,h1⟩:=kK w (.cells #[.slice po pn pc,.string nm,.slice ap an cp,.int .i64 rt,.slice ab bn cb,.int .i64 pl,.bool src,.slice (some ⟨qb,qo,none⟩) qn qc,.pointer (some ⟨tr,0,none⟩),.map (some tb),.map (some mb)] 111) (.cells #[.int .i64 op,.int .i64 id,.int .i64 nn,.int .i64 ty,.slice ao ar.length ca,.slice to tt.length ct,.string xn,.int .i64 xp] 47);have H0:=ae h0;have H1:=ae h1;have B0:=ae b0;clear b0 h0 h1;generalize hla:ar.length=la at *;generalize tt.length=lt at *;clear hla;have HC:=ae hc;clear hc;go_enter Tryz.func129,Tryz.ntmps129
 go_upto_region 2 with fail
 show Code.wp _ _ _ _ ((w.alloc (.cells #[.slice po pn pc,.string nm,.slice ap an cp,.int .i64 rt,.slice ab bn cb,.int .i64 pl,.bool src,.slice (some ⟨qb,qo,none⟩) qn qc,.pointer (some ⟨tr,0,none⟩),.map (some tb),.map (some mb)] 111)).alloc (.cells #[.int .i64 op,.int .i64 id,.int .i64 nn,.int .i64 ty,.slice ao la ca,.slice to lt ct,.string xn,.int .i64 xp] 47));generalize (w.alloc (.cells #[.slice po pn pc,.string nm,.slice ap an cp,.int .i64 rt,.slice ab bn cb,.int .i64 pl,.bool src,.slice (some ⟨qb,qo,none⟩) qn qc,.pointer (some ⟨tr,0,none⟩),.map (some tb),.map (some mb)] 111)).alloc (.cells #[.int .i64 op,.int .i64 id,.int .i64 nn,.int .i64 ty,.slice ao la ca,.slice to lt ct,.string xn,.int .i64 xp] 47)=W at *;obtain⟨⟨c0,c1,c2,c3,c4,c5,_,_,_,_,_⟩,_⟩:=cl _ _ _ _ _ _ _ _ _ _ _ _ _ _ _ _ _ _ _ _ H0.out;obtain⟨⟨_,_,_,_,x4,_,_,_⟩,_⟩:=cH H1.out;rcases(show la=0∨la=1 by omega)with rfl | rfl
 ·by_cases hr:rt=0
  ·have HD:Hid (c=0):=ae (by rw [HC.out,hr];rfl);have HP:Hid (c=0→∃so sc sl,Value.slice none 0 0= .slice so (List.length sl) sc∧Sl W so sl∧∀n,n < 0→sl[n]? =some rt):=ae (fun _=>⟨none,0,[],rfl,.inl rfl,fun n hn=>by omega⟩);subst hr;clear HC;go_wp2_with fail
   go_ret2;exact⟨⟨_,by rw [HD.out];rfl,HP.out⟩,B0.out⟩
  ·have HD:Hid (c=13):=ae (by rw [HC.out];simp [hr]);have HB:=ae (af B0.out (ah W (.cells #[.int .i64 rt] 3)));clear HC;go_wp2_with fail
   go_ret2;exact⟨⟨_,by rw [HD.out];rfl,fun h=>by rw [HD.out] at h;cases h⟩,HB.out⟩
 ·by_cases hr:rt=0
  ·have HD:Hid (c=13):=ae (by rw [HC.out];simp [hr]);subst hr;clear HC;go_wp2_with fail
   go_ret2;exact⟨⟨_,by rw [HD.out];rfl,fun h=>by rw [HD.out] at h;cases h⟩,B0.out⟩
  ·have HD:Hid (c=0):=ae (by rw [HC.out];simp [hr]);have b2:=ah W (.cells #[.int .i64 rt] 3);have HB:=ae (af B0.out b2);have HS:Hid (Sl (W.alloc (.cells #[.int .i64 rt] 3)) (some ⟨W.heap.size,0,none⟩) [rt]):=ae (.inr ⟨W.heap.size,0,rfl,by simp,fun i n hi=>by
    match i,hi with
    |0,hi=>
     simp at hi;subst hi;exact(aV (heap_alloc_new W (.cells #[.int .i64 rt] 3))).1⟩)
   clear b2 HC;go_wp2_with fail
   go_ret2;refine⟨⟨_,by rw [HD.out];rfl,fun _=>⟨some ⟨W.heap.size,0,none⟩,1,[rt],rfl,HS.out,fun n hn=> ?_⟩⟩,HB.out⟩;have:n=0:=(by omega);subst this;rfl
end Go.Proofs.YtljkgcfnoegibaaGreatDoor
