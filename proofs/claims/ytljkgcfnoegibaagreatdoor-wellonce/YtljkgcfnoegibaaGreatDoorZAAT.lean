/- Texts of one chain, joined. -/
import Derived.Test.YtljkgcfnoegibaaGreatDoorZAAS
import Derived.Laws.Bits64b
set_option maxHeartbeats 4000000
set_option maxRecDepth 20000
namespace Go.Proofs.YtljkgcfnoegibaaGreatDoor
open Go Go.RowKit
open G (Tok Er Ins Fun)
def gU (u:List Int) (x:Int):Int:=if 0≤x then u.getD x.toNat (-1)else -1
theorem uJ {u:List Int} {A:Nat} (h:A < u.length):u[A]? =some (gU u (A:Int)):=by
 unfold gU;rw [if_pos (by omega),Int.toNat_natCast,List.getD_eq_getElem?_getD,List.getElem?_eq_getElem h];rfl
theorem JW {u:List Int} {B:Nat} (h:B < u.length) (v:Int):gU (u.set B v)=upd (gU u) B v:=by
 funext x;show(if 0≤x then(u.set B v).getD x.toNat (-1)else -1)=if x=(B:Int)then v else(if 0≤x then u.getD x.toNat (-1)else -1)
 by_cases e:x=(B:Int)
 ·subst e;rw [if_pos (by omega),if_pos rfl,Int.toNat_natCast,List.getD_eq_getElem?_getD,List.getElem?_set];simp [h]
 ·rw [if_neg e];by_cases h0:0≤x
  ·rw [if_pos h0,if_pos h0,List.getD_eq_getElem?_getD,List.getElem?_set_ne (by omega),List.getD_eq_getElem?_getD]
  ·rw [if_neg h0,if_neg h0]
theorem Ih (n:Nat) (x:Int):gU (List.replicate n (-1)) x= -1:=by
 unfold gU;split
 ·rw [List.getD_eq_getElem?_getD,List.getElem?_replicate];split <;> rfl
 ·rfl
def iU (ll:List (List Int)):List Int:=(List.range ll.length).map fun(b:Nat)=>upB ll b
theorem fQ (ll:List (List Int)):(iU ll).length=ll.length:=by simp [iU]
theorem nd {ll:List (List Int)} {b:Nat} (h:b < ll.length):(iU ll)[b]? =some (upB ll b):=by
 unfold iU;rw [List.getElem?_map,List.getElem?_range h];rfl
theorem Im {ll:List (List Int)} {u:List Int} (hl:u.length=ll.length) (h:∀b,gU u b=upB ll b):u=iU ll:=by
 apply List.ext_getElem?;intro j;by_cases hj:j < ll.length
 ·rw [nd hj,uJ (by omega),h]
 ·rw [List.getElem?_eq_none (by omega),List.getElem?_eq_none (by rw [fQ];omega)]
def UpS (ll:List (List Int)) (pl:Int→Int) (u ps:List Int):Prop:=u.length=ll.length∧ps.length=ll.length∧∀k:Nat,k < ll.length→ps[k]? =some (pl k)
theorem dF.nat {ll:List (List Int)} (hg:Gr ll) {g:Int→Int} {x:Int} (h:dF ll g x):∃A:Nat,x=(A:Int)∧A < ll.length:=by
 obtain⟨h0,h1⟩:=h.1.num hg;exact⟨x.toNat,by omega,by omega⟩
theorem Eu {ll:List (List Int)} {pl g:Int→Int} (hw:Wf ll pl g) (x:Int):dF ll g x↔(x=0∨g x≠ -1):=by
 constructor
 ·exact fun h=>h.2
 ·intro h;refine⟨?_,h⟩;rcases h with rfl | h
  ·exact All.first _
  ·exact(hw.2.2 x h).1
theorem oF (u:List Int) (A:Nat) (hA:A < u.length) (uo:Option Addr) (uc:Nat) (w:World) (hu:Sl w uo u):
  Calls Tryz.prog 146 #[.slice uo u.length uc,.int .i64 A] w fun e w'=>e= .returned (.bool (decide ((A:Int)=0∨gU u A≠ -1)))∧w'=w:=by
 rcases hu with rfl | ⟨b,o,rfl,hb,hc⟩
 ·simp at hA
 have c1:=hc A _ (uJ hA);have hAI:(A:Int) < u.length:=by omega
 clear hc hb;by_cases h0:A=0
 ·subst h0;go_enter Tryz.func146,Tryz.ntmps146
  go_wp2_with fail
  go_ret;refine⟨?_,rfl⟩;simp
 ·have h0b:((A:Int) == 0)=false:=beq_eq_false_iff_ne.2 (by omega);generalize gU u (A:Int)=x at *;have hd:decide ((A:Int)=0∨x≠ -1)=(x != -1):=by
   rw [Bool.eq_iff_iff];simp [h0]
  rw [hd];clear hd;go_enter Tryz.func146,Tryz.ntmps146
  go_wp2_with fail
  go_ret;exact⟨rfl,rfl⟩
theorem Fv (ll:List (List Int)) (hg:Gr ll) (pl:Int→Int) (ho:Ord ll pl) (u ps:List Int) (hS:UpS ll pl u ps) (hw:Wf ll pl (gU u)) (uo po:Option Addr) (uc pc:Nat) (a b:Int) (w:World) (hu:Sl w uo u) (hp:Sl w po ps) (ha:dF ll (gU u) a) (hb:dF ll (gU u) b):
  Calls Tryz.prog 147 #[.slice uo u.length uc,.slice po ps.length pc,.int .i64 a,.int .i64 b] w fun e w'=>(∃c,e= .returned (.int .i64 c)∧dF ll (gU u) c∧∀z,Ch (gU u) z c↔(Ch (gU u) z a∧Ch (gU u) z b))∧Below w.heap.size w w':=by
 have hn:=hg.2;rcases hu with rfl | ⟨ub,uo,rfl,hub,hcu⟩
 ·have:=hS.1;simp at this;omega
 rcases hp with rfl | ⟨pb,po,rfl,hpb,hcp⟩
 ·have:=hS.2.1;simp at this;omega
 have HStep:=ae (fun a b ha hb h=>Cw (g:=gU u) (a:=a) (b:=b) ho hw ha hb h);have HNat:=ae (fun x (h:dF ll (gU u) x)=>h.nat hg);have HInj:=ae (fun a b (ha:dF ll (gU u) a) (hb:dF ll (gU u) b) (h:pl a=pl b)=>ho.2.1 a b ha.1 hb.1 h);have HPl:=ae (fun x (h:dF ll (gU u) x)=>h.pl0 ho);have HCu:=ae hcu;have HCp:=ae (fun(k:Nat) (h:k < ll.length)=>hcp k _ (hS.2.2 k h));have HCg:=ae (fun(k:Nat) (h:k < ll.length)=>hcu k _ (uJ (by rw [hS.1];exact h)));have h1:=hS.1;have h2:=hS.2.1;have KA:=ae ha;have KB:=ae hb;rw [h1,h2];clear hcu hcp ha hb hg ho hw hS h1 h2 HCu;generalize hN:ll.length=N at *;generalize gU u=g at *;go_enter Tryz.func147,Tryz.ntmps147
 go_wp2_with fail
 go_loopw [2,3] (fun av bv wr=>∃a' b':Int,av= .int .i64 a'∧bv= .int .i64 b'∧Hid (dF ll g a')∧Hid (dF ll g b')∧Hid (∀z,(Ch g z a'∧Ch g z b')↔(Ch g z a∧Ch g z b))∧Hid (Below w.heap.size w wr)) (fun av bv _=>(pl (intOf av)).toNat+(pl (intOf bv)).toNat)
 case atStart=>exact⟨a,b,rfl,rfl,KA,KB,ae (fun z=>Iff.rfl),ae (Below.refl _ _)⟩
 case round=>
  clear KA KB;obtain⟨a',b',rfl,rfl,KA,KB,HZ,HB⟩:=hrel;obtain⟨A,rfl,hA⟩:=HNat.out a' KA.out;obtain⟨B,rfl,hB⟩:=HNat.out b' KB.out;by_cases hab:(A:Int)=B
  ·obtain rfl:A=B:=(by omega);have HE:Hid (dF ll g (A:Int)∧∀z,Ch g z A↔(Ch g z a∧Ch g z b)):=ae ⟨KA.out,fun z=>by rw [←HZ.out];simp⟩;go_wp2_with fail
   go_ret;exact⟨⟨_,rfl,HE.out⟩,HB.out⟩
  ·have hab1:((A:Int) != (B:Int))=true:=bne_iff_ne.2 hab;have hab2:((A:Int) == (B:Int))=false:=beq_eq_false_iff_ne.2 hab;have hAI:(A:Int) < N:=(by omega);have hBI:(B:Int) < N:=(by omega);have p1:=HPl.out _ KA.out;have p2:=HPl.out _ KB.out;have hB2:=fun x=>af HB.out (L5.ax wr x);have c1:=fun x=>((hB2 x).cell (p:=⟨pb,po+A,none⟩) hpb).trans (HCp.out A hA);have c2:=fun x=>((hB2 x).cell (p:=⟨pb,po+B,none⟩) hpb).trans (HCp.out B hB);have c3:=fun x=>((hB2 x).cell (p:=⟨ub,uo+A,none⟩) hub).trans (HCg.out A hA);have c4:=fun x=>((hB2 x).cell (p:=⟨ub,uo+B,none⟩) hub).trans (HCg.out B hB);replace hB2:=ae hB2;by_cases hlt:pl (B:Int) < pl (A:Int)
   ·obtain⟨s1,s2,s3,s4⟩:=HStep.out _ _ KA.out KB.out hlt;have S2:=ae s2;have S4:=ae (fun z=>(s4 z).symm.trans (HZ.out z));have p3:=HPl.out _ s2;obtain⟨pA,HpA⟩:∃pA,Hid (pl (A:Int)=pA):=⟨_,ae rfl⟩;obtain⟨pB,HpB⟩:∃pB,Hid (pl (B:Int)=pB):=⟨_,ae rfl⟩;simp only [HpA.out,HpB.out] at c1 c2 p1 p2 s3;try simp only [HpA.out,HpB.out] at hlt
    try simp only [HpA.out,HpB.out] at hlt2
    generalize g (A:Int)=gA at *;clear s4 s1 s2;go_wp2_with fail
    refine L5.aE (by kernel_rfl) (by kernel_rfl) ?_;repeat (go_big_quiet_step (fail))
    refine wpQuiet_nil ?_;rintro _ ⟨x,rfl⟩;go_wp2_with fail
    go_roundw
    case rel=>exact⟨gA,B,rfl,rfl,S2,KB,S4,ae (hB2.out x)⟩
    case measure=>have e1:=HpA.out;have e2:=HpB.out;simp [intOf];omega
   ·have hlt2:pl (A:Int) < pl (B:Int):=by
     have:pl (A:Int)≠pl (B:Int):=fun e=>hab (HInj.out _ _ KA.out KB.out e);omega
    obtain⟨s1,s2,s3,s4⟩:=HStep.out _ _ KB.out KA.out hlt2;have S2:=ae s2;have S4:Hid (∀z,(Ch g z A∧Ch g z (g B))↔(Ch g z a∧Ch g z b)):=ae (fun z=>by
     rw [←HZ.out];have:=s4 z;constructor
     ·rintro ⟨q1,q2⟩;exact⟨q1,(this.2 ⟨q2,q1⟩).1⟩
     ·rintro ⟨q1,q2⟩;exact⟨q1,(this.1 ⟨q2,q1⟩).1⟩)
    have p3:=HPl.out _ s2;obtain⟨pA,HpA⟩:∃pA,Hid (pl (A:Int)=pA):=⟨_,ae rfl⟩;obtain⟨pB,HpB⟩:∃pB,Hid (pl (B:Int)=pB):=⟨_,ae rfl⟩;simp only [HpA.out,HpB.out] at c1 c2 p1 p2 s3;try simp only [HpA.out,HpB.out] at hlt
    try simp only [HpA.out,HpB.out] at hlt2
    generalize g (B:Int)=gB at *;clear s4 s1 s2;go_wp2_with fail
    refine L5.aE (by kernel_rfl) (by kernel_rfl) ?_;repeat (go_big_quiet_step (fail))
    refine wpQuiet_nil ?_;rintro _ ⟨x,rfl⟩;go_wp2_with fail
    go_roundw
    case rel=>exact⟨A,gB,rfl,rfl,KA,S2,S4,ae (hB2.out x)⟩
    case measure=>have e1:=HpA.out;have e2:=HpB.out;simp [intOf];omega
theorem mx (a:Nat) (ha:a≤1000000):bits .and .u64 (a:Int) 4294967295=(a:Int):=by
 have h:=bits_and_u64_nat a 4294967295 (by omega) (by omega);have e:a &&& 4294967295=a % 4294967296:=Nat.and_two_pow_sub_one_eq_mod a 32;rw [e,Nat.mod_eq_of_lt (by omega)] at h;exact h
theorem BZ (N:Nat) (h:N≤1000000) (w:World):Calls Tryz.prog 156 #[.int .u64 1,.int .u64 N] w fun e w'=>e= .returned (.tuple #[.int .u64 0,.int .u64 N])∧w'=w:=by
 go_enter Tryz.func156,Tryz.ntmps156
 go_wp2_with fail
 have m1:bits .and .u64 1 4294967295=1:=mx 1 (by omega);have m0:bits .and .u64 0 4294967295=0:=mx 0 (by omega);have d0:(N:Int) / 4294967296=0:=by omega
 have wN:IntKind.u64.wrap (N:Int)=(N:Int):=by rw [IntKind.wrap_u64];omega
 have w0:IntKind.u64.wrap 0=0:=by rw [IntKind.wrap_u64];omega
 simp only [mx N h,m1,m0,Int.one_mul,Int.mul_zero,Int.add_zero,d0,wN,w0,Int.zero_ediv];go_ret2;exact⟨rfl,rfl⟩
theorem mul_one (N:Nat) (h:N≤1000000) (w:World):Calls Tryz.prog 145 #[.int .u64 1,.int .u64 N] w fun e w'=>e= .returned (.tuple #[.int .u64 0,.int .u64 N])∧w'=w:=by
 have HC:=ae (BZ N h w);go_enter Tryz.func145,Tryz.ntmps145
 go_wp2_with fail
 refine HC.out.mono ?_;rintro e w1 ⟨rfl,hw⟩;rw [hw];go_wp2_with fail
 go_ret2;exact⟨rfl,rfl⟩
theorem fX {w:World} {B e g n:Nat} {xs:List Value} (h:aS w B e g n xs):w.heap[g]? =some (.cells xs.toArray e (0,0)):=by
 rcases h.2 with ⟨hn,_⟩ | ⟨g',cap,cur,e1,h1,h2,h3,h4,h5,h6⟩
 ·injection hn with q;cases q
 ·injection e1 with q1 q2 q3;injection q1 with q1;injection q1 with q1;subst q1 q3;rw [h2];have:cur=xs.toArray:=by
   rw [←h6,List.take_of_length_le (by simp [h5])]
  rw [this]
theorem jh {w:World} {B e g n:Nat} {xs:List Value} (h:w.heap[g]? =some (.cells xs.toArray e (0,0))) (hB:B≤g) (hl:xs.length=n) (hn:n≤maxLen):aS w B e g n xs:=
 ⟨by omega,.inr ⟨g,n,xs.toArray,rfl,hB,h,Nat.le_refl _,hn,by simp [hl],by simp [←hl]⟩⟩
theorem ow {N K:Nat} (C:Nat):splice (ints (bR N K)) K (ints (List.replicate C (-1)))=ints (bR N (K+C)):=by
 unfold splice bR ints;have e1:(List.replicate (N - K) (0:Int)).drop C=List.replicate (N - (K+C)) 0:=by rw [List.drop_replicate];congr 1;omega
 have e2:List.replicate (K+C) (-1:Int)=List.replicate K (-1) ++ List.replicate C (-1):=by rw [List.replicate_append_replicate]
 rw [←List.map_take,←List.map_drop,←List.map_append,←List.map_append];congr 1
 rw [List.take_append_of_le_length (by simp),List.take_of_length_le (by simp),List.drop_append,List.length_replicate,List.length_map,List.length_replicate,List.drop_eq_nil_of_le (by simp),Nat.add_sub_cancel_left,e1,e2];simp only [List.nil_append,List.append_assoc]
theorem zU (N g0:Nat) (h0:0 < N) (hN:N≤1000000) (w:World) (hg0:g0 < w.heap.size) (hx:w.cell? ⟨g0,0,none⟩=some (.int .i64 (-1))):
  Calls Tryz.prog 124 #[.slice (some ⟨g0,0,none⟩) 1 1,.int .i64 N] w fun e w'=>e= .returned (.slice (some ⟨w.heap.size,0,none⟩) N N)∧aS w' w.heap.size 3 w.heap.size N (ints (List.replicate N (-1)))∧Below w.heap.size w w':=by
 obtain⟨i3,hi3,hz3,hz4,hz5⟩:=info_parts Tryz.cr;have hsz:(Tryz.prog.info? 3).map (·.size)=some 1:=by rw [hi3];simp [hz4]
 have HM:=ae (mul_one N hN w);have hw1:IntKind.u64.wrap (N:Int)=(N:Int):=by rw [IntKind.wrap_u64];omega
 have hw2:IntKind.i64.wrap (N:Int)=(N:Int):=IntWalk.i64_in _ ⟨by omega,by omega⟩;have HX:=ae hx;clear hx;go_enter Tryz.func124,Tryz.ntmps124
 go_wp2_with fail
 refine HM.out.mono ?_;rintro e w1 ⟨rfl,hw⟩;rw [hw];clear hw HM;go_upto_region 7 with (at_make;refine wpList_make_full _ rfl _ _ 33 rfl w.heap.size 3 i3 _ 1 Tryz.underlying33 hi3 hz3 hz4 .i64 .i64 N N N rfl rfl rfl rfl (by rw [hz5];omega) (by unfold maxLen;omega) (Nat.le_refl _) ?_;intro w2 own2 grow2;refine Hid.out ?_)
 rw [fW] at own2;have R0:Hid (w2.heap[w.heap.size]? =some (.cells (ints (bR N 0)).toArray 3 (0,0))):=ae (by
  have e:bR N 0=List.replicate N 0:=by simp [bR]
  rw [e];exact fX own2)
 have B0:=ae (gq grow2);have hc0:Hid (∀j v,(ints [-1])[j]? =some v→w2.cell? ((⟨g0,0,none⟩:Addr).add j)=some v):=ae (by
  intro j v hj;match j,hj with
  |0,hj=>
   simp [ints] at hj;subst hj;have:=(B0.out.cell (p:=⟨g0,0,none⟩) hg0).trans HX.out;simpa [Addr.add] using this)
 have hm1:Hid ((ints [-1]).length=Nat.min 1 N):=ae (by show 1=min 1 N;omega);have hm2:Hid (0+(ints [-1]).length≤(ints (bR N 0)).length):=ae (by simp [ints,bR];omega);clear own2 grow2;generalize hg:w.heap.size=g at *;refine ae ?_;go_wp2_with (refine wpList_copy_splice rfl (.tmp 31) (.tmp 32) 33 33 rfl 3 Tryz.underlying33 hsz (some ⟨g,0,none⟩) (some ⟨g0,0,none⟩) N N 1 1 rfl rfl g 0 (ints (bR N 0)) 3 R0.out (ints [-1]) hm1.out (fun _=>⟨rfl,_,rfl,hc0.out⟩) hm2.out (eL _) g w B0.out (Nat.le_refl _) ?_;intro w3 hr3 hb3;refine Hid.out ?_)
 have R1:Hid (w3.heap[g]? =some (.cells (ints (bR N 1)).toArray 3 (0,0))):=ae (by
  have e:=ow (N:=N) (K:=0) 1;have e2:=hr3.out;have e3:ints [-1]=ints (List.replicate 1 (-1)):=rfl;rw [e3,e] at e2;exact e2)
 have B1:=ae hb3;clear hr3 hb3 R0 B0 hc0;refine ae ?_;go_wp2_with fail
 go_loopw [8] (fun i wr=>∃K:Nat,1≤K∧K≤N∧i= .int .i64 K∧Hid (wr.heap[g]? =some (.cells (ints (bR N K)).toArray 3 (0,0)))∧Hid (Below g w wr)) (fun i _=>N - (intOf i).toNat)
 case atStart=>exact⟨1,Nat.le_refl _,h0,rfl,R1,B1⟩
 case round=>
  clear R1 B1;obtain⟨K,hK1,hK,rfl,HR,HB⟩:=hrel;by_cases hKN:K < N
  ·have hKI:(K:Int) < N:=(by omega);obtain⟨C,hC1,hC2,hC3⟩:∃C,0 < C∧K+C≤N∧C=Nat.min K (N - K):=⟨min K (N - K),by omega,by omega,rfl⟩;have HRd:Hid (wr.drew.heap[g]? =some (.cells (ints (bR N K)).toArray 3 (0,0))):=ae HR.out;have HBd:Hid (Below g w wr.drew):=ae HB.out.drew;have Hmin:Hid ((ints (List.replicate C (-1))).length=Nat.min K (N - K)):=ae (by simp [ints];exact hC3);have Hfit:Hid (K+(ints (List.replicate C (-1))).length≤(ints (bR N K)).length):=ae (by simp [ints,bR];omega);have hCK:C≤K:=(by rw [hC3];exact Nat.min_le_left _ _);have Hsrc:Hid (∀j v,(ints (List.replicate C (-1)))[j]? =some v→wr.drew.cell? ((⟨g,0,none⟩:Addr).add j)=some v):=ae (by
    intro j v hj;have hjC:j < C:=(by have:=(List.getElem?_eq_some_iff.1 hj).1;simpa [ints] using this);have e:v= .int .i64 (-1):=by
     simp only [ints,List.getElem?_map,List.getElem?_replicate,if_pos hjC,Option.map_some,Option.some.injEq] at hj;exact hj.symm
    subst e;have hrow:=jh (B:=g) (n:=N) HRd.out (Nat.le_refl _) (by simp [ints,bR];omega) (by unfold maxLen;omega);have:=hrow.cell (j:=j) (u:= .int .i64 (-1)) (ints_at (by unfold bR;rw [List.getElem?_append_left (by simp;omega),List.getElem?_replicate,if_pos (by omega)]));rw [Addr.add_lit,Nat.zero_add];exact this)
   have HSp:=ae (ow (N:=N) (K:=K) C);have hwKC:IntKind.i64.wrap ((K:Int)+(C:Int))=((K+C:Nat):Int):=(by rw [IntWalk.i64_in _ ⟨by omega,by omega⟩];omega);replace hC3:=ae hC3;go_wp2_with fail
   go_region_law (refine step_copy_splice rfl (.tmp 41) (.tmp 44) 33 33 rfl 3 Tryz.underlying33 hsz (some ⟨g,K,none⟩) (some ⟨g,0,none⟩) (N - K) (N - K) K N (by simp [Act.eval,Act.put];omega) (by simp [Act.eval,Act.put]) g K (ints (bR N K)) 3 HRd.out (ints (List.replicate C (-1))) Hmin.out (fun _=>⟨rfl,_,rfl,Hsrc.out⟩) Hfit.out (eL _) g w HBd.out (Nat.le_refl _) ?_;intro w4 hr4 hb4)
   all_goals
    have HE:Hid (w4.heap[g]? =some (.cells (ints (bR N (K+C))).toArray 3 (0,0))):=ae (by have:=hr4.out;rwa [HSp.out] at this);have HE2:=ae hb4;clear hr4 hb4;go_wp2_with fail
    go_roundw
    case rel=>exact⟨K+C,by omega,hC2,by omega,HE⟩
    case measure=>simp [intOf];omega
  ·obtain rfl:K=N:=(by omega);have HE:Hid (aS wr w.heap.size 3 g K (ints (List.replicate K (-1)))∧Below w.heap.size w wr):=ae (by
    rw [hg];have e:bR K K=List.replicate K (-1):=(by simp [bR]);refine⟨jh (by rw [←e];exact HR.out) (Nat.le_refl _) (by simp [ints]) (by unfold maxLen;omega),HB.out⟩)
   go_wp2_with fail
   go_ret;refine⟨by rw [hg];rfl,?_⟩;have:=HE.out;rw [hg] at this ⊢;exact this
theorem Bp (a b:List Int) (hab:a.length=b.length) (hl:a.length≤1000000) (ao bo:Option Addr) (ca cb:Nat) (w:World) (ha:Sl w ao a) (hb:Sl w bo b):
  Calls Tryz.prog 126 #[.slice ao a.length ca,.slice bo b.length cb] w fun e w'=>e= .returned (.bool (decide (a=b)))∧Below w.heap.size w w':=by
 have HA:=ae ha;have HB:=ae hb;have HEq:=ae hab;rw [←hab];clear ha hb hab;obtain⟨r,HR⟩:∃r,Hid (decide (a=b)=r):=⟨_,ae rfl⟩;rw [HR.out];go_enter Tryz.func126,Tryz.ntmps126
 go_wp2_with fail
 go_loopw [13] (fun i wr=>∃k:Nat,k≤a.length∧i= .int .i64 k∧Hid (a.take k=b.take k)∧Hid (Below w.heap.size w wr)) (fun i _=>a.length - (intOf i).toNat)
 case atStart=>exact⟨0,Nat.zero_le _,rfl,ae (by simp),ae (Below.refl _ _)⟩
 case round=>
  obtain⟨k,hk,rfl,HT,HW⟩:=hrel;by_cases hlt:k < a.length
  ·have hkI:(k:Int) < a.length:=(by omega);obtain⟨n,hn⟩:∃n,a[k]? =some n:=⟨_,List.getElem?_eq_getElem hlt⟩;obtain⟨m,hm⟩:∃m,b[k]? =some m:=⟨_,List.getElem?_eq_getElem (by have:=HEq.out;omega)⟩;rcases HA.out with he | ⟨ab,oa,rfl,hal,hca⟩
   ·subst he;simp at hlt
   rcases HB.out with he | ⟨bb,ob,rfl,hbl,hcb⟩
   ·subst he;simp at hm
   have hB2:=fun x=>af HW.out (L5.ax wr x);have c1:=fun x=>((hB2 x).cell (p:=⟨ab,oa+k,none⟩) hal).trans (hca k n hn);have c2:=fun x=>((hB2 x).cell (p:=⟨bb,ob+k,none⟩) hbl).trans (hcb k m hm);replace hB2:=ae hB2;by_cases e:n=m
   ·subst e;have HE:Hid (a.take (k+1)=b.take (k+1)):=ae (by rw [cV hn,cV hm,HT.out]);clear hca hcb hn hm;go_wp2_with fail
    refine L5.aE (by kernel_rfl) (by kernel_rfl) ?_;repeat (go_big_quiet_step (fail))
    refine wpQuiet_nil ?_;rintro _ ⟨x,rfl⟩;go_wp2_with fail
    go_roundw
    case rel=>exact⟨k+1,by omega,by go_num,HE,ae (hB2.out x)⟩
    case measure=>simp [intOf];omega
   ·have he1:(n != m)=true:=bne_iff_ne.2 e;have he2:(n == m)=false:=beq_eq_false_iff_ne.2 e;have HE:Hid (r=false):=ae (by
     rw [←HR.out];refine decide_eq_false fun h=>e ?_;rw [h,hm] at hn;injection hn with hn;exact hn.symm)
    clear hca hcb hn hm;go_wp2_with fail
    refine L5.aE (by kernel_rfl) (by kernel_rfl) ?_;repeat (go_big_quiet_step (fail))
    refine wpQuiet_nil ?_;rintro _ ⟨x,rfl⟩;go_wp2_with fail
    go_ret;exact⟨by rw [HE.out];rfl,hB2.out x⟩
  ·obtain rfl:k=a.length:=(by omega);have HE:Hid (r=true):=ae (by
    rw [←HR.out];refine decide_eq_true ?_;have:=HT.out;rw [List.take_length] at this;rw [this,HEq.out,List.take_length])
   go_wp2_with fail
   go_ret;exact⟨by rw [HE.out];rfl,HW.out⟩
def iD (ll:List (List Int)) (met:List Int):List Int:=(List.range ll.length).map fun(b:Nat)=>if az met b then((bf ll b:Nat):Int)else 0
def rm (ll:List (List Int)):List Int:=(List.range ll.length).map fun(b:Nat)=>((bf ll b:Nat):Int)
theorem fY (ll:List (List Int)) (met:List Int):(iD ll met).length=ll.length:=by simp [iD]
theorem gH {ll:List (List Int)} {met:List Int} {b:Nat} (h:b < ll.length):(iD ll met)[b]? =some (if az met b then((bf ll b:Nat):Int)else 0):=by
 unfold iD;rw [List.getElem?_map,List.getElem?_range h];rfl
theorem wm (ll:List (List Int)):(rm ll).length=ll.length:=by simp [rm]
theorem AA {ll:List (List Int)} {b:Nat} (h:b < ll.length):(rm ll)[b]? =some ((bf ll b:Nat):Int):=by
 unfold rm;rw [List.getElem?_map,List.getElem?_range h];rfl
theorem Cq (ll:List (List Int)):iD ll []=List.replicate ll.length 0:=by
 apply List.ext_getElem?;intro j;rw [List.getElem?_replicate];by_cases h:j < ll.length
 ·rw [gH h,if_pos h];simp [az]
 ·rw [if_neg h,List.getElem?_eq_none (by rw [fY];omega)]
theorem CC {ll:List (List Int)} {met:List Int} {M:Nat} (h:M < ll.length):(iD ll met).set M ((bf ll M:Nat):Int)=iD ll (met ++ [(M:Int)]):=by
 apply List.ext_getElem?;intro j;rw [List.getElem?_set,fY];by_cases hj:j < ll.length
 ·rw [gH hj,gH hj,en];by_cases e:M=j
  ·subst e;rw [if_pos rfl,if_pos hj];simp
  ·have e2:¬(M:Int)=(j:Int):=(by omega);rw [if_neg e];simp [e2]
 ·rw [List.getElem?_eq_none (by rw [fY];omega),List.getElem?_eq_none (by rw [fY];omega)];by_cases e:M=j
  ·omega
  ·rw [if_neg e]
theorem zH {ll:List (List Int)} {met:List Int} {M:Nat} (h0:bf ll M=0):iD ll met=iD ll (met ++ [(M:Int)]):=by
 apply List.ext_getElem?;intro j;by_cases hj:j < ll.length
 ·rw [gH hj,gH hj,en];by_cases e:M=j
  ·subst e;rw [h0];simp
  ·have e2:¬(M:Int)=(j:Int):=(by omega);simp [e2]
 ·rw [List.getElem?_eq_none (by rw [fY];omega),List.getElem?_eq_none (by rw [fY];omega)]
theorem qf {ll:List (List Int)} (hg:Gr ll) {b:Int} (h:∀a,Ahd ll a b→a=b):bf ll b=0:=by
 unfold bf lV;rw [List.length_eq_zero_iff,List.filter_eq_nil_iff];intro a _ hc;simp only [Bool.and_eq_true,decide_eq_true_eq,cn hg] at hc;exact hc.1 (h _ hc.2)
theorem oh {ll:List (List Int)} (hg:Gr ll):bf ll 0=0:=qf hg fun _ h=>h.tU (Ahd.first h.1)
theorem EM {ll:List (List Int)} (hg:Gr ll) {b:Int} (h:¬All ll b):bf ll b=0:=qf hg fun _ k=>absurd k.2.1 h
theorem Dp {ll:List (List Int)} (hg:Gr ll) {met:List Int} (h:∀b,All ll b→b∈met):iD ll met=rm ll:=by
 apply List.ext_getElem?;intro j;by_cases hj:j < ll.length
 ·rw [gH hj,AA hj];by_cases ha:All ll (j:Int)
  ·rw [bL.2 (h _ ha)];rfl
  ·rw [EM hg ha];simp
 ·rw [List.getElem?_eq_none (by rw [fY];omega),List.getElem?_eq_none (by rw [wm];omega)]
def KW (ll:List (List Int)) (o:List Int):Prop:=(∀b,b∈o↔All ll b)∧Num ll.length o∧∀(J:Nat) (m:Int),o[J]? =some m→(upB ll m= -1∧bf ll m=0)∨(0≤upB ll m∧upB ll m < ll.length∧az (o.take J) (upB ll m)=true∧bf ll (upB ll m)+1=bf ll m)
theorem Hu {f:Fun} (hT:Tos f) (h0:0 < f.2.2.2.1.length):KW (aD f) (aC f):=by
 have hg:=fI hT h0;have ho:=DC hT h0;refine⟨fun b=>eu hT h0 b,by rw [bI];exact(hH hT h0).2,fun J m hm=> ?_⟩;have hma:=(eu hT h0 m).1 (List.mem_of_getElem? hm);by_cases e:m=0
 ·subst e;exact .inl ⟨uC hg fun a=>iW.lC,oh hg⟩
 ·obtain⟨a,ha⟩:=iW.ex hg hma e;rw [tq hg ha];obtain⟨a0,a1⟩:=ha.2.1.1.num hg;refine .inr ⟨a0,a1,?_,ha.2.2⟩;rw [bL];rcases ha.2.1.order ho with q | q
  ·exact absurd q ha.1
  ·obtain⟨i,hi,ei⟩:=List.mem_iff_getElem.1 ((eu hT h0 a).2 ha.2.1.1);have q1:(aC f)[i]? =some a:=(by rw [List.getElem?_eq_getElem hi,ei]);rw [fP hT h0 q1,fP hT h0 hm] at q;have hiJ:i < J:=(by omega);exact List.mem_iff_getElem?.2 ⟨i,by rw [List.getElem?_take,if_pos hiJ];exact q1⟩
theorem zi (ll:List (List Int)) (hg:Gr ll) (o:List Int) (hO:KW ll o) (hN:ll.length≤1000000) (hol:o.length≤1000000) (oo uo:Option Addr) (oc uc:Nat) (w:World) (ho:Sl w oo o) (hu:Sl w uo (iU ll)):
  Calls Tryz.prog 98 #[.slice oo o.length oc,.slice uo ll.length uc] w fun e w'=>∃g,e= .returned (.slice (some ⟨g,0,none⟩) ll.length ll.length)∧aS w' w.heap.size 3 g ll.length (ints (rm ll))∧Below w.heap.size w w':=by
 obtain⟨i3,hi3,hz3,hz4,hz5⟩:=info_parts Tryz.cr;have hpos:=hg.2;rcases hu with e | ⟨ub,uo2,rfl,hub,hcu⟩
 ·have:=fQ ll;rw [e] at this;simp at this;omega
 have HU:=ae (fun(k:Nat) (h:k < ll.length)=>hcu k _ (nd h));have HO:=ae ho;have HOu:=ae hO;have HEnd:=ae (Dp (met:=o) hg (fun b hb=>(hO.1 b).2 hb));have HNil:=ae (Cq ll);have HMax:=ae (fun b=>sR ll b);clear hcu ho hO hg;generalize hNe:ll.length=N at *;replace hNe:=ae hNe;go_enter Tryz.func98,Tryz.ntmps98
 go_upto_region 2 with (at_make;refine wpList_make_full _ rfl _ _ 33 rfl w.heap.size 3 i3 _ 1 Tryz.underlying33 hi3 hz3 hz4 .i64 .i64 N N N rfl rfl rfl rfl (by rw [hz5];omega) (by unfold maxLen;omega) (Nat.le_refl _) ?_;intro w1 own1 grow1;refine Hid.out ?_)
 rw [fW] at own1;have R1:Hid (aS w1 w.heap.size 3 w.heap.size N (ints (iD ll (o.take 0)))):=ae (by
  rw [List.take_zero,HNil.out];exact own1)
 have B1:=ae (gq grow1);clear own1 grow1 HNil;generalize hgw:w.heap.size=g at *;refine ae ?_;go_wp2_with fail
 go_loopw [13] (fun i wr=>∃J:Nat,J≤o.length∧i= .int .i64 J∧Hid (aS wr g 3 g N (ints (iD ll (o.take J))))∧Hid (Below g w wr)) (fun i _=>o.length - (intOf i).toNat)
 case atStart=>exact⟨0,Nat.zero_le _,rfl,R1,B1⟩
 case round=>
  clear R1 B1;obtain⟨J,hJ,rfl,HA,HW⟩:=hrel;by_cases hjt:J < o.length
  ·have hjI:(J:Int) < o.length:=(by omega);obtain⟨m,hm⟩:∃m,o[J]? =some m:=⟨_,List.getElem?_eq_getElem hjt⟩;obtain⟨hm0,hm1⟩:=HOu.out.2.1 m (List.mem_of_getElem? hm);obtain⟨M,rfl⟩:∃M:Nat,m=(M:Int):=⟨m.toNat,by omega⟩;have hMN:M < N:=(by have:=hNe.out;omega);have hMI:(M:Int) < N:=(by omega);have HT:Hid (o.take (J+1)=o.take J ++ [(M:Int)]):=ae (cV hm);rcases HO.out with rfl | ⟨ob,oo2,rfl,hob,hoc⟩
   ·simp at hjt
   have c1:=(HW.out.cell (p:=⟨ob,oo2+J,none⟩) (by show ob < g;omega)).trans (hoc J _ hm);have c2:=(HW.out.cell (p:=⟨ub,uo2+M,none⟩) (by show ub < g;omega)).trans (HU.out M hMN);have hcase:=HOu.out.2.2 J _ hm;clear hoc hm hm0 hm1;rcases hcase with ⟨e1,e2⟩ | ⟨u0,u1,u2,u3⟩
   ·have HE:Hid (aS wr g 3 g N (ints (iD ll (o.take (J+1))))):=ae (by
     rw [HT.out,←zH e2];exact HA.out)
    rw [e1] at c2;clear e1 e2;go_wp2_with fail
    go_roundw
    case rel=>exact⟨J+1,by omega,by go_num,HE,HW⟩
    case measure=>simp [intOf];omega
   ·obtain⟨U,hU⟩:∃U:Nat,upB ll M=(U:Int):=⟨(upB ll M).toNat,by omega⟩;rw [hU] at c2 u0 u1 u2 u3;have hUN:U < N:=(by have:=hNe.out;omega);have hUI:(U:Int) < N:=(by omega);have c3:=HA.out.cell (ints_at (gH (met:=o.take J) (b:=U) (by rw [hNe.out];exact hUN)));rw [u2,if_pos rfl] at c3;obtain⟨x,hx⟩:∃x,(iD ll (o.take J))[M]? =some x:=⟨_,gH (by rw [hNe.out];exact hMN)⟩;have c4:=HA.out.cell (ints_at hx);have z4:=HA.out.frozen M;have hne1:((U:Int) == -1)=false:=beq_eq_false_iff_ne.2 (by omega);have hne2:((U:Int) != -1)=true:=bne_iff_ne.2 (by omega);have hmx:=HMax.out (U:Int);obtain⟨D,hD⟩:∃D,bf ll (U:Int)=D:=⟨_,rfl⟩;rw [hD] at c3 hmx u3;have HE:Hid (aS (wr.setCell ⟨g,M,none⟩ (.int .i64 ((D:Int)+1))) g 3 g N (ints (iD ll (o.take (J+1))))):=ae (by
     have e:=CC (ll:=ll) (met:=o.take J) (M:=M) (by rw [hNe.out];exact hMN);rw [HT.out,←e,←u3,←ints_set];have:=HA.out.set M (.int .i64 ((D:Int)+1));simpa using this)
    have HE2:Hid (Below g w (wr.setCell ⟨g,M,none⟩ (.int .i64 ((D:Int)+1)))):=ae (HW.out.setCell (p:=⟨g,M,none⟩) (Nat.le_refl _) _);have hDb:D≤1000000:=(by have:=hNe.out;omega);clear hx u0 u1 u2 u3 hU hD hmx;go_wp2_with fail
    go_roundw
    case rel=>exact⟨J+1,by omega,by go_num,HE,HE2⟩
    case measure=>simp [intOf];omega
  ·obtain rfl:J=o.length:=(by omega);have HE:Hid (aS wr w.heap.size 3 g N (ints (rm ll))∧Below w.heap.size w wr):=ae (by
    refine⟨?_,by rw [hgw];exact HW.out⟩;have:=HA.out;rw [List.take_length,HEnd.out] at this;rw [hgw];exact this)
   go_wp2_with fail
   go_ret;exact⟨g,rfl,HE.out.1,HE.out.2⟩
theorem zO (ll:List (List Int)) (hg:Gr ll) (pl:Int→Int) (ho:Ord ll pl) (u ps l:List Int) (hS:UpS ll pl u ps) (hw:Wf ll pl (gU u)) (hl:Num ll.length l) (hll:l.length≤1000000) (uo po lo:Option Addr) (uc pc lc:Nat) (w:World) (hu:Sl w uo u) (hp:Sl w po ps) (hlo:Sl w lo l):
  Calls Tryz.prog 125 #[.slice uo u.length uc,.slice po ps.length pc,.slice lo l.length lc] w fun e w'=>(∃x,e= .returned (.int .i64 x)∧Sh ll (gU u) l x)∧Below w.heap.size w w':=by
 have HRe:=ae (fun(A:Nat) (hA:A < ll.length) (w':World) (b:Below w.heap.size w w')=>oF u A (by rw [hS.1];exact hA) uo uc w' (hu.below b));have HMe:=ae (fun(a b:Int) (ha:dF ll (gU u) a) (hb:dF ll (gU u) b) (w':World) (h:Below w.heap.size w w')=>Fv ll hg pl ho u ps hS hw uo po uc pc a b w' (hu.below h) (hp.below h) ha hb);have HKn:=ae (fun x=>Eu (x:=x) hw);have HFi:=ae (fun(l:List Int) (b:Int) (h:Sh ll (gU u) l (-1)) (hb:dF ll (gU u) b)=>h.first hg hb);have HL:=ae hlo;have HNu:=ae hl;rw [hS.1,hS.2.1] at *;clear hu hp hlo hl hg ho hw hS;generalize ll.length=N at *;generalize gU u=g at *;go_enter Tryz.func125,Tryz.ntmps125
 go_wp2_with fail
 go_loopw [7,12] (fun xv i wr=>∃(x:Int) (I:Nat),I≤l.length∧xv= .int .i64 x∧i= .int .i64 I∧Hid (Sh ll g (l.take I) x)∧Hid (Below w.heap.size w wr)) (fun _ i _=>l.length - (intOf i).toNat)
 case atStart=>exact⟨-1,0,Nat.zero_le _,rfl,rfl,ae (Sh.nil ll g),ae (Below.refl _ _)⟩
 case round=>
  obtain⟨x,I,hI,rfl,rfl,HS,HB⟩:=hrel;by_cases hit:I < l.length
  ·have hiI:(I:Int) < l.length:=(by omega);obtain⟨m,hm⟩:∃m,l[I]? =some m:=⟨_,List.getElem?_eq_getElem hit⟩;obtain⟨hm0,hm1⟩:=HNu.out m (List.mem_of_getElem? hm);obtain⟨M,rfl⟩:∃M:Nat,m=(M:Int):=⟨m.toNat,by omega⟩;have HT:Hid (l.take (I+1)=l.take I ++ [(M:Int)]):=ae (cV hm);rcases HL.out with rfl | ⟨lb,lo2,rfl,hlb,hlc⟩
   ·simp at hit
   have c1:=(HB.out.cell (p:=⟨lb,lo2+I,none⟩) hlb).trans (hlc I _ hm);have HC:=ae (HRe.out M (by omega) wr HB.out);clear hlc hm hm0 hm1;by_cases hk:dF ll g (M:Int)
   ·have hdt:decide ((M:Int)=0∨g M≠ -1)=true:=decide_eq_true ((HKn.out _).1 hk);rw [hdt] at HC;have KM:=ae hk;clear hdt hk;by_cases hx:x= -1
    ·subst hx;have HE:Hid (Sh ll g (l.take (I+1)) (M:Int)):=ae (by rw [HT.out];exact HFi.out _ _ HS.out KM.out);go_wp2_with fail
     refine HC.out.mono ?_;rintro e w1 ⟨rfl,rfl⟩;clear HC;go_wp2_with fail
     go_roundw
     case rel=>exact⟨M,I+1,by omega,rfl,by go_num,HE,HB⟩
     case measure=>simp [intOf];omega
    ·have hx1:(x == -1)=false:=beq_eq_false_iff_ne.2 hx;have HM:=ae (HMe.out x M (HS.out.known hx) KM.out wr HB.out);have Hx:=ae hx;clear hx;go_wp2_with fail
     refine HC.out.mono ?_;rintro e w1 ⟨rfl,rfl⟩;clear HC;go_wp2_with fail
     refine HM.out.mono ?_;rintro e w2 ⟨⟨c,rfl,hc1,hc2⟩,b2⟩;have HE:Hid (Sh ll g (l.take (I+1)) c):=ae (by rw [HT.out];exact HS.out.more Hx.out KM.out hc1 hc2);have HB2:=ae (af HB.out b2);clear HM hc1 hc2 b2;go_wp2_with fail
     go_roundw
     case rel=>exact⟨c,I+1,by omega,rfl,by go_num,HE,HB2⟩
     case measure=>simp [intOf];omega
   ·have hdt:decide ((M:Int)=0∨g M≠ -1)=false:=decide_eq_false (fun h=>hk ((HKn.out _).2 h));rw [hdt] at HC;have HE:Hid (Sh ll g (l.take (I+1)) x):=ae (by rw [HT.out];exact HS.out.no hk);clear hdt hk;go_wp2_with fail
    refine HC.out.mono ?_;rintro e w1 ⟨rfl,rfl⟩;clear HC;go_wp2_with fail
    go_roundw
    case rel=>exact⟨x,I+1,by omega,rfl,by go_num,HE,HB⟩
    case measure=>simp [intOf];omega
  ·obtain rfl:I=l.length:=(by omega);have HE:Hid (Sh ll g l x):=ae (by have:=HS.out;rwa [List.take_length] at this);go_wp2_with fail
   go_ret;exact⟨⟨_,rfl,HE.out⟩,HB.out⟩
def Lp (ll:List (List Int)) (pl:Int→Int) (o ps:List Int) (pp:List (List Int)):Prop:=
 Gr ll∧Ord ll pl∧(ps.length=ll.length∧∀k:Nat,k < ll.length→ps[k]? =some (pl k))∧((∀(i:Nat) (b:Int),o[i]? =some b→All ll b∧pl b=i)∧∀x,All ll x→pl x < o.length)∧
 pp.length=ll.length∧(∀(b:Nat) (l:List Int),pp[b]? =some l→(∀p,p∈l↔(0≤p∧p < ll.length∧(b:Int)∈ll.getD p.toNat []))∧l.length≤1000000)∧ll.length≤1000000∧o.length≤1000000
theorem zN {a b:List Int} (h:a.length=b.length):splice (ints b) 0 (ints a)=ints a:=by
 unfold splice;rw [List.take_zero,List.nil_append,List.drop_eq_nil_of_le (by simp [ints];omega),List.append_nil]
theorem Sl.sY {w:World} {B g n:Nat} {l:List Int} (h:aS w B 3 g n (ints l)):Sl w (some ⟨g,0,none⟩) l:=by
 refine .inr ⟨g,0,rfl,h.lt.2,fun i x hx=> ?_⟩;rw [Nat.zero_add];exact h.cell (ints_at hx)
theorem oT {w:World} {B g n:Nat} {l:List Int} (h:aS w B 3 g n (ints l)):l.length=n:=by
 have:=h.len;simpa [ints] using this
def UpW (w:World) (g1 g2 n:Nat) (u b:List Int) (wr:World):Prop:=aS wr w.heap.size 3 g1 n (ints u)∧aS wr w.heap.size 3 g2 n (ints b)∧Below w.heap.size w wr
theorem UpW.below {w wr wr2:World} {g1 g2 n:Nat} {u b:List Int} (h:UpW w g1 g2 n u b wr) (k:Below wr.heap.size wr wr2):UpW w g1 g2 n u b wr2:=⟨h.1.below k,h.2.1.below k,af h.2.2 k⟩
theorem UpW.put {w wr:World} {g1 g2 n:Nat} {u b:List Int} (h:UpW w g1 g2 n u b wr) (hne:g1≠g2) (B:Nat) (x:Int):UpW w g1 g2 n (u.set B x) b (wr.setCell ⟨g1,B,none⟩ (.int .i64 x)):=
 ⟨by rw [←ints_set];exact h.1.set B _,h.2.1.other (p:=⟨g1,B,none⟩) (fun e=>hne e.symm) _,h.2.2.setCell (p:=⟨g1,B,none⟩) h.1.lt.1 _⟩
theorem Ho (ll:List (List Int)) (pl:Int→Int) (o ps:List Int) (pp:List (List Int)) (hI:Lp ll pl o ps pp) (oo po ro:Option Addr) (oc pc rc:Nat) (w:World) (hO:Sl w oo o) (hP:Sl w po ps) (hR:lW w ro pp):
  Calls Tryz.prog 96 #[.slice oo o.length oc,.slice po ps.length pc,.slice ro pp.length rc] w fun e w'=>∃g,e= .returned (.slice (some ⟨g,0,none⟩) ll.length ll.length)∧aS w' w.heap.size 3 g ll.length (ints (iU ll))∧Below w.heap.size w w':=by
 obtain⟨hg,ho,⟨hps,hpl⟩,⟨hoi,hol⟩,hpp,hpr,hN,hoL⟩:=hI;obtain⟨i3,hi3,hz3,hz4,hz5⟩:=info_parts Tryz.cr;have hsz:(Tryz.prog.info? 3).map (·.size)=some 1:=by rw [hi3];simp [hz4]
 obtain⟨K,hK⟩:=rP hg pl;have hpos:=hg.2;have HSh:=ae (fun(u l:List Int) (hu:u.length=ll.length) (hw:Wf ll pl (gU u)) (hl:Num ll.length l) (hll:l.length≤1000000)=>zO ll hg pl ho u ps l ⟨hu,hps,hpl⟩ hw hl hll);have HEq:=ae Bp;have HRe:=ae (fun g0 w hg0 hx=>zU ll.length g0 hpos hN w hg0 hx);have HOi:=ae hoi;have HOl:=ae hol;have HPr:=ae hpr;have HEx1:=ae (fun(r:Nat) (g:Int→Int) (h:Rd ll pl r g) (hr:K < r)=>Rd.exact hg h hK hr);have HEx2:=ae (fun(r:Nat) (g:Int→Int) (h:Rd ll pl r g) (hs:∀r,Rd ll pl r g→Rd ll pl (r+1) g)=>Rd.fixed hg h hs);have HStep:=ae (fun(r i:Nat) (old g:Int→Int) (h:Mrd ll pl r i old g) (b x:Int) (l:List Int) (hb:All ll b) (h0:b≠0) (hp:pl b=i) (hl:∀p,p∈l↔(0≤p∧p < ll.length∧b∈ll.getD p.toNat [])) (hs:Sh ll g l x)=>h.step hg ho hb h0 hp hl hs);have HZero:=ae (fun(r:Nat) (old g:Int→Int) (h:Mrd ll pl r 0 old g)=>h.zero ho);have HStart:=ae (fun(r:Nat) (g:Int→Int) (h:Rd ll pl r g)=>Mrd.start ho h);have hp0:=ae ho.2.2.1;have HNum:=ae (fun b (h:All ll b)=>h.num hg);have HSO:=ae hO;have HSP:=ae hP;have HSR:=ae hR;rw [hps] at HSh ⊢;rw [hpp];have hppl:=ae hpp;have HUps:=ae (fun(u:List Int) (hl:u.length=ll.length) (h:∀b,gU u b=upB ll b)=>Im hl h);clear hg ho hps hpl hoi hol hpr hO hP hR hK hpp;generalize hNe:ll.length=N at *;replace hNe:=ae hNe;go_enter Tryz.func96,Tryz.ntmps96
 have X0:=ae (L5.Box.new w [.int .i64 (-1)] 3);have B0:=ae (ah w (.cells #[.int .i64 (-1)] 3));have hs0:(w.alloc (.cells #[.int .i64 (-1)] 3)).heap.size=w.heap.size+1:=by simp
 have HC:Hid (Calls Tryz.prog 124 #[.slice (some ⟨w.heap.size,0,none⟩) 1 1,.int .i64 N] (w.alloc (.cells #[.int .i64 (-1)] 3)) fun e w'=>e= .returned (.slice (some ⟨w.heap.size+1,0,none⟩) N N)∧aS w' (w.heap.size+1) 3 (w.heap.size+1) N (ints (List.replicate N (-1)))∧Below (w.heap.size+1) (w.alloc (.cells #[.int .i64 (-1)] 3)) w'):=ae (by
  have:=HRe.out w.heap.size (w.alloc (.cells #[.int .i64 (-1)] 3)) (by omega) (X0.out.2 0 _ rfl);rw [hs0] at this;exact this)
 clear HRe X0;go_wp2_with fail
 refine HC.out.mono ?_;rintro e w1 ⟨rfl,hr1,hb1⟩;have R1:=ae hr1;have B1:Hid (Below w.heap.size w w1):=ae (af B0.out (by rw [hs0];exact hb1));have hs1:w.heap.size+1 < w1.heap.size:=hr1.lt.2;clear HC hr1 hb1 hs0 B0;go_upto_region 3 with (at_make;refine wpList_make_full _ rfl _ _ 33 rfl w.heap.size 3 i3 _ 1 Tryz.underlying33 hi3 hz3 hz4 .i64 .i64 N N N rfl rfl rfl rfl (by rw [hz5];omega) (by unfold maxLen;omega) (by omega) ?_;intro w2 own2 grow2;refine Hid.out ?_)
 rw [fW] at own2;have b12:=gq grow2;have HS0:Hid (UpW w (w.heap.size+1) w1.heap.size N (List.replicate N (-1)) (List.replicate N 0) w2):=ae ⟨(R1.out.base (by omega)).below b12,own2,af B1.out b12⟩;clear own2 grow2 b12 R1 B1;generalize w1.heap.size=g2 at *;obtain⟨g1,hg1⟩:∃g1,w.heap.size+1=g1:=⟨_,rfl⟩;rw [hg1] at HS0 hs1 ⊢;have hg01:w.heap.size≤g1:=by omega
 clear hg1;refine ae ?_;go_wp2_with fail
 go_loopg [23] (K+2) (fun k _ wr=>∃(r:Nat) (u b:List Int),k+r=K+2∧Hid (UpW w g1 g2 N u b wr)∧Hid (Rd ll pl r (gU u)))
 case atStart=>exact⟨0,_,_,rfl,HS0,ae (Rd.start (Ih N))⟩
 case round=>
  clear HS0;obtain⟨r,u,b,hkr,HS,HRd⟩:=hrel;have hul:u.length=N:=oT HS.out.1;have hbl:b.length=N:=oT HS.out.2.1;have R2h:=ae (fX HS.out.2.1);have Hm:Hid ((ints u).length=Nat.min N N):=ae (by simp [ints,hul]);have Hfit:Hid (0+(ints u).length≤(ints b).length):=ae (by simp [ints];omega);have Hsrc:Hid (∀j v,(ints u)[j]? =some v→wr.cell? ((⟨g1,0,none⟩:Addr).add j)=some v):=ae (fun j v hj=>by
   rw [Addr.add_lit,Nat.zero_add];exact HS.out.1.cell hj)
  have hg2l:g2 < wr.heap.size:=HS.out.2.1.lt.2;have Hul:=ae hul;have Hbl:=ae hbl;clear hul hbl;go_wp2_with (refine wpList_copy_splice rfl (.tmp 18) (.tmp 19) 33 33 rfl 3 Tryz.underlying33 hsz (some ⟨g2,0,none⟩) (some ⟨g1,0,none⟩) N N N N rfl rfl g2 0 (ints b) 3 R2h.out (ints u) Hm.out (fun _=>⟨rfl,_,rfl,Hsrc.out⟩) Hfit.out (eL _) g2 wr (Below.refl _ _) (Nat.le_refl _) ?_;intro w3 hr3 hb3;refine Hid.out ?_)
  have HS3:Hid (UpW w g1 g2 N u u w3):=ae (by
   have e:=zN (Hul.out.trans Hbl.out.symm);have h3:=hr3.out;rw [e] at h3;refine⟨?_,jh h3 (by omega) (by simp [ints];exact Hul.out) (by unfold maxLen;omega),HS.out.2.2.trans (hb3.mono (by omega))⟩;refine jh ?_ hg01 (by simp [ints];exact Hul.out) (by unfold maxLen;omega);rw [hb3.block g1 (by omega)];exact fX HS.out.1)
  clear hr3 hb3 Hm Hfit Hsrc R2h HS Hbl b hg2l;refine ae ?_;go_wp2_with fail
  go_loopw [23] (fun i wr=>∃(J:Nat) (u':List Int),J≤o.length∧i= .int .i64 J∧Hid (UpW w g1 g2 N u' u wr)∧Hid (∀r,Rd ll pl r (gU u)→Mrd ll pl r J (gU u) (gU u'))) (fun i _=>o.length - (intOf i).toNat)
  case atStart=>exact⟨0,u,Nat.zero_le _,rfl,HS3,ae (fun r h=>HStart.out r _ h)⟩
  case round=>
   clear HS3;obtain⟨J,u',hJ,rfl,HS,HM⟩:=hrel;by_cases hjt:J < o.length
   ·have hjI:(J:Int) < o.length:=(by omega);obtain⟨m,hm⟩:∃m,o[J]? =some m:=⟨_,List.getElem?_eq_getElem hjt⟩;obtain⟨hma,hmp⟩:=HOi.out J m hm;obtain⟨hm0,hm1⟩:=HNum.out m hma;obtain⟨M,rfl⟩:∃M:Nat,m=(M:Int):=⟨m.toNat,by omega⟩;have hMN:M < N:=(by have:=hNe.out;omega);have hMI:(M:Int) < N:=(by omega);rcases HSO.out with rfl | ⟨ob,oo2,rfl,hob,hoc⟩
    ·simp at hjt
    have c1:=(HS.out.2.2.cell (p:=⟨ob,oo2+J,none⟩) hob).trans (hoc J _ hm);have HMa:=ae hma;have HMp:=ae hmp;clear hoc hm hm0 hm1 hma hmp;by_cases hM0:M=0
    ·have hMz1:((M:Int) == 0)=true:=beq_iff_eq.2 (by omega);have hMz2:((M:Int) != 0)=false:=(by rw [bne_eq_false_iff_eq];omega);have HE:Hid (∀r,Rd ll pl r (gU u)→Mrd ll pl r (J+1) (gU u) (gU u')):=ae (fun r h=>by
      have e1:=HMp.out;have e2:=hp0.out;subst hM0;have e3:J=0:=by
       have:pl ((0:Nat):Int)=0:=e2;omega
      have:=HM.out r h;subst e3;exact HZero.out r _ _ this)
     clear hM0;go_wp2_with fail
     go_roundw
     case rel=>exact⟨J+1,u',by omega,by go_num,HS,HE⟩
     case measure=>simp [intOf];omega
    ·have hMz1:((M:Int) == 0)=false:=beq_eq_false_iff_ne.2 (by omega);have hMz2:((M:Int) != 0)=true:=bne_iff_ne.2 (by omega);have hML:M < pp.length:=(by rw [hppl.out];exact hMN);rcases HSR.out with e0 | ⟨rb,ro2,rfl,hrb,hrc⟩
     ·rw [e0] at hML;simp at hML
     obtain⟨l,hl⟩:∃l,pp[M]? =some l:=⟨_,List.getElem?_eq_getElem hML⟩;obtain⟨pv,hpv,lo,lc,rfl,hls,_,_⟩:=hrc M l hl;have c2:=(HS.out.2.2.cell (p:=⟨rb,ro2+M,none⟩) hrb).trans hpv;obtain⟨hpl1,hpl2⟩:=HPr.out M l hl;have HPl:=ae hpl1;have hul':u'.length=N:=oT HS.out.1;have Hul':=ae hul';have HC:Hid (Calls Tryz.prog 125 #[.slice (some ⟨g1,0,none⟩) N N,.slice po N pc,.slice lo l.length lc] wr fun e w'=>(∃x,e= .returned (.int .i64 x)∧Sh ll (gU u') l x)∧Below wr.heap.size wr w'):=ae (by
      have:=HSh.out u' l hul' (HM.out r HRd.out).1 (fun p hp=>⟨((hpl1 p).1 hp).1,((hpl1 p).1 hp).2.1⟩) hpl2 (some ⟨g1,0,none⟩) po lo N pc lc wr (Sl.sY HS.out.1) (HSP.out.below HS.out.2.2) (hls.below HS.out.2.2);rw [hul'] at this;exact this)
     clear hrc hl hpl1 hpl2 hpv hls hML hul';go_wp2_with fail
     refine HC.out.mono ?_;rintro e w4 ⟨⟨x,rfl,hx⟩,b4⟩;have HS4:=ae (HS.out.below b4);have c4:=HS4.out.1.cell (ints_at (uJ (u:=u') (A:=M) (by rw [Hul'.out];exact hMN)));have z4:=HS4.out.1.frozen M;have HE1:Hid (UpW w g1 g2 N (u'.set M x) u (w4.setCell ⟨g1,M,none⟩ (.int .i64 x))):=ae (HS4.out.put (by omega) M x);have HE2:Hid (∀r,Rd ll pl r (gU u)→Mrd ll pl r (J+1) (gU u) (gU (u'.set M x))):=ae (fun r h=>by
      rw [JW (by rw [Hul'.out];exact hMN)];exact HStep.out r J _ _ (HM.out r h) _ _ l HMa.out (by omega) HMp.out HPl.out hx)
     clear HC hx b4 c1 c2 HS;go_wp2_with fail
     go_roundw
     case rel=>exact⟨J+1,_,by omega,by go_num,HE1,HE2⟩
     case measure=>simp [intOf];omega
   ·obtain rfl:J=o.length:=(by omega);have HAll:Hid (∀r,Rd ll pl r (gU u)→Rd ll pl (r+1) (gU u')):=ae (fun r h=>(HM.out r h).done HOl.out);have hul':u'.length=N:=oT HS.out.1;have HC:Hid (Calls Tryz.prog 126 #[.slice (some ⟨g2,0,none⟩) N N,.slice (some ⟨g1,0,none⟩) N N] wr fun e w'=>e= .returned (.bool (decide (u=u')))∧Below wr.heap.size wr w'):=ae (by
     have:=HEq.out u u' (by rw [Hul.out,hul']) (by rw [Hul.out];exact hN) (some ⟨g2,0,none⟩) (some ⟨g1,0,none⟩) N N wr (Sl.sY HS.out.2.1) (Sl.sY HS.out.1);rw [Hul.out,hul'] at this;exact this)
    have Hul':=ae hul';clear hul' HM;by_cases heq:u=u'
    ·have hde:decide (u=u')=true:=decide_eq_true heq;rw [hde] at HC;have HX:Hid (u'=iU ll):=ae (HUps.out u' Hul'.out (by
      rw [←heq] at HAll ⊢;exact HEx2.out r _ HRd.out HAll.out))
     rw [HX.out] at HS;clear hde heq HAll;go_wp2_with fail
     refine HC.out.mono ?_;rintro e w4 ⟨rfl,b4⟩;have HE:=ae (HS.out.below b4);clear HC b4;go_wp2_with fail
     go_ret;exact⟨g1,rfl,HE.out.1,HE.out.2.2⟩
    ·have hde:decide (u=u')=false:=decide_eq_false heq;rw [hde] at HC;have hrK:r≤K:=by
      refine Classical.byContradiction fun e=>heq ?_;rw [HUps.out u Hul.out (HEx1.out r _ HRd.out (by omega)),HUps.out u' Hul'.out (HEx1.out (r+1) _ (HAll.out r HRd.out) (by omega))]
     have HR2:=ae (HAll.out r HRd.out);clear hde heq HAll;go_wp2_with fail
     refine HC.out.mono ?_;rintro e w4 ⟨rfl,b4⟩;have HE:=ae (HS.out.below b4);clear HC b4;go_wp2_with fail
     go_roundg (K+2 - (r+1))
     case measure=>omega
     case rel=>exact⟨r+1,u',u,by omega,HE,HR2⟩
end Go.Proofs.YtljkgcfnoegibaaGreatDoor
