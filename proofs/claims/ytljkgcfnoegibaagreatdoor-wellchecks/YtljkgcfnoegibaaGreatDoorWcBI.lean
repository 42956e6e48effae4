/- Texts of one chain, joined. -/
import Derived.Test.YtljkgcfnoegibaaGreatDoorWcAO
import Derived.Test.YtljkgcfnoegibaaGreatDoorWcAP
import Derived.Test.YtljkgcfnoegibaaGreatDoorWcAY
import Derived.Test.YtljkgcfnoegibaaGreatDoorWcBH
import Derived.Laws.Bits64b
import Derived.Laws.CopyOwn
import Derived.Deep.RegionLaw
set_option maxHeartbeats 4000000
set_option maxRecDepth 20000
namespace Go.Proofs.YtljkgcfnoegibaaGreatDoor
open Go Go.RowKit
open G (Tok Er Ins Fun)
theorem equal_any (a b:List Int) (hab:a.length=b.length) (hl:a.length≤1000000) (ao bo:Option Addr) (ca cb:Nat) (w:World) (ha:Sl w ao a) (hb:Sl w bo b):
  Calls Tryz.prog 126 #[.slice ao a.length ca,.slice bo b.length cb] w fun e w'=>e= .returned (.bool (decide (a=b)))∧Below w.heap.size w w':=by
 have HA:=hide ha
 have HB:=hide hb
 have HEq:=hide hab
 rw [←hab]
 clear ha hb hab
 obtain⟨r,HR⟩:∃r,Hid (decide (a=b)=r):=⟨_,hide rfl⟩
 rw [HR.out]
 go_enter Tryz.func126,Tryz.ntmps126
 go_wp2_with fail
 go_loopw [13] (fun i wr=>∃k:Nat,k≤a.length∧i= .int .i64 k∧Hid (a.take k=b.take k)∧Hid (Below w.heap.size w wr)) (fun i _=>a.length - (intOf i).toNat)
 case atStart=>exact⟨0,Nat.zero_le _,rfl,hide (by simp),hide (Below.refl _ _)⟩
 case round=>
  obtain⟨k,hk,rfl,HT,HW⟩:=hrel
  by_cases hlt:k < a.length
  ·have hkI:(k:Int) < a.length:=by omega
   obtain⟨n,hn⟩:∃n,a[k]? =some n:=⟨_,List.getElem?_eq_getElem hlt⟩
   obtain⟨m,hm⟩:∃m,b[k]? =some m:=⟨_,List.getElem?_eq_getElem (by have:=HEq.out;omega)⟩
   rcases HA.out with he | ⟨ab,oa,rfl,hal,hca⟩
   ·subst he;simp at hlt
   rcases HB.out with he | ⟨bb,ob,rfl,hbl,hcb⟩
   ·subst he;simp at hm
   have hB2:=fun x=>below_step HW.out (L5.grewTo_below wr x)
   have c1:=fun x=>((hB2 x).cell (p:=⟨ab,oa+k,none⟩) hal).trans (hca k n hn)
   have c2:=fun x=>((hB2 x).cell (p:=⟨bb,ob+k,none⟩) hbl).trans (hcb k m hm)
   replace hB2:=hide hB2
   by_cases e:n=m
   ·subst e
    have HE:Hid (a.take (k+1)=b.take (k+1)):=hide (by rw [take_more hn,take_more hm,HT.out])
    clear hca hcb hn hm
    go_wp2_with fail
    refine L5.region_grew (by kernel_rfl) (by kernel_rfl) ?_
    repeat (go_big_quiet_step (fail))
    refine wpQuiet_nil ?_
    rintro _ ⟨x,rfl⟩
    go_wp2_with fail
    go_roundw
    case rel=>exact⟨k+1,by omega,by go_num,HE,hide (hB2.out x)⟩
    case measure=>simp [intOf];omega
   ·have he1:(n != m)=true:=bne_iff_ne.2 e
    have he2:(n == m)=false:=beq_eq_false_iff_ne.2 e
    have HE:Hid (r=false):=hide (by
     rw [←HR.out]
     refine decide_eq_false fun h=>e ?_
     rw [h,hm] at hn
     injection hn with hn
     exact hn.symm)
    clear hca hcb hn hm
    go_wp2_with fail
    refine L5.region_grew (by kernel_rfl) (by kernel_rfl) ?_
    repeat (go_big_quiet_step (fail))
    refine wpQuiet_nil ?_
    rintro _ ⟨x,rfl⟩
    go_wp2_with fail
    go_ret
    exact⟨by rw [HE.out];rfl,hB2.out x⟩
  ·obtain rfl:k=a.length:=by omega
   have HE:Hid (r=true):=hide (by
    rw [←HR.out]
    refine decide_eq_true ?_
    have:=HT.out
    rw [List.take_length] at this
    rw [this,HEq.out,List.take_length])
   go_wp2_with fail
   go_ret
   exact⟨by rw [HE.out];rfl,HW.out⟩
def dpsTo (ll:List (List Int)) (met:List Int):List Int:=(List.range ll.length).map fun(b:Nat)=>if hasL met b then((depthB ll b:Nat):Int)else 0
def dpsL (ll:List (List Int)):List Int:=(List.range ll.length).map fun(b:Nat)=>((depthB ll b:Nat):Int)
theorem dpsTo_len (ll:List (List Int)) (met:List Int):(dpsTo ll met).length=ll.length:=by simp [dpsTo]
theorem dpsTo_at {ll:List (List Int)} {met:List Int} {b:Nat} (h:b < ll.length):(dpsTo ll met)[b]? =some (if hasL met b then((depthB ll b:Nat):Int)else 0):=by
 unfold dpsTo;rw [List.getElem?_map,List.getElem?_range h];rfl
theorem dpsL_len (ll:List (List Int)):(dpsL ll).length=ll.length:=by simp [dpsL]
theorem dpsL_at {ll:List (List Int)} {b:Nat} (h:b < ll.length):(dpsL ll)[b]? =some ((depthB ll b:Nat):Int):=by
 unfold dpsL;rw [List.getElem?_map,List.getElem?_range h];rfl
theorem dpsTo_nil (ll:List (List Int)):dpsTo ll []=List.replicate ll.length 0:=by
 apply List.ext_getElem?
 intro j
 rw [List.getElem?_replicate]
 by_cases h:j < ll.length
 ·rw [dpsTo_at h,if_pos h];simp [hasL]
 ·rw [if_neg h,List.getElem?_eq_none (by rw [dpsTo_len];omega)]
theorem dpsTo_set {ll:List (List Int)} {met:List Int} {M:Nat} (h:M < ll.length):(dpsTo ll met).set M ((depthB ll M:Nat):Int)=dpsTo ll (met ++ [(M:Int)]):=by
 apply List.ext_getElem?
 intro j
 rw [List.getElem?_set,dpsTo_len]
 by_cases hj:j < ll.length
 ·rw [dpsTo_at hj,dpsTo_at hj,hasL_snoc]
  by_cases e:M=j
  ·subst e;rw [if_pos rfl,if_pos hj];simp
  ·have e2:¬(M:Int)=(j:Int):=by omega
   rw [if_neg e];simp [e2]
 ·rw [List.getElem?_eq_none (by rw [dpsTo_len];omega),List.getElem?_eq_none (by rw [dpsTo_len];omega)]
  by_cases e:M=j
  ·omega
  ·rw [if_neg e]
theorem dpsTo_same {ll:List (List Int)} {met:List Int} {M:Nat} (h0:depthB ll M=0):dpsTo ll met=dpsTo ll (met ++ [(M:Int)]):=by
 apply List.ext_getElem?
 intro j
 by_cases hj:j < ll.length
 ·rw [dpsTo_at hj,dpsTo_at hj,hasL_snoc]
  by_cases e:M=j
  ·subst e;rw [h0];simp
  ·have e2:¬(M:Int)=(j:Int):=by omega
   simp [e2]
 ·rw [List.getElem?_eq_none (by rw [dpsTo_len];omega),List.getElem?_eq_none (by rw [dpsTo_len];omega)]
theorem depth_none {ll:List (List Int)} (hg:Gr ll) {b:Int} (h:∀a,Ahd ll a b→a=b):depthB ll b=0:=by
 unfold depthB cntB
 rw [List.length_eq_zero_iff,List.filter_eq_nil_iff]
 intro a _ hc
 simp only [Bool.and_eq_true,decide_eq_true_eq,ahead_iff hg] at hc
 exact hc.1 (h _ hc.2)
theorem depth_first {ll:List (List Int)} (hg:Gr ll):depthB ll 0=0:=depth_none hg fun _ h=>h.anti (Ahd.first h.1)
theorem depth_un {ll:List (List Int)} (hg:Gr ll) {b:Int} (h:¬All ll b):depthB ll b=0:=depth_none hg fun _ k=>absurd k.2.1 h
theorem dpsTo_end {ll:List (List Int)} (hg:Gr ll) {met:List Int} (h:∀b,All ll b→b∈met):dpsTo ll met=dpsL ll:=by
 apply List.ext_getElem?
 intro j
 by_cases hj:j < ll.length
 ·rw [dpsTo_at hj,dpsL_at hj]
  by_cases ha:All ll (j:Int)
  ·rw [hasL_mem.2 (h _ ha)];rfl
  ·rw [depth_un hg ha];simp
 ·rw [List.getElem?_eq_none (by rw [dpsTo_len];omega),List.getElem?_eq_none (by rw [dpsL_len];omega)]
def OrdU (ll:List (List Int)) (o:List Int):Prop:=(∀b,b∈o↔All ll b)∧Num ll.length o∧∀(J:Nat) (m:Int),o[J]? =some m→(upB ll m= -1∧depthB ll m=0)∨(0≤upB ll m∧upB ll m < ll.length∧hasL (o.take J) (upB ll m)=true∧depthB ll (upB ll m)+1=depthB ll m)
theorem ordU_of {f:Fun} (hT:Tos f) (h0:0 < f.2.2.2.1.length):OrdU (succsF f) (orderF f):=by
 have hg:=gr_succs hT h0
 have ho:=ord_of hT h0
 refine⟨fun b=>mem_order hT h0 b,by rw [succsF_len];exact(order_num hT h0).2,fun J m hm=> ?_⟩
 have hma:=(mem_order hT h0 m).1 (List.mem_of_getElem? hm)
 by_cases e:m=0
 ·subst e
  exact .inl ⟨upB_no hg fun a=>IsUp.not_first,depth_first hg⟩
 ·obtain⟨a,ha⟩:=IsUp.ex hg hma e
  rw [upB_eq hg ha]
  obtain⟨a0,a1⟩:=ha.2.1.1.num hg
  refine .inr ⟨a0,a1,?_,ha.2.2⟩
  rw [hasL_mem]
  rcases ha.2.1.order ho with q | q
  ·exact absurd q ha.1
  ·obtain⟨i,hi,ei⟩:=List.mem_iff_getElem.1 ((mem_order hT h0 a).2 ha.2.1.1)
   have q1:(orderF f)[i]? =some a:=by rw [List.getElem?_eq_getElem hi,ei]
   rw [at_order hT h0 q1,at_order hT h0 hm] at q
   have hiJ:i < J:=by omega
   exact List.mem_iff_getElem?.2 ⟨i,by rw [List.getElem?_take,if_pos hiJ];exact q1⟩
theorem depths_any (ll:List (List Int)) (hg:Gr ll) (o:List Int) (hO:OrdU ll o) (hN:ll.length≤1000000) (hol:o.length≤1000000) (oo uo:Option Addr) (oc uc:Nat) (w:World) (ho:Sl w oo o) (hu:Sl w uo (upsL ll)):
  Calls Tryz.prog 98 #[.slice oo o.length oc,.slice uo ll.length uc] w fun e w'=>∃g,e= .returned (.slice (some ⟨g,0,none⟩) ll.length ll.length)∧RowAt w' w.heap.size 3 g ll.length (ints (dpsL ll))∧Below w.heap.size w w':=by
 obtain⟨i3,hi3,hz3,hz4,hz5⟩:=info_parts Tryz.info3
 have hpos:=hg.2
 rcases hu with e | ⟨ub,uo2,rfl,hub,hcu⟩
 ·have:=upsL_len ll;rw [e] at this;simp at this;omega
 have HU:=hide (fun(k:Nat) (h:k < ll.length)=>hcu k _ (upsL_at h))
 have HO:=hide ho
 have HOu:=hide hO
 have HEnd:=hide (dpsTo_end (met:=o) hg (fun b hb=>(hO.1 b).2 hb))
 have HNil:=hide (dpsTo_nil ll)
 have HMax:=hide (fun b=>depth_max ll b)
 clear hcu ho hO hg
 generalize hNe:ll.length=N at *
 replace hNe:=hide hNe
 go_enter Tryz.func98,Tryz.ntmps98
 go_upto_region 2 with (at_make;refine wpList_make_full _ rfl _ _ 33 rfl w.heap.size 3 i3 _ 1 Tryz.underlying33 hi3 hz3 hz4 .i64 .i64 N N N rfl rfl rfl rfl (by rw [hz5];omega) (by unfold maxLen;omega) (Nat.le_refl _) ?_;intro w1 own1 grow1;refine Hid.out ?_)
 rw [made_ints] at own1
 have R1:Hid (RowAt w1 w.heap.size 3 w.heap.size N (ints (dpsTo ll (o.take 0)))):=hide (by
  rw [List.take_zero,HNil.out];exact own1)
 have B1:=hide (grown_b grow1)
 clear own1 grow1 HNil
 generalize hgw:w.heap.size=g at *
 refine hide ?_
 go_wp2_with fail
 go_loopw [13] (fun i wr=>∃J:Nat,J≤o.length∧i= .int .i64 J∧Hid (RowAt wr g 3 g N (ints (dpsTo ll (o.take J))))∧Hid (Below g w wr)) (fun i _=>o.length - (intOf i).toNat)
 case atStart=>exact⟨0,Nat.zero_le _,rfl,R1,B1⟩
 case round=>
  clear R1 B1
  obtain⟨J,hJ,rfl,HA,HW⟩:=hrel
  by_cases hjt:J < o.length
  ·have hjI:(J:Int) < o.length:=by omega
   obtain⟨m,hm⟩:∃m,o[J]? =some m:=⟨_,List.getElem?_eq_getElem hjt⟩
   obtain⟨hm0,hm1⟩:=HOu.out.2.1 m (List.mem_of_getElem? hm)
   obtain⟨M,rfl⟩:∃M:Nat,m=(M:Int):=⟨m.toNat,by omega⟩
   have hMN:M < N:=by have:=hNe.out;omega
   have hMI:(M:Int) < N:=by omega
   have HT:Hid (o.take (J+1)=o.take J ++ [(M:Int)]):=hide (take_more hm)
   rcases HO.out with rfl | ⟨ob,oo2,rfl,hob,hoc⟩
   ·simp at hjt
   have c1:=(HW.out.cell (p:=⟨ob,oo2+J,none⟩) (by show ob < g;omega)).trans (hoc J _ hm)
   have c2:=(HW.out.cell (p:=⟨ub,uo2+M,none⟩) (by show ub < g;omega)).trans (HU.out M hMN)
   have hcase:=HOu.out.2.2 J _ hm
   clear hoc hm hm0 hm1
   rcases hcase with ⟨e1,e2⟩ | ⟨u0,u1,u2,u3⟩
   ·have HE:Hid (RowAt wr g 3 g N (ints (dpsTo ll (o.take (J+1))))):=hide (by
     rw [HT.out,←dpsTo_same e2];exact HA.out)
    rw [e1] at c2
    clear e1 e2
    go_wp2_with fail
    go_roundw
    case rel=>exact⟨J+1,by omega,by go_num,HE,HW⟩
    case measure=>simp [intOf];omega
   ·obtain⟨U,hU⟩:∃U:Nat,upB ll M=(U:Int):=⟨(upB ll M).toNat,by omega⟩
    rw [hU] at c2 u0 u1 u2 u3
    have hUN:U < N:=by have:=hNe.out;omega
    have hUI:(U:Int) < N:=by omega
    have c3:=HA.out.cell (ints_at (dpsTo_at (met:=o.take J) (b:=U) (by rw [hNe.out];exact hUN)))
    rw [u2,if_pos rfl] at c3
    obtain⟨x,hx⟩:∃x,(dpsTo ll (o.take J))[M]? =some x:=⟨_,dpsTo_at (by rw [hNe.out];exact hMN)⟩
    have c4:=HA.out.cell (ints_at hx)
    have z4:=HA.out.frozen M
    have hne1:((U:Int) == -1)=false:=beq_eq_false_iff_ne.2 (by omega)
    have hne2:((U:Int) != -1)=true:=bne_iff_ne.2 (by omega)
    have hmx:=HMax.out (U:Int)
    obtain⟨D,hD⟩:∃D,depthB ll (U:Int)=D:=⟨_,rfl⟩
    rw [hD] at c3 hmx u3
    have HE:Hid (RowAt (wr.setCell ⟨g,M,none⟩ (.int .i64 ((D:Int)+1))) g 3 g N (ints (dpsTo ll (o.take (J+1))))):=hide (by
     have e:=dpsTo_set (ll:=ll) (met:=o.take J) (M:=M) (by rw [hNe.out];exact hMN)
     rw [HT.out,←e,←u3,←ints_set]
     have:=HA.out.set M (.int .i64 ((D:Int)+1))
     simpa using this)
    have HE2:Hid (Below g w (wr.setCell ⟨g,M,none⟩ (.int .i64 ((D:Int)+1)))):=hide (HW.out.setCell (p:=⟨g,M,none⟩) (Nat.le_refl _) _)
    have hDb:D≤1000000:=by have:=hNe.out;omega
    clear hx u0 u1 u2 u3 hU hD hmx
    go_wp2_with fail
    go_roundw
    case rel=>exact⟨J+1,by omega,by go_num,HE,HE2⟩
    case measure=>simp [intOf];omega
  ·obtain rfl:J=o.length:=by omega
   have HE:Hid (RowAt wr w.heap.size 3 g N (ints (dpsL ll))∧Below w.heap.size w wr):=hide (by
    refine⟨?_,by rw [hgw];exact HW.out⟩
    have:=HA.out
    rw [List.take_length,HEnd.out] at this
    rw [hgw];exact this)
   go_wp2_with fail
   go_ret
   exact⟨g,rfl,HE.out.1,HE.out.2⟩
theorem mask_small (a:Nat) (ha:a≤1000000):bits .and .u64 (a:Int) 4294967295=(a:Int):=by
 have h:=bits_and_u64_nat a 4294967295 (by omega) (by omega)
 have e:a &&& 4294967295=a % 4294967296:=Nat.and_two_pow_sub_one_eq_mod a 32
 rw [e,Nat.mod_eq_of_lt (by omega)] at h
 exact h
theorem mul64_one (N:Nat) (h:N≤1000000) (w:World):Calls Tryz.prog 156 #[.int .u64 1,.int .u64 N] w fun e w'=>e= .returned (.tuple #[.int .u64 0,.int .u64 N])∧w'=w:=by
 go_enter Tryz.func156,Tryz.ntmps156
 go_wp2_with fail
 have m1:bits .and .u64 1 4294967295=1:=mask_small 1 (by omega)
 have m0:bits .and .u64 0 4294967295=0:=mask_small 0 (by omega)
 have d0:(N:Int) / 4294967296=0:=by omega
 have wN:IntKind.u64.wrap (N:Int)=(N:Int):=by rw [IntKind.wrap_u64];omega
 have w0:IntKind.u64.wrap 0=0:=by rw [IntKind.wrap_u64];omega
 simp only [mask_small N h,m1,m0,Int.one_mul,Int.mul_zero,Int.add_zero,d0,wN,w0,Int.zero_ediv]
 go_ret2
 exact⟨rfl,rfl⟩
theorem mul_one (N:Nat) (h:N≤1000000) (w:World):Calls Tryz.prog 145 #[.int .u64 1,.int .u64 N] w fun e w'=>e= .returned (.tuple #[.int .u64 0,.int .u64 N])∧w'=w:=by
 have HC:=hide (mul64_one N h w)
 go_enter Tryz.func145,Tryz.ntmps145
 go_wp2_with fail
 refine HC.out.mono ?_;rintro e w1 ⟨rfl,hw⟩
 rw [hw]
 go_wp2_with fail
 go_ret2
 exact⟨rfl,rfl⟩
theorem rowAt_heap {w:World} {B e g n:Nat} {xs:List Value} (h:RowAt w B e g n xs):w.heap[g]? =some (.cells xs.toArray e (0,0)):=by
 rcases h.2 with ⟨hn,_⟩ | ⟨g',cap,cur,e1,h1,h2,h3,h4,h5,h6⟩
 ·injection hn with q;cases q
 ·injection e1 with q1 q2 q3
  injection q1 with q1
  injection q1 with q1
  subst q1 q3
  rw [h2]
  have:cur=xs.toArray:=by
   rw [←h6,List.take_of_length_le (by simp [h5])]
  rw [this]
theorem rowAt_of {w:World} {B e g n:Nat} {xs:List Value} (h:w.heap[g]? =some (.cells xs.toArray e (0,0))) (hB:B≤g) (hl:xs.length=n) (hn:n≤maxLen):RowAt w B e g n xs:=
 ⟨by omega,.inr ⟨g,n,xs.toArray,rfl,hB,h,Nat.le_refl _,hn,by simp [hl],by simp [←hl]⟩⟩
theorem fill_splice {N K:Nat} (C:Nat):splice (ints (fillTo N K)) K (ints (List.replicate C (-1)))=ints (fillTo N (K+C)):=by
 unfold splice fillTo ints
 have e1:(List.replicate (N - K) (0:Int)).drop C=List.replicate (N - (K+C)) 0:=by rw [List.drop_replicate];congr 1;omega
 have e2:List.replicate (K+C) (-1:Int)=List.replicate K (-1) ++ List.replicate C (-1):=by rw [List.replicate_append_replicate]
 rw [←List.map_take,←List.map_drop,←List.map_append,←List.map_append]
 congr 1
 rw [List.take_append_of_le_length (by simp),List.take_of_length_le (by simp),List.drop_append,List.length_replicate,List.length_map,List.length_replicate,List.drop_eq_nil_of_le (by simp),Nat.add_sub_cancel_left,e1,e2]
 simp only [List.nil_append,List.append_assoc]
theorem repeat_any (N g0:Nat) (h0:0 < N) (hN:N≤1000000) (w:World) (hg0:g0 < w.heap.size) (hx:w.cell? ⟨g0,0,none⟩=some (.int .i64 (-1))):
  Calls Tryz.prog 124 #[.slice (some ⟨g0,0,none⟩) 1 1,.int .i64 N] w fun e w'=>e= .returned (.slice (some ⟨w.heap.size,0,none⟩) N N)∧RowAt w' w.heap.size 3 w.heap.size N (ints (List.replicate N (-1)))∧Below w.heap.size w w':=by
 obtain⟨i3,hi3,hz3,hz4,hz5⟩:=info_parts Tryz.info3
 have hsz:(Tryz.prog.info? 3).map (·.size)=some 1:=by rw [hi3];simp [hz4]
 have HM:=hide (mul_one N hN w)
 have hw1:IntKind.u64.wrap (N:Int)=(N:Int):=by rw [IntKind.wrap_u64];omega
 have hw2:IntKind.i64.wrap (N:Int)=(N:Int):=IntWalk.i64_in _ ⟨by omega,by omega⟩
 have HX:=hide hx
 clear hx
 go_enter Tryz.func124,Tryz.ntmps124
 go_wp2_with fail
 refine HM.out.mono ?_;rintro e w1 ⟨rfl,hw⟩
 rw [hw]
 clear hw HM
 go_upto_region 7 with (at_make;refine wpList_make_full _ rfl _ _ 33 rfl w.heap.size 3 i3 _ 1 Tryz.underlying33 hi3 hz3 hz4 .i64 .i64 N N N rfl rfl rfl rfl (by rw [hz5];omega) (by unfold maxLen;omega) (Nat.le_refl _) ?_;intro w2 own2 grow2;refine Hid.out ?_)
 rw [made_ints] at own2
 have R0:Hid (w2.heap[w.heap.size]? =some (.cells (ints (fillTo N 0)).toArray 3 (0,0))):=hide (by
  have e:fillTo N 0=List.replicate N 0:=by simp [fillTo]
  rw [e];exact rowAt_heap own2)
 have B0:=hide (grown_b grow2)
 have hc0:Hid (∀j v,(ints [-1])[j]? =some v→w2.cell? ((⟨g0,0,none⟩:Addr).add j)=some v):=hide (by
  intro j v hj
  match j,hj with
  |0,hj=>
   simp [ints] at hj
   subst hj
   have:=(B0.out.cell (p:=⟨g0,0,none⟩) hg0).trans HX.out
   simpa [Addr.add] using this)
 have hm1:Hid ((ints [-1]).length=Nat.min 1 N):=hide (by show 1=min 1 N;omega)
 have hm2:Hid (0+(ints [-1]).length≤(ints (fillTo N 0)).length):=hide (by simp [ints,fillTo];omega)
 clear own2 grow2
 generalize hg:w.heap.size=g at *
 refine hide ?_
 go_wp2_with (refine wpList_copy_splice rfl (.tmp 31) (.tmp 32) 33 33 rfl 3 Tryz.underlying33 hsz (some ⟨g,0,none⟩) (some ⟨g0,0,none⟩) N N 1 1 rfl rfl g 0 (ints (fillTo N 0)) 3 R0.out (ints [-1]) hm1.out (fun _=>⟨rfl,_,rfl,hc0.out⟩) hm2.out (oneCell_ints _) g w B0.out (Nat.le_refl _) ?_;intro w3 hr3 hb3;refine Hid.out ?_)
 have R1:Hid (w3.heap[g]? =some (.cells (ints (fillTo N 1)).toArray 3 (0,0))):=hide (by
  have e:=fill_splice (N:=N) (K:=0) 1
  have e2:=hr3.out
  have e3:ints [-1]=ints (List.replicate 1 (-1)):=rfl
  rw [e3,e] at e2
  exact e2)
 have B1:=hide hb3
 clear hr3 hb3 R0 B0 hc0
 refine hide ?_
 go_wp2_with fail
 go_loopw [8] (fun i wr=>∃K:Nat,1≤K∧K≤N∧i= .int .i64 K∧Hid (wr.heap[g]? =some (.cells (ints (fillTo N K)).toArray 3 (0,0)))∧Hid (Below g w wr)) (fun i _=>N - (intOf i).toNat)
 case atStart=>exact⟨1,Nat.le_refl _,h0,rfl,R1,B1⟩
 case round=>
  clear R1 B1
  obtain⟨K,hK1,hK,rfl,HR,HB⟩:=hrel
  by_cases hKN:K < N
  ·have hKI:(K:Int) < N:=by omega
   obtain⟨C,hC1,hC2,hC3⟩:∃C,0 < C∧K+C≤N∧C=Nat.min K (N - K):=⟨min K (N - K),by omega,by omega,rfl⟩
   have HRd:Hid (wr.drew.heap[g]? =some (.cells (ints (fillTo N K)).toArray 3 (0,0))):=hide HR.out
   have HBd:Hid (Below g w wr.drew):=hide HB.out.drew
   have Hmin:Hid ((ints (List.replicate C (-1))).length=Nat.min K (N - K)):=hide (by simp [ints];exact hC3)
   have Hfit:Hid (K+(ints (List.replicate C (-1))).length≤(ints (fillTo N K)).length):=hide (by simp [ints,fillTo];omega)
   have hCK:C≤K:=by rw [hC3];exact Nat.min_le_left _ _
   have Hsrc:Hid (∀j v,(ints (List.replicate C (-1)))[j]? =some v→wr.drew.cell? ((⟨g,0,none⟩:Addr).add j)=some v):=hide (by
    intro j v hj
    have hjC:j < C:=by have:=(List.getElem?_eq_some_iff.1 hj).1;simpa [ints] using this
    have e:v= .int .i64 (-1):=by
     simp only [ints,List.getElem?_map,List.getElem?_replicate,if_pos hjC,Option.map_some,Option.some.injEq] at hj
     exact hj.symm
    subst e
    have hrow:=rowAt_of (B:=g) (n:=N) HRd.out (Nat.le_refl _) (by simp [ints,fillTo];omega) (by unfold maxLen;omega)
    have:=hrow.cell (j:=j) (u:= .int .i64 (-1)) (ints_at (by unfold fillTo;rw [List.getElem?_append_left (by simp;omega),List.getElem?_replicate,if_pos (by omega)]))
    rw [Addr.add_lit,Nat.zero_add]
    exact this)
   have HSp:=hide (fill_splice (N:=N) (K:=K) C)
   have hwKC:IntKind.i64.wrap ((K:Int)+(C:Int))=((K+C:Nat):Int):=by rw [IntWalk.i64_in _ ⟨by omega,by omega⟩];omega
   replace hC3:=hide hC3
   go_wp2_with fail
   go_region_law (refine step_copy_splice rfl (.tmp 41) (.tmp 44) 33 33 rfl 3 Tryz.underlying33 hsz (some ⟨g,K,none⟩) (some ⟨g,0,none⟩) (N - K) (N - K) K N (by simp [Act.eval,Act.put];omega) (by simp [Act.eval,Act.put]) g K (ints (fillTo N K)) 3 HRd.out (ints (List.replicate C (-1))) Hmin.out (fun _=>⟨rfl,_,rfl,Hsrc.out⟩) Hfit.out (oneCell_ints _) g w HBd.out (Nat.le_refl _) ?_;intro w4 hr4 hb4)
   all_goals
    have HE:Hid (w4.heap[g]? =some (.cells (ints (fillTo N (K+C))).toArray 3 (0,0))):=hide (by have:=hr4.out;rwa [HSp.out] at this)
    have HE2:=hide hb4
    clear hr4 hb4
    go_wp2_with fail
    go_roundw
    case rel=>exact⟨K+C,by omega,hC2,by omega,HE⟩
    case measure=>simp [intOf];omega
  ·obtain rfl:K=N:=by omega
   have HE:Hid (RowAt wr w.heap.size 3 g K (ints (List.replicate K (-1)))∧Below w.heap.size w wr):=hide (by
    rw [hg]
    have e:fillTo K K=List.replicate K (-1):=by simp [fillTo]
    refine⟨rowAt_of (by rw [←e];exact HR.out) (Nat.le_refl _) (by simp [ints]) (by unfold maxLen;omega),HB.out⟩)
   go_wp2_with fail
   go_ret
   refine⟨by rw [hg];rfl,?_⟩
   have:=HE.out
   rw [hg] at this ⊢
   exact this
def UpIn (ll:List (List Int)) (pl:Int→Int) (o ps:List Int) (pp:List (List Int)):Prop:=
 Gr ll∧Ord ll pl∧(ps.length=ll.length∧∀k:Nat,k < ll.length→ps[k]? =some (pl k))∧((∀(i:Nat) (b:Int),o[i]? =some b→All ll b∧pl b=i)∧∀x,All ll x→pl x < o.length)∧
 pp.length=ll.length∧(∀(b:Nat) (l:List Int),pp[b]? =some l→(∀p,p∈l↔(0≤p∧p < ll.length∧(b:Int)∈ll.getD p.toNat []))∧l.length≤1000000)∧ll.length≤1000000∧o.length≤1000000
theorem splice_all {a b:List Int} (h:a.length=b.length):splice (ints b) 0 (ints a)=ints a:=by
 unfold splice
 rw [List.take_zero,List.nil_append,List.drop_eq_nil_of_le (by simp [ints];omega),List.append_nil]
theorem Sl.of_row {w:World} {B g n:Nat} {l:List Int} (h:RowAt w B 3 g n (ints l)):Sl w (some ⟨g,0,none⟩) l:=by
 refine .inr ⟨g,0,rfl,h.lt.2,fun i x hx=> ?_⟩
 rw [Nat.zero_add]
 exact h.cell (ints_at hx)
theorem row_len {w:World} {B g n:Nat} {l:List Int} (h:RowAt w B 3 g n (ints l)):l.length=n:=by
 have:=h.len;simpa [ints] using this
def UpW (w:World) (g1 g2 n:Nat) (u b:List Int) (wr:World):Prop:=RowAt wr w.heap.size 3 g1 n (ints u)∧RowAt wr w.heap.size 3 g2 n (ints b)∧Below w.heap.size w wr
theorem UpW.below {w wr wr2:World} {g1 g2 n:Nat} {u b:List Int} (h:UpW w g1 g2 n u b wr) (k:Below wr.heap.size wr wr2):UpW w g1 g2 n u b wr2:=⟨h.1.below k,h.2.1.below k,below_step h.2.2 k⟩
theorem UpW.put {w wr:World} {g1 g2 n:Nat} {u b:List Int} (h:UpW w g1 g2 n u b wr) (hne:g1≠g2) (B:Nat) (x:Int):UpW w g1 g2 n (u.set B x) b (wr.setCell ⟨g1,B,none⟩ (.int .i64 x)):=
 ⟨by rw [←ints_set];exact h.1.set B _,h.2.1.other (p:=⟨g1,B,none⟩) (fun e=>hne e.symm) _,h.2.2.setCell (p:=⟨g1,B,none⟩) h.1.lt.1 _⟩
theorem ups_any (ll:List (List Int)) (pl:Int→Int) (o ps:List Int) (pp:List (List Int)) (hI:UpIn ll pl o ps pp) (oo po ro:Option Addr) (oc pc rc:Nat) (w:World) (hO:Sl w oo o) (hP:Sl w po ps) (hR:RowsR w ro pp):
  Calls Tryz.prog 96 #[.slice oo o.length oc,.slice po ps.length pc,.slice ro pp.length rc] w fun e w'=>∃g,e= .returned (.slice (some ⟨g,0,none⟩) ll.length ll.length)∧RowAt w' w.heap.size 3 g ll.length (ints (upsL ll))∧Below w.heap.size w w':=by
 obtain⟨hg,ho,⟨hps,hpl⟩,⟨hoi,hol⟩,hpp,hpr,hN,hoL⟩:=hI
 obtain⟨i3,hi3,hz3,hz4,hz5⟩:=info_parts Tryz.info3
 have hsz:(Tryz.prog.info? 3).map (·.size)=some 1:=by rw [hi3];simp [hz4]
 obtain⟨K,hK⟩:=enough_ex hg pl
 have hpos:=hg.2
 have HSh:=hide (fun(u l:List Int) (hu:u.length=ll.length) (hw:Wf ll pl (gU u)) (hl:Num ll.length l) (hll:l.length≤1000000)=>shared_any ll hg pl ho u ps l ⟨hu,hps,hpl⟩ hw hl hll)
 have HEq:=hide equal_any
 have HRe:=hide (fun g0 w hg0 hx=>repeat_any ll.length g0 hpos hN w hg0 hx)
 have HOi:=hide hoi
 have HOl:=hide hol
 have HPr:=hide hpr
 have HEx1:=hide (fun(r:Nat) (g:Int→Int) (h:Rd ll pl r g) (hr:K < r)=>Rd.exact hg h hK hr)
 have HEx2:=hide (fun(r:Nat) (g:Int→Int) (h:Rd ll pl r g) (hs:∀r,Rd ll pl r g→Rd ll pl (r+1) g)=>Rd.fixed hg h hs)
 have HStep:=hide (fun(r i:Nat) (old g:Int→Int) (h:Mrd ll pl r i old g) (b x:Int) (l:List Int) (hb:All ll b) (h0:b≠0) (hp:pl b=i) (hl:∀p,p∈l↔(0≤p∧p < ll.length∧b∈ll.getD p.toNat [])) (hs:Sh ll g l x)=>h.step hg ho hb h0 hp hl hs)
 have HZero:=hide (fun(r:Nat) (old g:Int→Int) (h:Mrd ll pl r 0 old g)=>h.zero ho)
 have HStart:=hide (fun(r:Nat) (g:Int→Int) (h:Rd ll pl r g)=>Mrd.start ho h)
 have hp0:=hide ho.2.2.1
 have HNum:=hide (fun b (h:All ll b)=>h.num hg)
 have HSO:=hide hO
 have HSP:=hide hP
 have HSR:=hide hR
 rw [hps] at HSh ⊢
 rw [hpp]
 have hppl:=hide hpp
 have HUps:=hide (fun(u:List Int) (hl:u.length=ll.length) (h:∀b,gU u b=upB ll b)=>upsL_of hl h)
 clear hg ho hps hpl hoi hol hpr hO hP hR hK hpp
 generalize hNe:ll.length=N at *
 replace hNe:=hide hNe
 go_enter Tryz.func96,Tryz.ntmps96
 have X0:=hide (L5.Box.new w [.int .i64 (-1)] 3)
 have B0:=hide (below_box w (.cells #[.int .i64 (-1)] 3))
 have hs0:(w.alloc (.cells #[.int .i64 (-1)] 3)).heap.size=w.heap.size+1:=by simp
 have HC:Hid (Calls Tryz.prog 124 #[.slice (some ⟨w.heap.size,0,none⟩) 1 1,.int .i64 N] (w.alloc (.cells #[.int .i64 (-1)] 3)) fun e w'=>e= .returned (.slice (some ⟨w.heap.size+1,0,none⟩) N N)∧RowAt w' (w.heap.size+1) 3 (w.heap.size+1) N (ints (List.replicate N (-1)))∧Below (w.heap.size+1) (w.alloc (.cells #[.int .i64 (-1)] 3)) w'):=hide (by
  have:=HRe.out w.heap.size (w.alloc (.cells #[.int .i64 (-1)] 3)) (by omega) (X0.out.2 0 _ rfl)
  rw [hs0] at this
  exact this)
 clear HRe X0
 go_wp2_with fail
 refine HC.out.mono ?_;rintro e w1 ⟨rfl,hr1,hb1⟩
 have R1:=hide hr1
 have B1:Hid (Below w.heap.size w w1):=hide (below_step B0.out (by rw [hs0];exact hb1))
 have hs1:w.heap.size+1 < w1.heap.size:=hr1.lt.2
 clear HC hr1 hb1 hs0 B0
 go_upto_region 3 with (at_make;refine wpList_make_full _ rfl _ _ 33 rfl w.heap.size 3 i3 _ 1 Tryz.underlying33 hi3 hz3 hz4 .i64 .i64 N N N rfl rfl rfl rfl (by rw [hz5];omega) (by unfold maxLen;omega) (by omega) ?_;intro w2 own2 grow2;refine Hid.out ?_)
 rw [made_ints] at own2
 have b12:=grown_b grow2
 have HS0:Hid (UpW w (w.heap.size+1) w1.heap.size N (List.replicate N (-1)) (List.replicate N 0) w2):=hide ⟨(R1.out.base (by omega)).below b12,own2,below_step B1.out b12⟩
 clear own2 grow2 b12 R1 B1
 generalize w1.heap.size=g2 at *
 obtain⟨g1,hg1⟩:∃g1,w.heap.size+1=g1:=⟨_,rfl⟩
 rw [hg1] at HS0 hs1 ⊢
 have hg01:w.heap.size≤g1:=by omega
 clear hg1
 refine hide ?_
 go_wp2_with fail
 go_loopg [23] (K+2) (fun k _ wr=>∃(r:Nat) (u b:List Int),k+r=K+2∧Hid (UpW w g1 g2 N u b wr)∧Hid (Rd ll pl r (gU u)))
 case atStart=>exact⟨0,_,_,rfl,HS0,hide (Rd.start (gU_none N))⟩
 case round=>
  clear HS0
  obtain⟨r,u,b,hkr,HS,HRd⟩:=hrel
  have hul:u.length=N:=row_len HS.out.1
  have hbl:b.length=N:=row_len HS.out.2.1
  have R2h:=hide (rowAt_heap HS.out.2.1)
  have Hm:Hid ((ints u).length=Nat.min N N):=hide (by simp [ints,hul])
  have Hfit:Hid (0+(ints u).length≤(ints b).length):=hide (by simp [ints];omega)
  have Hsrc:Hid (∀j v,(ints u)[j]? =some v→wr.cell? ((⟨g1,0,none⟩:Addr).add j)=some v):=hide (fun j v hj=>by
   rw [Addr.add_lit,Nat.zero_add];exact HS.out.1.cell hj)
  have hg2l:g2 < wr.heap.size:=HS.out.2.1.lt.2
  have Hul:=hide hul
  have Hbl:=hide hbl
  clear hul hbl
  go_wp2_with (refine wpList_copy_splice rfl (.tmp 18) (.tmp 19) 33 33 rfl 3 Tryz.underlying33 hsz (some ⟨g2,0,none⟩) (some ⟨g1,0,none⟩) N N N N rfl rfl g2 0 (ints b) 3 R2h.out (ints u) Hm.out (fun _=>⟨rfl,_,rfl,Hsrc.out⟩) Hfit.out (oneCell_ints _) g2 wr (Below.refl _ _) (Nat.le_refl _) ?_;intro w3 hr3 hb3;refine Hid.out ?_)
  have HS3:Hid (UpW w g1 g2 N u u w3):=hide (by
   have e:=splice_all (Hul.out.trans Hbl.out.symm)
   have h3:=hr3.out
   rw [e] at h3
   refine⟨?_,rowAt_of h3 (by omega) (by simp [ints];exact Hul.out) (by unfold maxLen;omega),HS.out.2.2.trans (hb3.mono (by omega))⟩
   refine rowAt_of ?_ hg01 (by simp [ints];exact Hul.out) (by unfold maxLen;omega)
   rw [hb3.block g1 (by omega)]
   exact rowAt_heap HS.out.1)
  clear hr3 hb3 Hm Hfit Hsrc R2h HS Hbl b hg2l
  refine hide ?_
  go_wp2_with fail
  go_loopw [23] (fun i wr=>∃(J:Nat) (u':List Int),J≤o.length∧i= .int .i64 J∧Hid (UpW w g1 g2 N u' u wr)∧Hid (∀r,Rd ll pl r (gU u)→Mrd ll pl r J (gU u) (gU u'))) (fun i _=>o.length - (intOf i).toNat)
  case atStart=>exact⟨0,u,Nat.zero_le _,rfl,HS3,hide (fun r h=>HStart.out r _ h)⟩
  case round=>
   clear HS3
   obtain⟨J,u',hJ,rfl,HS,HM⟩:=hrel
   by_cases hjt:J < o.length
   ·have hjI:(J:Int) < o.length:=by omega
    obtain⟨m,hm⟩:∃m,o[J]? =some m:=⟨_,List.getElem?_eq_getElem hjt⟩
    obtain⟨hma,hmp⟩:=HOi.out J m hm
    obtain⟨hm0,hm1⟩:=HNum.out m hma
    obtain⟨M,rfl⟩:∃M:Nat,m=(M:Int):=⟨m.toNat,by omega⟩
    have hMN:M < N:=by have:=hNe.out;omega
    have hMI:(M:Int) < N:=by omega
    rcases HSO.out with rfl | ⟨ob,oo2,rfl,hob,hoc⟩
    ·simp at hjt
    have c1:=(HS.out.2.2.cell (p:=⟨ob,oo2+J,none⟩) hob).trans (hoc J _ hm)
    have HMa:=hide hma
    have HMp:=hide hmp
    clear hoc hm hm0 hm1 hma hmp
    by_cases hM0:M=0
    ·have hMz1:((M:Int) == 0)=true:=beq_iff_eq.2 (by omega)
     have hMz2:((M:Int) != 0)=false:=by rw [bne_eq_false_iff_eq];omega
     have HE:Hid (∀r,Rd ll pl r (gU u)→Mrd ll pl r (J+1) (gU u) (gU u')):=hide (fun r h=>by
      have e1:=HMp.out
      have e2:=hp0.out
      subst hM0
      have e3:J=0:=by
       have:pl ((0:Nat):Int)=0:=e2
       omega
      have:=HM.out r h
      subst e3
      exact HZero.out r _ _ this)
     clear hM0
     go_wp2_with fail
     go_roundw
     case rel=>exact⟨J+1,u',by omega,by go_num,HS,HE⟩
     case measure=>simp [intOf];omega
    ·have hMz1:((M:Int) == 0)=false:=beq_eq_false_iff_ne.2 (by omega)
     have hMz2:((M:Int) != 0)=true:=bne_iff_ne.2 (by omega)
     have hML:M < pp.length:=by rw [hppl.out];exact hMN
     rcases HSR.out with e0 | ⟨rb,ro2,rfl,hrb,hrc⟩
     ·rw [e0] at hML;simp at hML
     obtain⟨l,hl⟩:∃l,pp[M]? =some l:=⟨_,List.getElem?_eq_getElem hML⟩
     obtain⟨pv,hpv,lo,lc,rfl,hls,_,_⟩:=hrc M l hl
     have c2:=(HS.out.2.2.cell (p:=⟨rb,ro2+M,none⟩) hrb).trans hpv
     obtain⟨hpl1,hpl2⟩:=HPr.out M l hl
     have HPl:=hide hpl1
     have hul':u'.length=N:=row_len HS.out.1
     have Hul':=hide hul'
     have HC:Hid (Calls Tryz.prog 125 #[.slice (some ⟨g1,0,none⟩) N N,.slice po N pc,.slice lo l.length lc] wr fun e w'=>(∃x,e= .returned (.int .i64 x)∧Sh ll (gU u') l x)∧Below wr.heap.size wr w'):=hide (by
      have:=HSh.out u' l hul' (HM.out r HRd.out).1 (fun p hp=>⟨((hpl1 p).1 hp).1,((hpl1 p).1 hp).2.1⟩) hpl2 (some ⟨g1,0,none⟩) po lo N pc lc wr (Sl.of_row HS.out.1) (HSP.out.below HS.out.2.2) (hls.below HS.out.2.2)
      rw [hul'] at this
      exact this)
     clear hrc hl hpl1 hpl2 hpv hls hML hul'
     go_wp2_with fail
     refine HC.out.mono ?_;rintro e w4 ⟨⟨x,rfl,hx⟩,b4⟩
     have HS4:=hide (HS.out.below b4)
     have c4:=HS4.out.1.cell (ints_at (gU_at (u:=u') (A:=M) (by rw [Hul'.out];exact hMN)))
     have z4:=HS4.out.1.frozen M
     have HE1:Hid (UpW w g1 g2 N (u'.set M x) u (w4.setCell ⟨g1,M,none⟩ (.int .i64 x))):=hide (HS4.out.put (by omega) M x)
     have HE2:Hid (∀r,Rd ll pl r (gU u)→Mrd ll pl r (J+1) (gU u) (gU (u'.set M x))):=hide (fun r h=>by
      rw [gU_set (by rw [Hul'.out];exact hMN)]
      exact HStep.out r J _ _ (HM.out r h) _ _ l HMa.out (by omega) HMp.out HPl.out hx)
     clear HC hx b4 c1 c2 HS
     go_wp2_with fail
     go_roundw
     case rel=>exact⟨J+1,_,by omega,by go_num,HE1,HE2⟩
     case measure=>simp [intOf];omega
   ·obtain rfl:J=o.length:=by omega
    have HAll:Hid (∀r,Rd ll pl r (gU u)→Rd ll pl (r+1) (gU u')):=hide (fun r h=>(HM.out r h).done HOl.out)
    have hul':u'.length=N:=row_len HS.out.1
    have HC:Hid (Calls Tryz.prog 126 #[.slice (some ⟨g2,0,none⟩) N N,.slice (some ⟨g1,0,none⟩) N N] wr fun e w'=>e= .returned (.bool (decide (u=u')))∧Below wr.heap.size wr w'):=hide (by
     have:=HEq.out u u' (by rw [Hul.out,hul']) (by rw [Hul.out];exact hN) (some ⟨g2,0,none⟩) (some ⟨g1,0,none⟩) N N wr (Sl.of_row HS.out.2.1) (Sl.of_row HS.out.1)
     rw [Hul.out,hul'] at this
     exact this)
    have Hul':=hide hul'
    clear hul' HM
    by_cases heq:u=u'
    ·have hde:decide (u=u')=true:=decide_eq_true heq
     rw [hde] at HC
     have HX:Hid (u'=upsL ll):=hide (HUps.out u' Hul'.out (by
      rw [←heq] at HAll ⊢
      exact HEx2.out r _ HRd.out HAll.out))
     rw [HX.out] at HS
     clear hde heq HAll
     go_wp2_with fail
     refine HC.out.mono ?_;rintro e w4 ⟨rfl,b4⟩
     have HE:=hide (HS.out.below b4)
     clear HC b4
     go_wp2_with fail
     go_ret
     exact⟨g1,rfl,HE.out.1,HE.out.2.2⟩
    ·have hde:decide (u=u')=false:=decide_eq_false heq
     rw [hde] at HC
     have hrK:r≤K:=by
      refine Classical.byContradiction fun e=>heq ?_
      rw [HUps.out u Hul.out (HEx1.out r _ HRd.out (by omega)),HUps.out u' Hul'.out (HEx1.out (r+1) _ (HAll.out r HRd.out) (by omega))]
     have HR2:=hide (HAll.out r HRd.out)
     clear hde heq HAll
     go_wp2_with fail
     refine HC.out.mono ?_;rintro e w4 ⟨rfl,b4⟩
     have HE:=hide (HS.out.below b4)
     clear HC b4
     go_wp2_with fail
     go_roundg (K+2 - (r+1))
     case measure=>omega
     case rel=>exact⟨r+1,u',u,by omega,HE,HR2⟩
open Mix (Up)
def TreeV (w:World) (f:Fun) (v:Value):Prop:=∃(t:Nat) (uo dd:Option Addr) (uc dc:Nat),v= .pointer (some ⟨t,0,none⟩)∧L5.Box w t [.slice uo f.2.2.2.1.length uc,.slice dd f.2.2.2.1.length dc]∧Sl w uo (upsL (succsF f))∧Sl w dd (dpsL (succsF f))
theorem upIn_of {f:Fun} (hF:Ful f) (hT:Tos f) (h0:0 < f.2.2.2.1.length):UpIn (succsF f) (atF f) (orderF f) (placesF f) (predsF f):=by
 have hg:=gr_succs hT h0
 have hn:=succsF_len f
 refine⟨hg,ord_of hT h0,⟨by rw [placesF_len,hn],fun k hk=>placesF_at (by rw [←hn];exact hk)⟩,⟨fun i b hb=>⟨(mem_order hT h0 b).1 (List.mem_of_getElem? hb),at_order hT h0 hb⟩,fun x hx=> ?_⟩,by rw [predsF_len,hn],fun b l hl=> ?_,by rw [hn];exact hF.1,Nat.le_trans (orderF_len hT h0) hF.1⟩
 ·obtain⟨i,hi,e⟩:=List.mem_iff_getElem.1 ((mem_order hT h0 x).2 hx)
  have:(orderF f)[i]? =some x:=by rw [List.getElem?_eq_getElem hi,e]
  rw [at_order hT h0 this]
  omega
 ·have hb:b < f.2.2.2.1.length:=by have:=(List.getElem?_eq_some_iff.1 hl).1;rw [predsF_len] at this;exact this
  have e:(predsF f)[b]? =some (predTo f b f.2.2.2.1.length):=by
   unfold predsF;rw [List.getElem?_map,List.getElem?_range hb];rfl
  rw [e] at hl
  injection hl with hl
  subst hl
  refine⟨fun p=> ?_,Nat.le_trans (predTo_len f b _) hF.1⟩
  rw [hn]
  unfold predTo
  rw [List.mem_map]
  constructor
  ·rintro ⟨j,hj,rfl⟩
   obtain⟨j1,j2⟩:=List.mem_filter.1 hj
   have j3:j < f.2.2.2.1.length:=by simpa using j1
   refine⟨by simp,by simp;omega,?_⟩
   have e2:(Int.ofNat j).toNat=j:=rfl
   rw [next_getD (by rw [e2];exact j3),e2]
   exact hasL_mem.1 j2
  ·rintro ⟨q1,q2,q3⟩
   refine⟨p.toNat,List.mem_filter.2 ⟨by simp;omega,?_⟩,by simp;omega⟩
   rw [next_getD (by omega)] at q3
   exact hasL_mem.2 q3
end Go.Proofs.YtljkgcfnoegibaaGreatDoor
