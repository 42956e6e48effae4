/- Texts of one chain, joined. -/
import Derived.Test.YtljkgcfnoegibaaGreatDoorWcBK
set_option maxHeartbeats 2000000
set_option maxRecDepth 20000
namespace Go.Proofs.YtljkgcfnoegibaaGreatDoor
open Go Go.RowKit
open G (Tok Er Ins Fun)
theorem takes11_try (po ap ab:Option Addr) (pn pc an cp bn cb:Nat) (nm:ByteArray) (rt pl:Int) (src:Bool) (qb qo qn qc tr tb mb:Nat) (op id nn ty xp:Int) (ar tt:List Int) (xn:ByteArray) (ao to:Option Addr) (ca ct:Nat) (a1 a2:Int) (w:World) (c0:Int) (wn:Nat→Int) (fr:Nat→Int × Int) (tk:Nat→Int) (hla:ar.length≤1000000) (hS:Sl w ao ar)
  (CW:∀w',Below w.heap.size w w'→Calls Tryz.prog 101 #[.agg #[.slice po pn pc,.string nm,.slice ap an cp,.int .i64 rt,.slice ab bn cb,.int .i64 pl,.bool src,.slice (some ⟨qb,qo,none⟩) qn qc,.pointer (some ⟨tr,0,none⟩),.map (some tb),.map (some mb)],.agg #[.int .i64 op,.int .i64 id,.int .i64 nn,.int .i64 ty,.slice ao ar.length ca,.slice to tt.length ct,.string xn,.int .i64 xp]] w' fun e w''=>(∃u,e= .returned (.tuple #[u,.int .i64 c0])∧(c0=0→∃so sc sl,u= .slice so (List.length sl) sc∧Sl w'' so sl∧∀n,n < ar.length→sl[n]? =some (wn n)))∧Below w'.heap.size w' w'')
  (CF:∀n w',n < ar.length→Below w.heap.size w w'→Calls Tryz.prog 103 #[.agg #[.slice po pn pc,.string nm,.slice ap an cp,.int .i64 rt,.slice ab bn cb,.int .i64 pl,.bool src,.slice (some ⟨qb,qo,none⟩) qn qc,.pointer (some ⟨tr,0,none⟩),.map (some tb),.map (some mb)],.agg #[.int .i64 a1,.int .i64 a2],.agg #[.int .i64 op,.int .i64 id,.int .i64 nn,.int .i64 ty,.slice ao ar.length ca,.slice to tt.length ct,.string xn,.int .i64 xp],.int .i64 n] w' fun e w''=>e= .returned (.agg #[.int .i64 (fr n).1,.int .i64 (fr n).2])∧Below w'.heap.size w' w'')
  (CT:∀n w',n < ar.length→Below w.heap.size w w'→Calls Tryz.prog 102 #[.agg #[.slice po pn pc,.string nm,.slice ap an cp,.int .i64 rt,.slice ab bn cb,.int .i64 pl,.bool src,.slice (some ⟨qb,qo,none⟩) qn qc,.pointer (some ⟨tr,0,none⟩),.map (some tb),.map (some mb)],.int .i64 (ar.getD n 0),.int .i64 (wn n),.agg #[.int .i64 (fr n).1,.int .i64 (fr n).2]] w' fun e w''=>e= .returned (.int .i64 (tk n))∧Below w'.heap.size w' w''):
  Calls Tryz.prog 70 #[.agg #[.slice po pn pc,.string nm,.slice ap an cp,.int .i64 rt,.slice ab bn cb,.int .i64 pl,.bool src,.slice (some ⟨qb,qo,none⟩) qn qc,.pointer (some ⟨tr,0,none⟩),.map (some tb),.map (some mb)],.agg #[.int .i64 a1,.int .i64 a2],.agg #[.int .i64 op,.int .i64 id,.int .i64 nn,.int .i64 ty,.slice ao ar.length ca,.slice to tt.length ct,.string xn,.int .i64 xp]] w fun e w'=>e= .returned (.int .i64 (if c0≠0 then c0 else(fstN (fun n=>if tk n≠0 then some (tk n)else none) ar.length).getD 0))∧Below w.heap.size w w':=by
 obtain⟨b0,h0,h1,h2⟩:=box3 w (.cells #[.slice po pn pc,.string nm,.slice ap an cp,.int .i64 rt,.slice ab bn cb,.int .i64 pl,.bool src,.slice (some ⟨qb,qo,none⟩) qn qc,.pointer (some ⟨tr,0,none⟩),.map (some tb),.map (some mb)] 111) (.cells #[.int .i64 a1,.int .i64 a2] 113) (.cells #[.int .i64 op,.int .i64 id,.int .i64 nn,.int .i64 ty,.slice ao ar.length ca,.slice to tt.length ct,.string xn,.int .i64 xp] 47)
 have H0:=hide h0
 have H1:=hide h1
 have H2:=hide h2
 have B0:=hide b0
 have HW:=hide CW
 have HF:=hide CF
 have HT:=hide CT
 have HS:=hide hS
 obtain⟨r,hr⟩:∃r,(if c0≠0 then c0 else(fstN (fun n=>if tk n≠0 then some (tk n)else none) ar.length).getD 0)=r:=⟨_,rfl⟩
 rw [hr]
 have HC0:Hid (¬c0=0→r=c0):=hide (fun h=>by rw [←hr,if_pos h])
 have HSm:Hid (c0=0→∀K,K < ar.length→(∀n,n < K→tk n=0)→tk K≠0→r=tk K):=hide (fun hc K hK h0 h1=>by
  rw [←hr,if_neg (by simp [hc]),fstN_some (K:=K) (a:=tk K) (fun j hj=>by simp [h0 j hj]) hK (by simp [h1])]
  rfl)
 have HNo:Hid (c0=0→(∀n,n < ar.length→tk n=0)→r=0):=hide (fun hc h=>by
  rw [←hr,if_neg (by simp [hc]),fstN_none (fun j hj=>by simp [h j hj])]
  rfl)
 clear hr
 clear b0 h0 h1 h2 CW CF CT hS
 obtain⟨la,hlae⟩:∃la,ar.length=la:=⟨_,rfl⟩
 obtain⟨lt,hlte⟩:∃lt,tt.length=lt:=⟨_,rfl⟩
 rw [hlae,hlte] at H0 H1 H2 B0 HW HF
 rw [hlae] at HT HSm HNo hla
 rw [hlae,hlte]
 replace hlae:=hide hlae
 clear hlte
 go_enter Tryz.func70,Tryz.ntmps70
 go_upto_region 1 with fail
 show Code.wp _ _ _ _ (((w.alloc (.cells #[.slice po pn pc,.string nm,.slice ap an cp,.int .i64 rt,.slice ab bn cb,.int .i64 pl,.bool src,.slice (some ⟨qb,qo,none⟩) qn qc,.pointer (some ⟨tr,0,none⟩),.map (some tb),.map (some mb)] 111)).alloc (.cells #[.int .i64 a1,.int .i64 a2] 113)).alloc (.cells #[.int .i64 op,.int .i64 id,.int .i64 nn,.int .i64 ty,.slice ao la ca,.slice to lt ct,.string xn,.int .i64 xp] 47))
 generalize ((w.alloc (.cells #[.slice po pn pc,.string nm,.slice ap an cp,.int .i64 rt,.slice ab bn cb,.int .i64 pl,.bool src,.slice (some ⟨qb,qo,none⟩) qn qc,.pointer (some ⟨tr,0,none⟩),.map (some tb),.map (some mb)] 111)).alloc (.cells #[.int .i64 a1,.int .i64 a2] 113)).alloc (.cells #[.int .i64 op,.int .i64 id,.int .i64 nn,.int .i64 ty,.slice ao la ca,.slice to lt ct,.string xn,.int .i64 xp] 47)=W at *
 obtain⟨⟨c0',c1,c2,c3,c4,c5,c6,c7,c8,c9,c10⟩,hz0⟩:=look_at _ _ _ _ _ _ _ _ _ _ _ _ _ _ _ _ _ _ _ _ H0.out
 obtain⟨⟨y0,y1⟩,_,hz1⟩:=two_at H1.out
 obtain⟨⟨x0,x1,x2,x3,x4,x5,x6,x7⟩,hz2⟩:=ins_at H2.out
 go_wp2_with fail
 refine(HW.out _ B0.out).mono ?_;rintro e w1 ⟨⟨u,rfl,hu⟩,b1⟩
 have HU:=hide hu
 have B1:=hide (below_step B0.out b1)
 have K0:=hide ((b1.block _ hz0).trans H0.out)
 have K1:=hide ((b1.block _ hz1).trans H1.out)
 have K2:=hide ((b1.block _ hz2).trans H2.out)
 clear hu b1 c0' c1 c2 c3 c4 c5 c6 c7 c8 c9 c10 y0 y1 x0 x1 x2 x3 x4 x5 x6 x7 H0 H1 H2 HW
 by_cases hc:c0=0
 ·obtain⟨so,sc,sl,rfl,hss,hsw⟩:=HU.out hc
  have HSs:=hide hss
  have HSw:=hide hsw
  replace HSm:=hide (HSm.out hc)
  replace HNo:=hide (HNo.out hc)
  subst hc
  clear HU hss hsw HC0
  obtain⟨⟨x0,x1,x2,x3,x4,x5,x6,x7⟩,hz2⟩:=ins_at K2.out
  obtain⟨sln,hsln⟩:∃sln,sl.length=sln:=⟨_,rfl⟩
  rw [hsln]
  replace hsln:=hide hsln
  go_wp2_with fail
  clear x0 x1 x2 x3 x4 x5 x6 x7
  go_loopw [24] (fun nv wr=>∃n:Nat,n≤la∧nv= .int .i64 n∧Hid (∀j,j < n→tk j=0)∧Hid (Below w1.heap.size w1 wr)) (fun nv _=>la - (intOf nv).toNat)
  case atStart=>exact⟨0,Nat.zero_le _,rfl,hide (fun j h=>absurd h (Nat.not_lt_zero _)),hide (Below.refl _ _)⟩
  case round=>
   obtain⟨n,hn,rfl,HG,HB⟩:=hrel
   by_cases hlt:n < la
   ·have hltI:(n:Int) < la:=by omega
    obtain⟨ag,aof,rfl,hag,hac⟩:=sl_at HS.out (n:=n) (by rw [hlae.out];exact hlt)
    have hwn:=HSw.out n hlt
    obtain⟨sg,sof,rfl,hsg,hsc⟩:=sl_at HSs.out (n:=n) (List.getElem?_eq_some_iff.1 hwn).1
    have hsn:(n:Int) < sln:=by have:=(List.getElem?_eq_some_iff.1 hwn).1;rw [hsln.out] at this;omega
    rw [List.getD_eq_getElem?_getD,hwn] at hsc
    have Bw:=hide (below_step B1.out HB.out)
    have e1:=(Bw.out.cell (p:=⟨ag,aof+n,none⟩) hag).trans hac
    have hBx:=fun x=>below_step HB.out (L5.grewTo_below wr x)
    have HBx:=hide hBx
    have HBw:=hide (fun x=>below_step Bw.out (L5.grewTo_below wr x))
    have e2:∀x,(L5.grewTo wr x).cell? ⟨sg,sof+n,none⟩=some (.int .i64 (wn n)):=fun x=>((hBx x).cell (p:=⟨sg,sof+n,none⟩) hsg).trans hsc
    have L:=fun x=>(look_at _ _ _ _ _ _ _ _ _ _ _ _ _ _ _ _ _ _ _ _ (((hBx x).block _ (Array.getElem?_eq_some_iff.1 K0.out).1).trans K0.out)).1
    have l0:=fun x=>(L x).1
    have l1:=fun x=>(L x).2.1
    have l2:=fun x=>(L x).2.2.1
    have l3:=fun x=>(L x).2.2.2.1
    have l4:=fun x=>(L x).2.2.2.2.1
    have l5:=fun x=>(L x).2.2.2.2.2.1
    have l6:=fun x=>(L x).2.2.2.2.2.2.1
    have l7:=fun x=>(L x).2.2.2.2.2.2.2.1
    have l8:=fun x=>(L x).2.2.2.2.2.2.2.2.1
    have l9:=fun x=>(L x).2.2.2.2.2.2.2.2.2.1
    have l10:=fun x=>(L x).2.2.2.2.2.2.2.2.2.2
    have Y:=fun x=>(two_at (((hBx x).block _ (Array.getElem?_eq_some_iff.1 K1.out).1).trans K1.out)).1
    have y0:=fun x=>(Y x).1
    have y1:=fun x=>(Y x).2
    have X:=fun x=>(ins_at (((hBx x).block _ (Array.getElem?_eq_some_iff.1 K2.out).1).trans K2.out)).1
    have x0:=fun x=>(X x).1
    have x1:=fun x=>(X x).2.1
    have x2:=fun x=>(X x).2.2.1
    have x3:=fun x=>(X x).2.2.2.1
    have x4:=fun x=>(X x).2.2.2.2.1
    have x5:=fun x=>(X x).2.2.2.2.2.1
    have x6:=fun x=>(X x).2.2.2.2.2.2.1
    have x7:=fun x=>(X x).2.2.2.2.2.2.2
    have HFn:=hide (fun w' b=>HF.out n w' hlt b)
    have HTn:=hide (fun w' b=>HT.out n w' hlt b)
    obtain⟨av,hav⟩:∃av,ar.getD n 0=av:=⟨_,rfl⟩
    rw [hav] at e1 HTn
    obtain⟨wv,hwv⟩:∃wv,wn n=wv:=⟨_,rfl⟩
    simp only [hwv] at e2 HTn
    obtain⟨⟨f1,f2⟩,hfv⟩:∃fv,fr n=fv:=⟨_,rfl⟩
    rw [hfv] at HFn HTn
    obtain⟨tv,htv⟩:∃tv,tk n=tv:=⟨_,rfl⟩
    rw [htv] at HTn
    have HTv:=hide htv
    have HSm2:=hide (HSm.out n hlt HG.out)
    clear hav hwv hfv htv hwn hsc hac L Y X hBx HF HT HSm hag hsg
    go_wp2_with fail
    refine L5.region_grew (by kernel_rfl) (by kernel_rfl) ?_
    repeat (go_big_quiet_step (first | (go_at_call 103;exact L5.calls_grew (HFn.out _ (HBw.out _))) | (go_at_call 102;exact L5.calls_grew (HTn.out _ (HBw.out _)))))
    refine wpQuiet_nil ?_
    rintro _ ⟨x,rfl⟩
    clear e2 l0 l1 l2 l3 l4 l5 l6 l7 l8 l9 l10 y0 y1 x0 x1 x2 x3 x4 x5 x6 x7
    by_cases ht0:tv=0
    ·subst ht0
     have HG2:Hid (∀j,j < n+1→tk j=0):=hide (fun j hj=>by
      by_cases e:j=n
      ·subst e;exact HTv.out
      ·exact HG.out j (by omega))
     go_wp2_with fail
     go_roundw
     case rel=>exact⟨n+1,by omega,by go_num,HG2,hide (HBx.out x)⟩
     case measure=>simp [intOf];omega
    ·have HR:Hid (r=tv):=hide (by rw [HSm2.out (by rw [HTv.out];exact ht0),HTv.out])
     go_wp2_with fail
     go_ret
     exact⟨by rw [HR.out];rfl,HBw.out x⟩
   ·obtain rfl:n=la:=by omega
    have HR:=hide (HNo.out HG.out)
    have HE:=hide (below_step B1.out HB.out)
    go_wp2_with fail
    go_ret
    exact⟨by rw [HR.out];rfl,HE.out⟩
 ·have HR:=hide (HC0.out hc)
  clear HU HC0 HSm HNo
  go_wp2_with fail
  go_ret
  exact⟨by rw [HR.out];rfl,B1.out⟩
open Go Go.RowKit Go.Maps
theorem later11_any (op id nn ty xp:Int) (ar tt:List Int) (xn:ByteArray) (ao to:Option Addr) (ca ct:Nat) (w:World):
  Calls Tryz.prog 100 #[.agg #[.int .i64 op,.int .i64 id,.int .i64 nn,.int .i64 ty,.slice ao ar.length ca,.slice to tt.length ct,.string xn,.int .i64 xp]] w fun e w'=>e= .returned (.bool (decide (op=23) || decide (op=24) || decide (op=25) || (decide (op=21) && decide (nn≠0))))∧Below w.heap.size w w':=by
 have b0:=below_box w (.cells #[.int .i64 op,.int .i64 id,.int .i64 nn,.int .i64 ty,.slice ao ar.length ca,.slice to tt.length ct,.string xn,.int .i64 xp] 47)
 have H0:=hide (heap_alloc_new w (.cells #[.int .i64 op,.int .i64 id,.int .i64 nn,.int .i64 ty,.slice ao ar.length ca,.slice to tt.length ct,.string xn,.int .i64 xp] 47))
 have B0:=hide b0
 clear b0
 obtain⟨r,hr⟩:∃r,(decide (op=23) || decide (op=24) || decide (op=25) || (decide (op=21) && decide (nn≠0)))=r:=⟨_,rfl⟩
 have HR:=hide hr
 rw [hr]
 clear hr
 generalize ar.length=la at *
 generalize tt.length=lt at *
 go_enter Tryz.func100,Tryz.ntmps100
 go_upto_region 1 with fail
 show Code.wp _ _ _ _ (w.alloc (.cells #[.int .i64 op,.int .i64 id,.int .i64 nn,.int .i64 ty,.slice ao la ca,.slice to lt ct,.string xn,.int .i64 xp] 47))
 generalize w.alloc (.cells #[.int .i64 op,.int .i64 id,.int .i64 nn,.int .i64 ty,.slice ao la ca,.slice to lt ct,.string xn,.int .i64 xp] 47)=W at *
 obtain⟨⟨x0,x1,x2,x3,x4,x5,x6,x7⟩,_⟩:=ins_at H0.out
 by_cases h23:op=23
 ·have HD:Hid (r=true):=hide (by rw [←HR.out];simp [h23])
  subst h23
  go_wp2_with fail
  go_ret
  exact⟨by rw [HD.out];rfl,B0.out⟩
 by_cases h24:op=24
 ·have HD:Hid (r=true):=hide (by rw [←HR.out];simp [h24])
  subst h24
  go_wp2_with fail
  go_ret
  exact⟨by rw [HD.out];rfl,B0.out⟩
 by_cases h25:op=25
 ·have HD:Hid (r=true):=hide (by rw [←HR.out];simp [h25])
  subst h25
  go_wp2_with fail
  go_ret
  exact⟨by rw [HD.out];rfl,B0.out⟩
 by_cases h21:op=21
 ·by_cases hn:nn=0
  ·have HD:Hid (r=false):=hide (by rw [←HR.out];simp [h21,hn])
   subst h21 hn
   go_wp2_with fail
   go_ret
   exact⟨by rw [HD.out];rfl,B0.out⟩
  ·have HD:Hid (r=true):=hide (by rw [←HR.out];simp [h21,hn])
   have hb:=hide (show(nn != 0)=true by simp [hn])
   subst h21
   go_wp2_with fail
   go_ret
   exact⟨by rw [HD.out,←hb.out];rfl,B0.out⟩
 ·have HD:Hid (r=false):=hide (by rw [←HR.out];simp [h23,h24,h25,h21])
  go_wp2_with fail
  go_ret
  exact⟨by rw [HD.out];rfl,B0.out⟩
theorem left_step {ps tt:List Int} {j:Nat} (hj:j < tt.length) (a:Int):(!decide (a=tt.getD j 0) && (hasL ps a && !hasL (tt.take j) a))=(hasL ps a && !hasL (tt.take (j+1)) a):=by
 have e:tt.take (j+1)=tt.take j ++ [tt.getD j 0]:=by
  rw [List.take_add_one,List.getD_eq_getElem?_getD,List.getElem?_eq_getElem hj]
  rfl
 rw [e,hasL_snoc]
 generalize tt.getD j 0=v
 by_cases h:a=v
 ·subst h;simp
 ·have h2:¬v=a:=fun e=>h e.symm
  simp [h,h2]
theorem come_step {ps:List Int} {j:Nat} (hj:j < ps.length) (a:Int):(decide (a=ps.getD j 0) || hasL (ps.take j) a)=hasL (ps.take (j+1)) a:=by
 have e:ps.take (j+1)=ps.take j ++ [ps.getD j 0]:=by
  rw [List.take_add_one,List.getD_eq_getElem?_getD,List.getElem?_eq_getElem hj]
  rfl
 rw [e,hasL_snoc,Bool.or_comm]
 generalize ps.getD j 0=v
 by_cases h:a=v
 ·subst h;simp
 ·have h2:¬v=a:=fun e=>h e.symm
  simp [h,h2]
theorem UMap.congr {w:World} {b n N:Nat} {s s':Int→Bool} (h:UMap w b n N s) (e:∀a,s a=s' a):UMap w b n N s':=by
 have:s=s':=funext e
 subst this
 exact h
theorem joins_try (po ap ab:Option Addr) (pn pc an cp bn cb:Nat) (nm:ByteArray) (rt pl:Int) (src:Bool) (qb qo qn qc tr tb mb:Nat) (k:Nat) (iv:Int) (ps tt:List Int) (to qa:Option Addr) (ct qac:Nat) (w:World) (first:Bool) (hps:ps.Nodup) (hpl:ps.length≤1000000) (htl:tt.length≤1000000) (hpw:∀a∈ps,Wf6 a) (htw:∀a∈tt,Wf6 a) (hqn:k < qn)
  (hT:Sl w to tt) (hqb:qb < w.heap.size) (hq:w.cell? ⟨qb,qo+k,none⟩=some (.slice qa ps.length qac)) (hP:Sl w qa ps)
  (hbk:iv=0∧first=true∨∃(I g o g2 o2 lb ac:Nat) (pop:Int),iv=I+1∧ab=some ⟨g,o,none⟩∧g < w.heap.size∧k < bn∧w.cell? ⟨g,o+k,none⟩=some (.slice (some ⟨g2,o2,none⟩) lb ac)∧I < lb∧lb≤1000000∧g2 < w.heap.size∧w.cell? ⟨g2,o2+I * 8,none⟩=some (.int .i64 pop)∧first=decide (pop=20)):
  Calls Tryz.prog 99 #[.agg #[.slice po pn pc,.string nm,.slice ap an cp,.int .i64 rt,.slice ab bn cb,.int .i64 pl,.bool src,.slice (some ⟨qb,qo,none⟩) qn qc,.pointer (some ⟨tr,0,none⟩),.map (some tb),.map (some mb)],.agg #[.int .i64 k,.int .i64 iv],.slice to tt.length ct] w fun e w'=>e= .returned (.bool (first && joinB ps tt))∧Below w.heap.size w w':=by
 obtain⟨b0,h0,h1⟩:=box2 w (.cells #[.slice po pn pc,.string nm,.slice ap an cp,.int .i64 rt,.slice ab bn cb,.int .i64 pl,.bool src,.slice (some ⟨qb,qo,none⟩) qn qc,.pointer (some ⟨tr,0,none⟩),.map (some tb),.map (some mb)] 111) (.cells #[.int .i64 k,.int .i64 iv] 113)
 have H0:=hide h0
 have H1:=hide h1
 have B0:=hide b0
 have HT:=hide hT
 have HP:=hide hP
 have HQ:=hide hq
 replace hps:=hide hps
 replace hpw:=hide hpw
 replace htw:=hide htw
 clear b0 h0 h1 hT hP hq
 obtain⟨r,hr⟩:∃r,(first && joinB ps tt)=r:=⟨_,rfl⟩
 rw [hr]
 have HR:=hide hr
 clear hr
 obtain⟨pn',hpne⟩:∃n,ps.length=n:=⟨_,rfl⟩
 obtain⟨tn,htne⟩:∃n,tt.length=n:=⟨_,rfl⟩
 rw [hpne] at hpl HQ
 rw [htne] at htl ⊢
 replace hpne:=hide hpne
 replace htne:=hide htne
 have hqI:(k:Int) < qn:=by omega
 go_enter Tryz.func99,Tryz.ntmps99
 go_upto_region 1 with fail
 show Code.wp _ _ _ _ ((w.alloc (.cells #[.slice po pn pc,.string nm,.slice ap an cp,.int .i64 rt,.slice ab bn cb,.int .i64 pl,.bool src,.slice (some ⟨qb,qo,none⟩) qn qc,.pointer (some ⟨tr,0,none⟩),.map (some tb),.map (some mb)] 111)).alloc (.cells #[.int .i64 k,.int .i64 iv] 113))
 generalize (w.alloc (.cells #[.slice po pn pc,.string nm,.slice ap an cp,.int .i64 rt,.slice ab bn cb,.int .i64 pl,.bool src,.slice (some ⟨qb,qo,none⟩) qn qc,.pointer (some ⟨tr,0,none⟩),.map (some tb),.map (some mb)] 111)).alloc (.cells #[.int .i64 k,.int .i64 iv] 113)=W at *
 have hz0:=(Array.getElem?_eq_some_iff.1 H0.out).1
 have hz1:=(Array.getElem?_eq_some_iff.1 H1.out).1
 have l4:=fun x=>(look_at _ _ _ _ _ _ _ _ _ _ _ _ _ _ _ _ _ _ _ _ (((L5.grewTo_below W x).block _ hz0).trans H0.out)).1.2.2.2.2.1
 have y0:=fun x=>(two_at (((L5.grewTo_below W x).block _ hz1).trans H1.out)).1.1
 have y1:=fun x=>(two_at (((L5.grewTo_below W x).block _ hz1).trans H1.out)).1.2
 rcases hbk with ⟨rfl,hf⟩ | ⟨I,g,o,g2,o2,lb,ac,pop,hiv,rfl,hg,hkb,hc1,hIl,hlb,hg2,hc2,hf⟩
 ·have HFi:=hide hf
  clear hf
  refine L5.region_grew (by kernel_rfl) (by kernel_rfl) ?_
  repeat (go_big_quiet_step (fail))
  refine wpQuiet_nil ?_
  rintro _ ⟨x,rfl⟩
  clear l4 y0 y1
  have HX:=hide (below_step B0.out (L5.grewTo_below W x))
  have N0:=hide (((L5.grewTo_below W x).block _ hz0).trans H0.out)
  have N1:=hide (((L5.grewTo_below W x).block _ hz1).trans H1.out)
  clear B0 H0 H1 hz0 hz1
  obtain⟨w8,hw8⟩:∃w8:World,w8=L5.grewTo W x:=⟨_,rfl⟩
  rw [←hw8] at HX N0 N1 ⊢
  clear hw8
  have b9:=below_box w8 (.map #[] 0)
  have HU:=hide (UMap.made w8)
  have B9:=hide (below_step HX.out b9)
  have HM0:Hid (w.heap.size≤w8.heap.size):=hide HX.out.size
  have O0:=hide ((b9.block _ (Array.getElem?_eq_some_iff.1 N0.out).1).trans N0.out)
  have O1:=hide ((b9.block _ (Array.getElem?_eq_some_iff.1 N1.out).1).trans N1.out)
  have hmm:= @run_makeMap Tryz.prog
  go_upto_region 4 with fail
  show Code.wp _ _ _ _ (w8.alloc (.map #[] 0))
  generalize w8.alloc (.map #[] 0)=W9 at *
  generalize w8.heap.size=m9 at *
  clear hmm N0 N1 HX b9
  obtain⟨⟨_,_,_,_,_,_,_,c7,_,_,_⟩,_⟩:=look_at _ _ _ _ _ _ _ _ _ _ _ _ _ _ _ _ _ _ _ _ O0.out
  obtain⟨⟨z0,z1⟩,_,_⟩:=two_at O1.out
  have q1:=(B9.out.cell (p:=⟨qb,qo+k,none⟩) hqb).trans HQ.out
  go_wp2_with fail
  clear c7 z0 z1 q1 O0 O1
  go_loopw [41] (fun jv wr=>∃j:Nat,j≤pn'∧jv= .int .i64 j∧Hid (UMap wr m9 j j (fun a=>hasL (ps.take j) a))∧Hid (Below w.heap.size w wr)) (fun jv _=>pn' - (intOf jv).toNat)
  case atStart=>exact⟨0,Nat.zero_le _,rfl,hide (HU.out.congr fun _=>by simp [hasL]),B9⟩
  case round=>
   clear HU B9
   obtain⟨j,hj,rfl,HU,HB⟩:=hrel
   by_cases hjt:j < pn'
   ·have hjI:(j:Int) < pn':=by omega
    have hjp:j < ps.length:=by rw [hpne.out];exact hjt
    obtain⟨pg,pof,rfl,hpg,hpc⟩:=sl_at HP.out hjp
    have hc1:=(HB.out.cell (p:=⟨pg,pof+j,none⟩) hpg).trans hpc
    have HWf:=hide (hpw.out (ps.getD j 0) (by rw [List.getD_eq_getElem?_getD,List.getElem?_eq_getElem hjp];exact List.getElem_mem hjp))
    have HFr:=hide (take_fresh hps.out (j:=j) (m:=ps.getD j 0) (by rw [List.getD_eq_getElem?_getD,List.getElem?_eq_getElem hjp];rfl))
    have HCs:=hide (come_step hjp)
    obtain⟨pv,hpv⟩:∃pv,ps.getD j 0=pv:=⟨_,rfl⟩
    simp only [hpv] at hc1 HWf HFr HCs
    have hjm:j < maxLen:=by unfold maxLen;omega
    clear hpc hpv
    go_wp2_with (first | (at_mapUpdate;refine wpList_uput _ rfl _ _ _ rfl m9 j j _ rfl HU.out hjm pv HWf.out HFr.out rfl rfl ?_;intro w1 own1 grow1) | fail)
    go_roundw
    case rel=>exact⟨j+1,by omega,by go_num,hide (own1.congr HCs.out),hide (HB.out.trans (grown_below grow1 HB.out.size HM0.out))⟩
    case measure=>simp [intOf];omega
   ·obtain rfl:j=pn':=by omega
    have HU2:Hid (UMap wr m9 j j (fun a=>hasL ps a && !hasL (tt.take 0) a)):=hide (HU.out.congr fun a=>by rw [←hpne.out,List.take_length];simp [hasL])
    go_wp2_with fail
    go_loopw [51] (fun nv wr2=>∃n Z:Nat,n≤tn∧nv= .int .i64 n∧Z+n=j∧Hid (UMap wr2 m9 j Z (fun a=>hasL ps a && !hasL (tt.take n) a))∧Hid (Below w.heap.size w wr2)∧Hid (∀l,l < n→leftB ps tt l=true)) (fun nv _=>tn - (intOf nv).toNat)
    case atStart=>exact⟨0,j,Nat.zero_le _,rfl,rfl,HU2,HB,hide (fun l h=>absurd h (Nat.not_lt_zero _))⟩
    case round=>
     clear HU HU2 HB
     obtain⟨n,Z,hn,rfl,hZ,HU,HB,HL⟩:=hrel
     replace hZ:=hide hZ
     by_cases hnt:n < tn
     ·have hnI:(n:Int) < tn:=by omega
      have hnp:n < tt.length:=by rw [htne.out];exact hnt
      obtain⟨tg,tof,rfl,htg,htc⟩:=sl_at HT.out hnp
      have hc1:=(HB.out.cell (p:=⟨tg,tof+n,none⟩) htg).trans htc
      have HWf:=hide (htw.out (tt.getD n 0) (by rw [List.getD_eq_getElem?_getD,List.getElem?_eq_getElem hnp];exact List.getElem_mem hnp))
      have HLs:=hide (fun ps=>left_step (ps:=ps) hnp)
      have HLf:Hid (leftB ps tt n=(hasL ps (tt.getD n 0) && !hasL (tt.take n) (tt.getD n 0))):=hide rfl
      obtain⟨tv,htv⟩:∃tv,tt.getD n 0=tv:=⟨_,rfl⟩
      simp only [htv] at hc1 HWf HLs HLf
      clear htc htv
      have bE:=hide (below_box wr (.cells #[] 159))
      have HUe:=hide (HU.out.kept (below_grown bE.out none) (by simp))
      have HBe:=hide (below_step HB.out bE.out)
      cases hlf:leftB ps tt n with
      |true=>
       have HSx:Hid ((hasL ps tv && !hasL (tt.take n) tv)=true):=hide (by rw [←HLf.out,hlf])
       have HL2:Hid (∀l,l < n+1→leftB ps tt l=true):=hide (fun l hl=>by
        by_cases e:l=n
        ·subst e;exact hlf
        ·exact HL.out l (by omega))
       clear hlf bE
       go_wp2_with (first | (at_lookup;refine wpList_ulook _ rfl _ _ rfl m9 j Z _ rfl HU.out tv HWf.out rfl true HSx.out ?_) | (at_delete;refine wpList_udel _ rfl _ _ rfl m9 j Z _ rfl HUe.out tv HWf.out HSx.out rfl ?_;intro w1 Z1 hZ1 own1 grow1) | fail)
       go_roundw
       case rel=>exact⟨n+1,Z1,by omega,by go_num,by have:=hZ.out;omega,hide (own1.congr (HLs.out ps)),hide (HBe.out.trans (grown_below grow1 HBe.out.size HM0.out)),HL2⟩
       case measure=>simp [intOf];omega
      |false=>
       have HSx:Hid ((hasL ps tv && !hasL (tt.take n) tv)=false):=hide (by rw [←HLf.out,hlf])
       have HD:Hid (r=false):=hide (by
        rw [←HR.out]
        have:joinB ps tt=false:=by
         unfold joinB
         rw [Bool.and_eq_false_iff]
         left
         rw [List.all_eq_false]
         exact⟨n,List.mem_range.2 hnp,by rw [hlf];simp⟩
        rw [this,Bool.and_false])
       clear hlf bE
       go_wp2_with (first | (at_lookup;refine wpList_ulook _ rfl _ _ rfl m9 j Z _ rfl HU.out tv HWf.out rfl false HSx.out ?_) | fail)
       go_ret
       exact⟨by rw [HD.out];rfl,HBe.out⟩
     ·obtain rfl:n=tn:=by omega
      have HAl:Hid ((List.range tt.length).all (leftB ps tt)=true):=hide (by
       rw [List.all_eq_true]
       intro l hl
       rw [List.mem_range,htne.out] at hl
       exact HL.out l hl)
      by_cases hZ0:Z=0
      ·have HD:Hid (r=true):=hide (by
        rw [←HR.out,HFi.out,joinB,HAl.out,htne.out,hpne.out]
        have:=hZ.out
        simp;omega)
       have HUz:=hide HU.out
       subst hZ0
       go_wp2_with (first | (at_len;refine wpList_ulen _ rfl _ rfl m9 j 0 _ rfl HU.out ?_) | fail)
       go_ret
       exact⟨by rw [HD.out];rfl,HB.out⟩
      ·have HD:Hid (r=false):=hide (by
        rw [←HR.out,HFi.out,joinB,HAl.out,htne.out,hpne.out]
        have:=hZ.out
        simp;omega)
       have hb:=hide (show((Z:Int) == 0)=false by simpa using hZ0)
       have hZI:¬(Z:Int)=0:=by omega
       go_wp2_with (first | (at_len;refine wpList_ulen _ rfl _ rfl m9 j Z _ rfl HU.out ?_) | fail)
       go_ret
       exact⟨by rw [HD.out,←hb.out];rfl,HB.out⟩
 ·have d1:=fun x=>((below_step B0.out (L5.grewTo_below W x)).cell (p:=⟨g,o+k,none⟩) hg).trans hc1
  have d2:=fun x=>((below_step B0.out (L5.grewTo_below W x)).cell (p:=⟨g2,o2+I * 8,none⟩) hg2).trans hc2
  have hpos:(0:Int) < iv:=by omega
  have hwr:IntKind.i64.wrap (iv - 1)=(I:Int):=by
   rw [hiv,show(I:Int)+1 - 1=I by omega];exact IntWalk.i64_in _ ⟨by omega,by omega⟩
  have hkbI:(k:Int) < bn:=by omega
  have hIlI:(I:Int) < lb:=by omega
  replace hiv:=hide hiv
  clear hc1 hc2
  by_cases hpop:pop=20
  ·have HFi:Hid (first=true):=hide (by rw [hf];simp [hpop])
   subst hpop
   clear hf
   refine L5.region_grew (by kernel_rfl) (by kernel_rfl) ?_
   repeat (go_big_quiet_step (fail))
   refine wpQuiet_nil ?_
   rintro _ ⟨x,rfl⟩
   clear d1 d2
   clear l4 y0 y1
   have HX:=hide (below_step B0.out (L5.grewTo_below W x))
   have N0:=hide (((L5.grewTo_below W x).block _ hz0).trans H0.out)
   have N1:=hide (((L5.grewTo_below W x).block _ hz1).trans H1.out)
   clear B0 H0 H1 hz0 hz1
   obtain⟨w8,hw8⟩:∃w8:World,w8=L5.grewTo W x:=⟨_,rfl⟩
   rw [←hw8] at HX N0 N1 ⊢
   clear hw8
   have b9:=below_box w8 (.map #[] 0)
   have HU:=hide (UMap.made w8)
   have B9:=hide (below_step HX.out b9)
   have HM0:Hid (w.heap.size≤w8.heap.size):=hide HX.out.size
   have O0:=hide ((b9.block _ (Array.getElem?_eq_some_iff.1 N0.out).1).trans N0.out)
   have O1:=hide ((b9.block _ (Array.getElem?_eq_some_iff.1 N1.out).1).trans N1.out)
   have hmm:= @run_makeMap Tryz.prog
   go_upto_region 4 with fail
   show Code.wp _ _ _ _ (w8.alloc (.map #[] 0))
   generalize w8.alloc (.map #[] 0)=W9 at *
   generalize w8.heap.size=m9 at *
   clear hmm N0 N1 HX b9
   obtain⟨⟨_,_,_,_,_,_,_,c7,_,_,_⟩,_⟩:=look_at _ _ _ _ _ _ _ _ _ _ _ _ _ _ _ _ _ _ _ _ O0.out
   obtain⟨⟨z0,z1⟩,_,_⟩:=two_at O1.out
   have q1:=(B9.out.cell (p:=⟨qb,qo+k,none⟩) hqb).trans HQ.out
   go_wp2_with fail
   clear c7 z0 z1 q1 O0 O1
   go_loopw [41] (fun jv wr=>∃j:Nat,j≤pn'∧jv= .int .i64 j∧Hid (UMap wr m9 j j (fun a=>hasL (ps.take j) a))∧Hid (Below w.heap.size w wr)) (fun jv _=>pn' - (intOf jv).toNat)
   case atStart=>exact⟨0,Nat.zero_le _,rfl,hide (HU.out.congr fun _=>by simp [hasL]),B9⟩
   case round=>
    clear HU B9
    obtain⟨j,hj,rfl,HU,HB⟩:=hrel
    by_cases hjt:j < pn'
    ·have hjI:(j:Int) < pn':=by omega
     have hjp:j < ps.length:=by rw [hpne.out];exact hjt
     obtain⟨pg,pof,rfl,hpg,hpc⟩:=sl_at HP.out hjp
     have hc1:=(HB.out.cell (p:=⟨pg,pof+j,none⟩) hpg).trans hpc
     have HWf:=hide (hpw.out (ps.getD j 0) (by rw [List.getD_eq_getElem?_getD,List.getElem?_eq_getElem hjp];exact List.getElem_mem hjp))
     have HFr:=hide (take_fresh hps.out (j:=j) (m:=ps.getD j 0) (by rw [List.getD_eq_getElem?_getD,List.getElem?_eq_getElem hjp];rfl))
     have HCs:=hide (come_step hjp)
     obtain⟨pv,hpv⟩:∃pv,ps.getD j 0=pv:=⟨_,rfl⟩
     simp only [hpv] at hc1 HWf HFr HCs
     have hjm:j < maxLen:=by unfold maxLen;omega
     clear hpc hpv
     go_wp2_with (first | (at_mapUpdate;refine wpList_uput _ rfl _ _ _ rfl m9 j j _ rfl HU.out hjm pv HWf.out HFr.out rfl rfl ?_;intro w1 own1 grow1) | fail)
     go_roundw
     case rel=>exact⟨j+1,by omega,by go_num,hide (own1.congr HCs.out),hide (HB.out.trans (grown_below grow1 HB.out.size HM0.out))⟩
     case measure=>simp [intOf];omega
    ·obtain rfl:j=pn':=by omega
     have HU2:Hid (UMap wr m9 j j (fun a=>hasL ps a && !hasL (tt.take 0) a)):=hide (HU.out.congr fun a=>by rw [←hpne.out,List.take_length];simp [hasL])
     go_wp2_with fail
     go_loopw [51] (fun nv wr2=>∃n Z:Nat,n≤tn∧nv= .int .i64 n∧Z+n=j∧Hid (UMap wr2 m9 j Z (fun a=>hasL ps a && !hasL (tt.take n) a))∧Hid (Below w.heap.size w wr2)∧Hid (∀l,l < n→leftB ps tt l=true)) (fun nv _=>tn - (intOf nv).toNat)
     case atStart=>exact⟨0,j,Nat.zero_le _,rfl,rfl,HU2,HB,hide (fun l h=>absurd h (Nat.not_lt_zero _))⟩
     case round=>
      clear HU HU2 HB
      obtain⟨n,Z,hn,rfl,hZ,HU,HB,HL⟩:=hrel
      replace hZ:=hide hZ
      by_cases hnt:n < tn
      ·have hnI:(n:Int) < tn:=by omega
       have hnp:n < tt.length:=by rw [htne.out];exact hnt
       obtain⟨tg,tof,rfl,htg,htc⟩:=sl_at HT.out hnp
       have hc1:=(HB.out.cell (p:=⟨tg,tof+n,none⟩) htg).trans htc
       have HWf:=hide (htw.out (tt.getD n 0) (by rw [List.getD_eq_getElem?_getD,List.getElem?_eq_getElem hnp];exact List.getElem_mem hnp))
       have HLs:=hide (fun ps=>left_step (ps:=ps) hnp)
       have HLf:Hid (leftB ps tt n=(hasL ps (tt.getD n 0) && !hasL (tt.take n) (tt.getD n 0))):=hide rfl
       obtain⟨tv,htv⟩:∃tv,tt.getD n 0=tv:=⟨_,rfl⟩
       simp only [htv] at hc1 HWf HLs HLf
       clear htc htv
       have bE:=hide (below_box wr (.cells #[] 159))
       have HUe:=hide (HU.out.kept (below_grown bE.out none) (by simp))
       have HBe:=hide (below_step HB.out bE.out)
       cases hlf:leftB ps tt n with
       |true=>
        have HSx:Hid ((hasL ps tv && !hasL (tt.take n) tv)=true):=hide (by rw [←HLf.out,hlf])
        have HL2:Hid (∀l,l < n+1→leftB ps tt l=true):=hide (fun l hl=>by
         by_cases e:l=n
         ·subst e;exact hlf
         ·exact HL.out l (by omega))
        clear hlf bE
        go_wp2_with (first | (at_lookup;refine wpList_ulook _ rfl _ _ rfl m9 j Z _ rfl HU.out tv HWf.out rfl true HSx.out ?_) | (at_delete;refine wpList_udel _ rfl _ _ rfl m9 j Z _ rfl HUe.out tv HWf.out HSx.out rfl ?_;intro w1 Z1 hZ1 own1 grow1) | fail)
        go_roundw
        case rel=>exact⟨n+1,Z1,by omega,by go_num,by have:=hZ.out;omega,hide (own1.congr (HLs.out ps)),hide (HBe.out.trans (grown_below grow1 HBe.out.size HM0.out)),HL2⟩
        case measure=>simp [intOf];omega
       |false=>
        have HSx:Hid ((hasL ps tv && !hasL (tt.take n) tv)=false):=hide (by rw [←HLf.out,hlf])
        have HD:Hid (r=false):=hide (by
         rw [←HR.out]
         have:joinB ps tt=false:=by
          unfold joinB
          rw [Bool.and_eq_false_iff]
          left
          rw [List.all_eq_false]
          exact⟨n,List.mem_range.2 hnp,by rw [hlf];simp⟩
         rw [this,Bool.and_false])
        clear hlf bE
        go_wp2_with (first | (at_lookup;refine wpList_ulook _ rfl _ _ rfl m9 j Z _ rfl HU.out tv HWf.out rfl false HSx.out ?_) | fail)
        go_ret
        exact⟨by rw [HD.out];rfl,HBe.out⟩
      ·obtain rfl:n=tn:=by omega
       have HAl:Hid ((List.range tt.length).all (leftB ps tt)=true):=hide (by
        rw [List.all_eq_true]
        intro l hl
        rw [List.mem_range,htne.out] at hl
        exact HL.out l hl)
       by_cases hZ0:Z=0
       ·have HD:Hid (r=true):=hide (by
         rw [←HR.out,HFi.out,joinB,HAl.out,htne.out,hpne.out]
         have:=hZ.out
         simp;omega)
        have HUz:=hide HU.out
        subst hZ0
        go_wp2_with (first | (at_len;refine wpList_ulen _ rfl _ rfl m9 j 0 _ rfl HU.out ?_) | fail)
        go_ret
        exact⟨by rw [HD.out];rfl,HB.out⟩
       ·have HD:Hid (r=false):=hide (by
         rw [←HR.out,HFi.out,joinB,HAl.out,htne.out,hpne.out]
         have:=hZ.out
         simp;omega)
        have hb:=hide (show((Z:Int) == 0)=false by simpa using hZ0)
        have hZI:¬(Z:Int)=0:=by omega
        go_wp2_with (first | (at_len;refine wpList_ulen _ rfl _ rfl m9 j Z _ rfl HU.out ?_) | fail)
        go_ret
        exact⟨by rw [HD.out,←hb.out];rfl,HB.out⟩
  ·have HD:Hid (r=false):=hide (by rw [←HR.out,hf];simp [hpop])
   clear hf
   refine L5.region_grew (by kernel_rfl) (by kernel_rfl) ?_
   repeat (go_big_quiet_step (fail))
   refine wpQuiet_nil ?_
   rintro _ ⟨x,rfl⟩
   have HX:=hide (below_step B0.out (L5.grewTo_below W x))
   clear l4 y0 y1 d1 d2
   go_wp2_with fail
   go_ret
   exact⟨by rw [HD.out];rfl,HX.out⟩
end Go.Proofs.YtljkgcfnoegibaaGreatDoor
