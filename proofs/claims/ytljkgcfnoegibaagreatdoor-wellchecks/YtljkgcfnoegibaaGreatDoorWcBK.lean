/- Texts of one chain, joined. -/
import Derived.Test.YtljkgcfnoegibaaGreatDoorWcBA
import Derived.Test.YtljkgcfnoegibaaGreatDoorWcBJ
set_option maxHeartbeats 2000000
set_option maxRecDepth 20000
namespace Go.Proofs.YtljkgcfnoegibaaGreatDoor
open Go Go.RowKit
open G (Tok Er Ins Fun)
theorem ins_at {w:World} {b:Nat} {a0 a1 a2 a3 a4 a5 a6 a7:Value} {t:Nat} (h:w.heap[b]? =some (.cells #[a0,a1,a2,a3,a4,a5,a6,a7] t (0,0))):
  (w.cell? ⟨b,0,none⟩=some a0∧w.cell? ⟨b,1,none⟩=some a1∧w.cell? ⟨b,2,none⟩=some a2∧w.cell? ⟨b,3,none⟩=some a3∧w.cell? ⟨b,4,none⟩=some a4∧w.cell? ⟨b,5,none⟩=some a5∧w.cell? ⟨b,6,none⟩=some a6∧w.cell? ⟨b,7,none⟩=some a7)∧b < w.heap.size:=by
 refine⟨⟨?_,?_,?_,?_,?_,?_,?_,?_⟩,(Array.getElem?_eq_some_iff.1 h).1⟩ <;> simp [World.cell?,h]
theorem sl_at {w:World} {ao:Option Addr} {l:List Int} (h:Sl w ao l) {n:Nat} (hn:n < l.length):∃g o,ao=some ⟨g,o,none⟩∧g < w.heap.size∧w.cell? ⟨g,o+n,none⟩=some (.int .i64 (l.getD n 0)):=by
 rcases h with rfl | ⟨g,o,e,hg,h⟩
 ·simp at hn
 ·exact⟨g,o,e,hg,h n _ (by rw [List.getD_eq_getElem?_getD,List.getElem?_eq_getElem hn];rfl)⟩
def WantS (w:World) (p:List Fun) (f:Fun) (x:Ins) (u:Value):Prop:=∃so sc sl,u= .slice so (List.length sl) sc∧Sl w so sl∧∀n,n < x.2.2.2.2.1.length→sl[n]? =some (wantX p f x n)
theorem from_phi (po ap ab:Option Addr) (pn pc an cp bn cb:Nat) (nm:ByteArray) (rt pl:Int) (src:Bool) (qb qo qn qc tr tb mb:Nat) (op id nn ty xp:Int) (ar tt:List Int) (xn:ByteArray) (ao to:Option Addr) (ca ct:Nat) (a1 a2:Int) (n:Nat) (q:Int) (m:Nat) (w:World) (hn:n < tt.length) (ht:Sl w to tt) (hq:tt.getD n 0=q) (h0:0≤q) (hqb:q < bn)
  (hb:∀w',Below w.heap.size w w'→∃g o ao' c,ab=some ⟨g,o,none⟩∧w'.cell? ⟨g,o+q.toNat,none⟩=some (.slice ao' m c)) (h20:op=20):
  Calls Tryz.prog 103 #[.agg #[.slice po pn pc,.string nm,.slice ap an cp,.int .i64 rt,.slice ab bn cb,.int .i64 pl,.bool src,.slice (some ⟨qb,qo,none⟩) qn qc,.pointer (some ⟨tr,0,none⟩),.map (some tb),.map (some mb)],.agg #[.int .i64 a1,.int .i64 a2],.agg #[.int .i64 op,.int .i64 id,.int .i64 nn,.int .i64 ty,.slice ao ar.length ca,.slice to tt.length ct,.string xn,.int .i64 xp],.int .i64 n] w fun e w'=>e= .returned (.agg #[.int .i64 q,.int .i64 m])∧Below w.heap.size w w':=by
 subst h20
 obtain⟨b0,h0',h1,h2⟩:=box3 w (.cells #[.slice po pn pc,.string nm,.slice ap an cp,.int .i64 rt,.slice ab bn cb,.int .i64 pl,.bool src,.slice (some ⟨qb,qo,none⟩) qn qc,.pointer (some ⟨tr,0,none⟩),.map (some tb),.map (some mb)] 111) (.cells #[.int .i64 a1,.int .i64 a2] 113) (.cells #[.int .i64 20,.int .i64 id,.int .i64 nn,.int .i64 ty,.slice ao ar.length ca,.slice to tt.length ct,.string xn,.int .i64 xp] 47)
 have b3:=below_box (((w.alloc (.cells #[.slice po pn pc,.string nm,.slice ap an cp,.int .i64 rt,.slice ab bn cb,.int .i64 pl,.bool src,.slice (some ⟨qb,qo,none⟩) qn qc,.pointer (some ⟨tr,0,none⟩),.map (some tb),.map (some mb)] 111)).alloc (.cells #[.int .i64 a1,.int .i64 a2] 113)).alloc (.cells #[.int .i64 20,.int .i64 id,.int .i64 nn,.int .i64 ty,.slice ao ar.length ca,.slice to tt.length ct,.string xn,.int .i64 xp] 47)) (.cells #[.int .i64 0,.int .i64 0] 113)
 have h3:=heap_alloc_new (((w.alloc (.cells #[.slice po pn pc,.string nm,.slice ap an cp,.int .i64 rt,.slice ab bn cb,.int .i64 pl,.bool src,.slice (some ⟨qb,qo,none⟩) qn qc,.pointer (some ⟨tr,0,none⟩),.map (some tb),.map (some mb)] 111)).alloc (.cells #[.int .i64 a1,.int .i64 a2] 113)).alloc (.cells #[.int .i64 20,.int .i64 id,.int .i64 nn,.int .i64 ty,.slice ao ar.length ca,.slice to tt.length ct,.string xn,.int .i64 xp] 47)) (.cells #[.int .i64 0,.int .i64 0] 113)
 have hs:(((w.alloc (.cells #[.slice po pn pc,.string nm,.slice ap an cp,.int .i64 rt,.slice ab bn cb,.int .i64 pl,.bool src,.slice (some ⟨qb,qo,none⟩) qn qc,.pointer (some ⟨tr,0,none⟩),.map (some tb),.map (some mb)] 111)).alloc (.cells #[.int .i64 a1,.int .i64 a2] 113)).alloc (.cells #[.int .i64 20,.int .i64 id,.int .i64 nn,.int .i64 ty,.slice ao ar.length ca,.slice to tt.length ct,.string xn,.int .i64 xp] 47)).heap.size=w.heap.size+1+1+1:=by simp
 rw [hs] at h3
 have H0:=hide ((b3.block _ (by omega)).trans h0')
 have H2:=hide ((b3.block _ (by omega)).trans h2)
 have H3:=hide h3
 have B0:=hide (below_step b0 b3)
 clear b0 h0' h1 h2 b3 h3 hs
 obtain⟨g,o,rfl,hg,hc⟩:=sl_at ht hn
 rw [hq] at hc
 have hc2:=(B0.out.cell (p:=⟨g,o+n,none⟩) hg).trans hc
 obtain⟨g2,o2,ao',c2,rfl,hc3⟩:=hb _ B0.out
 obtain⟨Q,rfl⟩:∃Q:Nat,q=Q:=⟨q.toNat,by omega⟩
 rw [Int.toNat_natCast] at hc3
 have hnI:(n:Int) < tt.length:=by omega
 clear ht hc hb hq h0
 generalize ar.length=la at *
 generalize tt.length=lt at *
 go_enter Tryz.func103,Tryz.ntmps103
 go_upto_region 1 with fail
 show Code.wp _ _ _ _ ((((w.alloc (.cells #[.slice po pn pc,.string nm,.slice ap an cp,.int .i64 rt,.slice (some ⟨g2,o2,none⟩) bn cb,.int .i64 pl,.bool src,.slice (some ⟨qb,qo,none⟩) qn qc,.pointer (some ⟨tr,0,none⟩),.map (some tb),.map (some mb)] 111)).alloc (.cells #[.int .i64 a1,.int .i64 a2] 113)).alloc (.cells #[.int .i64 20,.int .i64 id,.int .i64 nn,.int .i64 ty,.slice ao la ca,.slice (some ⟨g,o,none⟩) lt ct,.string xn,.int .i64 xp] 47)).alloc (.cells #[.int .i64 0,.int .i64 0] 113))
 generalize (((w.alloc (.cells #[.slice po pn pc,.string nm,.slice ap an cp,.int .i64 rt,.slice (some ⟨g2,o2,none⟩) bn cb,.int .i64 pl,.bool src,.slice (some ⟨qb,qo,none⟩) qn qc,.pointer (some ⟨tr,0,none⟩),.map (some tb),.map (some mb)] 111)).alloc (.cells #[.int .i64 a1,.int .i64 a2] 113)).alloc (.cells #[.int .i64 20,.int .i64 id,.int .i64 nn,.int .i64 ty,.slice ao la ca,.slice (some ⟨g,o,none⟩) lt ct,.string xn,.int .i64 xp] 47)).alloc (.cells #[.int .i64 0,.int .i64 0] 113)=W at *
 obtain⟨⟨c0,c1,_,c3,c4,c5,_,_,_,_,_⟩,_⟩:=look_at _ _ _ _ _ _ _ _ _ _ _ _ _ _ _ _ _ _ _ _ H0.out
 obtain⟨⟨x0,_,_,_,_,x5,_,_⟩,_⟩:=ins_at H2.out
 obtain⟨⟨z0,z1⟩,⟨f0,f1⟩,_⟩:=two_at H3.out
 have HE:Hid (Below w.heap.size w ((W.setCell ⟨w.heap.size+1+1+1,0,none⟩ (.int .i64 Q)).setCell ⟨w.heap.size+1+1+1,1,none⟩ (.int .i64 m))):=hide (by
  have hle:w.heap.size≤w.heap.size+1+1+1:=by omega
  exact((B0.out.setCell (p:=⟨w.heap.size+1+1+1,0,none⟩) hle _).setCell (p:=⟨w.heap.size+1+1+1,1,none⟩) hle _))
 go_wp2_with fail
 exact bodyPost_ret (v:= .agg #[.int .i64 Q,.int .i64 m]) (by simp [results,Tryz.results103,go_sem,z0,z1]) rfl ⟨rfl,HE.out⟩
theorem answered_any (po ap ab:Option Addr) (pn pc an cp bn cb:Nat) (nm:ByteArray) (rt pl:Int) (src:Bool) (qb qo qn qc tr tb mb:Nat) (op id nn ty xp:Int) (ar tt:List Int) (xn:ByteArray) (ao to:Option Addr) (ca ct:Nat) (w:World) (hl:ar.length≤1) (c:Int) (hc:c=if(decide (rt=0) != decide (ar.length=0))=true then 13 else 0):
  Calls Tryz.prog 129 #[.agg #[.slice po pn pc,.string nm,.slice ap an cp,.int .i64 rt,.slice ab bn cb,.int .i64 pl,.bool src,.slice (some ⟨qb,qo,none⟩) qn qc,.pointer (some ⟨tr,0,none⟩),.map (some tb),.map (some mb)],.agg #[.int .i64 op,.int .i64 id,.int .i64 nn,.int .i64 ty,.slice ao ar.length ca,.slice to tt.length ct,.string xn,.int .i64 xp]] w fun e w'=>(∃u,e= .returned (.tuple #[u,.int .i64 c])∧(c=0→∃so sc sl,u= .slice so (List.length sl) sc∧Sl w' so sl∧∀n,n < ar.length→sl[n]? =some rt))∧Below w.heap.size w w':=by
 obtain⟨b0,h0,h1⟩:=box2 w (.cells #[.slice po pn pc,.string nm,.slice ap an cp,.int .i64 rt,.slice ab bn cb,.int .i64 pl,.bool src,.slice (some ⟨qb,qo,none⟩) qn qc,.pointer (some ⟨tr,0,none⟩),.map (some tb),.map (some mb)] 111) (.cells #[.int .i64 op,.int .i64 id,.int .i64 nn,.int .i64 ty,.slice ao ar.length ca,.slice to tt.length ct,.string xn,.int .i64 xp] 47)
 have H0:=hide h0
 have H1:=hide h1
 have B0:=hide b0
 clear b0 h0 h1
 generalize hla:ar.length=la at *
 generalize tt.length=lt at *
 clear hla
 have HC:=hide hc
 clear hc
 go_enter Tryz.func129,Tryz.ntmps129
 go_upto_region 2 with fail
 show Code.wp _ _ _ _ ((w.alloc (.cells #[.slice po pn pc,.string nm,.slice ap an cp,.int .i64 rt,.slice ab bn cb,.int .i64 pl,.bool src,.slice (some ⟨qb,qo,none⟩) qn qc,.pointer (some ⟨tr,0,none⟩),.map (some tb),.map (some mb)] 111)).alloc (.cells #[.int .i64 op,.int .i64 id,.int .i64 nn,.int .i64 ty,.slice ao la ca,.slice to lt ct,.string xn,.int .i64 xp] 47))
 generalize (w.alloc (.cells #[.slice po pn pc,.string nm,.slice ap an cp,.int .i64 rt,.slice ab bn cb,.int .i64 pl,.bool src,.slice (some ⟨qb,qo,none⟩) qn qc,.pointer (some ⟨tr,0,none⟩),.map (some tb),.map (some mb)] 111)).alloc (.cells #[.int .i64 op,.int .i64 id,.int .i64 nn,.int .i64 ty,.slice ao la ca,.slice to lt ct,.string xn,.int .i64 xp] 47)=W at *
 obtain⟨⟨c0,c1,c2,c3,c4,c5,_,_,_,_,_⟩,_⟩:=look_at _ _ _ _ _ _ _ _ _ _ _ _ _ _ _ _ _ _ _ _ H0.out
 obtain⟨⟨_,_,_,_,x4,_,_,_⟩,_⟩:=ins_at H1.out
 rcases(show la=0∨la=1 by omega)with rfl | rfl
 ·by_cases hr:rt=0
  ·have HD:Hid (c=0):=hide (by rw [HC.out,hr];rfl)
   have HP:Hid (c=0→∃so sc sl,Value.slice none 0 0= .slice so (List.length sl) sc∧Sl W so sl∧∀n,n < 0→sl[n]? =some rt):=hide (fun _=>⟨none,0,[],rfl,.inl rfl,fun n hn=>by omega⟩)
   subst hr
   clear HC
   go_wp2_with fail
   go_ret2
   exact⟨⟨_,by rw [HD.out];rfl,HP.out⟩,B0.out⟩
  ·have HD:Hid (c=13):=hide (by rw [HC.out];simp [hr])
   have HB:=hide (below_step B0.out (below_box W (.cells #[.int .i64 rt] 3)))
   clear HC
   go_wp2_with fail
   go_ret2
   exact⟨⟨_,by rw [HD.out];rfl,fun h=>by rw [HD.out] at h;cases h⟩,HB.out⟩
 ·by_cases hr:rt=0
  ·have HD:Hid (c=13):=hide (by rw [HC.out];simp [hr])
   subst hr
   clear HC
   go_wp2_with fail
   go_ret2
   exact⟨⟨_,by rw [HD.out];rfl,fun h=>by rw [HD.out] at h;cases h⟩,B0.out⟩
  ·have HD:Hid (c=0):=hide (by rw [HC.out];simp [hr])
   have b2:=below_box W (.cells #[.int .i64 rt] 3)
   have HB:=hide (below_step B0.out b2)
   have HS:Hid (Sl (W.alloc (.cells #[.int .i64 rt] 3)) (some ⟨W.heap.size,0,none⟩) [rt]):=hide (.inr ⟨W.heap.size,0,rfl,by simp,fun i n hi=>by
    match i,hi with
    |0,hi=>
     simp at hi
     subst hi
     exact(one_at (heap_alloc_new W (.cells #[.int .i64 rt] 3))).1⟩)
   clear b2 HC
   go_wp2_with fail
   go_ret2
   refine⟨⟨_,by rw [HD.out];rfl,fun _=>⟨some ⟨W.heap.size,0,none⟩,1,[rt],rfl,HS.out,fun n hn=> ?_⟩⟩,HB.out⟩
   have:n=0:=by omega
   subst this
   rfl
def Chg (B:Nat) (w w':World):Prop:=Below B w w'∧∀(i:Nat) (a:Array Value) (t:TypeId) (z:Nat × Nat),w.heap[i]? =some (Obj.cells a t z)→w'.heap[i]? =some (Obj.cells a t z)
theorem Chg.of_below {B:Nat} {w w':World} (h:Below w.heap.size w w') (hB:B≤w.heap.size):Chg B w w':=
 ⟨⟨h.os,h.tape,h.output,h.size,fun i hi=>h.block i (by omega)⟩,fun i a t z hi=>(h.block i (Array.getElem?_eq_some_iff.1 hi).1).trans hi⟩
theorem Chg.trans {B:Nat} {w w1 w2:World} (h:Chg B w w1) (k:Chg B w1 w2):Chg B w w2:=⟨h.1.trans k.1,fun i a t z hi=>k.2 i a t z (h.2 i a t z hi)⟩
theorem Chg.of_grown {B b:Nat} {w w':World} (h:w.grownBy w' (some b)) (hm:∃es c,w.heap[b]? =some (.map es c)) (hB:B≤w.heap.size) (hb:B≤b):Chg B w w':=
 ⟨grown_below h hB hb,fun i a t z hi=>(h.block i (Array.getElem?_eq_some_iff.1 hi).1 (by
  intro e
  injection e with e
  subst e
  obtain⟨es,c,hm⟩:=hm
  rw [hm] at hi
  cases hi)).trans hi⟩
theorem cell_cells {w:World} {a:Addr} {v:Value} (h:w.cell? a=some v):∃x t z,w.heap[a.block]? =some (.cells x t z):=by
 unfold World.cell? at h
 split at h
 ·rename_i x t z hx
  exact⟨_,_,_,hx⟩
 ·cases h
theorem Chg.cell {B:Nat} {w w':World} (h:Chg B w w') {a:Addr} {v:Value} (hc:w.cell? a=some v):w'.cell? a=some v:=by
 obtain⟨x,t,z,hx⟩:=cell_cells hc
 have:=h.2 _ _ _ _ hx
 unfold World.cell? at hc ⊢
 rw [this]
 rw [hx] at hc
 exact hc
def eachO (f:Fun) (c:Nat→Nat→Int):Option (Int × Int):=fstN (fun k=>fstN (fun i=>atC (c k i) (insN f k i).2.2.2.2.2.2.2) (blkN f k).length) f.2.2.2.1.length
def eachR (f:Fun) (c:Nat→Nat→Int):Int × Int:=(eachO f c).getD (0,0)
theorem each_none {f:Fun} {c:Nat→Nat→Int} (h:∀k,k < f.2.2.2.1.length→∀i,i < (blkN f k).length→c k i=0):eachR f c=(0,0):=by
 unfold eachR eachO
 rw [fstN_none]
 ·rfl
 ·intro k hk
  apply fstN_none
  intro i hi
  simp [atC,h k hk i hi]
theorem each_some {f:Fun} {c:Nat→Nat→Int} {K I:Nat} (h:∀k,k < K→∀i,i < (blkN f k).length→c k i=0) (hr:∀i,i < I→c K i=0) (hK:K < f.2.2.2.1.length) (hI:I < (blkN f K).length) (hc:c K I≠0):eachR f c=(c K I,(insN f K I).2.2.2.2.2.2.2):=by
 unfold eachR eachO
 have e1:fstN (fun i=>atC (c K i) (insN f K i).2.2.2.2.2.2.2) (blkN f K).length=some (c K I,(insN f K I).2.2.2.2.2.2.2):=by
  refine fstN_some (K:=I) (fun i hi=> ?_) hI ?_
  ·simp [atC,hr i hi]
  ·simp [atC,hc]
 have e2:fstN (fun k=>fstN (fun i=>atC (c k i) (insN f k i).2.2.2.2.2.2.2) (blkN f k).length) f.2.2.2.1.length=some (c K I,(insN f K I).2.2.2.2.2.2.2):=fstN_some (K:=K) (fun k hk=>fstN_none fun i hi=>by simp [atC,h k hk i hi]) hK e1
 rw [e2]
 rfl
theorem grown_set (w:World) (a:Addr) (u:Value):w.grownBy (w.setCell a u) (some a.block):=by
 have b:=(Below.refl 0 w).setCell (p:=a) (Nat.zero_le _) u
 exact⟨b.os,b.tape,b.output,b.size,fun i _ hi=>Below.heap_setCell w a u i (fun e=>hi (by rw [e]))⟩
theorem passed11_any (po ap ab:Option Addr) (pn pc an cp bn cb:Nat) (nm:ByteArray) (rt pl:Int) (src:Bool) (qb qo qn qc tr tb mb:Nat) (op id nn ty xp:Int) (ar tt:List Int) (xn:ByteArray) (ao to:Option Addr) (ca ct:Nat) (p:List Fun) (xm:List UInt8) (w:World) (hp:ProgR w p (.slice po pn pc)) (hpn:pn=p.length) (hl:p.length≤1000000) (hxn:xn=bs xm) (c:Int)
  (hc:c=match findF p xm with
   |none=>12
   |some g=>if g.2.2.1≠ty then 9 else if g.2.1.length≠ar.length then 13 else 0):
  Calls Tryz.prog 128 #[.agg #[.slice po pn pc,.string nm,.slice ap an cp,.int .i64 rt,.slice ab bn cb,.int .i64 pl,.bool src,.slice (some ⟨qb,qo,none⟩) qn qc,.pointer (some ⟨tr,0,none⟩),.map (some tb),.map (some mb)],.agg #[.int .i64 op,.int .i64 id,.int .i64 nn,.int .i64 ty,.slice ao ar.length ca,.slice to tt.length ct,.string xn,.int .i64 xp]] w fun e w'=>(∃u,e= .returned (.tuple #[u,.int .i64 c])∧(c=0→∃so sc sl,u= .slice so (List.length sl) sc∧Sl w' so sl∧sl=((findF p xm).getD fun0).2.1∧sl.length=ar.length))∧Below w.heap.size w w':=by
 obtain⟨b0,h0,h1⟩:=box2 w (.cells #[.slice po pn pc,.string nm,.slice ap an cp,.int .i64 rt,.slice ab bn cb,.int .i64 pl,.bool src,.slice (some ⟨qb,qo,none⟩) qn qc,.pointer (some ⟨tr,0,none⟩),.map (some tb),.map (some mb)] 111) (.cells #[.int .i64 op,.int .i64 id,.int .i64 nn,.int .i64 ty,.slice ao ar.length ca,.slice to tt.length ct,.string xn,.int .i64 xp] 47)
 have H0:=hide h0
 have H1:=hide h1
 have B0:=hide b0
 have HP:=hide (hp.below b0)
 have HC:=hide hc
 clear b0 h0 h1 hp hc
 have HSt:Hid (∀w',ProgR w' p (.slice po pn pc)→Calls Tryz.prog 27 #[.slice po pn pc,.string xn] w' fun e w''=>e= .returned (.int .i64 (stdI p xm))∧Below w'.heap.size w' w''):=hide (fun w' h=>by
  subst hpn hxn
  exact stands_any11 p xm po pc w' h hl)
 replace hpn:=hide hpn
 replace hxn:=hide hxn
 generalize hla:ar.length=la at *
 generalize tt.length=lt at *
 clear hla
 go_enter Tryz.func128,Tryz.ntmps128
 go_upto_region 1 with fail
 show Code.wp _ _ _ _ ((w.alloc (.cells #[.slice po pn pc,.string nm,.slice ap an cp,.int .i64 rt,.slice ab bn cb,.int .i64 pl,.bool src,.slice (some ⟨qb,qo,none⟩) qn qc,.pointer (some ⟨tr,0,none⟩),.map (some tb),.map (some mb)] 111)).alloc (.cells #[.int .i64 op,.int .i64 id,.int .i64 nn,.int .i64 ty,.slice ao la ca,.slice to lt ct,.string xn,.int .i64 xp] 47))
 generalize (w.alloc (.cells #[.slice po pn pc,.string nm,.slice ap an cp,.int .i64 rt,.slice ab bn cb,.int .i64 pl,.bool src,.slice (some ⟨qb,qo,none⟩) qn qc,.pointer (some ⟨tr,0,none⟩),.map (some tb),.map (some mb)] 111)).alloc (.cells #[.int .i64 op,.int .i64 id,.int .i64 nn,.int .i64 ty,.slice ao la ca,.slice to lt ct,.string xn,.int .i64 xp] 47)=W at *
 obtain⟨⟨c0,c1,c2,c3,c4,c5,_,_,_,_,_⟩,hz0⟩:=look_at _ _ _ _ _ _ _ _ _ _ _ _ _ _ _ _ _ _ _ _ H0.out
 obtain⟨⟨x0,x1,x2,x3,x4,x5,x6,x7⟩,hz1⟩:=ins_at H1.out
 go_wp2_with fail
 refine(HSt.out _ HP.out).mono ?_;rintro e w1 ⟨rfl,b1⟩
 have HP1:=hide (HP.out.below b1)
 have B1:=hide (below_step B0.out b1)
 have K0:=hide ((b1.block _ hz0).trans H0.out)
 have K1:=hide ((b1.block _ hz1).trans H1.out)
 clear b1 c0 c1 c2 c3 c4 c5 x0 x1 x2 x3 x4 x5 x6 x7 H0 H1
 obtain⟨⟨c0,c1,c2,c3,c4,c5,_,_,_,_,_⟩,hz0⟩:=look_at _ _ _ _ _ _ _ _ _ _ _ _ _ _ _ _ _ _ _ _ K0.out
 obtain⟨⟨x0,x1,x2,x3,x4,x5,x6,x7⟩,hz1⟩:=ins_at K1.out
 have HFs:=hide (find_std p xm)
 obtain⟨so,hso⟩:∃so,stdI p xm=so:=⟨_,rfl⟩
 rw [hso]
 cases hst:stdO p xm with
 |none=>
  have e1:so= -1:=by rw [←hso,stdI,hst]
  have HD:Hid (c=12):=hide (by rw [HC.out,HFs.out,hst];rfl)
  subst e1
  clear hso hst HC HFs
  go_wp2_with fail
  go_ret2
  exact⟨⟨_,by rw [HD.out];rfl,fun h=>by rw [HD.out] at h;cases h⟩,B1.out⟩
 |some k=>
  have e1:so=(k:Int):=by rw [←hso,stdI,hst]
  have hkp:=std_lt hst
  have HG:Hid (findF p xm=some (funN p k)):=hide (by rw [HFs.out,hst];rfl)
  subst e1
  have hkn:(k:Int) < pn:=by rw [hpn.out];omega
  obtain⟨g,o,rfl,hfr⟩:=prog_fun HP1.out hkp
  obtain⟨fa,fb,fc,fd,hfv,d0,d1,d2,d3,d4⟩:=hfr.val
  have HFv:=hide hfv
  obtain⟨f,hf⟩:∃f,funN p k=f:=⟨_,rfl⟩
  rw [hf] at d0 d1 d2 d3 d4 HFv HG
  clear hfv hfr hf hso hst HFs
  have HC2:Hid (c=if f.2.2.1≠ty then 9 else if f.2.1.length≠la then 13 else 0):=hide (by rw [HC.out,HG.out])
  clear HC
  have hkm:¬(k:Int)= -1:=by omega
  have b2:=below_box w1 (.cells #[.string (bs f.1),.slice fa f.2.1.length fc,.int .i64 f.2.2.1,.slice fb f.2.2.2.1.length fd,.int .i64 f.2.2.2.2] 36)
  have F2:=hide (heap_alloc_new w1 (.cells #[.string (bs f.1),.slice fa f.2.1.length fc,.int .i64 f.2.2.1,.slice fb f.2.2.2.1.length fd,.int .i64 f.2.2.2.2] 36))
  have B2:=hide (below_step B1.out b2)
  have N1:=hide ((b2.block _ hz1).trans K1.out)
  have HSl:Hid (Sl (w1.alloc (.cells #[.string (bs f.1),.slice fa f.2.1.length fc,.int .i64 f.2.2.1,.slice fb f.2.2.2.1.length fd,.int .i64 f.2.2.2.2] 36)) fa f.2.1):=hide (by
   obtain⟨vp,vb,e,⟨ao',c',e2,hs,_⟩,_⟩:=HFv.out.below b2
   simp only [Value.agg.injEq,Array.mk.injEq,List.cons.injEq] at e
   obtain⟨_,e3,_⟩:=e
   rw [e2] at e3
   injection e3 with e3
   subst e3
   exact hs)
  generalize f.2.2.1=frt at *
  obtain⟨fl,hfl⟩:∃fl,f.2.1.length=fl:=⟨_,rfl⟩
  rw [hfl] at d1 HC2 F2 B2 N1 HSl
  replace hfl:=hide hfl
  generalize f.2.2.2.1.length=fbl at *
  clear b2
  go_upto_region 5 with fail
  generalize hB:bs f.1=fnm at *
  clear hB
  show Code.wp _ _ _ _ (w1.alloc (.cells #[.string fnm,.slice fa fl fc,.int .i64 frt,.slice fb fbl fd,.int .i64 f.2.2.2.2] 36))
  generalize w1.alloc (.cells #[.string fnm,.slice fa fl fc,.int .i64 frt,.slice fb fbl fd,.int .i64 f.2.2.2.2] 36)=w2 at *
  generalize w1.heap.size=q1 at *
  clear d0 d1 d2 d3 d4 c0 c1 c2 c3 c4 c5 x0 x1 x2 x3 x4 x5 x6 x7
  obtain⟨⟨z0,z1,z2,z3,z4⟩,_,_⟩:=five_at F2.out
  obtain⟨⟨x0,x1,x2,x3,x4,x5,x6,x7⟩,_⟩:=ins_at N1.out
  by_cases ht:ty=frt
  ·subst ht
   by_cases hln:la=fl
   ·subst hln
    have HD:Hid (c=0):=hide (by rw [HC2.out];simp)
    have HU:Hid (∃so' sc sl,Value.slice fa la fc= .slice so' (List.length sl) sc∧Sl w2 so' sl∧sl=((findF p xm).getD fun0).2.1∧sl.length=la):=hide ⟨fa,fc,f.2.1,by rw [hfl.out],HSl.out,by rw [HG.out];rfl,hfl.out⟩
    clear HC2
    go_wp2_with fail
    go_ret2
    exact⟨⟨_,by rw [HD.out];rfl,fun _=>HU.out⟩,B2.out⟩
   ·have hlnI:¬(la:Int)=fl:=by omega
    have HD:Hid (c=13):=hide (by rw [HC2.out];simp;omega)
    clear HC2
    go_wp2_with fail
    go_ret2
    exact⟨⟨_,by rw [HD.out];rfl,fun h=>by rw [HD.out] at h;cases h⟩,B2.out⟩
  ·have HD:Hid (c=9):=hide (by rw [HC2.out,if_pos (fun e=>ht e.symm)])
   clear HC2
   go_wp2_with fail
   go_ret2
   exact⟨⟨_,by rw [HD.out];rfl,fun h=>by rw [HD.out] at h;cases h⟩,B2.out⟩
theorem head_ret {p:List Fun} {f:Fun} {x:Ins} (h:x.1=28):headX p f x=if(decide (f.2.2.1=0) != decide (x.2.2.2.2.1.length=0))=true then 13 else 0:=by
 unfold headX
 rw [h]
 simp
theorem head_call {p:List Fun} {f:Fun} {x:Ins} (h:x.1=21):headX p f x=match findF p x.2.2.2.2.2.2.1 with
   |none=>12
   |some g=>if g.2.2.1≠x.2.2.2.1 then 9 else if g.2.1.length≠x.2.2.2.2.1.length then 13 else 0:=by
 unfold headX
 rw [h]
 cases findF p x.2.2.2.2.2.2.1 <;> simp
theorem head_none {p:List Fun} {f:Fun} {x:Ins} (h1:x.1≠28) (h2:x.1≠21):headX p f x=0:=by
 unfold headX
 simp [h1,h2]
theorem sli_sl {w:World} {ao:Option Addr} {l:List Int} (h:L5.SlI w ao l):Sl w ao l:=by
 rcases h with h | ⟨b,e,hb,h⟩
 ·exact .inl h
 ·exact .inr ⟨b,0,e,hb,fun i n hi=>by
   have hl:=(List.getElem?_eq_some_iff.1 hi).1
   have e2:n=L5.nth l i:=by unfold L5.nth;rw [List.getD_eq_getElem?_getD,hi];rfl
   rw [Nat.zero_add,e2]
   exact h i hl⟩
theorem row_sl {w:World} {B g n:Nat} {l:List Int} (h:RowAt w B 3 g n (ints l)):Sl w (some ⟨g,0,none⟩) l:=by
 by_cases h0:l= []
 ·exact .inl h0
 ·refine .inr ⟨g,0,rfl,?_,fun i m hi=> ?_⟩
  ·exact(Array.getElem?_eq_some_iff.1 (rowAt_heap h)).1
  ·have:=h.cell (j:=i) (u:= .int .i64 m) (ints_at hi)
   simpa using this
theorem wanted_any (po ap ab:Option Addr) (pn pc an cp bn cb:Nat) (nm:ByteArray) (rt pl:Int) (src:Bool) (qb qo qn qc tr tb mb:Nat) (op id nn ty xp:Int) (ar tt:List Int) (xn:ByteArray) (ao to:Option Addr) (ca ct:Nat) (p:List Fun) (f:Fun) (xm:List UInt8) (w:World) (hp:ProgR w p (.slice po pn pc)) (hpn:pn=p.length) (hl:p.length≤1000000) (hxn:xn=bs xm) (hrt:rt=f.2.2.1) (hT:L5.Tab w)
  (x:Ins) (hx:x=(op,id,nn,ty,ar,tt,xm,xp)) (hlen:ar.length≤1000000) (hck:checkC x=0):
  Calls Tryz.prog 101 #[.agg #[.slice po pn pc,.string nm,.slice ap an cp,.int .i64 rt,.slice ab bn cb,.int .i64 pl,.bool src,.slice (some ⟨qb,qo,none⟩) qn qc,.pointer (some ⟨tr,0,none⟩),.map (some tb),.map (some mb)],.agg #[.int .i64 op,.int .i64 id,.int .i64 nn,.int .i64 ty,.slice ao ar.length ca,.slice to tt.length ct,.string xn,.int .i64 xp]] w fun e w'=>(∃u,e= .returned (.tuple #[u,.int .i64 (headX p f x)])∧(headX p f x=0→WantS w' p f x u))∧Below w.heap.size w w':=by
 have hx1:x.1=op:=by rw [hx]
 have hxa:x.2.2.2.2.1=ar:=by rw [hx]
 have hxt:x.2.2.2.1=ty:=by rw [hx]
 have hxm:x.2.2.2.2.2.2.1=xm:=by rw [hx]
 have hcnt:=check_cnt hck
 rw [hx1,hxa] at hcnt
 obtain⟨b0,h0,h1⟩:=box2 w (.cells #[.slice po pn pc,.string nm,.slice ap an cp,.int .i64 rt,.slice ab bn cb,.int .i64 pl,.bool src,.slice (some ⟨qb,qo,none⟩) qn qc,.pointer (some ⟨tr,0,none⟩),.map (some tb),.map (some mb)] 111) (.cells #[.int .i64 op,.int .i64 id,.int .i64 nn,.int .i64 ty,.slice ao ar.length ca,.slice to tt.length ct,.string xn,.int .i64 xp] 47)
 have H0:=hide h0
 have H1:=hide h1
 have B0:=hide b0
 have HP:=hide (hp.below b0)
 have HT:=hide (hT.below b0)
 have CP:=hide (fun w' h c hc=>passed11_any po ap ab pn pc an cp bn cb nm rt pl src qb qo qn qc tr tb mb op id nn ty xp ar tt xn ao to ca ct p xm w' h hpn hl hxn c hc)
 have CA:=hide (fun w' h c hc=>answered_any po ap ab pn pc an cp bn cb nm rt pl src qb qo qn qc tr tb mb op id nn ty xp ar tt xn ao to ca ct w' h c hc)
 have CR:=hide (fun(y:Int) (g0:Nat) (w':World) h0 hg hx=>repeatY_any y ar.length g0 h0 hlen w' hg hx)
 have HWi:=hide (fun n (hh:headX p f x=0) (hn:n < x.2.2.2.2.1.length)=>want_in (n:=n) hck hh hn)
 have HXX:Hid (x.1=op∧x.2.2.2.2.1=ar∧x.2.2.2.1=ty∧x.2.2.2.2.2.2.1=xm):=hide ⟨hx1,hxa,hxt,hxm⟩
 have HCn:=hide hcnt
 clear b0 h0 h1 hp hT hx1 hxa hxt hxm hcnt hck hx
 replace hpn:=hide hpn
 replace hxn:=hide hxn
 replace hrt:=hide hrt
 obtain⟨c,hcc⟩:∃c,headX p f x=c:=⟨_,rfl⟩
 rw [hcc] at HWi ⊢
 have HCc:=hide hcc
 clear hcc
 obtain⟨la,hla⟩:∃la,ar.length=la:=⟨_,rfl⟩
 obtain⟨lt,hlt⟩:∃lt,tt.length=lt:=⟨_,rfl⟩
 rw [hla,hlt] at CP CA H0 H1 B0 HP HT
 rw [hla] at CR HCn hlen ⊢
 rw [hlt]
 replace hla:=hide hla
 replace hlt:=hide hlt
 go_enter Tryz.func101,Tryz.ntmps101
 go_upto_region 1 with fail
 show Code.wp _ _ _ _ ((w.alloc (.cells #[.slice po pn pc,.string nm,.slice ap an cp,.int .i64 rt,.slice ab bn cb,.int .i64 pl,.bool src,.slice (some ⟨qb,qo,none⟩) qn qc,.pointer (some ⟨tr,0,none⟩),.map (some tb),.map (some mb)] 111)).alloc (.cells #[.int .i64 op,.int .i64 id,.int .i64 nn,.int .i64 ty,.slice ao la ca,.slice to lt ct,.string xn,.int .i64 xp] 47))
 generalize (w.alloc (.cells #[.slice po pn pc,.string nm,.slice ap an cp,.int .i64 rt,.slice ab bn cb,.int .i64 pl,.bool src,.slice (some ⟨qb,qo,none⟩) qn qc,.pointer (some ⟨tr,0,none⟩),.map (some tb),.map (some mb)] 111)).alloc (.cells #[.int .i64 op,.int .i64 id,.int .i64 nn,.int .i64 ty,.slice ao la ca,.slice to lt ct,.string xn,.int .i64 xp] 47)=W at *
 obtain⟨⟨c0,c1,c2,c3,c4,c5,c6,c7,c8,c9,c10⟩,hz0⟩:=look_at _ _ _ _ _ _ _ _ _ _ _ _ _ _ _ _ _ _ _ _ H0.out
 obtain⟨⟨x0,x1,x2,x3,x4,x5,x6,x7⟩,hz1⟩:=ins_at H1.out
 by_cases h21:op=21
 ·have HD:Hid (c=match findF p xm with
   |none=>12
   |some g=>if g.2.2.1≠ty then 9 else if g.2.1.length≠la then 13 else 0):=hide (by
    obtain⟨e1,e2,e3,e4⟩:=HXX.out
    rw [←HCc.out,head_call (by rw [e1,h21]),e2,e3,e4,hla.out])
  have HWt:Hid (∀n,n < la→x.1=21∧x.2.2.2.2.1.length=la∧wantX p f x n=((findF p xm).getD fun0).2.1.getD n 0):=hide (fun n _=>by
    obtain⟨e1,e2,e3,e4⟩:=HXX.out
    refine⟨by rw [e1,h21],by rw [e2,hla.out],?_⟩
    unfold wantX
    rw [e1,h21,e4]
    simp)
  have HXl:Hid (x.2.2.2.2.1.length=la):=hide (by rw [HXX.out.2.1,hla.out])
  subst h21
  clear HXX HCn CA CR HWi
  go_wp2_with fail
  refine(CP.out _ HP.out c HD.out).mono ?_;rintro e w1 ⟨⟨u,rfl,hu⟩,b1⟩
  have HU:=hide hu
  have B1:=hide (below_step B0.out b1)
  clear hu b1 CP
  go_wp2_with fail
  go_ret2
  refine⟨⟨_,rfl,fun h=> ?_⟩,B1.out⟩
  obtain⟨so,sc,sl,e1,e2,e3,e4⟩:=HU.out h
  refine⟨so,sc,sl,e1,e2,fun n hn=> ?_⟩
  rw [HXl.out] at hn
  rw [(HWt.out n hn).2.2,←e3,List.getD_eq_getElem?_getD,List.getElem?_eq_getElem (by omega)]
  rfl
 ·by_cases h28:op=28
  ·have HD:Hid (c=if(decide (rt=0) != decide (la=0))=true then 13 else 0):=hide (by
    obtain⟨e1,e2,e3,e4⟩:=HXX.out
    rw [←HCc.out,head_ret (by rw [e1,h28]),e2,hla.out,hrt.out])
   have HWt:Hid (∀n,wantX p f x n=rt):=hide (fun n=>by
    obtain⟨e1,e2,e3,e4⟩:=HXX.out
    unfold wantX
    rw [e1,h28,hrt.out]
    simp)
   have HXl:Hid (x.2.2.2.2.1.length=la):=hide (by rw [HXX.out.2.1,hla.out])
   have HLa:Hid (la≤1):=hide (by
    have:=HCn.out
    rw [h28] at this
    simp [cntOk] at this
    omega)
   subst h28
   clear HXX HCn CP CR HWi h21
   go_wp2_with fail
   refine(CA.out _ HLa.out c HD.out).mono ?_;rintro e w1 ⟨⟨u,rfl,hu⟩,b1⟩
   have HU:=hide hu
   have B1:=hide (below_step B0.out b1)
   clear hu b1 CA
   go_wp2_with fail
   go_ret2
   refine⟨⟨_,rfl,fun h=> ?_⟩,B1.out⟩
   obtain⟨so,sc,sl,e1,e2,e3⟩:=HU.out h
   refine⟨so,sc,sl,e1,e2,fun n hn=> ?_⟩
   rw [HXl.out] at hn
   rw [HWt.out,e3 n hn]
  ·have HD:Hid (c=0):=hide (by
    obtain⟨e1,_⟩:=HXX.out
    rw [←HCc.out,head_none (by rw [e1];exact h28) (by rw [e1];exact h21)])
   have HXl:Hid (x.2.2.2.2.1.length=la):=hide (by rw [HXX.out.2.1,hla.out])
   by_cases h2024:op=20∨op=24
   ·have HWt:Hid (∀n,wantX p f x n=ty):=hide (fun n=>by
     obtain⟨e1,e2,e3,e4⟩:=HXX.out
     unfold wantX
     rw [e1,if_pos h2024,e3])
    have hL0:0 < la:=by
     have:=HCn.out
     rcases h2024 with h | h
     ·rw [h] at this;simp [cntOk] at this;omega
     ·rw [h] at this;simp [cntOk] at this;omega
    have hLI:¬(la:Int)=0:=by omega
    have b2:=below_box W (.cells #[.int .i64 ty] 3)
    obtain⟨t0,ht0⟩:=one_at (heap_alloc_new W (.cells #[.int .i64 ty] 3))
    have HCl:=hide (CR.out ty W.heap.size (W.alloc (.cells #[.int .i64 ty] 3)) hL0 ht0 t0)
    have B2:=hide (below_step B0.out b2)
    clear HXX HCn CP CA CR HWi b2 ht0 t0
    rcases h2024 with h20 | h24
    ·subst h20
     go_wp2_with fail
     refine HCl.out.mono ?_;rintro e w1 ⟨rfl,hR,b1⟩
     have hs1:(W.alloc (.cells #[.int .i64 ty] 3)).heap.size=W.heap.size+1:=by simp
     rw [hs1] at hR
     have HR:=hide hR
     have B1:=hide (below_step B2.out b1)
     clear hR b1 hs1
     go_wp2_with fail
     go_ret2
     refine⟨⟨_,by rw [HD.out];rfl,fun _=>⟨some ⟨W.heap.size+1,0,none⟩,la,List.replicate la ty,by rw [List.length_replicate];rfl,row_sl HR.out,fun n hn=> ?_⟩⟩,B1.out⟩
     rw [HXl.out] at hn
     rw [HWt.out,List.getElem?_replicate,if_pos hn]
    ·subst h24
     go_wp2_with fail
     refine HCl.out.mono ?_;rintro e w1 ⟨rfl,hR,b1⟩
     have hs1:(W.alloc (.cells #[.int .i64 ty] 3)).heap.size=W.heap.size+1:=by simp
     rw [hs1] at hR
     have HR:=hide hR
     have B1:=hide (below_step B2.out b1)
     clear hR b1 hs1
     go_wp2_with fail
     go_ret2
     refine⟨⟨_,by rw [HD.out];rfl,fun _=>⟨some ⟨W.heap.size+1,0,none⟩,la,List.replicate la ty,by rw [List.length_replicate];rfl,row_sl HR.out,fun n hn=> ?_⟩⟩,B1.out⟩
     rw [HXl.out] at hn
     rw [HWt.out,List.getElem?_replicate,if_pos hn]
   ·have h20:¬op=20:=fun h=>h2024 (.inl h)
    have h24:¬op=24:=fun h=>h2024 (.inr h)
    have HWt:Hid (∀n,n < la→(L5.takes (L5.num op))[n]? =some (wantX p f x n)):=hide (fun n hn=>by
     have hW:=(HWi.out n HD.out (by rw [HXl.out];exact hn)).1.2
     obtain⟨e1,e2,e3,e4⟩:=HXX.out
     rw [e1] at hW
     have hlt:=hW h20 h24 h28 h21
     unfold wantX
     rw [e1,if_neg h2024,if_neg h28,if_neg h21,List.getD_eq_getElem?_getD,List.getElem?_eq_getElem hlt]
     rfl)
    have HCl:=hide (L5.takes_any op W HT.out)
    clear HXX HCn CP CA CR HWi h2024
    go_wp2_with fail
    refine HCl.out.mono ?_;rintro e w1 ⟨to',cap,rfl,hS,b1⟩
    have HS:=hide hS
    have B1:=hide (below_step B0.out b1)
    clear hS b1
    go_wp2_with fail
    go_ret2
    refine⟨⟨_,by rw [HD.out];rfl,fun _=>⟨to',cap,L5.takes (L5.num op),rfl,sli_sl HS.out,fun n hn=> ?_⟩⟩,B1.out⟩
    rw [HXl.out] at hn
    exact HWt.out n hn
end Go.Proofs.YtljkgcfnoegibaaGreatDoor
