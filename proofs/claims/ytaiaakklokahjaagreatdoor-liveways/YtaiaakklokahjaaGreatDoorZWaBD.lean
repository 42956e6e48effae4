/- Texts of one chain, joined. -/
import Derived.Test.YtaiaakklokahjaaGreatDoorZWaBA
import Derived.Test.YtaiaakklokahjaaGreatDoorZWaBB
import Derived.Maps.OwnSet
import Derived.RangeFuncBox
import Derived.RangeFuncLeaves
import Derived.Shelf.Abstract
import Derived.OwnWalkIn
import Derived.TacticsInMore
import Derived.LoopNIn
import Derived.LoopIn
import Derived.RangeFuncNested
import Derived.RangeFuncWrites
import Derived.LoopN
set_option maxHeartbeats 4000000
set_option maxRecDepth 100000
namespace Go.Proofs.YtaiaakklokahjaaGreatDoor
open Go Go.RowKit Go.Maps Go.ChangeMaps Go.MapKept
open G (Tok Er Ins Fun)
theorem Tryz.xW:Tryz.prog.underlying 103=some (.map 3 104):=by kernel_rfl
theorem Tryz.Ft (w:World):(zeroValue 104).run Tryz.prog w= .ok (.agg #[]) w:=by kernel_rfl
theorem KC:Keyed Tryz.prog 3:=int_keyed Tryz.underlying3
def zH (a:Int):Prop:=(Lit.int .i64 a).wf=true
theorem sf {n:Nat} (h:n≤1000000):zH n:=by
 unfold zH;exact WalkArith.wf_i64 (by omega)
def SMap (w:World) (b n:Nat) (s:Int→Bool):Prop:=∃D:DataW Unit,w.ownsMap Tryz.prog 3 unitElem b n D∧∀a,zH a→Maps.has D (.int .i64 a)=s a
theorem SMap.made (w:World):SMap (w.alloc (.map #[] 0)) w.heap.size 0 (fun _=>false):=⟨_,World.ownsMap_made w _ _ _,fun _ _=>rfl⟩
theorem SMap.isMap {w:World} {b n:Nat} {s:Int→Bool} (h:SMap w b n s):∃es c,w.heap[b]? =some (.map es c):=by
 obtain⟨D,⟨es,c,h,_⟩,_⟩:=h;exact⟨es,c,h⟩
theorem SMap.lt {w:World} {b n:Nat} {s:Int→Bool} (h:SMap w b n s):b < w.heap.size:=by
 obtain⟨es,c,h⟩:=h.isMap;exact(Array.getElem?_eq_some_iff.1 h).1
theorem SMap.same {w w':World} {b n:Nat} {s:Int→Bool} (h:SMap w b n s) (e:w'.heap[b]? =w.heap[b]?):SMap w' b n s:=by
 obtain⟨D,⟨es,c,h1,h3⟩,h2⟩:=h;exact⟨D,⟨es,c,e.trans h1,h3⟩,h2⟩
theorem SMap.mono {w:World} {b n n':Nat} {s:Int→Bool} (h:SMap w b n s) (e:n≤n'):SMap w b n' s:=by
 obtain⟨D,h1,h2⟩:=h;exact⟨D,h1.mono e,h2⟩
theorem SMap.look {w:World} {b n:Nat} {s:Int→Bool} (h:SMap w b n s) {a:Int} (ha:zH a):(Instr.lookup 103 (.map (some b)) (.int .i64 a) true).run Tryz.prog w= .ok (.tuple #[.agg #[],.bool (s a)]) w:=by
 obtain⟨D,h1,h2⟩:=h;obtain⟨v,ps,hr,hv⟩:=h1.look_ok KC Tryz.xW (Tryz.Ft w) unitElem_mk (keyOf_int_mk Tryz.underlying3 ha);rw [h2 a ha] at hr;rw [hr,(unitElem_inv hv).1]
theorem SMap.put {w:World} {b n:Nat} {s:Int→Bool} (h:SMap w b n s) (hn:n < maxLen) {a:Int} (ha:zH a):∃w',(Instr.mapUpdate 103 (.map (some b)) (.int .i64 a) (.agg #[])).run Tryz.prog w= .ok () w'∧SMap w' b (n+1) (fun x=>decide (x=a) || s x)∧w.grownBy w' (some b):=by
 obtain⟨D,h1,h2⟩:=h;obtain⟨w',hr,k1,k2⟩:=h1.update KC Tryz.xW hn (keyOf_int_mk Tryz.underlying3 ha) unitElem_mk;refine⟨w',hr,⟨_,k1,fun x hx=> ?_⟩,k2⟩;by_cases e:x=a
 ·subst e;rw [has_put_same h1.isMap (by simp [WideAt.IsKeyLit])];simp
 ·rw [has_put_other (by simpa using e),h2 x hx];simp [e]
theorem SMap.len {w:World} {b n:Nat} {s:Int→Bool} (h:SMap w b n s):∃c:Nat,(∀ty,(Builtin.len_ #[103] ty #[.map (some b)]).run Tryz.prog w= .ok (.int .i64 c) w)∧c≤n∧(c=0→∀a,zH a→s a=false):=by
 obtain⟨D,h1,h2⟩:=h;refine⟨Maps.size D,fun ty=>h1.len Tryz.xW ty,h1.size_le,fun h0 a ha=> ?_⟩;obtain⟨es,rfl⟩:=h1.isMap;rw [←h2 a ha];have:es= []:=List.eq_nil_of_length_eq_zero h0;subst this;rfl
theorem SMap.clear {w:World} {b n:Nat} {s:Int→Bool} (h:SMap w b n s):∃w',(∀ty,(Builtin.clear_ #[103] ty #[.map (some b)]).run Tryz.prog w= .ok (.tuple #[]) w')∧SMap w' b 0 (fun _=>false)∧w.grownBy w' (some b):=by
 obtain⟨D,⟨es,c,hb,hF,_⟩,_⟩:=h;refine⟨setBlock w b (.map #[] c),fun ty=> ?_,⟨.map [],⟨#[],c,heap_setBlock_same hb _,⟨by simp,stamped_empty c,by simp⟩,Nat.le_refl _,rfl⟩,fun _ _=>rfl⟩,⟨rfl,rfl,rfl,by simp [setBlock],fun i _ hi=>heap_setBlock_other hb _ (fun e=>hi (by rw [e]))⟩⟩
 ·simp [Builtin.clear_,run_underlying Tryz.xW,MapKept.run_getObj_map hb,MapKept.run_setObj_map _ hb,Result.andThen,setBlock]
theorem SMap.kf {F:Nat→Prop} {w w':World} {b n:Nat} {s:Int→Bool} (h:SMap w b n s) (k:Kf F w w') (hF:¬F b):SMap w' b n s:=h.same (k.2.2.2.2 b h.lt hF)
theorem oG {w w':World} {b:Nat} (h:w.grownBy w' (some b)):Kf (· =b) w w':=⟨h.os,h.tape,h.output,h.size,fun k hk hf=>h.block k hk (fun e=>hf (Option.some.inj e))⟩
open Go Go.RowKit Go.Shelf
def oJ (N:Nat):Type:={b:Nat // b < N}
def KpO (go Bs:Nat) (W W':World):Prop:=W'.heap[go]? =W.heap[go]? ∧W'.heap[Bs]? =W.heap[Bs]?
theorem KpO.trans {go Bs:Nat} {A B C:World} (h:KpO go Bs A B) (k:KpO go Bs B C):KpO go Bs A C:=⟨k.1.trans h.1,k.2.trans h.2⟩
theorem KpO.refl (go Bs:Nat) (W:World):KpO go Bs W W:=⟨rfl,rfl⟩
def Ax (L:List Int) (x:oJ L.length):Array Value:= #[.int .i64 ((x.1:Nat):Int),.int .i64 (L.getD x.1 0)]
theorem wC {N M:Nat} (h:M < N):((List.range N).drop M).reverse=((List.range N).drop (M+1)).reverse ++ [M]:=by
 rw [List.drop_eq_getElem_cons (by simpa using h),List.reverse_cons];simp
theorem Hl (F:Fence) (n:Nat) (hfn:F.fn 103) (hro:F.round=none) (hn:1≤n) (L:List Int) (hN:L.length≤1000000) (l Bs go off cap:Nat) (J Jx:List (oJ L.length)→World→Prop)
  (hY:∀pre (x:oJ L.length) W,J pre W→pre.length < L.length→YieldAt F (n - 1) Tryz.prog l (Ax L x) W fun e W'=>
   (e= .returned (.bool true)∧J (pre ++ [x]) W'∧KpO go Bs W W')∨(e= .returned (.bool false)∧Jx (pre ++ [x]) W'))
  (W:World) (hBs:Boxed W Bs 26 (.slice (some ⟨go,off,none⟩) L.length cap)) (hc:∀j,j < L.length→W.cell? ⟨go,off+j,none⟩=some (.int .i64 (L.getD j 0))) (h0:J [] W):
  CallsIn F n Tryz.prog 103 #[.func (.yield l) #[] #[],.pointer (some ⟨Bs,0,none⟩)] W fun e W'=>(∃v,e= .returned v)∧
   ((∃ys,ys.map (·.1)=(List.range L.length).reverse∧J ys W')∨(∃pre,True∧Jx pre W')):=by
 have c0:=hBs.cell;obtain⟨gv,hgv⟩:∃gv:Nat→Int,∀j,L.getD j 0=gv j:=⟨fun j=>L.getD j 0,fun _=>rfl⟩;have HY:=aa hY;have HEn:Hid (∀x:oJ L.length,Ax L x= #[.int .i64 ((x.1:Nat):Int),.int .i64 (gv x.1)]):=aa (fun x=>by unfold Ax;rw [hgv]);replace hc:∀j,j < L.length→W.cell? ⟨go,off+j,none⟩=some (.int .i64 (gv j)):=fun j hj=>by rw [hc j hj,hgv]
 clear hY hgv;refine callsIn_of_wp Tryz.func103 rfl hfn ?_ hro;simp only [Tryz.ntmps103,List.size_toArray,List.length_cons,List.length_nil,Nat.reduceAdd,Nat.reduceSub,Array.replicate_succ,Array.replicate_zero,List.push_toArray,List.append_toArray,List.nil_append,List.cons_append];gi_wp2
 gi_loopw [3] (fun i wr=>∃(K:Nat) (pre:List (oJ L.length)),K≤L.length∧i= .int .i64 ((K:Int) - 1)∧pre.map (·.1)=((List.range L.length).drop K).reverse∧J pre wr∧KpO go Bs W wr) (fun i _=>(intOf i+1).toNat)
 case atStart=>exact⟨L.length,[],Nat.le_refl _,rfl,by simp,h0,KpO.refl _ _ _⟩
 case round=>
  obtain⟨K,pre,hK,rfl,hpre,hJs,hnx⟩:=hrel;have c1:wr.cell? ⟨Bs,0,none⟩=some (.slice (some ⟨go,off,none⟩) L.length cap):=(show Boxed wr Bs 26 _ from hnx.2.trans hBs).cell
  cases K with
  |zero=>
   gi_wp2
   go_end0
   exact⟨⟨_,rfl⟩,.inl ⟨_,by simpa using hpre,hJs⟩⟩
  |succ M=>
   have hM:M < L.length:=(by omega);have hMI:(M:Int) < L.length:=(by omega);have e1:((M+1:Nat):Int) - 1=(M:Int):=(by omega);rw [e1];have hpl:pre.length < L.length:=by
    have:=congrArg List.length hpre;simp at this;omega
   have hd:=wC hM;have c2:wr.cell? ⟨go,off+M,none⟩=some (.int .i64 (gv M)):=(World.cell?_of_block (w:=W) (a:=⟨go,off+M,none⟩) hnx.1).trans (hc M hM);obtain⟨fn,tmps,assign,body,hy,hR⟩:=HY.out pre ⟨M,hM⟩ wr hJs hpl;rw [show Ax L ⟨M,hM⟩= #[.int .i64 (M:Int),.int .i64 (gv M)] from HEn.out ⟨M,hM⟩] at hy;clear e1;gi_wp2
   refine hR.mono ?_;rintro e W3 (⟨rfl,hJ3,hk3⟩ | ⟨rfl,hJx3⟩)
   ·gi_wp2
    go_roundw
    case rel=>exact⟨M,_,by omega,by go_num,by rw [hd,←hpre,List.map_append];rfl,hJ3,hnx.trans hk3⟩
    case measure=>simp [intOf]
   ·gi_wp2
    refine bodyPost_ret (results_none rfl _ _ _) rfl ?_;exact⟨⟨_,rfl⟩,.inr ⟨_,trivial,hJx3⟩⟩
theorem JE (F:Fence) (n:Nat) (hfn:F.fn 70) (hro:F.round=none) (a:Option Addr) (len cap:Nat) (w:World):
  CallsIn F n Tryz.prog 70 #[.slice a len cap] w fun e w'=>e= .returned (.func (.func 103) #[] #[.pointer (some ⟨w.heap.size,0,none⟩)])∧w'=w.alloc (.cells #[.slice a len cap] 26):=by
 refine callsIn_of_wp Tryz.func70 rfl hfn ?_ hro;simp only [Tryz.ntmps70,List.size_toArray,List.length_cons,List.length_nil,Nat.reduceAdd,Nat.reduceSub,Array.replicate_succ,Array.replicate_zero,List.push_toArray,List.append_toArray,List.nil_append,List.cons_append];gi_wp2
 go_ret;exact⟨rfl,rfl⟩
theorem zi (F:Fence) (n:Nat) (hfn:F.fn 103) (hro:F.round=none) (hn:1≤n) (L:List Int) (hN:L.length≤1000000) (Bs go off cap:Nat) (w:World) (hgo:go < w.heap.size) (hBs:Boxed w Bs 26 (.slice (some ⟨go,off,none⟩) L.length cap))
  (hc:∀j,j < L.length→w.cell? ⟨go,off+j,none⟩=some (.int .i64 (L.getD j 0))):
  SeqStopsK F n Tryz.prog 103 #[.pointer (some ⟨Bs,0,none⟩)] (Ax L) (KpO go Bs) (fun ys=>ys.map (·.1)=(List.range L.length).reverse) (fun _=>True) L.length w:=fun l J Jx W hW _ _ hY h0=>
 Hl F n hfn hro hn L hN l Bs go off cap J Jx hY W ((hW.block Bs hBs.lt).trans hBs) (fun j hj=>(hW.cell (p:=⟨go,off+j,none⟩) hgo).trans (hc j hj)) h0
theorem AX {P:Program} {Q:Exit→Act→World→Prop} {c:Code} (I:Nat→Act→World→Prop) {m0:Nat} {a:Act} {w:World} (h0:I m0 a w)
  (hr:∀m a w,I m a w→c.wp P (Exit.then (fun a' w'=>∃m',m' < m∧I m' a' w') Q) a w):(Code.loop c).wp P Q a w:=by
 have key:∀n m a w,m < n→I m a w→Code.rounds P c Q n a w:=by
  intro n;induction n with
  |zero=>intro m a w hm _;exact absurd hm (Nat.not_lt_zero _)
  |succ n ih=>
   intro m a w hm hI;rw [rounds_succ];refine Code.wp_mono (fun e a' w' h=> ?_) (hr m a w hI)
   cases e <;> first | exact h | (obtain⟨m',hm',h'⟩:=h;exact ih m' a' w' (by omega) h')
 exact wp_loop_rounds (m0+1) (key _ m0 a w (Nat.lt_succ_self _) h0)
def dfr (D:Nat):Deferred:={target:= .collected D,args:= #[]}
def StM (f:Fun) (V:List Int) (W B lp:Nat) (q:LkQ) (w0:World) (b1 b3 b4 go mr ma:Nat) (oc:Array Value) (Ds:List Nat) (nr na:Nat) (sr sa:Int→Bool) (H:Nat→Nat→Nat→Bool) (wr:World):Prop:=
 (Kf (iV f q) w0 wr∧LkD f V W B H q wr)∧(Boxed wr b1 63 (.pointer (some ⟨lp,0,none⟩))∧Boxed wr b3 103 (.map (some mr))∧Boxed wr b4 103 (.map (some ma))∧wr.heap[go]? =some (.cells oc 3 (0,0)))∧
 (SMap wr mr nr sr∧SMap wr ma na sa)∧∀D∈Ds,wr.heap[D]? =some (.deferred (some []))
def StN (w0:World) (b1 b3 b4 go mr ma:Nat) (Ds:List Nat):Prop:=(w0.heap.size≤b1∧w0.heap.size≤b3∧w0.heap.size≤b4∧w0.heap.size≤go∧w0.heap.size≤mr∧w0.heap.size≤ma)∧mr≠ma∧b3≠b4∧(∀D∈Ds,w0.heap.size≤D)∧Ds.Nodup
theorem LkD.kf {f:Fun} {V:List Int} {W B:Nat} {H:Nat→Nat→Nat→Bool} {q:LkQ} {w0 w w':World} {F:Nat→Prop} (h:LkD f V W B H q w) (hl:LkL f q w0) (k:Kf F w w') (hF:∀b,F b→w0.heap.size≤b):LkD f V W B H q w':=
 ⟨fun b hb p hp=>(h.1 b hb p hp).kf k fun hf=>by have:=hF _ hf;have:=hl.1 b p hb hp;omega,fun b hb=>(h.2 b hb).kf k fun hf=>by have:=hF _ hf;have:=hl.2 b hb;omega⟩
theorem StM.step {f:Fun} {V:List Int} {W B lp:Nat} {q:LkQ} {w0 wr w2:World} {b1 b3 b4 go mr ma:Nat} {oc:Array Value} {Ds:List Nat} {nr na nr' na':Nat} {sr sa sr' sa':Int→Bool} {H H':Nat→Nat→Nat→Bool} {F:Nat→Prop}
  (h:StM f V W B lp q w0 b1 b3 b4 go mr ma oc Ds nr na sr sa H wr) (k:Kf F wr w2) (hD:LkD f V W B H' q w2) (hF:∀b,F b→iV f q b∨w0.heap.size≤b) (h1:¬F b1) (h3:¬F b3) (h4:¬F b4) (ho:¬F go) (hDs:∀D∈Ds,¬F D)
  (hr:SMap w2 mr nr' sr') (ha:SMap w2 ma na' sa'):StM f V W B lp q w0 b1 b3 b4 go mr ma oc Ds nr' na' sr' sa' H' w2:=by
 obtain⟨⟨a1,_⟩,⟨c1,c2,c3,c4⟩,_,d⟩:=h;have hk:∀b,¬F b→∀o,wr.heap[b]? =some o→w2.heap[b]? =some o:=fun b hb o e=>(k.2.2.2.2 b (Array.getElem?_eq_some_iff.1 e).1 hb).trans e;exact⟨⟨a1.trans k hF,hD⟩,⟨hk _ h1 _ c1,hk _ h3 _ c2,hk _ h4 _ c3,hk _ ho _ c4⟩,⟨hr,ha⟩,fun D hDD=>hk _ (hDs D hDD) _ (d D hDD)⟩
theorem StM.idle {f:Fun} {V:List Int} {W B lp:Nat} {q:LkQ} {w0 wr w2:World} {b1 b3 b4 go mr ma:Nat} {oc:Array Value} {Ds:List Nat} {nr na:Nat} {sr sa:Int→Bool} {H:Nat→Nat→Nat→Bool} {F:Nat→Prop} {L:Nat}
  (hl:LkL f q w0) (h:StM f V W B lp q w0 b1 b3 b4 go mr ma oc Ds nr na sr sa H wr) (k:Kf F wr w2) (hF:∀b,F b→L≤b) (hL:w0.heap.size≤L) (h1:b1 < L) (h3:b3 < L) (h4:b4 < L) (ho:go < L) (hDs:∀D∈Ds,D < L) (hr:mr < L) (ha:ma < L):
  StM f V W B lp q w0 b1 b3 b4 go mr ma oc Ds nr na sr sa H w2:=
 h.step k (h.1.2.kf hl k fun b hb=>Nat.le_trans hL (hF b hb)) (fun b hb=> .inr (Nat.le_trans hL (hF b hb))) (fun e=>by have:=hF _ e;omega) (fun e=>by have:=hF _ e;omega) (fun e=>by have:=hF _ e;omega) (fun e=>by have:=hF _ e;omega)
  (fun D hD e=>by have:=hF _ e;have:=hDs D hD;omega) (h.2.2.1.1.kf k fun e=>by have:=hF _ e;omega) (h.2.2.1.2.kf k fun e=>by have:=hF _ e;omega)
theorem StM.below {f:Fun} {V:List Int} {W B lp:Nat} {q:LkQ} {w0 wr w2:World} {b1 b3 b4 go mr ma:Nat} {oc:Array Value} {Ds:List Nat} {nr na:Nat} {sr sa:Int→Bool} {H:Nat→Nat→Nat→Bool}
  (h:StM f V W B lp q w0 b1 b3 b4 go mr ma oc Ds nr na sr sa H wr) (b:Below wr.heap.size wr w2):StM f V W B lp q w0 b1 b3 b4 go mr ma oc Ds nr na sr sa H w2:=
 h.step (kK b) (h.1.2.below b) (fun _ e=>e.elim) (fun e=>e) (fun e=>e) (fun e=>e) (fun e=>e) (fun _ _ e=>e) (h.2.2.1.1.kf (kK b) fun e=>e) (h.2.2.1.2.kf (kK b) fun e=>e)
theorem StM.lts {f:Fun} {V:List Int} {W B lp:Nat} {q:LkQ} {w0 wr:World} {b1 b3 b4 go mr ma:Nat} {oc:Array Value} {Ds:List Nat} {nr na:Nat} {sr sa:Int→Bool} {H:Nat→Nat→Nat→Bool}
  (h:StM f V W B lp q w0 b1 b3 b4 go mr ma oc Ds nr na sr sa H wr):w0.heap.size≤wr.heap.size∧b1 < wr.heap.size∧b3 < wr.heap.size∧b4 < wr.heap.size∧go < wr.heap.size∧(∀D∈Ds,D < wr.heap.size)∧mr < wr.heap.size∧ma < wr.heap.size:=by
 obtain⟨⟨a1,_⟩,⟨c1,c2,c3,c4⟩,⟨d1,d2⟩,d⟩:=h;exact⟨a1.2.2.2.1,c1.lt,c2.lt,c3.lt,(Array.getElem?_eq_some_iff.1 c4).1,fun D hD=>(Array.getElem?_eq_some_iff.1 (d D hD)).1,d1.lt,d2.lt⟩
def Ab (sr sa:Int→Bool) (ord:List Int) (pre:List (oJ ord.length)) (b:Nat):Prop:=(sr b=true∧∀x∈pre,ord.getD x.1 0≠(b:Int))∨sa b=true
def RgI (f:Fun) (V:List Int) (W B lp:Nat) (q:LkQ) (w0:World) (b1 b3 b4 go mr ma:Nat) (oc:Array Value) (Ds:List Nat) (nr:Nat) (sr:Int→Bool) (m0 L:Nat) (ord:List Int) (pre:List (oJ ord.length)) (wr:World):Prop:=
 L≤wr.heap.size∧∃H na sa,StM f V W B lp q w0 b1 b3 b4 go mr ma oc Ds nr na sr sa H wr∧nJ V f H (Ab sr sa ord pre)∧na≤pre.length * 1000000∧((na=0∧muS V f H≤m0)∨muS V f H < m0)
theorem RgI.own {f:Fun} {V:List Int} {W B lp:Nat} {q:LkQ} {w0:World} {b1 b3 b4 go mr ma:Nat} {oc:Array Value} {Ds:List Nat} {nr:Nat} {sr:Int→Bool} {m0:Nat} {ord:List Int} {L:Nat}
  (hl:LkL f q w0) (hL:w0.heap.size≤L) (h1:b1 < L) (h3:b3 < L) (h4:b4 < L) (ho:go < L) (hDs:∀D∈Ds,D < L) (hr:mr < L) (ha:ma < L):OwnFrom L (RgI f V W B lp q w0 b1 b3 b4 go mr ma oc Ds nr sr m0 L ord):=by
 rintro pre A C row ⟨hA,H,na,sa,h,h2⟩ hg hrow;refine⟨Nat.le_trans hA hg.size,H,na,sa,?_,h2⟩;have k:Kf (fun b=>some b=row) A C:=⟨hg.os,hg.tape,hg.output,hg.size,fun x hx hf=>hg.block x hx hf⟩;exact h.idle hl k (fun b hb=>(hrow b hb.symm).1) hL h1 h3 h4 ho hDs hr ha
theorem Dp {f:Fun} {q:LkQ} {w:World} (hl:LkL f q w) {b:Nat} (h:iV f q b):b < w.heap.size:=by
 obtain⟨k,p,hk,hp,rfl⟩:=h;exact hl.1 k p hk hp
theorem Dh {F:Nat→Prop} {w w':World} {L:Nat} (k:Kf F w w') (hF:∀b,F b→b < L):KeepsFrom L w w':=
 ⟨k.2.2.2.1,fun i o hB hi _=>(k.2.2.2.2 i (Array.getElem?_eq_some_iff.1 hi).1 (fun f=>by have:=hF i f;omega)).trans hi⟩
theorem KW {w:World} {go Bs:Nat} (hg:go < w.heap.size) (hB:Bs < w.heap.size) (W:World) (l:Nat) (o o':Obj) (hl:w.heap.size≤l) (_:W.heap[l]? =some o) (_:o.isCells=false) (_:o.isWalk=false):KpO go Bs W (W.putObj l o'):=
 ⟨World.putObj_heap_other (by omega),World.putObj_heap_other (by omega)⟩
theorem vm {F:Nat→Prop} {w w':World} {go Bs:Nat} (k:Kf F w w') (h1:go < w.heap.size) (h2:Bs < w.heap.size) (g1:¬F go) (g2:¬F Bs):KpO go Bs w w':=⟨k.2.2.2.2 go h1 g1,k.2.2.2.2 Bs h2 g2⟩
theorem pa {fn:Func} {tmps:Array Value} {R:Ending→World→Prop} {v:Value} (n0:Nat) (hres:∀w,(results fn tmps).run Tryz.prog w= .ok v w):
  ∀(Ds:List Nat) (w:World),Ds.Nodup→(∀D∈Ds,n0≤D∧w.heap[D]? =some (.deferred (some [])))→(∀w',Kf (fun b=>n0≤b) w w'→R (.returned v) w')→LeavesInM Fence.wide 5 Tryz.prog fn tmps R (Ds.map dfr) .returning w
 |[],w,_,_,hR=>⟨v,hres w,hR w (Kf.refl _ _)⟩
 |D :: Ds,w,hn,hD,hR=>by
  obtain⟨h1,h2⟩:=hD D (List.mem_cons_self ..);obtain⟨g1,g2⟩:=List.nodup_cons.1 hn;refine⟨by simp,.inl ⟨D,_,rfl,run_takeDeferred h2,pa n0 hres Ds _ g2 (fun D' hD'=> ?_) fun w' k=>hR w' ?_⟩⟩
  ·obtain⟨q1,q2⟩:=hD D' (List.mem_cons_of_mem _ hD');exact⟨q1,(World.putObj_heap_other (by intro e;subst e;exact g1 hD')).trans q2⟩
  ·have k0:Kf (fun b=>n0≤b) w (w.putObj D (.deferred none)):=⟨rfl,rfl,rfl,by simp [World.putObj],fun x hx hf=>World.putObj_heap_other (by intro e;subst e;exact hf h1)⟩;exact k0.trans k fun x hx=> .inl hx
open Go Go.RowKit
theorem BG (w:World) (l:List Int) (h:l.length≤1000000):bT (w.alloc (.cells (ints l).toArray 3)) l (.slice (some ⟨w.heap.size,0,none⟩) l.length l.length):=by
 refine⟨_,_,rfl,.inr ⟨w.heap.size,0,rfl,by simp,fun i n hi=> ?_⟩,Nat.le_refl _,by unfold maxLen;omega⟩;have hq:=heap_alloc_new w (.cells (ints l).toArray 3);simp only [World.cell?,hq,Nat.zero_add];simp [ints,hi]
def kn (w:World) (l:List Int) (LV:World→Prop) (e:Ending) (w':World):Prop:=∃u,e= .returned u∧bT w' l u∧LV w'∧Below w.heap.size w w'
theorem rS (p:List Fun) (f:Fun) (w:World) (LV:Nat→World→Prop) (hp:p.length=2) (hf:bh p 0=f) (hf4:f.2.2.2.1.length=4)
  (C25:Calls Tryz.prog 31 #[] w fun e w'=>∃ao c,e= .returned (.agg #[.slice ao p.length c])∧eg w' p (.slice ao p.length c)∧Below w.heap.size w w')
  (hLV:∀b w w',LV b w→Below w.heap.size w w'→LV b w')
  (C8:∀w' v,Below w.heap.size w w'→bS w' f v→Calls Tryz.prog 7 #[v] w' fun e w''=>∃b,e= .returned (.pointer (some ⟨b,0,none⟩))∧LV b w''∧Below w'.heap.size w' w'')
  (I1:∀w' b,Below w.heap.size w w'→LV b w'→Calls Tryz.prog 15 #[.pointer (some ⟨b,0,none⟩),.int .i64 1] w' (kn w' [1] (LV b)))
  (O0:∀w' b,Below w.heap.size w w'→LV b w'→Calls Tryz.prog 11 #[.pointer (some ⟨b,0,none⟩),.int .i64 0] w' (kn w' [0,1,2] (LV b)))
  (O2:∀w' b,Below w.heap.size w w'→LV b w'→Calls Tryz.prog 11 #[.pointer (some ⟨b,0,none⟩),.int .i64 2] w' (kn w' [1,5,6] (LV b)))
  (A21:∀w' b,Below w.heap.size w w'→LV b w'→Calls Tryz.prog 12 #[.pointer (some ⟨b,0,none⟩),.int .i64 2,.int .i64 1] w' (kn w' [1,5,6] (LV b)))
  (A10:∀w' b,Below w.heap.size w w'→LV b w'→Calls Tryz.prog 12 #[.pointer (some ⟨b,0,none⟩),.int .i64 1,.int .i64 0] w' (kn w' [1,3,4] (LV b)))
  (A30:∀w' b,Below w.heap.size w w'→LV b w'→Calls Tryz.prog 12 #[.pointer (some ⟨b,0,none⟩),.int .i64 3,.int .i64 0] w' (kn w' [7] (LV b)))
  (M:∀w' b,Below w.heap.size w w'→LV b w'→Calls Tryz.prog 32 #[.pointer (some ⟨b,0,none⟩)] w' fun e w''=>e= .returned (.int .i64 4)∧LV b w''∧Below w'.heap.size w' w''):
  Calls Tryz.prog 6 #[] w fun e w'=>e= .returned (.bool true)∧Below w.heap.size w w':=by
 have HC:Hid (∀w' (l:List Int) (u:Value),l.length≤1000000→bT w' l u→Calls Tryz.prog 26 #[u,.slice (some ⟨w'.heap.size,0,none⟩) l.length l.length] (w'.alloc (.cells (ints l).toArray 3)) fun e w''=>e= .returned (.bool true)∧Below w'.heap.size w' w''):=aa (fun w' l u hl hu=>(DE l u _ _ (hu.below (af w' _)) (BG w' l hl)).mono fun e w'' ⟨he,hb⟩=>⟨he,ae (af w' _) hb⟩);replace C25:=aa C25;replace C8:=aa C8;replace hLV:=aa hLV;replace I1:=aa I1;replace O0:=aa O0;replace O2:=aa O2;replace A21:=aa A21;replace A10:=aa A10;replace A30:=aa A30;replace M:=aa M;replace hf:=aa hf;replace hf4:=aa hf4;have hp2:=aa hp;rw [hp] at C25;clear hp;go_enter Tryz.func6,Tryz.ntmps6
 go_wp2_with fail
 refine C25.out.mono ?_;rintro e w1 ⟨ao,c,rfl,hpr,b1⟩;have B1:=aa b1;obtain⟨g,o,rfl,hfr⟩:=gB hpr (i:=0) (by rw [hp2.out];exact Nat.zero_lt_succ _);rw [hf.out] at hfr;have hg:=hfr.1;obtain⟨ha,hb,hc,hdd,hfv,d0,d1,d2,d3,d4⟩:=hfr.val;rw [hf4.out] at d3 hfv;simp only [Nat.zero_mul,Nat.add_zero] at d0 d1 d2 d3 d4;have b2:=af w1 (.cells #[.slice (some ⟨g,o,none⟩) 2 c] 24);have H2:=aa (heap_alloc_new w1 (.cells #[.slice (some ⟨g,o,none⟩) 2 c] 24));have B2:=aa (ae B1.out b2);have HF:=aa (hfv.below b2);replace d0:=(b2.cell (p:=⟨g,o,none⟩) hg).trans d0;replace d1:=(b2.cell (p:=⟨g,o+1,none⟩) hg).trans d1;replace d2:=(b2.cell (p:=⟨g,o+2,none⟩) hg).trans d2;replace d3:=(b2.cell (p:=⟨g,o+3,none⟩) hg).trans d3;replace d4:=(b2.cell (p:=⟨g,o+4,none⟩) hg).trans d4;clear hfr hfv b1 b2 hpr C25;go_upto_region 2 with fail
 show Code.wp _ _ _ _ (w1.alloc (.cells #[.slice (some ⟨g,o,none⟩) 2 c] 24));generalize w1.alloc (.cells #[.slice (some ⟨g,o,none⟩) 2 c] 24)=w2 at *;have x0:=(bC H2.out).1;clear H2;go_wp2_with fail
 refine(C8.out w2 _ B2.out HF.out).mono ?_;rintro e w3 ⟨b,rfl,h3,b3⟩;have B3:=aa (ae B2.out b3);have L3:=aa h3;clear h3 b3 d0 d1 d2 d3 d4 x0 HF B2;go_wp2_with fail
 refine(I1.out w3 b B3.out L3.out).mono ?_;rintro e w4 ⟨u4,rfl,hu,h,bb⟩;have B4:=aa (ae B3.out bb);have L4:=aa h;have CC:=aa (HC.out w4 [1] u4 (by decide) hu);clear hu h bb;go_wp2_with fail
 refine CC.out.mono ?_;rintro e w5 ⟨rfl,bb⟩;have B5:=aa (ae B4.out bb);have L5:=aa (hLV.out _ _ _ L4.out bb);clear bb CC;go_wp2_with fail
 refine(O0.out w5 b B5.out L5.out).mono ?_;rintro e w6 ⟨u6,rfl,hu,h,bb⟩;have B6:=aa (ae B5.out bb);have L6:=aa h;have CC:=aa (HC.out w6 [0,1,2] u6 (by decide) hu);clear hu h bb;go_wp2_with fail
 refine CC.out.mono ?_;rintro e w7 ⟨rfl,bb⟩;have B7:=aa (ae B6.out bb);have L7:=aa (hLV.out _ _ _ L6.out bb);clear bb CC;go_wp2_with fail
 refine(O2.out w7 b B7.out L7.out).mono ?_;rintro e w8 ⟨u8,rfl,hu,h,bb⟩;have B8:=aa (ae B7.out bb);have L8:=aa h;have CC:=aa (HC.out w8 [1,5,6] u8 (by decide) hu);clear hu h bb;go_wp2_with fail
 refine CC.out.mono ?_;rintro e w9 ⟨rfl,bb⟩;have B9:=aa (ae B8.out bb);have L9:=aa (hLV.out _ _ _ L8.out bb);clear bb CC;go_wp2_with fail
 refine(A21.out w9 b B9.out L9.out).mono ?_;rintro e w10 ⟨u10,rfl,hu,h,bb⟩;have B10:=aa (ae B9.out bb);have L10:=aa h;have CC:=aa (HC.out w10 [1,5,6] u10 (by decide) hu);clear hu h bb;go_wp2_with fail
 refine CC.out.mono ?_;rintro e w11 ⟨rfl,bb⟩;have B11:=aa (ae B10.out bb);have L11:=aa (hLV.out _ _ _ L10.out bb);clear bb CC;go_wp2_with fail
 refine(A10.out w11 b B11.out L11.out).mono ?_;rintro e w12 ⟨u12,rfl,hu,h,bb⟩;have B12:=aa (ae B11.out bb);have L12:=aa h;have CC:=aa (HC.out w12 [1,3,4] u12 (by decide) hu);clear hu h bb;go_wp2_with fail
 refine CC.out.mono ?_;rintro e w13 ⟨rfl,bb⟩;have B13:=aa (ae B12.out bb);have L13:=aa (hLV.out _ _ _ L12.out bb);clear bb CC;go_wp2_with fail
 refine(A30.out w13 b B13.out L13.out).mono ?_;rintro e w14 ⟨u14,rfl,hu,h,bb⟩;have B14:=aa (ae B13.out bb);have L14:=aa h;have CC:=aa (HC.out w14 [7] u14 (by decide) hu);clear hu h bb;go_wp2_with fail
 refine CC.out.mono ?_;rintro e w15 ⟨rfl,bb⟩;have B15:=aa (ae B14.out bb);have L15:=aa (hLV.out _ _ _ L14.out bb);clear bb CC;go_wp2_with fail
 refine(M.out w15 b B15.out L15.out).mono ?_;rintro e w16 ⟨rfl,h,bb⟩;have B16:=aa (ae B15.out bb);clear h bb;go_wp2_with fail
 go_ret;exact⟨rfl,B16.out⟩
def x8 (f:Fun) (k:Nat):Nat→Nat
 |0=>(inL f k).length
 |i+1=>max (x8 f k i) (mV f k i).length
def kp (f:Fun):Nat→Nat
 |0=>0
 |k+1=>max (kp f k) (x8 f k (ag f k).length)
def yS (f:Fun):Nat:=kp f f.2.2.2.1.length
def Ju (LV:Nat→World→Prop) (l:List Int) (b:Nat) (w:World) (e:Ending) (w':World):Prop:=kn w l (LV b) e w'
theorem E9:∀ {l m:List Int},l.Pairwise (· < ·)→m.Pairwise (· < ·)→(∀x,x∈l↔x∈m)→l=m
 |[],[],_,_,_=>rfl
 |[],b :: m,_,_,h=>absurd ((h b).2 (List.mem_cons_self ..)) List.not_mem_nil
 |a :: l,[],_,_,h=>absurd ((h a).1 (List.mem_cons_self ..)) List.not_mem_nil
 |a :: l,b :: m,h1,h2,h=>by
  obtain⟨a1,a2⟩:=List.pairwise_cons.1 h1;obtain⟨b1,b2⟩:=List.pairwise_cons.1 h2;have e:a=b:=by
   rcases List.mem_cons.1 ((h a).1 (List.mem_cons_self ..))with e | q
   ·exact e
   ·rcases List.mem_cons.1 ((h b).2 (List.mem_cons_self ..))with e | q2
    ·exact e.symm
    ·have:=b1 a q;have:=a1 b q2;omega
  subst e;rw [E9 a2 b2 fun x=> ?_];constructor
  ·intro hx;rcases List.mem_cons.1 ((h x).1 (List.mem_cons_of_mem _ hx))with e | q
   ·have:=a1 x hx;omega
   ·exact q
  ·intro hx;rcases List.mem_cons.1 ((h x).2 (List.mem_cons_of_mem _ hx))with e | q
   ·have:=b1 x hx;omega
   ·exact q
theorem Bu (x a:Int) (l:List Int):kP (a :: l) x=if a < x then a :: kP l x else x :: a :: l:=by
 unfold kP;rw [Bf];split <;> simp
theorem uK {x:Int}:∀ {l:List Int},l.Pairwise (· < ·)→x ∉ l→(kP l x).Pairwise (· < ·)
 |[],_,_=>by simp [kP]
 |a :: l,h,hx=>by
  obtain⟨h1,h2⟩:=List.pairwise_cons.1 h;have hx1:x≠a:=fun e=>hx (by rw [e];exact List.mem_cons_self ..);have hx2:x ∉ l:=fun e=>hx (List.mem_cons_of_mem _ e);rw [Bu];split
  ·refine List.pairwise_cons.2 ⟨fun y hy=> ?_,uK h2 hx2⟩;rcases uP.1 hy with e | e
   ·omega
   ·exact h1 y e
  ·refine List.pairwise_cons.2 ⟨fun y hy=> ?_,h⟩;rcases List.mem_cons.1 hy with e | e
   ·omega
   ·have:=h1 y e;omega
theorem val_one {f:Fun} {k i:Nat} (h:dG f k i false=0) (hm:mkX (au f k i)≠0) (hk:k < f.2.2.2.1.length):fF f (au f k i).2.1=false∧(∀b,b < k→∀j,j < (ag f b).length→dJ (au f k i).2.1 (au f b j)=false)∧∀j,j < i→j < (ag f k).length→dJ (au f k i).2.1 (au f k j)=false:=by
 generalize hid:(au f k i).2.1=id;have h1:(dV f id k i).2.2.2=false:=by
  cases q:(dV f id k i).2.2.2 with
  |false=>rfl
  |true=>
   unfold dG at h;rw [hid,q,decide_eq_true hm] at h;simp at h
 unfold dV at h1;by_cases hp:fF f id=true
 ·rw [if_pos hp] at h1;cases h1
 ·rw [if_neg hp] at h1;have hn:jr f id k i=none:=by
   cases q:jr f id k i with
   |none=>rfl
   |some a=>
    rw [q] at h1;unfold jr at q;obtain⟨K,_,q1,_⟩:=fI q;unfold lH at q1;obtain⟨J,_,q2,_⟩:=fI q1;unfold mn at q2;split at q2
    ·injection q2 with q2;rw [←q2] at h1
     cases h1
    ·cases q2
  have all:∀b,b≤k→∀j,j < min (jq f k i b) (ag f b).length→dJ id (au f b j)=false:=fun b hb j hj=>by
   have q1:=gD hn b (by omega);have q2:=gD q1 j hj;unfold mn at q2;split at q2
   ·cases q2
   ·rename_i q;simpa using q
  refine⟨by simpa using hp,fun b hb j hj=>all b (by omega) j (by unfold jq;rw [if_pos hb];omega),fun j hj hl=>all k (Nat.le_refl _) j (by unfold jq;rw [if_neg (Nat.lt_irrefl _)];omega)⟩
theorem oC {l:List Int} {b:List Ins} (hl:l.Pairwise (· < ·)) (h:∀J,J < b.length→mkX (gI b J)≠0→(gI b J).2.1 ∉ l∧∀j,j < J→dJ (gI b J).2.1 (gI b j)=false):∀J,J≤b.length→(jh l (b.take J)).Pairwise (· < ·)
 |0,_=>by simpa [jh] using hl
 |J+1,hJ=>by
  rw [BC (by omega)];split
  ·exact oC hl h J (by omega)
  ·rename_i hm;obtain⟨h1,h2⟩:=h J (by omega) hm;refine uK (oC hl h J (by omega)) fun hx=> ?_;rcases oY.1 hx with q | ⟨x,hx,q⟩
   ·exact h1 q
   ·obtain⟨j,hj,e⟩:=List.mem_iff_getElem.1 hx;rw [List.length_take] at hj;have:gI b j=x:=by
     have q:=yZ (b:=b) (i:=j) (by omega);rw [List.getElem_take] at e;rw [List.getElem?_eq_getElem (by omega),e] at q;exact(Option.some.inj q).symm
    rw [←this,h2 j (by omega)] at q
    cases q
theorem Dg (n:Nat):(pT n).Pairwise (· < ·):=by
 unfold pT;rw [List.pairwise_map];exact List.pairwise_lt_range.imp fun h=>by omega
theorem GR {a:Int} {n:Nat}:a∈pT n↔0≤a∧a < n:=by
 unfold pT;simp only [List.mem_map,List.mem_range];constructor
 ·rintro ⟨i,h,rfl⟩;omega
 ·intro h;exact⟨a.toNat,by omega,by omega⟩
theorem EX {f:Fun} (h:∀k,k < f.2.2.2.1.length→∀i,i < (ag f k).length→dG f k i false=0):(jf f).Pairwise (· < ·):=by
 have key:∀K,K≤f.2.2.2.1.length→(lL (pT f.2.1.length) (f.2.2.2.1.take K)).Pairwise (· < ·):=by
  intro K;induction K with
  |zero=>intro _;simpa [lL] using Dg f.2.1.length
  |succ K ih=>
   intro hK;rw [zS (by omega)];have q:=oC (b:=ag f K) (ih (by omega)) (fun J hJ hm=>by
    obtain⟨h1,h2,h3⟩:=val_one (h K (by omega) J hJ) hm (by omega);refine⟨fun hx=> ?_,fun j hj=>h3 j hj (by omega)⟩;rcases oI.1 hx with q | ⟨b,hb,x,hx,q⟩
    ·have:=GR.1 q;have h1':fF f (gI (ag f K) J).2.1=false:=h1;unfold fF at h1';rw [decide_eq_true this.1,decide_eq_true this.2] at h1'
     cases h1'
    ·obtain⟨k,hk,e⟩:=List.mem_iff_getElem.1 hb;rw [List.length_take] at hk;have eb:ag f k=b:=by
      have q:=de (f:=f) (k:=k) (by omega);rw [List.getElem_take] at e;rw [List.getElem?_eq_getElem (by omega),e] at q;exact(Option.some.inj q).symm
     obtain⟨j,hj,e2⟩:=List.mem_iff_getElem.1 hx;rw [←eb] at hj;have ex:au f k j=x:=by
      have q:=iO (f:=f) (k:=k) (i:=j) hj;subst eb;rw [List.getElem?_eq_getElem hj,e2] at q;exact(Option.some.inj q).symm
     rw [←ex] at q;have:=h2 k (by omega) j hj;rw [show(au f K J).2.1=(gI (ag f K) J).2.1 from rfl] at this;rw [this] at q
     cases q)
   have:=q (ag f K).length (Nat.le_refl _);rwa [List.take_of_length_le (Nat.le_refl _)] at this
 have:=key f.2.2.2.1.length (Nat.le_refl _);rwa [List.take_of_length_le (Nat.le_refl _)] at this
end Go.Proofs.YtaiaakklokahjaaGreatDoor
