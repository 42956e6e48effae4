/- Texts of one chain, joined. -/
import Derived.Test.YtfdhemcahjommaaGreatDoorZABA
import Derived.Maps.OwnSet
import Derived.RangeFuncBox
import Derived.RangeFuncLeaves
import Derived.Shelf.Abstract
import Derived.OwnWalkIn
import Derived.TacticsInMore
import Derived.LoopNIn
import Derived.LoopIn
import Derived.RangeFuncNested
import Derived.RangeFuncWrites
import Derived.LoopN
set_option maxHeartbeats 2000000
set_option maxRecDepth 100000
namespace Go.Proofs.YtfdhemcahjommaaGreatDoor
open Go Go.RowKit Go.Maps Go.ChangeMaps Go.MapKept
open G (Tok Er Ins Fun)
theorem Tryz.zj:Tryz.prog.underlying 83=some (.map 3 84):=by kernel_rfl
theorem Tryz.JL (w:World):(zeroValue 84).run Tryz.prog w= .ok (.agg #[]) w:=by kernel_rfl
theorem Kk:Keyed Tryz.prog 3:=int_keyed Tryz.underlying3
def zp (a:Int):Prop:=(Lit.int .i64 a).wf=true
theorem sH {n:Nat} (h:n≤1000000):zp n:=by
 unfold zp;exact WalkArith.wf_i64 (by omega)
def SMap (w:World) (b n:Nat) (s:Int→Bool):Prop:=∃D:DataW Unit,w.ownsMap Tryz.prog 3 unitElem b n D∧∀a,zp a→Maps.has D (.int .i64 a)=s a
theorem SMap.made (w:World):SMap (w.alloc (.map #[] 0)) w.heap.size 0 (fun _=>false):=⟨_,World.ownsMap_made w _ _ _,fun _ _=>rfl⟩
theorem SMap.isMap {w:World} {b n:Nat} {s:Int→Bool} (h:SMap w b n s):∃es c,w.heap[b]? =some (.map es c):=by
 obtain⟨D,⟨es,c,h,_⟩,_⟩:=h;exact⟨es,c,h⟩
theorem SMap.lt {w:World} {b n:Nat} {s:Int→Bool} (h:SMap w b n s):b < w.heap.size:=by
 obtain⟨es,c,h⟩:=h.isMap;exact(Array.getElem?_eq_some_iff.1 h).1
theorem SMap.same {w w':World} {b n:Nat} {s:Int→Bool} (h:SMap w b n s) (e:w'.heap[b]? =w.heap[b]?):SMap w' b n s:=by
 obtain⟨D,⟨es,c,h1,h3⟩,h2⟩:=h;exact⟨D,⟨es,c,e.trans h1,h3⟩,h2⟩
theorem SMap.mono {w:World} {b n n':Nat} {s:Int→Bool} (h:SMap w b n s) (e:n≤n'):SMap w b n' s:=by
 obtain⟨D,h1,h2⟩:=h;exact⟨D,h1.mono e,h2⟩
theorem SMap.look {w:World} {b n:Nat} {s:Int→Bool} (h:SMap w b n s) {a:Int} (ha:zp a):(Instr.lookup 83 (.map (some b)) (.int .i64 a) true).run Tryz.prog w= .ok (.tuple #[.agg #[],.bool (s a)]) w:=by
 obtain⟨D,h1,h2⟩:=h;obtain⟨v,ps,hr,hv⟩:=h1.look_ok Kk Tryz.zj (Tryz.JL w) unitElem_mk (keyOf_int_mk Tryz.underlying3 ha);rw [h2 a ha] at hr;rw [hr,(unitElem_inv hv).1]
theorem SMap.put {w:World} {b n:Nat} {s:Int→Bool} (h:SMap w b n s) (hn:n < maxLen) {a:Int} (ha:zp a):∃w',(Instr.mapUpdate 83 (.map (some b)) (.int .i64 a) (.agg #[])).run Tryz.prog w= .ok () w'∧SMap w' b (n+1) (fun x=>decide (x=a) || s x)∧w.grownBy w' (some b):=by
 obtain⟨D,h1,h2⟩:=h;obtain⟨w',hr,k1,k2⟩:=h1.update Kk Tryz.zj hn (keyOf_int_mk Tryz.underlying3 ha) unitElem_mk;refine⟨w',hr,⟨_,k1,fun x hx=> ?_⟩,k2⟩;by_cases e:x=a
 ·subst e;rw [has_put_same h1.isMap (by simp [WideAt.IsKeyLit])];simp
 ·rw [has_put_other (by simpa using e),h2 x hx];simp [e]
theorem SMap.len {w:World} {b n:Nat} {s:Int→Bool} (h:SMap w b n s):∃c:Nat,(∀ty,(Builtin.len_ #[83] ty #[.map (some b)]).run Tryz.prog w= .ok (.int .i64 c) w)∧c≤n∧(c=0→∀a,zp a→s a=false):=by
 obtain⟨D,h1,h2⟩:=h;refine⟨Maps.size D,fun ty=>h1.len Tryz.zj ty,h1.size_le,fun h0 a ha=> ?_⟩;obtain⟨es,rfl⟩:=h1.isMap;rw [←h2 a ha];have:es= []:=List.eq_nil_of_length_eq_zero h0;subst this;rfl
theorem SMap.clear {w:World} {b n:Nat} {s:Int→Bool} (h:SMap w b n s):∃w',(∀ty,(Builtin.clear_ #[83] ty #[.map (some b)]).run Tryz.prog w= .ok (.tuple #[]) w')∧SMap w' b 0 (fun _=>false)∧w.grownBy w' (some b):=by
 obtain⟨D,⟨es,c,hb,hF,_⟩,_⟩:=h;refine⟨setBlock w b (.map #[] c),fun ty=> ?_,⟨.map [],⟨#[],c,heap_setBlock_same hb _,⟨by simp,stamped_empty c,by simp⟩,Nat.le_refl _,rfl⟩,fun _ _=>rfl⟩,⟨rfl,rfl,rfl,by simp [setBlock],fun i _ hi=>heap_setBlock_other hb _ (fun e=>hi (by rw [e]))⟩⟩
 ·simp [Builtin.clear_,run_underlying Tryz.zj,MapKept.run_getObj_map hb,MapKept.run_setObj_map _ hb,Result.andThen,setBlock]
theorem SMap.kf {F:Nat→Prop} {w w':World} {b n:Nat} {s:Int→Bool} (h:SMap w b n s) (k:Kf F w w') (hF:¬F b):SMap w' b n s:=h.same (k.2.2.2.2 b h.lt hF)
theorem oL {w w':World} {b:Nat} (h:w.grownBy w' (some b)):Kf (· =b) w w':=⟨h.os,h.tape,h.output,h.size,fun k hk hf=>h.block k hk (fun e=>hf (Option.some.inj e))⟩
open Go Go.RowKit Go.Shelf
def o5 (N:Nat):Type:={b:Nat // b < N}
def KpO (go Bs:Nat) (W W':World):Prop:=W'.heap[go]? =W.heap[go]? ∧W'.heap[Bs]? =W.heap[Bs]?
theorem KpO.trans {go Bs:Nat} {A B C:World} (h:KpO go Bs A B) (k:KpO go Bs B C):KpO go Bs A C:=⟨k.1.trans h.1,k.2.trans h.2⟩
theorem KpO.refl (go Bs:Nat) (W:World):KpO go Bs W W:=⟨rfl,rfl⟩
def Bk (L:List Int) (x:o5 L.length):Array Value:= #[.int .i64 ((x.1:Nat):Int),.int .i64 (L.getD x.1 0)]
theorem vO {N M:Nat} (h:M < N):((List.range N).drop M).reverse=((List.range N).drop (M+1)).reverse ++ [M]:=by
 rw [List.drop_eq_getElem_cons (by simpa using h),List.reverse_cons];simp
theorem FM (F:Fence) (n:Nat) (hfn:F.fn 70) (hro:F.round=none) (hn:1≤n) (L:List Int) (hN:L.length≤1000000) (l Bs go off cap:Nat) (J Jx:List (o5 L.length)→World→Prop)
  (hY:∀pre (x:o5 L.length) W,J pre W→pre.length < L.length→YieldAt F (n - 1) Tryz.prog l (Bk L x) W fun e W'=>
   (e= .returned (.bool true)∧J (pre ++ [x]) W'∧KpO go Bs W W')∨(e= .returned (.bool false)∧Jx (pre ++ [x]) W'))
  (W:World) (hBs:Boxed W Bs 25 (.slice (some ⟨go,off,none⟩) L.length cap)) (hc:∀j,j < L.length→W.cell? ⟨go,off+j,none⟩=some (.int .i64 (L.getD j 0))) (h0:J [] W):
  CallsIn F n Tryz.prog 70 #[.func (.yield l) #[] #[],.pointer (some ⟨Bs,0,none⟩)] W fun e W'=>(∃v,e= .returned v)∧
   ((∃ys,ys.map (·.1)=(List.range L.length).reverse∧J ys W')∨(∃pre,True∧Jx pre W')):=by
 have c0:=hBs.cell;obtain⟨gv,hgv⟩:∃gv:Nat→Int,∀j,L.getD j 0=gv j:=⟨fun j=>L.getD j 0,fun _=>rfl⟩;have HY:=ae hY;have HEn:Hid (∀x:o5 L.length,Bk L x= #[.int .i64 ((x.1:Nat):Int),.int .i64 (gv x.1)]):=ae (fun x=>by unfold Bk;rw [hgv]);replace hc:∀j,j < L.length→W.cell? ⟨go,off+j,none⟩=some (.int .i64 (gv j)):=fun j hj=>by rw [hc j hj,hgv]
 clear hY hgv;refine callsIn_of_wp Tryz.func70 rfl hfn ?_ hro;simp only [Tryz.ntmps70,List.size_toArray,List.length_cons,List.length_nil,Nat.reduceAdd,Nat.reduceSub,Array.replicate_succ,Array.replicate_zero,List.push_toArray,List.append_toArray,List.nil_append,List.cons_append];gi_wp2
 gi_loopw [3] (fun i wr=>∃(K:Nat) (pre:List (o5 L.length)),K≤L.length∧i= .int .i64 ((K:Int) - 1)∧pre.map (·.1)=((List.range L.length).drop K).reverse∧J pre wr∧KpO go Bs W wr) (fun i _=>(intOf i+1).toNat)
 case atStart=>exact⟨L.length,[],Nat.le_refl _,rfl,by simp,h0,KpO.refl _ _ _⟩
 case round=>
  obtain⟨K,pre,hK,rfl,hpre,hJs,hnx⟩:=hrel;have c1:wr.cell? ⟨Bs,0,none⟩=some (.slice (some ⟨go,off,none⟩) L.length cap):=(show Boxed wr Bs 25 _ from hnx.2.trans hBs).cell
  cases K with
  |zero=>
   gi_wp2
   go_end0
   exact⟨⟨_,rfl⟩,.inl ⟨_,by simpa using hpre,hJs⟩⟩
  |succ M=>
   have hM:M < L.length:=(by omega);have hMI:(M:Int) < L.length:=(by omega);have e1:((M+1:Nat):Int) - 1=(M:Int):=(by omega);rw [e1];have hpl:pre.length < L.length:=by
    have:=congrArg List.length hpre;simp at this;omega
   have hd:=vO hM;have c2:wr.cell? ⟨go,off+M,none⟩=some (.int .i64 (gv M)):=(World.cell?_of_block (w:=W) (a:=⟨go,off+M,none⟩) hnx.1).trans (hc M hM);obtain⟨fn,tmps,assign,body,hy,hR⟩:=HY.out pre ⟨M,hM⟩ wr hJs hpl;rw [show Bk L ⟨M,hM⟩= #[.int .i64 (M:Int),.int .i64 (gv M)] from HEn.out ⟨M,hM⟩] at hy;clear e1;gi_wp2
   refine hR.mono ?_;rintro e W3 (⟨rfl,hJ3,hk3⟩ | ⟨rfl,hJx3⟩)
   ·gi_wp2
    go_roundw
    case rel=>exact⟨M,_,by omega,by go_num,by rw [hd,←hpre,List.map_append];rfl,hJ3,hnx.trans hk3⟩
    case measure=>simp [intOf]
   ·gi_wp2
    refine bodyPost_ret (results_none rfl _ _ _) rfl ?_;exact⟨⟨_,rfl⟩,.inr ⟨_,trivial,hJx3⟩⟩
theorem Jp (F:Fence) (n:Nat) (hfn:F.fn 48) (hro:F.round=none) (a:Option Addr) (len cap:Nat) (w:World):
  CallsIn F n Tryz.prog 48 #[.slice a len cap] w fun e w'=>e= .returned (.func (.func 70) #[] #[.pointer (some ⟨w.heap.size,0,none⟩)])∧w'=w.alloc (.cells #[.slice a len cap] 25):=by
 refine callsIn_of_wp Tryz.func48 rfl hfn ?_ hro;simp only [Tryz.ntmps48,List.size_toArray,List.length_cons,List.length_nil,Nat.reduceAdd,Nat.reduceSub,Array.replicate_succ,Array.replicate_zero,List.push_toArray,List.append_toArray,List.nil_append,List.cons_append];gi_wp2
 go_ret;exact⟨rfl,rfl⟩
theorem AK (F:Fence) (n:Nat) (hfn:F.fn 70) (hro:F.round=none) (hn:1≤n) (L:List Int) (hN:L.length≤1000000) (Bs go off cap:Nat) (w:World) (hgo:go < w.heap.size) (hBs:Boxed w Bs 25 (.slice (some ⟨go,off,none⟩) L.length cap))
  (hc:∀j,j < L.length→w.cell? ⟨go,off+j,none⟩=some (.int .i64 (L.getD j 0))):
  SeqStopsK F n Tryz.prog 70 #[.pointer (some ⟨Bs,0,none⟩)] (Bk L) (KpO go Bs) (fun ys=>ys.map (·.1)=(List.range L.length).reverse) (fun _=>True) L.length w:=fun l J Jx W hW _ _ hY h0=>
 FM F n hfn hro hn L hN l Bs go off cap J Jx hY W ((hW.block Bs hBs.lt).trans hBs) (fun j hj=>(hW.cell (p:=⟨go,off+j,none⟩) hgo).trans (hc j hj)) h0
theorem zy {P:Program} {Q:Exit→Act→World→Prop} {c:Code} (I:Nat→Act→World→Prop) {m0:Nat} {a:Act} {w:World} (h0:I m0 a w)
  (hr:∀m a w,I m a w→c.wp P (Exit.then (fun a' w'=>∃m',m' < m∧I m' a' w') Q) a w):(Code.loop c).wp P Q a w:=by
 have key:∀n m a w,m < n→I m a w→Code.rounds P c Q n a w:=by
  intro n;induction n with
  |zero=>intro m a w hm _;exact absurd hm (Nat.not_lt_zero _)
  |succ n ih=>
   intro m a w hm hI;rw [rounds_succ];refine Code.wp_mono (fun e a' w' h=> ?_) (hr m a w hI)
   cases e <;> first | exact h | (obtain⟨m',hm',h'⟩:=h;exact ih m' a' w' (by omega) h')
 exact wp_loop_rounds (m0+1) (key _ m0 a w (Nat.lt_succ_self _) h0)
def dfr (D:Nat):Deferred:={target:= .collected D,args:= #[]}
def StM (f:Fun) (V:List Int) (W B lp:Nat) (q:LkQ) (w0:World) (b1 b3 b4 go mr ma:Nat) (oc:Array Value) (Ds:List Nat) (nr na:Nat) (sr sa:Int→Bool) (H:Nat→Nat→Nat→Bool) (wr:World):Prop:=
 (Kf (iT f q) w0 wr∧LkD f V W B H q wr)∧(Boxed wr b1 58 (.pointer (some ⟨lp,0,none⟩))∧Boxed wr b3 83 (.map (some mr))∧Boxed wr b4 83 (.map (some ma))∧wr.heap[go]? =some (.cells oc 3 (0,0)))∧
 (SMap wr mr nr sr∧SMap wr ma na sa)∧∀D∈Ds,wr.heap[D]? =some (.deferred (some []))
def StN (w0:World) (b1 b3 b4 go mr ma:Nat) (Ds:List Nat):Prop:=(w0.heap.size≤b1∧w0.heap.size≤b3∧w0.heap.size≤b4∧w0.heap.size≤go∧w0.heap.size≤mr∧w0.heap.size≤ma)∧mr≠ma∧b3≠b4∧(∀D∈Ds,w0.heap.size≤D)∧Ds.Nodup
theorem LkD.kf {f:Fun} {V:List Int} {W B:Nat} {H:Nat→Nat→Nat→Bool} {q:LkQ} {w0 w w':World} {F:Nat→Prop} (h:LkD f V W B H q w) (hl:LkL f q w0) (k:Kf F w w') (hF:∀b,F b→w0.heap.size≤b):LkD f V W B H q w':=
 ⟨fun b hb p hp=>(h.1 b hb p hp).kf k fun hf=>by have:=hF _ hf;have:=hl.1 b p hb hp;omega,fun b hb=>(h.2 b hb).kf k fun hf=>by have:=hF _ hf;have:=hl.2 b hb;omega⟩
theorem StM.step {f:Fun} {V:List Int} {W B lp:Nat} {q:LkQ} {w0 wr w2:World} {b1 b3 b4 go mr ma:Nat} {oc:Array Value} {Ds:List Nat} {nr na nr' na':Nat} {sr sa sr' sa':Int→Bool} {H H':Nat→Nat→Nat→Bool} {F:Nat→Prop}
  (h:StM f V W B lp q w0 b1 b3 b4 go mr ma oc Ds nr na sr sa H wr) (k:Kf F wr w2) (hD:LkD f V W B H' q w2) (hF:∀b,F b→iT f q b∨w0.heap.size≤b) (h1:¬F b1) (h3:¬F b3) (h4:¬F b4) (ho:¬F go) (hDs:∀D∈Ds,¬F D)
  (hr:SMap w2 mr nr' sr') (ha:SMap w2 ma na' sa'):StM f V W B lp q w0 b1 b3 b4 go mr ma oc Ds nr' na' sr' sa' H' w2:=by
 obtain⟨⟨a1,_⟩,⟨c1,c2,c3,c4⟩,_,d⟩:=h;have hk:∀b,¬F b→∀o,wr.heap[b]? =some o→w2.heap[b]? =some o:=fun b hb o e=>(k.2.2.2.2 b (Array.getElem?_eq_some_iff.1 e).1 hb).trans e;exact⟨⟨a1.trans k hF,hD⟩,⟨hk _ h1 _ c1,hk _ h3 _ c2,hk _ h4 _ c3,hk _ ho _ c4⟩,⟨hr,ha⟩,fun D hDD=>hk _ (hDs D hDD) _ (d D hDD)⟩
theorem StM.idle {f:Fun} {V:List Int} {W B lp:Nat} {q:LkQ} {w0 wr w2:World} {b1 b3 b4 go mr ma:Nat} {oc:Array Value} {Ds:List Nat} {nr na:Nat} {sr sa:Int→Bool} {H:Nat→Nat→Nat→Bool} {F:Nat→Prop} {L:Nat}
  (hl:LkL f q w0) (h:StM f V W B lp q w0 b1 b3 b4 go mr ma oc Ds nr na sr sa H wr) (k:Kf F wr w2) (hF:∀b,F b→L≤b) (hL:w0.heap.size≤L) (h1:b1 < L) (h3:b3 < L) (h4:b4 < L) (ho:go < L) (hDs:∀D∈Ds,D < L) (hr:mr < L) (ha:ma < L):
  StM f V W B lp q w0 b1 b3 b4 go mr ma oc Ds nr na sr sa H w2:=
 h.step k (h.1.2.kf hl k fun b hb=>Nat.le_trans hL (hF b hb)) (fun b hb=> .inr (Nat.le_trans hL (hF b hb))) (fun e=>by have:=hF _ e;omega) (fun e=>by have:=hF _ e;omega) (fun e=>by have:=hF _ e;omega) (fun e=>by have:=hF _ e;omega)
  (fun D hD e=>by have:=hF _ e;have:=hDs D hD;omega) (h.2.2.1.1.kf k fun e=>by have:=hF _ e;omega) (h.2.2.1.2.kf k fun e=>by have:=hF _ e;omega)
theorem StM.below {f:Fun} {V:List Int} {W B lp:Nat} {q:LkQ} {w0 wr w2:World} {b1 b3 b4 go mr ma:Nat} {oc:Array Value} {Ds:List Nat} {nr na:Nat} {sr sa:Int→Bool} {H:Nat→Nat→Nat→Bool}
  (h:StM f V W B lp q w0 b1 b3 b4 go mr ma oc Ds nr na sr sa H wr) (b:Below wr.heap.size wr w2):StM f V W B lp q w0 b1 b3 b4 go mr ma oc Ds nr na sr sa H w2:=
 h.step (kZ b) (h.1.2.below b) (fun _ e=>e.elim) (fun e=>e) (fun e=>e) (fun e=>e) (fun e=>e) (fun _ _ e=>e) (h.2.2.1.1.kf (kZ b) fun e=>e) (h.2.2.1.2.kf (kZ b) fun e=>e)
theorem StM.lts {f:Fun} {V:List Int} {W B lp:Nat} {q:LkQ} {w0 wr:World} {b1 b3 b4 go mr ma:Nat} {oc:Array Value} {Ds:List Nat} {nr na:Nat} {sr sa:Int→Bool} {H:Nat→Nat→Nat→Bool}
  (h:StM f V W B lp q w0 b1 b3 b4 go mr ma oc Ds nr na sr sa H wr):w0.heap.size≤wr.heap.size∧b1 < wr.heap.size∧b3 < wr.heap.size∧b4 < wr.heap.size∧go < wr.heap.size∧(∀D∈Ds,D < wr.heap.size)∧mr < wr.heap.size∧ma < wr.heap.size:=by
 obtain⟨⟨a1,_⟩,⟨c1,c2,c3,c4⟩,⟨d1,d2⟩,d⟩:=h;exact⟨a1.2.2.2.1,c1.lt,c2.lt,c3.lt,(Array.getElem?_eq_some_iff.1 c4).1,fun D hD=>(Array.getElem?_eq_some_iff.1 (d D hD)).1,d1.lt,d2.lt⟩
def zP (sr sa:Int→Bool) (ord:List Int) (pre:List (o5 ord.length)) (b:Nat):Prop:=(sr b=true∧∀x∈pre,ord.getD x.1 0≠(b:Int))∨sa b=true
def RgI (f:Fun) (V:List Int) (W B lp:Nat) (q:LkQ) (w0:World) (b1 b3 b4 go mr ma:Nat) (oc:Array Value) (Ds:List Nat) (nr:Nat) (sr:Int→Bool) (m0 L:Nat) (ord:List Int) (pre:List (o5 ord.length)) (wr:World):Prop:=
 L≤wr.heap.size∧∃H na sa,StM f V W B lp q w0 b1 b3 b4 go mr ma oc Ds nr na sr sa H wr∧nI V f H (zP sr sa ord pre)∧na≤pre.length * 1000000∧((na=0∧muS V f H≤m0)∨muS V f H < m0)
theorem RgI.own {f:Fun} {V:List Int} {W B lp:Nat} {q:LkQ} {w0:World} {b1 b3 b4 go mr ma:Nat} {oc:Array Value} {Ds:List Nat} {nr:Nat} {sr:Int→Bool} {m0:Nat} {ord:List Int} {L:Nat}
  (hl:LkL f q w0) (hL:w0.heap.size≤L) (h1:b1 < L) (h3:b3 < L) (h4:b4 < L) (ho:go < L) (hDs:∀D∈Ds,D < L) (hr:mr < L) (ha:ma < L):OwnFrom L (RgI f V W B lp q w0 b1 b3 b4 go mr ma oc Ds nr sr m0 L ord):=by
 rintro pre A C row ⟨hA,H,na,sa,h,h2⟩ hg hrow;refine⟨Nat.le_trans hA hg.size,H,na,sa,?_,h2⟩;have k:Kf (fun b=>some b=row) A C:=⟨hg.os,hg.tape,hg.output,hg.size,fun x hx hf=>hg.block x hx hf⟩;exact h.idle hl k (fun b hb=>(hrow b hb.symm).1) hL h1 h3 h4 ho hDs hr ha
theorem Ez {f:Fun} {q:LkQ} {w:World} (hl:LkL f q w) {b:Nat} (h:iT f q b):b < w.heap.size:=by
 obtain⟨k,p,hk,hp,rfl⟩:=h;exact hl.1 k p hk hp
theorem BS {F:Nat→Prop} {w w':World} {L:Nat} (k:Kf F w w') (hF:∀b,F b→b < L):KeepsFrom L w w':=
 ⟨k.2.2.2.1,fun i o hB hi _=>(k.2.2.2.2 i (Array.getElem?_eq_some_iff.1 hi).1 (fun f=>by have:=hF i f;omega)).trans hi⟩
theorem KT {w:World} {go Bs:Nat} (hg:go < w.heap.size) (hB:Bs < w.heap.size) (W:World) (l:Nat) (o o':Obj) (hl:w.heap.size≤l) (_:W.heap[l]? =some o) (_:o.isCells=false) (_:o.isWalk=false):KpO go Bs W (W.putObj l o'):=
 ⟨World.putObj_heap_other (by omega),World.putObj_heap_other (by omega)⟩
theorem vW {F:Nat→Prop} {w w':World} {go Bs:Nat} (k:Kf F w w') (h1:go < w.heap.size) (h2:Bs < w.heap.size) (g1:¬F go) (g2:¬F Bs):KpO go Bs w w':=⟨k.2.2.2.2 go h1 g1,k.2.2.2.2 Bs h2 g2⟩
theorem pI {fn:Func} {tmps:Array Value} {R:Ending→World→Prop} {v:Value} (n0:Nat) (hres:∀w,(results fn tmps).run Tryz.prog w= .ok v w):
  ∀(Ds:List Nat) (w:World),Ds.Nodup→(∀D∈Ds,n0≤D∧w.heap[D]? =some (.deferred (some [])))→(∀w',Kf (fun b=>n0≤b) w w'→R (.returned v) w')→LeavesInM Fence.wide 5 Tryz.prog fn tmps R (Ds.map dfr) .returning w
 |[],w,_,_,hR=>⟨v,hres w,hR w (Kf.refl _ _)⟩
 |D :: Ds,w,hn,hD,hR=>by
  obtain⟨h1,h2⟩:=hD D (List.mem_cons_self ..);obtain⟨g1,g2⟩:=List.nodup_cons.1 hn;refine⟨by simp,.inl ⟨D,_,rfl,run_takeDeferred h2,pI n0 hres Ds _ g2 (fun D' hD'=> ?_) fun w' k=>hR w' ?_⟩⟩
  ·obtain⟨q1,q2⟩:=hD D' (List.mem_cons_of_mem _ hD');exact⟨q1,(World.putObj_heap_other (by intro e;subst e;exact g1 hD')).trans q2⟩
  ·have k0:Kf (fun b=>n0≤b) w (w.putObj D (.deferred none)):=⟨rfl,rfl,rfl,by simp [World.putObj],fun x hx hf=>World.putObj_heap_other (by intro e;subst e;exact hf h1)⟩;exact k0.trans k fun x hx=> .inl hx
end Go.Proofs.YtfdhemcahjommaaGreatDoor
