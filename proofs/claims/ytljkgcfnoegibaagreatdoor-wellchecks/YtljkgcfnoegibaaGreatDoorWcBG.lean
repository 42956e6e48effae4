/- Texts of one chain, joined. -/
import Derived.Test.YtljkgcfnoegibaaGreatDoorWcBF
import Derived.Maps.OwnSet
import Derived.Maps.OwnOps
set_option maxHeartbeats 1000000
set_option maxRecDepth 20000
namespace Go.Proofs.YtljkgcfnoegibaaGreatDoor
open Go Go.RowKit Go.Maps
open G (Tok Er Ins Fun)
theorem Tryz.key3:Tryz.prog.underlying 3=some (.int .i64):=by kernel_rfl
theorem intKey:Keyed Tryz.prog 3:=int_keyed Tryz.key3
theorem Tryz.map40:Tryz.prog.underlying 40=some (.map 3 3):=by kernel_rfl
theorem Tryz.map109:Tryz.prog.underlying 109=some (.map 3 113):=by kernel_rfl
theorem Tryz.map158:Tryz.prog.underlying 158=some (.map 3 159):=by kernel_rfl
theorem Tryz.zero3 (w:World):(zeroValue 3).run Tryz.prog w= .ok (.int .i64 0) w:=by kernel_rfl
theorem Tryz.zero113 (w:World):(zeroValue 113).run Tryz.prog w= .ok (.agg #[.int .i64 0,.int .i64 0]) w:=by kernel_rfl
theorem Tryz.zero159 (w:World):(zeroValue 159).run Tryz.prog w= .ok (.agg #[]) w:=by kernel_rfl
abbrev Wf6 (a:Int):Prop:=(Lit.int .i64 a).wf=true
theorem wf_of {a:Int} (h:I64 a):Wf6 a:=by
 obtain⟨h1,h2⟩:=h
 exact WalkArith.wf_i64 (by omega)
abbrev Rdg:=Value→Option (DataW Unit × List MemPlace)
def NMap (w:World) (R:Rdg) (b n:Nat) (m:Int→Option (DataW Unit)):Prop:=
 ∃D,w.ownsMap Tryz.prog 3 R b n D∧∀a:Int,Wf6 a→Maps.has D (.int .i64 a)=(m a).isSome∧∀z,D.atKey (.int .i64 a) z=(m a).getD z
theorem NMap.mono {w:World} {R:Rdg} {b n n':Nat} {m:Int→Option (DataW Unit)} (h:NMap w R b n m) (hn:n≤n'):NMap w R b n' m:=by
 obtain⟨D,h1,h2⟩:=h
 exact⟨D,h1.mono hn,h2⟩
theorem NMap.congr {w:World} {R:Rdg} {b n:Nat} {m m':Int→Option (DataW Unit)} (h:NMap w R b n m) (e:∀a,m a=m' a):NMap w R b n m':=by
 have:m=m':=funext e
 subst this
 exact h
theorem NMap.made (w:World) (R:Rdg):NMap (w.alloc (.map #[] 0)) R w.heap.size 0 (fun _=>none):=
 ⟨.map [],World.ownsMap_made _ _ _ _,fun _ _=>⟨rfl,fun _=>rfl⟩⟩
theorem NMap.lt {w:World} {R:Rdg} {b n:Nat} {m:Int→Option (DataW Unit)} (h:NMap w R b n m):b < w.heap.size:=by
 obtain⟨D,h1,_⟩:=h
 exact h1.lt
theorem NMap.isMap {w:World} {R:Rdg} {b n:Nat} {m:Int→Option (DataW Unit)} (h:NMap w R b n m):∃es c,w.heap[b]? =some (.map es c):=by
 obtain⟨D,⟨es,c,h1,_⟩,_⟩:=h
 exact⟨es,c,h1⟩
theorem NMap.kept {w w':World} {R:Rdg} {b n:Nat} {m:Int→Option (DataW Unit)} {row:Option Nat} (h:NMap w R b n m) (hg:w.grownBy w' row) (hne:some b≠row):NMap w' R b n m:=by
 obtain⟨D,h1,h2⟩:=h
 exact⟨D,h1.kept hg hne,h2⟩
theorem below_grown {w w':World} (h:Below w.heap.size w w') (row:Option Nat):w.grownBy w' row:=⟨h.os,h.tape,h.output,h.size,fun i hi _=>h.block i hi⟩
theorem grown_below {w w':World} {B b:Nat} (h:w.grownBy w' (some b)) (hB:B≤w.heap.size) (hb:B≤b):Below B w w':=⟨h.os,h.tape,h.output,h.size,fun i hi=>h.block i (by omega) (by intro e;cases e;omega)⟩
theorem NMap.below {w w':World} {R:Rdg} {b n:Nat} {m:Int→Option (DataW Unit)} (h:NMap w R b n m) (hb:Below w.heap.size w w'):NMap w' R b n m:=h.kept (below_grown hb none) (by simp)
theorem cell_but {w w':World} {b:Nat} (hg:w.grownBy w' (some b)) (hm:∃es c,w.heap[b]? =some (.map es c)) {a:Addr} {v:Value} (h:w.cell? a=some v):w'.cell? a=some v:=by
 refine hg.cell h ?_
 intro e
 injection e with e
 obtain⟨es,c,hm⟩:=hm
 unfold World.cell? at h
 rw [e,hm] at h
 simp at h
theorem NMap.put {w':World} {R:Rdg} {b n:Nat} {m:Int→Option (DataW Unit)} {D:DataW Unit} (id:Int) (hI:Wf6 id) (d:DataW Unit) (h2:∀a:Int,Wf6 a→Maps.has D (.int .i64 a)=(m a).isSome∧∀z,D.atKey (.int .i64 a) z=(m a).getD z) (hD:IsMap D)
  (h:w'.ownsMap Tryz.prog 3 R b n (D.put (.int .i64 id) d)):NMap w' R b n (fun a=>if a=id then some d else m a):=by
 refine⟨_,h,fun a ha=> ?_⟩
 by_cases e:a=id
 ·subst e
  simp only [if_true]
  have hk:WideAt.IsKeyLit (Lit.int .i64 a):=trivial
  exact⟨has_put_same hD hk d,fun z=>atKey_put_same hD hk d z⟩
 ·simp only [e,if_false]
  have hne:(Lit.int .i64 a)≠ .int .i64 id:=by intro h;injection h with _ h;exact e h
  exact⟨(has_put_other hne d).trans (h2 a ha).1,fun z=>(atKey_put_other hne d z).trans ((h2 a ha).2 z)⟩
section
variable {ops:Array Oper} {rest:List Oper} {o:Oper} {a:Act} {Q:Exit→Act→World→Prop}
theorem wpList_nput (w:World) (hg:o.guard=none) (mo x v:Operand) (t:TypeId) (hop:o.op=Op.mapUpdate t mo x v) (e:TypeId) (ht:Tryz.prog.underlying t=some (.map 3 e)) (R:Rdg) (b n:Nat) (m:Int→Option (DataW Unit))
  (hm:a.eval mo= .map (some b)) (hM:NMap w R b n m) (hn:n < maxLen) (id:Int) (hI:Wf6 id) (val:Value) (hx:a.eval x= .int .i64 id) (hv:a.eval v=val) (d:DataW Unit) (ps:List MemPlace) (hval:R val=some (d,ps))
  (hK:∀w',NMap w' R b (n+1) (fun a=>if a=id then some d else m a)→w.grownBy w' (some b)→wpList Tryz.prog ops Q rest (a.put o.dst undef) w'):
  wpList Tryz.prog ops Q (o :: rest) a w:=by
 obtain⟨D,h1,h2⟩:=hM
 refine wpList_mapUpdate_own w hg mo x v t hop 3 e intKey ht R b n D hm h1 hn _ val (.int .i64 id) hx hv (keyOf_int_mk Tryz.key3 hI) d ps hval fun w' h hgr=>hK w' (NMap.put id hI d h2 h1.isMap h) hgr
theorem wpList_nlook (w:World) (hg:o.guard=none) (mo x:Operand) (t:TypeId) (hop:o.op=Op.lookup t mo x true) (e:TypeId) (ht:Tryz.prog.underlying t=some (.map 3 e)) (R:Rdg) {z:Value} (hz:(zeroValue e).run Tryz.prog w= .ok z w) (zd:DataW Unit) (zp:List MemPlace) (hzd:R z=some (zd,zp))
  (b n:Nat) (m:Int→Option (DataW Unit)) (hm:a.eval mo= .map (some b)) (hM:NMap w R b n m) (id:Int) (hI:Wf6 id) (hx:a.eval x= .int .i64 id)
  (hK:∀v ps,R v=some ((m id).getD zd,ps)→wpList Tryz.prog ops Q rest (a.put o.dst (.tuple #[v,.bool (m id).isSome])) w):
  wpList Tryz.prog ops Q (o :: rest) a w:=by
 obtain⟨D,h1,h2⟩:=hM
 refine wpList_lookup_own_ok w hg mo x t hop 3 e intKey ht R hz zd zp hzd b n D hm h1 _ (.int .i64 id) hx (keyOf_int_mk Tryz.key3 hI) fun v ps hv=> ?_
 rw [(h2 id hI).1]
 exact hK v ps (by rw [hv,(h2 id hI).2])
def spotElem:Rdg:=fun v=>match v with
 |.agg ⟨[.int .i64 x,.int .i64 y]⟩=>some (.agg [.lit (.int .i64 x),.lit (.int .i64 y)],[])
 |_=>none
def spotD (s:Int × Int):DataW Unit:= .agg [.lit (.int .i64 s.1),.lit (.int .i64 s.2)]
theorem spot_mk (x y:Int):spotElem (.agg #[.int .i64 x,.int .i64 y])=some (spotD (x,y),[]):=rfl
theorem spot_inv {v:Value} {s:Int × Int} {ps:List MemPlace} (h:spotElem v=some (spotD s,ps)):v= .agg #[.int .i64 s.1,.int .i64 s.2]:=by
 unfold spotElem at h
 split at h
 ·simp only [Option.some.injEq,Prod.mk.injEq,spotD,DataW.agg.injEq,List.cons.injEq,DataW.lit.injEq,Lit.int.injEq,true_and,and_true] at h
  obtain⟨⟨h1,h2⟩,_⟩:=h
  rw [←h1,←h2]
 ·cases h
def SMap (w:World) (b n:Nat) (mk:Int→Option (Int × Int)):Prop:=NMap w spotElem b n (fun a=>(mk a).map spotD)
def spotV (s:Option (Int × Int)):Int × Int:=s.getD (0,0)
theorem wpList_slook (w:World) (hg:o.guard=none) (mo x:Operand) (hop:o.op=Op.lookup 109 mo x true) (b n:Nat) (mk:Int→Option (Int × Int)) (hm:a.eval mo= .map (some b)) (hM:SMap w b n mk) (id:Int) (hI:Wf6 id) (hx:a.eval x= .int .i64 id) (s t:Int) (c:Bool) (hs:spotV (mk id)=(s,t)) (hc:(mk id).isSome=c)
  (hK:wpList Tryz.prog ops Q rest (a.put o.dst (.tuple #[.agg #[.int .i64 s,.int .i64 t],.bool c])) w):
  wpList Tryz.prog ops Q (o :: rest) a w:=by
 refine wpList_nlook w hg mo x 109 hop 113 Tryz.map109 spotElem (Tryz.zero113 w) (spotD (0,0)) [] (spot_mk 0 0) b n _ hm hM id hI hx fun v ps hv=> ?_
 have e:((mk id).map spotD).getD (spotD (0,0))=spotD (spotV (mk id)):=by cases mk id <;> rfl
 rw [e,hs] at hv
 rw [spot_inv hv,Option.isSome_map,hc]
 exact hK
theorem wpList_sput (w:World) (hg:o.guard=none) (mo x v:Operand) (hop:o.op=Op.mapUpdate 109 mo x v) (b n:Nat) (mk:Int→Option (Int × Int)) (hm:a.eval mo= .map (some b)) (hM:SMap w b n mk) (hn:n < maxLen) (id:Int) (hI:Wf6 id) (s t:Int) (hx:a.eval x= .int .i64 id) (hv:a.eval v= .agg #[.int .i64 s,.int .i64 t])
  (hK:∀w',SMap w' b (n+1) (fun a=>if a=id then some (s,t)else mk a)→w.grownBy w' (some b)→wpList Tryz.prog ops Q rest (a.put o.dst undef) w'):
  wpList Tryz.prog ops Q (o :: rest) a w:=
 wpList_nput w hg mo x v 109 hop 113 Tryz.map109 spotElem b n _ hm hM hn id hI _ hx hv _ _ (spot_mk s t) fun w' h hgr=>hK w' (h.congr fun a=>by by_cases e:a=id <;> simp [e]) hgr
def IMap (w:World) (b n:Nat) (ty:Int→Option Int):Prop:=NMap w (plainElem Tryz.prog 3) b n (fun a=>(ty a).map fun t=> .lit (.int .i64 t))
theorem wpList_ilook (w:World) (hg:o.guard=none) (mo x:Operand) (hop:o.op=Op.lookup 40 mo x false) (b n:Nat) (ty:Int→Option Int) (hm:a.eval mo= .map (some b)) (hM:IMap w b n ty) (id:Int) (hI:Wf6 id) (hx:a.eval x= .int .i64 id) (t:Int) (hT:(ty id).getD 0=t)
  (hK:wpList Tryz.prog ops Q rest (a.put o.dst (.int .i64 t)) w):
  wpList Tryz.prog ops Q (o :: rest) a w:=by
 obtain⟨D,h1,h2⟩:=hM
 refine wpList_lookup_own_int w hg mo x 40 hop 3 3 .i64 intKey Tryz.map40 Tryz.key3 (Tryz.zero3 w) b n D hm h1 _ (.int .i64 id) hx (keyOf_int_mk Tryz.key3 hI) fun c hc _=> ?_
 rw [(h2 id hI).2] at hc
 have e:(ty id).getD 0=c:=by
  cases h:ty id with
  |none=>simp [h] at hc;simpa using hc
  |some t=>simp [h] at hc;simpa using hc
 rw [←e,hT]
 exact hK
theorem wpList_iput (w:World) (hg:o.guard=none) (mo x v:Operand) (hop:o.op=Op.mapUpdate 40 mo x v) (b n:Nat) (ty:Int→Option Int) (hm:a.eval mo= .map (some b)) (hM:IMap w b n ty) (hn:n < maxLen) (id:Int) (hI:Wf6 id) (t:Int) (hT:Wf6 t) (hx:a.eval x= .int .i64 id) (hv:a.eval v= .int .i64 t)
  (hK:∀w',IMap w' b (n+1) (fun a=>if a=id then some t else ty a)→w.grownBy w' (some b)→wpList Tryz.prog ops Q rest (a.put o.dst undef) w'):
  wpList Tryz.prog ops Q (o :: rest) a w:=
 wpList_nput w hg mo x v 40 hop 3 Tryz.map40 (plainElem Tryz.prog 3) b n _ hm hM hn id hI _ hx hv _ _ (plainElem_int Tryz.key3 hT) fun w' h hgr=>hK w' (h.congr fun a=>by by_cases e:a=id <;> simp [e]) hgr
def UMap (w:World) (b n N:Nat) (s:Int→Bool):Prop:=∃D,w.ownsMap Tryz.prog 3 (unitElem (H:=Unit)) b n D∧Maps.size D=N∧∀a:Int,Wf6 a→Maps.has D (.int .i64 a)=s a
theorem UMap.made (w:World):UMap (w.alloc (.map #[] 0)) w.heap.size 0 0 (fun _=>false):=⟨.map [],World.ownsMap_made _ _ _ _,rfl,fun _ _=>rfl⟩
theorem UMap.kept {w w':World} {b n N:Nat} {s:Int→Bool} {row:Option Nat} (h:UMap w b n N s) (hg:w.grownBy w' row) (hne:some b≠row):UMap w' b n N s:=by
 obtain⟨D,h1,h2⟩:=h
 exact⟨D,h1.kept hg hne,h2⟩
theorem wpList_uput (w:World) (hg:o.guard=none) (mo x v:Operand) (hop:o.op=Op.mapUpdate 158 mo x v) (b n N:Nat) (s:Int→Bool) (hm:a.eval mo= .map (some b)) (hM:UMap w b n N s) (hn:n < maxLen) (id:Int) (hI:Wf6 id) (hs:s id=false) (hx:a.eval x= .int .i64 id) (hv:a.eval v= .agg #[])
  (hK:∀w',UMap w' b (n+1) (N+1) (fun a=>decide (a=id) || s a)→w.grownBy w' (some b)→wpList Tryz.prog ops Q rest (a.put o.dst undef) w'):
  wpList Tryz.prog ops Q (o :: rest) a w:=by
 obtain⟨D,h1,h0,h2⟩:=hM
 refine wpList_mapUpdate_own w hg mo x v 158 hop 3 159 intKey Tryz.map158 _ b n D hm h1 hn _ _ (.int .i64 id) hx hv (keyOf_int_mk Tryz.key3 hI) _ _ unitElem_mk fun w' h hgr=>hK w' ⟨_,h,?_,fun a ha=> ?_⟩ hgr
 ·rw [size_put (h1.tidy intKey),h2 id hI,hs,h0]
  rfl
 ·by_cases e:a=id
  ·subst e
   have hk:WideAt.IsKeyLit (Lit.int .i64 a):=trivial
   rw [has_put_same h1.isMap hk]
   simp
  ·have hne:(Lit.int .i64 a)≠ .int .i64 id:=by intro h;injection h with _ h;exact e h
   rw [has_put_other hne,h2 a ha]
   simp [e]
theorem wpList_ulook (w:World) (hg:o.guard=none) (mo x:Operand) (hop:o.op=Op.lookup 158 mo x true) (b n N:Nat) (s:Int→Bool) (hm:a.eval mo= .map (some b)) (hM:UMap w b n N s) (id:Int) (hI:Wf6 id) (hx:a.eval x= .int .i64 id) (c:Bool) (hc:s id=c)
  (hK:wpList Tryz.prog ops Q rest (a.put o.dst (.tuple #[.agg #[],.bool c])) w):
  wpList Tryz.prog ops Q (o :: rest) a w:=by
 obtain⟨D,h1,_,h2⟩:=hM
 refine wpList_lookup_own_unit w hg mo x 158 hop 3 159 intKey Tryz.map158 (Tryz.zero159 w) b n D hm h1 _ (.int .i64 id) hx (keyOf_int_mk Tryz.key3 hI) ?_
 rw [h2 id hI,hc]
 exact hK
theorem wpList_udel (w:World) (hg:o.guard=none) (mo x:Operand) (hop:o.op=Op.call {callee:=Callee.builtin Builtin.delete,args:= #[mo,x],argTypes:= #[158,3]}) (b n N:Nat) (s:Int→Bool) (hm:a.eval mo= .map (some b)) (hM:UMap w b n N s) (id:Int) (hI:Wf6 id) (hs:s id=true) (hx:a.eval x= .int .i64 id)
  (hK:∀w' N',N'+1=N→UMap w' b n N' (fun a=> !decide (a=id) && s a)→w.grownBy w' (some b)→wpList Tryz.prog ops Q rest (a.put o.dst (.tuple #[])) w'):
  wpList Tryz.prog ops Q (o :: rest) a w:=by
 obtain⟨D,h1,h0,h2⟩:=hM
 refine wpList_delete_own w hg mo x 158 3 hop 159 intKey Tryz.map158 _ b n D hm h1 _ (.int .i64 id) hx (keyOf_int_mk Tryz.key3 hI) fun w' h hgr=>hK w' (Maps.size (D.del (.int .i64 id))) ?_ ⟨_,h,rfl,fun a ha=> ?_⟩ hgr.grown
 ·have:=size_del (k:= .int .i64 id) (h1.tidy intKey)
  rw [h2 id hI,hs] at this
  simp at this
  omega
 ·by_cases e:a=id
  ·subst e
   rw [has_del_same]
   simp
  ·have hne:(Lit.int .i64 a)≠ .int .i64 id:=by intro h;injection h with _ h;exact e h
   rw [has_del_other hne,h2 a ha]
   simp [e]
theorem wpList_ulen (w:World) (hg:o.guard=none) (mo:Operand) (hop:o.op=Op.call {callee:=Callee.builtin Builtin.len,args:= #[mo],argTypes:= #[158]}) (b n N:Nat) (s:Int→Bool) (hm:a.eval mo= .map (some b)) (hM:UMap w b n N s)
  (hK:wpList Tryz.prog ops Q rest (a.put o.dst (.int .i64 (N:Int))) w):
  wpList Tryz.prog ops Q (o :: rest) a w:=by
 obtain⟨D,h1,h0,_⟩:=hM
 refine wpList_len_own w hg mo 158 hop 3 159 Tryz.map158 _ b n D hm h1 ?_
 rw [h0]
 exact hK
end
open Go Go.RowKit
def stdO (p:List Fun) (nm:List UInt8):Option Nat:=fstN (fun i=>if(funN p i).1=nm then some i else none) p.length
def stdI (p:List Fun) (nm:List UInt8):Int:=match stdO p nm with
 |none=> -1
 |some i=>i
theorem find_std (p:List Fun) (nm:List UInt8):findF p nm=(stdO p nm).map (funN p):=by
 unfold findF stdO
 cases h:fstN (fun i=>if(funN p i).1=nm then some i else none) p.length with
 |none=>
  have h1:=fstN_all h
  rw [fstN_none]
  ·rfl
  ·intro j hj
   have:=h1 j hj
   split at this
   ·cases this
   ·rename_i hh
    rw [if_neg hh]
 |some i=>
  obtain⟨K,hK,h1,h2⟩:=fstN_at h
  split at h1
  ·rename_i hh
   simp only [Option.some.injEq] at h1
   subst h1
   refine fstN_some (K:=K) (fun j hj=> ?_) hK (by rw [if_pos hh])
   have:=h2 j hj
   split at this
   ·cases this
   ·rename_i h3
    rw [if_neg h3]
  ·cases h1
theorem std_lt {p:List Fun} {nm:List UInt8} {i:Nat} (h:stdO p nm=some i):i < p.length:=by
 obtain⟨K,hK,h1,_⟩:=fstN_at h
 split at h1
 ·cases h1;exact hK
 ·cases h1
theorem stands1_any (nm mm:List UInt8) (a1 a3:Value) (rt pl:Int) (ao bo:Option Addr) (n1 c1 n2 c2 g:Nat) (w:World) (e1:a1= .slice ao n1 c1) (e3:a3= .slice bo n2 c2) (hg:g < w.heap.size) (h:w.cell? ⟨g,0,none⟩=some (.string (bs mm))):
  Calls Tryz.prog 49 #[.agg #[.string (bs nm),a1,.int .i64 rt,a3,.int .i64 pl],.pointer (some ⟨g,0,none⟩)] w fun e w'=>e= .returned (.bool (decide (nm=mm)))∧Below w.heap.size w w':=by
 subst e1 e3
 have b1:=below_box w (.cells #[.string (bs nm),.slice ao n1 c1,.int .i64 rt,.slice bo n2 c2,.int .i64 pl] 36)
 have h1:=heap_alloc_new w (.cells #[.string (bs nm),.slice ao n1 c1,.int .i64 rt,.slice bo n2 c2,.int .i64 pl] 36)
 have H1:=hide h1
 have B1:=hide b1
 have hc:=(b1.cell (p:=⟨g,0,none⟩) hg).trans h
 clear b1 h1 h
 go_enter Tryz.func49,Tryz.ntmps49
 go_upto_region 1 with fail
 show Code.wp _ _ _ _ (w.alloc (.cells #[.string (bs nm),.slice ao n1 c1,.int .i64 rt,.slice bo n2 c2,.int .i64 pl] 36))
 generalize w.alloc (.cells #[.string (bs nm),.slice ao n1 c1,.int .i64 rt,.slice bo n2 c2,.int .i64 pl] 36)=W at *
 obtain⟨⟨z0,_⟩,_⟩:=five_at H1.out
 by_cases hnm:nm=mm
 ·have hbq:((bs nm).toList == (bs mm).toList)=true:=by rw [hnm];exact bs_beq mm
  have HD:Hid (true=decide (nm=mm)):=hide (by simp [hnm])
  clear hnm
  go_wp2_with fail
  go_ret
  exact⟨by rw [←HD.out];rfl,B1.out⟩
 ·have hbq:=nm_ne hnm
  have HD:Hid (false=decide (nm=mm)):=hide (by simp [hnm])
  clear hnm
  go_wp2_with fail
  go_ret
  exact⟨by rw [←HD.out];rfl,B1.out⟩
theorem indexFn_any (p:List Fun) (nm:List UInt8) (po:Option Addr) (pc g:Nat) (w:World) (hp:ProgR w p (.slice po p.length pc)) (hl:p.length≤1000000) (hg:g < w.heap.size) (h:w.cell? ⟨g,0,none⟩=some (.string (bs nm))):
  Calls Tryz.prog 48 #[.slice po p.length pc,.func (Fn.func 49) #[] #[.pointer (some ⟨g,0,none⟩)]] w fun e w'=>e= .returned (.int .i64 (stdI p nm))∧Below w.heap.size w w':=by
 have HFd:Hid (stdO p nm=fstN (fun i=>if(funN p i).1=nm then some i else none) p.length):=hide rfl
 have HSt:Hid (stdI p nm=match stdO p nm with
  |none=> -1
  |some i=>i):=hide rfl
 obtain⟨r,hr⟩:∃r,stdI p nm=r:=⟨_,rfl⟩
 rw [hr] at HSt ⊢
 clear hr
 have H:=hide h
 have HP:=hide hp
 clear hp h
 have HRd:Hid (∀w' i,Below w.heap.size w w'→i < p.length→∃g o,po=some ⟨g,o,none⟩∧FunR w' (funN p i) g (o+i * 5)):=hide (fun w' i b hi=>prog_fun (HP.out.below b) hi)
 clear HP
 generalize hn:p.length=n at *
 replace hn:=hide hn
 go_enter Tryz.func48,Tryz.ntmps48
 go_wp2_with fail
 go_loopw [8] (fun i wr=>∃k:Nat,i= .int .i64 k∧k≤n∧Below w.heap.size w wr∧Hid (∀j,j < k→¬(funN p j).1=nm)) (fun i _=>n - (intOf i).toNat)
 case atStart=>exact⟨0,rfl,Nat.zero_le _,Below.refl _ _,hide (fun j h=>absurd h (Nat.not_lt_zero _))⟩
 case round=>
  obtain⟨k,rfl,hk,HB,HF⟩:=hrel
  have HB:=hide HB
  by_cases hlt:k < n
  ·have hlt':(k:Int) < n:=by omega
   obtain⟨q,o,rfl,hfr⟩:=HRd.out wr k HB.out hlt
   obtain⟨ao,bo,c,cb,hfv,d0,d1,d2,d3,d4⟩:=hfr.val
   have hcg:=hide ((HB.out.cell (p:=⟨g,0,none⟩) hg).trans H.out)
   have hgs:g < wr.heap.size:=Nat.lt_of_lt_of_le hg HB.out.size
   obtain⟨f,hf⟩:∃f,funN p k=f:=⟨_,rfl⟩
   rw [hf] at d0 d1 d2 d3 d4
   clear hfv hfr
   go_wp2_with fail
   refine(stands1_any f.1 nm _ _ f.2.2.1 f.2.2.2.2 ao bo _ _ _ _ g _ rfl rfl hgs hcg.out).mono ?_;rintro e w1 ⟨rfl,b1⟩
   by_cases hnm:f.1=nm
   ·have HR:Hid ((k:Int)=r):=hide (by
     rw [HSt.out,HFd.out,fstN_some (K:=k) (a:=k) (fun j hj=>if_neg (HF.out j hj)) hlt (by rw [hf,if_pos hnm])])
    have hdec:decide (f.1=nm)=true:=by simp [hnm]
    have HE:=hide (HB.out.trans ⟨b1.os,b1.tape,b1.output,b1.size,fun i hi=>b1.block i (Nat.lt_of_lt_of_le hi HB.out.size)⟩)
    rw [hdec]
    clear hdec hnm b1
    go_wp2_with fail
    go_ret
    exact⟨by rw [←HR.out];rfl,HE.out⟩
   ·have HF2:Hid (∀j,j < k+1→¬(funN p j).1=nm):=hide (fun j hj=>by
     by_cases e:j=k
     ·rw [e,hf];exact hnm
     ·exact HF.out j (by omega))
    have hdec:decide (f.1=nm)=false:=by simp [hnm]
    have HE:=hide (HB.out.trans ⟨b1.os,b1.tape,b1.output,b1.size,fun i hi=>b1.block i (Nat.lt_of_lt_of_le hi HB.out.size)⟩)
    rw [hdec]
    clear hdec hnm b1
    go_wp2_with fail
    go_roundw
    case rel=>exact⟨k+1,by go_num,by omega,HE.out,HF2⟩
    case measure=>simp [intOf];omega
  ·obtain rfl:k=n:=by omega
   have HR:Hid ((-1:Int)=r):=hide (by
    rw [HSt.out,HFd.out,fstN_none (fun j hj=>if_neg (HF.out j hj))])
   go_wp2_with fail
   go_ret
   exact⟨by rw [←HR.out];rfl,HB.out⟩
theorem stands_any11 (p:List Fun) (nm:List UInt8) (po:Option Addr) (pc:Nat) (w:World) (hp:ProgR w p (.slice po p.length pc)) (hl:p.length≤1000000):
  Calls Tryz.prog 27 #[.slice po p.length pc,.string (bs nm)] w fun e w'=>e= .returned (.int .i64 (stdI p nm))∧Below w.heap.size w w':=by
 have b1:=below_box w (.cells #[.string (bs nm)] 9)
 have h1:=heap_alloc_new w (.cells #[.string (bs nm)] 9)
 have H1:=hide h1
 have B1:=hide b1
 have HP:=hide (hp.below b1)
 clear b1 h1 hp
 go_enter Tryz.func27,Tryz.ntmps27
 go_upto_region 1 with fail
 show Code.wp _ _ _ _ (w.alloc (.cells #[.string (bs nm)] 9))
 generalize w.alloc (.cells #[.string (bs nm)] 9)=W at *
 obtain⟨z0,hz⟩:=one_at H1.out
 have Z0:=hide z0
 clear z0
 generalize hn:p.length=n at *
 replace hn:=hide hn
 go_wp2_with fail
 have C:=hide (indexFn_any p nm po pc w.heap.size W (by rw [hn.out];exact HP.out) (by rw [hn.out];exact hl) hz Z0.out)
 rw [hn.out] at C
 refine C.out.mono ?_;rintro e w1 ⟨rfl,b1⟩
 have HE:=hide (below_step B1.out b1)
 clear b1
 go_wp2_with fail
 go_ret
 exact⟨rfl,HE.out⟩
end Go.Proofs.YtljkgcfnoegibaaGreatDoor
