/- Texts of one chain, joined. -/
import Derived.Test.YtaiaakklokahjaaGreatDoorZWaAD
import Derived.Test.YtaiaakklokahjaaGreatDoorZWaAE
import Derived.Deep.Slices
import Derived.SizedLaws
set_option maxRecDepth 20000
namespace Go.Proofs.YtaiaakklokahjaaGreatDoor
open Go Go.RowKit
open G (Tok Er Ins Fun)
def wI (x:Ins):Nat:=1+x.2.2.2.2.1.length / 4+x.2.2.2.2.2.1.length / 4+x.2.2.2.2.2.2.1.length / 30
def wB (b:List Ins):Nat:=(b.map wI).sum
def wBs (l:List (List Ins)):Nat:=(l.map wB).sum
def wF0 (f:Fun):Nat:=f.2.2.2.1.length+f.2.1.length+f.1.length / 30
def wF (f:Fun):Nat:=wF0 f+wBs f.2.2.2.1
def wFs (p:List Fun):Nat:=(p.map wF).sum
def total (p:List Fun):Nat:=p.length+wFs p
def ShI (x:Ins):Prop:=x.2.2.2.2.1.length≤140737488355328∧x.2.2.2.2.2.1.length≤140737488355328∧x.2.2.2.2.2.2.1.length≤140737488355328
def ShF (f:Fun):Prop:=f.1.length≤140737488355328∧f.2.1.length≤140737488355328∧f.2.2.2.1.length≤140737488355328∧∀b∈f.2.2.2.1,∀x∈b,ShI x
theorem oe {α:Type} (g:α→Nat) (l:List α) (j:Nat) (x:α) (h:l[j]? =some x):((l.take (j+1)).map g).sum=((l.take j).map g).sum+g x:=by
 rw [List.take_add_one,h];simp
theorem oP {α:Type} (g:α→Nat) (l:List α) (j:Nat):((l.take j).map g).sum≤(l.map g).sum:=by
 have:(l.map g).sum=((l.take j).map g).sum+((l.drop j).map g).sum:=by rw [←List.sum_append,←List.map_append,List.take_append_drop]
 omega
open Go Go.RowKit Go.ChangeShapes Go.WideShapes
theorem oc2:Tryz.prog.cellsOf 2=1:=by kernel_rfl
theorem oc3:Tryz.prog.cellsOf 3=1:=by kernel_rfl
theorem oc9:Tryz.prog.cellsOf 9=1:=by kernel_rfl
theorem LJ:Tryz.prog.cellsOf 22=1:=by kernel_rfl
theorem Lg:Tryz.prog.cellsOf 24=1:=by kernel_rfl
theorem KN:Tryz.prog.cellsOf 26=1:=by kernel_rfl
theorem Mf:Tryz.prog.cellsOf 27=1:=by kernel_rfl
theorem KZ:Tryz.prog.cellsOf 29=5:=by kernel_rfl
theorem LY:Tryz.prog.cellsOf 36=1:=by kernel_rfl
theorem Lb:Tryz.prog.cellsOf 41=8:=by kernel_rfl
theorem ob3:Tryz.prog.bytesOf 3=8:=by kernel_rfl
theorem LA:Tryz.prog.bytesOf 29=80:=by kernel_rfl
theorem Lo:Tryz.prog.bytesOf 36=24:=by kernel_rfl
theorem Mc:Tryz.prog.bytesOf 41=104:=by kernel_rfl
def Sz {H:Type} (t:TypeId) (d:DataW H):Prop:=∀n∈d.weights Tryz.prog t,n≤reachBytes
section
variable {H:Type}
theorem Sz.field {t:TypeId} {fs:Array Field} {parts:List (DataW H)} (hu:Tryz.prog.underlying t=some (.struct fs)) (h:Sz t (.agg parts)) {i:Nat} {ti:TypeId} {di:DataW H} (ht:(fs.toList.map (·.type))[i]? =some ti) (hd:parts[i]? =some di):Sz ti di:=by
 intro n hn;refine h n ?_;simp only [DataW.weights,hu];exact DataW.weights_mem_each ht hd n hn
theorem jE {e:TypeId} {d:DataW H}:∀ {l:List (DataW H)},d∈l→∀n∈d.weights Tryz.prog e,n∈DataW.weightsAll Tryz.prog e l
 |x :: l,hd,n,hn=>by
  simp only [DataW.weightsAll,List.mem_append];rcases List.mem_cons.1 hd with rfl | hd
  ·exact .inl hn
  ·exact .inr (jE hd n hn)
theorem Sz.elem {t e:TypeId} {elems spare:List (DataW H)} (hu:Tryz.prog.underlying t=some (.slice e)) (h:Sz t (.slice elems spare)) {d:DataW H} (hd:d∈elems):Sz e d:=by
 intro n hn;refine h n ?_;simp only [DataW.weights,hu,List.mem_cons,List.mem_append];exact .inr (.inl (jE hd n hn))
theorem Sz.len {t e:TypeId} {elems spare:List (DataW H)} (hu:Tryz.prog.underlying t=some (.slice e)) (h:Sz t (.slice elems spare)):(elems.length+spare.length) * Tryz.prog.bytesOf e≤reachBytes:=
 h _ (by simp [DataW.weights,hu])
end
def Few (n:Nat):Prop:=n≤140737488355328
theorem sJ {n b m:Nat} (hb:1≤b) (h:(n+m) * b≤reachBytes):Few n:=by
 have h1:(n+m) * 1≤(n+m) * b:=Nat.mul_le_mul_left _ hb;have h2:reachBytes=140737488351232:=rfl;unfold Few;omega
def GxI (x:Ins):Prop:=I64 x.2.1∧I64 x.2.2.1∧(∀i∈x.2.2.2.2.1,I64 i)∧(∀i∈x.2.2.2.2.2.1,I64 i)∧Few x.2.2.2.2.1.length∧Few x.2.2.2.2.2.1.length∧Few x.2.2.2.2.2.2.1.length
def GxF (f:Fun):Prop:=Few f.1.length∧Few f.2.1.length∧Few f.2.2.2.1.length∧∀b∈f.2.2.2.1,∀x∈b,GxI x
section
variable {H:Type} {enc:TypeId × Value→H} {W:World}
theorem vr {n:Int} (h:(Lit.int .i64 n).wf=true):I64 n:=by
 simp [Lit.wf,IntKind.min,IntKind.max,IntKind.bits,IntKind.signed] at h;unfold I64;omega
theorem jZ {fuel:Nat} {v:Value} {x:DataW H × List MemPlace} (h:DataW.trod enc Tryz.prog W 0 (fun _=>true) true fuel 3 [v]=some x):∃n,v= .int .i64 n∧I64 n:=by
 obtain⟨n,e,_,hw⟩:=DataW.trod_int Tryz.underlying3 h;simp only [List.cons.injEq,and_true] at e;exact⟨n,e,vr hw⟩
theorem Cr {fuel:Nat} {v:Value} {x:DataW H × List MemPlace} (h:DataW.trod enc Tryz.prog W 0 (fun _=>true) true fuel 2 [v]=some x):∃n,v= .int .i64 n∧I64 n:=by
 obtain⟨n,e,_,hw⟩:=DataW.trod_int Tryz.underlying2 h;simp only [List.cons.injEq,and_true] at e;exact⟨n,e,vr hw⟩
theorem xY {fuel:Nat} {v:Value} {x:DataW H × List MemPlace} (h:DataW.trod enc Tryz.prog W 0 (fun _=>true) true fuel 9 [v]=some x) (hz:Sz 9 x.1):∃s:List UInt8,v= .string (bs s)∧Few s.length:=by
 obtain⟨s,e,rfl,_⟩:=DataW.trod_string Tryz.underlying9 h;simp only [List.cons.injEq,and_true] at e;refine⟨s.data.toList,by rw [e,Il],?_⟩;have h1:=hz s.data.toList.length (by simp [DataW.weights]);have h2:reachBytes=140737488351232:=rfl;unfold Few;omega
theorem ix {W:World} {a:Addr} {v:Value} (h:W.cell? (a.add 0)=some v):∃b o,a=⟨b,o,none⟩∧b < W.heap.size:=by
 obtain⟨b,o,s⟩:=a;have hs:s=none:=by simpa [Addr.add] using World.cell?_spot h
 subst hs;have hb:=World.block_lt_of_cell? W _ h;exact⟨b,o,rfl,by simpa [Addr.add] using hb⟩
theorem oT {fuel:Nat} {v:Value} {x:DataW H × List MemPlace} (h:DataW.trod enc Tryz.prog W 0 (fun _=>true) true fuel 26 [v]=some x) (hz:Sz 26 x.1):∃l:List Int,bT W l v∧(∀n∈l,I64 n)∧Few l.length:=by
 rcases open_ints Tryz.underlying26 Tryz.underlying3 oc3 h with ⟨e,_⟩ | ⟨a,len,cap,zs,e,_,hl,hm,hzl,rfl,hc,hw⟩
 ·simp only [List.cons.injEq,and_true] at e;exact⟨[],⟨none,0,e,.inl rfl,Nat.le_refl _,Nat.zero_le _⟩,fun _ h=>(by cases h),by unfold Few;simp⟩
 ·simp only [List.cons.injEq,and_true] at e;rw [if_pos rfl] at hzl;have hlen:(zs.take len).length=len:=by simp;omega
  have hsl:=Sz.len Tryz.underlying26 hz;refine⟨zs.take len,⟨some a,cap,by rw [hlen];exact e,?_,by omega,hm⟩,fun n hn=>vr (hw n (List.mem_of_mem_take hn)),?_⟩
  ·by_cases h0:len=0
   ·exact .inl (by rw [h0];rfl)
   ·obtain⟨b,o,rfl,hb⟩:=ix (hc 0 (by omega));refine .inr ⟨b,o,rfl,hb,fun i n hi=> ?_⟩;obtain⟨h1,h2⟩:=List.getElem?_eq_some_iff.1 hi;have:=hc i (by omega);rw [add_plain] at this;rw [this,List.getD_eq_getElem?_getD,List.getElem?_eq_getElem (by omega)];rw [List.getElem_take] at h2;rw [←h2];rfl
  ·rw [ob3] at hsl;simp only [lits,List.length_map] at hsl;exact sJ (b:=8) (by omega) hsl
theorem gK {xs:List (DataW H × List MemPlace)} {n i:Nat} (h:xs.length=n) (hi:i < n):∃y,xs[i]? =some y:=⟨xs[i]'(by omega),List.getElem?_eq_getElem (by omega)⟩
theorem Fs {cs:List Value} (h:cs.length=8):∃a b c d e f g i,cs= [a,b,c,d,e,f,g,i]:=by
 match cs,h with
 |[a,b,c,d,e,f,g,i],_=>exact⟨a,b,c,d,e,f,g,i,rfl⟩
theorem JS {cs:List Value} (h:cs.length=5):∃a b c d e,cs= [a,b,c,d,e]:=by
 match cs,h with
 |[a,b,c,d,e],_=>exact⟨a,b,c,d,e,rfl⟩
theorem Gv {fuel:Nat} {cs:List Value} {x:DataW H × List MemPlace} (h:DataW.trod enc Tryz.prog W 0 (fun _=>true) true fuel 41 cs=some x) (hz:Sz 41 x.1):
  ∃(y:Ins) (va vt:Value),cs=JX y va vt∧bT W y.2.2.2.2.1 va∧bT W y.2.2.2.2.2.1 vt∧GxI y:=by
 obtain⟨xs,n,_,rfl,hl,hlen,hf⟩:=DataW.trod_struct Tryz.underlying41 h;obtain⟨v0,v1,v2,v3,v4,v5,v6,v7,rfl⟩:=Fs (hl.trans Lb);have fld:∀(i:Nat) (ti:TypeId) (y:DataW H × List MemPlace),((#[_,_,_,_,_,_,_,_]:Array Field).toList.map (·.type))[i]? =some ti→xs[i]? =some y→Sz ti y.1:=fun i ti y ht hy=>Sz.field Tryz.underlying41 hz ht (by rw [List.getElem?_map,hy];rfl);obtain⟨y0,g0⟩:=gK hlen (i:=0) (by decide);obtain⟨y1,g1⟩:=gK hlen (i:=1) (by decide);obtain⟨y2,g2⟩:=gK hlen (i:=2) (by decide);obtain⟨y3,g3⟩:=gK hlen (i:=3) (by decide);obtain⟨y4,g4⟩:=gK hlen (i:=4) (by decide);obtain⟨y5,g5⟩:=gK hlen (i:=5) (by decide);obtain⟨y6,g6⟩:=gK hlen (i:=6) (by decide);obtain⟨y7,g7⟩:=gK hlen (i:=7) (by decide);have f0:DataW.trod enc Tryz.prog W 0 (fun _=>true) true n 3 ([v0,v1,v2,v3,v4,v5,v6,v7].take (Tryz.prog.cellsOf 3))=some y0:=(hf 0 _ rfl).trans g0;have f1:DataW.trod enc Tryz.prog W 0 (fun _=>true) true n 3 ([v1,v2,v3,v4,v5,v6,v7].take (Tryz.prog.cellsOf 3))=some y1:=(hf 1 _ rfl).trans g1;have f2:DataW.trod enc Tryz.prog W 0 (fun _=>true) true n 2 ([v2,v3,v4,v5,v6,v7].take (Tryz.prog.cellsOf 2))=some y2:=(hf 2 _ rfl).trans g2;have f3:DataW.trod enc Tryz.prog W 0 (fun _=>true) true n 3 ([v3,v4,v5,v6,v7].take (Tryz.prog.cellsOf 3))=some y3:=(hf 3 _ rfl).trans g3;have f4:DataW.trod enc Tryz.prog W 0 (fun _=>true) true n 26 ([v4,v5,v6,v7].take (Tryz.prog.cellsOf 26))=some y4:=(hf 4 _ rfl).trans g4;have f5:DataW.trod enc Tryz.prog W 0 (fun _=>true) true n 26 ([v5,v6,v7].take (Tryz.prog.cellsOf 26))=some y5:=(hf 5 _ rfl).trans g5;have f6:DataW.trod enc Tryz.prog W 0 (fun _=>true) true n 9 ([v6,v7].take (Tryz.prog.cellsOf 9))=some y6:=(hf 6 _ rfl).trans g6;have f7:DataW.trod enc Tryz.prog W 0 (fun _=>true) true n 3 ([v7].take (Tryz.prog.cellsOf 3))=some y7:=(hf 7 _ rfl).trans g7;rw [oc3] at f0 f1 f3 f7;rw [oc2] at f2;rw [KN] at f4 f5;rw [oc9] at f6;obtain⟨k,rfl,_⟩:=jZ f0;obtain⟨id,rfl,hid⟩:=jZ f1;obtain⟨nn,rfl,hn⟩:=Cr f2;obtain⟨ty,rfl,_⟩:=jZ f3;obtain⟨ar,ha,hai,hal⟩:=oT f4 (Sz.field Tryz.underlying41 hz (i:=4) rfl (by rw [List.getElem?_map,g4];rfl));obtain⟨tt,ht,hti,htl⟩:=oT f5 (Sz.field Tryz.underlying41 hz (i:=5) rfl (by rw [List.getElem?_map,g5];rfl));obtain⟨nm,rfl,hnm⟩:=xY f6 (Sz.field Tryz.underlying41 hz (i:=6) rfl (by rw [List.getElem?_map,g6];rfl));obtain⟨pl,rfl,_⟩:=jZ f7;exact⟨(k,id,nn,ty,ar,tt,nm,pl),v4,v5,rfl,ha,ht,hid,hn,hai,hti,hal,htl,hnm⟩
theorem KQ (b o i j:Nat):((⟨b,o,none⟩:Addr).add i).add j=⟨b,o+i+j,none⟩:=by rw [Deep.add_add,add_plain,Nat.add_assoc]
theorem GO {fuel:Nat} {v:Value} {x:DataW H × List MemPlace} (h:DataW.trod enc Tryz.prog W 0 (fun _=>true) true fuel 36 [v]=some x) (hz:Sz 36 x.1):∃l:List Ins,iR W l v∧(∀y∈l,GxI y)∧Few l.length:=by
 rcases Deep.open_slice Tryz.underlying36 h with ⟨e,_⟩ | ⟨a,len,cap,m,n,D,Pl,e,_,hl,hm,hmm,rfl,hx⟩
 ·simp only [List.cons.injEq,and_true] at e;exact⟨[],⟨none,0,e,Nat.le_refl _,Nat.zero_le _,.inl rfl⟩,fun _ h=>(by cases h),by unfold Few;simp⟩
 ·simp only [List.cons.injEq,and_true] at e;rw [if_pos rfl] at hmm;subst hmm;have hsl:=Sz.len Tryz.underlying36 hz;rw [Mc] at hsl;simp only [List.length_map,List.length_range] at hsl;have each:∀i,i < len→∃q:Ins,(∃va vt,(∃cs,W.cells? 0 (a.add (i * 8)) 8=some cs∧cs=JX q va vt)∧bT W q.2.2.2.2.1 va∧bT W q.2.2.2.2.2.1 vt)∧GxI q:=by
   intro i hi;obtain⟨cs,h1,h2⟩:=hx i (by omega);rw [Lb] at h1;obtain⟨y,va,vt,ec,k1,k2,k3⟩:=Gv h2 (Sz.elem Tryz.underlying36 hz (List.mem_map.2 ⟨i,by simpa using hi,rfl⟩));exact⟨y,⟨va,vt,⟨cs,h1,ec⟩,k1,k2⟩,k3⟩
  obtain⟨q,hq⟩:=Deep.choose_lt each;refine⟨(List.range len).map q,⟨some a,m,by rw [e];simp,by simpa using hl,hm,?_⟩,fun y hy=> ?_,by simpa using sJ (b:=104) (by omega) hsl⟩
  ·by_cases h0:len=0
   ·exact .inl (by rw [h0];rfl)
   ·obtain⟨⟨va,vt,⟨cs,h1,h2⟩,_⟩,_⟩:=hq 0 (by omega);obtain⟨_,hcl,hcc⟩:=World.cells?_some h1;have hc0:=(hcc 0 (by omega)).trans (List.getElem?_eq_getElem (by omega));rw [Deep.add_add,Nat.zero_mul] at hc0;obtain⟨b,o,rfl,hb⟩:=ix hc0;refine .inr ⟨b,o,rfl,fun i y hi=> ?_⟩;have hi':i < len:=by
     have:=(List.getElem?_eq_some_iff.1 hi).1;simpa using this
    have hy:q i=y:=by
     rw [List.getElem?_map,List.getElem?_range hi'] at hi;exact Option.some.inj hi
    subst hy;obtain⟨⟨va,vt,⟨cs,h1,h2⟩,k1,k2⟩,_⟩:=hq i hi';obtain⟨_,hcl,hcc⟩:=World.cells?_some h1;refine⟨hb,va,vt,fun j t hj=> ?_,k1,k2⟩;have hj8:j < 8:=(List.getElem?_eq_some_iff.1 hj).1;have:=hcc j hj8;rw [KQ] at this;rw [this,h2];exact hj
  ·obtain⟨i,hi,rfl⟩:=List.mem_map.1 hy;exact(hq i (by simpa using hi)).2
theorem Dt {fuel:Nat} {v:Value} {x:DataW H × List MemPlace} (h:DataW.trod enc Tryz.prog W 0 (fun _=>true) true fuel 27 [v]=some x) (hz:Sz 27 x.1):∃l:List (List Ins),fj W l v∧(∀b∈l,∀y∈b,GxI y)∧Few l.length:=by
 rcases Deep.open_slice1 Tryz.underlying27 LY h with ⟨e,_⟩ | ⟨a,len,cap,m,n,V,D,Pl,e,_,hl,hm,hmm,rfl,hx⟩
 ·simp only [List.cons.injEq,and_true] at e;exact⟨[],⟨none,0,e,Nat.le_refl _,Nat.zero_le _,.inl rfl⟩,fun _ h=>(by cases h),by unfold Few;simp⟩
 ·simp only [List.cons.injEq,and_true] at e;rw [if_pos rfl] at hmm;subst hmm;have hsl:=Sz.len Tryz.underlying27 hz;rw [Lo] at hsl;simp only [List.length_map,List.length_range] at hsl;have each:∀i,i < len→∃q:List Ins,(W.cell? (a.add i)=some (V i)∧iR W q (V i))∧∀y∈q,GxI y:=by
   intro i hi;obtain⟨h1,h2⟩:=hx i (by omega);obtain⟨q,k1,k2,_⟩:=GO h2 (Sz.elem Tryz.underlying27 hz (List.mem_map.2 ⟨i,by simpa using hi,rfl⟩));exact⟨q,⟨h1,k1⟩,k2⟩
  obtain⟨q,hq⟩:=Deep.choose_lt each;refine⟨(List.range len).map q,⟨some a,m,by rw [e];simp,by simpa using hl,hm,?_⟩,fun y hy=> ?_,by simpa using sJ (b:=24) (by omega) hsl⟩
  ·by_cases h0:len=0
   ·exact .inl (by rw [h0];rfl)
   ·obtain⟨b,o,rfl,hb⟩:=ix (hq 0 (by omega)).1.1;refine .inr ⟨b,o,rfl,hb,fun i y hi=> ?_⟩;have hi':i < len:=by
     have:=(List.getElem?_eq_some_iff.1 hi).1;simpa using this
    have hy:q i=y:=by
     rw [List.getElem?_map,List.getElem?_range hi'] at hi;exact Option.some.inj hi
    subst hy;obtain⟨k1,k2⟩:=(hq i hi').1;rw [add_plain] at k1;exact⟨V i,k1,k2⟩
  ·obtain⟨i,hi,rfl⟩:=List.mem_map.1 hy;exact(hq i (by simpa using hi)).2
theorem Hw {fuel:Nat} {cs:List Value} {x:DataW H × List MemPlace} (h:DataW.trod enc Tryz.prog W 0 (fun _=>true) true fuel 29 cs=some x) (hz:Sz 29 x.1):
  ∃(y:Fun) (vp vb:Value),cs=JF y vp vb∧bT W y.2.1 vp∧fj W y.2.2.2.1 vb∧GxF y:=by
 obtain⟨xs,n,_,rfl,hl,hlen,hf⟩:=DataW.trod_struct Tryz.underlying29 h;obtain⟨v0,v1,v2,v3,v4,rfl⟩:=JS (hl.trans KZ);obtain⟨y0,g0⟩:=gK hlen (i:=0) (by decide);obtain⟨y1,g1⟩:=gK hlen (i:=1) (by decide);obtain⟨y2,g2⟩:=gK hlen (i:=2) (by decide);obtain⟨y3,g3⟩:=gK hlen (i:=3) (by decide);obtain⟨y4,g4⟩:=gK hlen (i:=4) (by decide);have f0:DataW.trod enc Tryz.prog W 0 (fun _=>true) true n 9 ([v0,v1,v2,v3,v4].take (Tryz.prog.cellsOf 9))=some y0:=(hf 0 _ rfl).trans g0;have f1:DataW.trod enc Tryz.prog W 0 (fun _=>true) true n 26 ([v1,v2,v3,v4].take (Tryz.prog.cellsOf 26))=some y1:=(hf 1 _ rfl).trans g1;have f2:DataW.trod enc Tryz.prog W 0 (fun _=>true) true n 3 ([v2,v3,v4].take (Tryz.prog.cellsOf 3))=some y2:=(hf 2 _ rfl).trans g2;have f3:DataW.trod enc Tryz.prog W 0 (fun _=>true) true n 27 ([v3,v4].take (Tryz.prog.cellsOf 27))=some y3:=(hf 3 _ rfl).trans g3;have f4:DataW.trod enc Tryz.prog W 0 (fun _=>true) true n 3 ([v4].take (Tryz.prog.cellsOf 3))=some y4:=(hf 4 _ rfl).trans g4;rw [oc9] at f0;rw [KN] at f1;rw [oc3] at f2 f4;rw [Mf] at f3;obtain⟨nm,rfl,hnm⟩:=xY f0 (Sz.field Tryz.underlying29 hz (i:=0) rfl (by rw [List.getElem?_map,g0];rfl));obtain⟨ps,hp,_,hpl⟩:=oT f1 (Sz.field Tryz.underlying29 hz (i:=1) rfl (by rw [List.getElem?_map,g1];rfl));obtain⟨rt,rfl,_⟩:=jZ f2;obtain⟨bl,hb,hbg,hbl⟩:=Dt f3 (Sz.field Tryz.underlying29 hz (i:=3) rfl (by rw [List.getElem?_map,g3];rfl));obtain⟨pl,rfl,_⟩:=jZ f4;exact⟨(nm,ps,rt,bl,pl),v1,v3,rfl,hp,hb,hnm,hpl,hbl,hbg⟩
theorem Di {fuel:Nat} {v:Value} {x:DataW H × List MemPlace} (h:DataW.trod enc Tryz.prog W 0 (fun _=>true) true fuel 22 [v]=some x) (hz:Sz 22 x.1):∃l:List Fun,eg W l v∧(∀y∈l,GxF y)∧Few l.length:=by
 rcases Deep.open_slice Tryz.underlying22 h with ⟨e,_⟩ | ⟨a,len,cap,m,n,D,Pl,e,_,hl,hm,hmm,rfl,hx⟩
 ·simp only [List.cons.injEq,and_true] at e;exact⟨[],⟨none,0,e,Nat.le_refl _,Nat.zero_le _,.inl rfl⟩,fun _ h=>(by cases h),by unfold Few;simp⟩
 ·simp only [List.cons.injEq,and_true] at e;rw [if_pos rfl] at hmm;subst hmm;have hsl:=Sz.len Tryz.underlying22 hz;rw [LA] at hsl;simp only [List.length_map,List.length_range] at hsl;have each:∀i,i < len→∃q:Fun,(∃va vt,(∃cs,W.cells? 0 (a.add (i * 5)) 5=some cs∧cs=JF q va vt)∧bT W q.2.1 va∧fj W q.2.2.2.1 vt)∧GxF q:=by
   intro i hi;obtain⟨cs,h1,h2⟩:=hx i (by omega);rw [KZ] at h1;obtain⟨y,va,vt,ec,k1,k2,k3⟩:=Hw h2 (Sz.elem Tryz.underlying22 hz (List.mem_map.2 ⟨i,by simpa using hi,rfl⟩));exact⟨y,⟨va,vt,⟨cs,h1,ec⟩,k1,k2⟩,k3⟩
  obtain⟨q,hq⟩:=Deep.choose_lt each;refine⟨(List.range len).map q,⟨some a,m,by rw [e];simp,by simpa using hl,hm,?_⟩,fun y hy=> ?_,by simpa using sJ (b:=80) (by omega) hsl⟩
  ·by_cases h0:len=0
   ·exact .inl (by rw [h0];rfl)
   ·obtain⟨⟨va,vt,⟨cs,h1,h2⟩,_⟩,_⟩:=hq 0 (by omega);obtain⟨_,hcl,hcc⟩:=World.cells?_some h1;have hc0:=(hcc 0 (by omega)).trans (List.getElem?_eq_getElem (by omega));rw [Deep.add_add,Nat.zero_mul] at hc0;obtain⟨b,o,rfl,hb⟩:=ix hc0;refine .inr ⟨b,o,rfl,fun i y hi=> ?_⟩;have hi':i < len:=by
     have:=(List.getElem?_eq_some_iff.1 hi).1;simpa using this
    have hy:q i=y:=by
     rw [List.getElem?_map,List.getElem?_range hi'] at hi;exact Option.some.inj hi
    subst hy;obtain⟨⟨va,vt,⟨cs,h1,h2⟩,k1,k2⟩,_⟩:=hq i hi';obtain⟨_,hcl,hcc⟩:=World.cells?_some h1;refine⟨hb,va,vt,fun j t hj=> ?_,k1,k2⟩;have hj8:j < 5:=(List.getElem?_eq_some_iff.1 hj).1;have:=hcc j hj8;rw [KQ] at this;rw [this,h2];exact hj
  ·obtain⟨i,hi,rfl⟩:=List.mem_map.1 hy;exact(hq i (by simpa using hi)).2
theorem Dv {r:Reach} {b0:Nat} {v:Value} {d:DataW H} {ps:List MemPlace} (hv:Value.okWide Tryz.prog W r b0 24 v) (h:DataW.Trod enc Tryz.prog W 0 (fun _=>true) true 24 v d ps) (hz:Sz 24 d):
  ∃(l:List Fun) (po:Option Addr) (c:Nat),v= .agg #[.slice po l.length c]∧eg W l (.slice po l.length c)∧(∀y∈l,GxF y)∧Few l.length:=by
 obtain⟨cs,rfl,hsz⟩:=okWide_struct Tryz.underlying24 hv;obtain⟨fuel,hf⟩:=h;obtain⟨xs,n,_,hx,hl,hlen,each⟩:=DataW.trod_struct Tryz.underlying24 hf;have e1:cs.size=1:=hsz.trans Lg;obtain⟨u,rfl⟩:∃u,cs= #[u]:=by
  obtain⟨l⟩:=cs;match l,e1 with
  |[u],_=>exact⟨u,rfl⟩
 obtain⟨y0,g0⟩:=gK hlen (i:=0) (by decide);have f0:DataW.trod enc Tryz.prog W 0 (fun _=>true) true n 22 ([u].take (Tryz.prog.cellsOf 22))=some y0:=(each 0 _ rfl).trans g0;rw [LJ] at f0;have hd:d= .agg (xs.map (·.1)):=congrArg Prod.fst hx;rw [hd] at hz;obtain⟨l,k1,k2,k3⟩:=Di f0 (Sz.field Tryz.underlying24 hz (i:=0) rfl (by rw [List.getElem?_map,g0];rfl));have k1':=k1;obtain⟨po,c,rfl,_⟩:=k1;exact⟨l,po,c,rfl,k1',k2,k3⟩
end
open Go.ChangeShapes Go.WideShapes Go.ChangeAt
def GyF (f:Fun):Prop:=Few f.1.length∧Few f.2.1.length∧Few f.2.2.2.1.length∧∀b∈f.2.2.2.1,Few b.length∧∀x∈b,GxI x
theorem GyF.sh {f:Fun} (h:GyF f):ShF f:=⟨h.1,h.2.1,h.2.2.1,fun b hb x hx=>by
 obtain⟨_,_,_,_,h5,h6,h7⟩:=(h.2.2.2 b hb).2 x hx;exact⟨h5,h6,h7⟩⟩
theorem GyF.Mi {f:Fun} (h:GyF f):∀b∈f.2.2.2.1,b.length≤281474976710656∧∀x∈b,x.2.2.2.2.2.2.1.length≤maxLen:=fun b hb=>by
 obtain⟨h1,h2⟩:=h.2.2.2 b hb;unfold Few at h1;refine⟨by omega,fun x hx=> ?_⟩;obtain⟨_,_,_,_,_,_,h7⟩:=h2 x hx;unfold Few at h7;unfold maxLen;omega
def mQ (w:World) (l:List Int) (v:Value):Prop:=∃ao c,v= .slice ao l.length c∧(l= []∨∃b o,ao=some ⟨b,o,none⟩∧b < w.heap.size∧∀(i:Nat) (n:Int),l[i]? =some n→w.cell? ⟨b,o+i,none⟩=some (.int .u8 n))∧l.length≤maxLen
theorem mQ.below {w w':World} {l:List Int} {v:Value} (h:mQ w l v) (hb:Below w.heap.size w w'):mQ w' l v:=by
 obtain⟨ao,c,e,h1,h2⟩:=h;refine⟨ao,c,e,?_,h2⟩;rcases h1 with h1 | ⟨b,o,e2,hl,hc⟩
 ·exact .inl h1
 ·exact .inr ⟨b,o,e2,Nat.lt_of_lt_of_le hl hb.size,fun i n hi=>(hb.cell (p:=⟨b,o+i,none⟩) hl).trans (hc i n hi)⟩
theorem oc5:Tryz.prog.cellsOf 5=1:=by kernel_rfl
theorem Iv {n:Int} (h:(Lit.int .u8 n).wf=true):0≤n∧n < 256:=by
 simp [Lit.wf,IntKind.min,IntKind.max,IntKind.bits,IntKind.signed] at h;omega
theorem A2 {H:Type} {enc:TypeId × Value→H} {W:World} {r:Reach} {b0:Nat} {v:Value} {d:DataW H} {ps:List MemPlace} (hv:Value.okWide Tryz.prog W r b0 25 v) (h:DataW.Trod enc Tryz.prog W 0 (fun _=>true) true 25 v d ps) (_hz:Sz 25 d):
  ∃b:List Int,mQ W b v∧∀x∈b,0≤x∧x < 256:=by
 obtain⟨a0,len0,cap0,rfl⟩:=okWide_slice Tryz.underlying25 hv;obtain⟨fuel,hf⟩:=h;rcases open_ints Tryz.underlying25 Tryz.underlying5 oc5 hf with ⟨e,_⟩ | ⟨a,len,cap,zs,e,_,hl,hm,hzl,hx,hc,hw⟩
 ·have e':Value.slice a0 len0 cap0= .slice none 0 0:=by simpa [Value.cells] using e
  exact⟨[],⟨none,0,e',.inl rfl,Nat.zero_le _⟩,fun _ h=>(by cases h)⟩
 ·have e':Value.slice a0 len0 cap0= .slice (some a) len cap:=by simpa [Value.cells] using e
  rw [if_pos rfl] at hzl;have hlen:(zs.take len).length=len:=by simp;omega
  refine⟨zs.take len,⟨some a,cap,by rw [hlen];exact e',?_,by omega⟩,fun n hn=>Iv (hw n (List.mem_of_mem_take hn))⟩;by_cases h0:len=0
  ·exact .inl (by rw [h0];rfl)
  ·obtain⟨b,o,rfl,hb⟩:=ix (hc 0 (by omega));refine .inr ⟨b,o,rfl,hb,fun i n hi=> ?_⟩;obtain⟨h1,h2⟩:=List.getElem?_eq_some_iff.1 hi;have:=hc i (by omega);rw [add_plain] at this;rw [this,List.getD_eq_getElem?_getD,List.getElem?_eq_getElem (by omega)];rw [List.getElem_take] at h2;rw [←h2];rfl
end Go.Proofs.YtaiaakklokahjaaGreatDoor
