/- Texts of one chain, joined. -/
import Derived.Test.YtljkgcfnoegibaaGreatDoorWcBR
import Derived.Deep.Quiet
import Derived.Below
namespace Go.Proofs.YtljkgcfnoegibaaGreatDoor
open Go Go.RowKit
open G (Tok Er Ins Fun)
def IntsA (N:Nat→Prop) (w:World) (l:List Int) (v:Value):Prop:=∃ao c,v= .slice ao l.length c∧l.length≤c∧c≤maxLen∧(l= []∨∃b o,ao=some ⟨b,o,none⟩∧b < w.heap.size∧¬N b∧∀i n,l[i]? =some n→w.cell? ⟨b,o+i,none⟩=some (.int .i64 n))
def InsA (N:Nat→Prop) (w:World) (x:Ins) (g o:Nat):Prop:=g < w.heap.size∧∃va vt,(∀j t,(insC x va vt)[j]? =some t→w.cell? ⟨g,o+j,none⟩=some t)∧IntsA N w x.2.2.2.2.1 va∧IntsA N w x.2.2.2.2.2.1 vt
def BlkA (N:Nat→Prop) (w:World) (b:List Ins) (v:Value):Prop:=∃ao c,v= .slice ao b.length c∧b.length≤c∧c≤maxLen∧(b= []∨∃g o,ao=some ⟨g,o,none⟩∧¬N g∧∀i x,b[i]? =some x→InsA N w x g (o+i * 8))
theorem IntsA.v {N:Nat→Prop} {w:World} {l:List Int} {v:Value} (h:IntsA N w l v):IntsV w l v:=by
 obtain⟨ao,c,e,h1,h2,h3⟩:=h
 refine⟨ao,c,e,?_,h1,h2⟩
 rcases h3 with h3 | ⟨b,o,e2,hb,_,hc⟩
 ·exact .inl h3
 ·exact .inr ⟨b,o,e2,hb,hc⟩
theorem IntsA.grown {N N':Nat→Prop} {w w':World} {l:List Int} {v:Value} (h:IntsA N w l v) (hs:w.heap.size≤w'.heap.size) (hk:∀b,b < w.heap.size→¬N b→w'.heap[b]? =w.heap[b]? ∧¬N' b):IntsA N' w' l v:=by
 obtain⟨ao,c,e,h1,h2,h3⟩:=h
 refine⟨ao,c,e,h1,h2,?_⟩
 rcases h3 with h3 | ⟨b,o,e2,hb,hn,hc⟩
 ·exact .inl h3
 ·obtain⟨q1,q2⟩:=hk b hb hn
  refine .inr ⟨b,o,e2,by omega,q2,fun i n hi=> ?_⟩
  have:=hc i n hi
  unfold World.cell? at this ⊢
  rw [show(⟨b,o+i,none⟩:Addr).block=b from rfl] at this ⊢
  rw [q1]
  exact this
theorem cell_same {w w':World} {b:Nat} (h:w'.heap[b]? =w.heap[b]?) {o:Nat} {v:Value} (hc:w.cell? ⟨b,o,none⟩=some v):w'.cell? ⟨b,o,none⟩=some v:=by
 unfold World.cell? at hc ⊢
 rw [show(⟨b,o,none⟩:Addr).block=b from rfl] at hc ⊢
 rw [h]
 exact hc
theorem InsA.grown {N N':Nat→Prop} {w w':World} {x:Ins} {g o:Nat} (h:InsA N w x g o) (hs:w.heap.size≤w'.heap.size) (hk:∀b,b < w.heap.size→¬N b→w'.heap[b]? =w.heap[b]? ∧¬N' b) (hg:w'.heap[g]? =w.heap[g]?):InsA N' w' x g o:=by
 obtain⟨h0,va,vt,h1,h2,h3⟩:=h
 exact⟨by omega,va,vt,fun j t hj=>cell_same hg (h1 j t hj),h2.grown hs hk,h3.grown hs hk⟩
theorem BlkA.grown {N N':Nat→Prop} {w w':World} {b:List Ins} {v:Value} (h:BlkA N w b v) (hs:w.heap.size≤w'.heap.size) (hk:∀b,b < w.heap.size→¬N b→w'.heap[b]? =w.heap[b]? ∧¬N' b):BlkA N' w' b v:=by
 obtain⟨ao,c,e,h1,h2,h3⟩:=h
 refine⟨ao,c,e,h1,h2,?_⟩
 rcases h3 with h3 | ⟨g,o,e2,hn,hi⟩
 ·exact .inl h3
 ·by_cases hb:b= []
  ·exact .inl hb
  ·obtain⟨x,hx⟩:∃x,b[0]? =some x:=by
    cases b with
    |nil=>exact absurd rfl hb
    |cons y r=>exact⟨y,rfl⟩
   have hg:=(hi 0 x hx).1
   exact .inr ⟨g,o,e2,(hk g hg hn).2,fun i x hx=>(hi i x hx).grown hs hk (hk g hg hn).1⟩
theorem BlkA.r {N:Nat→Prop} {w:World} {b:List Ins} {v:Value} (h:BlkA N w b v):BlkR w b v:=by
 obtain⟨ao,c,e,h1,h2,h3⟩:=h
 refine⟨ao,c,e,h1,h2,?_⟩
 rcases h3 with h3 | ⟨g,o,e2,hn,hi⟩
 ·exact .inl h3
 ·refine .inr ⟨g,o,e2,fun i x hx=> ?_⟩
  obtain⟨h0,va,vt,q1,q2,q3⟩:=hi i x hx
  exact⟨h0,va,vt,q1,q2.v,q3.v⟩
theorem intsA_of {w:World} {l:List Int} {v:Value} (h:IntsV w l v):IntsA (fun b=>w.heap.size≤b) w l v:=by
 obtain⟨ao,c,e,h1,h2,h3⟩:=h
 refine⟨ao,c,e,h2,h3,?_⟩
 rcases h1 with h1 | ⟨b,o,e2,hb,hc⟩
 ·exact .inl h1
 ·exact .inr ⟨b,o,e2,hb,by omega,hc⟩
theorem blkA_of {w:World} {b:List Ins} {v:Value} (h:BlkR w b v):BlkA (fun q=>w.heap.size≤q) w b v:=by
 obtain⟨ao,c,e,h1,h2,h3⟩:=h
 refine⟨ao,c,e,h1,h2,?_⟩
 rcases h3 with h3 | ⟨g,o,e2,hi⟩
 ·exact .inl h3
 ·by_cases hb:b= []
  ·exact .inl hb
  ·obtain⟨x,hx⟩:∃x,b[0]? =some x:=by
    cases b with
    |nil=>exact absurd rfl hb
    |cons y r=>exact⟨y,rfl⟩
   have hg:=(hi 0 x hx).1
   refine .inr ⟨g,o,e2,by omega,fun i x hx=> ?_⟩
   obtain⟨h0,va,vt,q1,q2,q3⟩:=hi i x hx
   exact⟨h0,va,vt,q1,intsA_of q2,intsA_of q3⟩
def RowI (B:Nat) (w:World) (l:List Int) (v:Value):Prop:=w.ownsRow B 3 1 v l.length (ints l)
theorem RowI.a {B:Nat} {w:World} {l:List Int} {v:Value} (h:RowI B w l v) (N:Nat→Prop) (hN:∀b,N b→b < B∨∃cur t z,t≠3∧w.heap[b]? =some (Obj.cells cur t z)):IntsA N w l v:=by
 obtain⟨ao,c,e,h1,h2,h3⟩:=ints_of h
 refine⟨ao,c,e,h2,h3,?_⟩
 rcases h1 with h1 | ⟨b,o,e2,hb,hc⟩
 ·exact .inl h1
 ·refine .inr ⟨b,o,e2,hb,fun hn=> ?_,hc⟩
  unfold RowI at h
  rcases h.2 with ⟨hnil,hl⟩ | ⟨g,cap,cur,e3,q1,q2,_⟩
  ·rw [hnil] at e
   injection e with e
   rw [←e] at e2
   cases e2
  ·rw [e3] at e
   injection e with e
   rw [←e] at e2
   injection e2 with e2
   injection e2 with e2
   subst e2
   rcases hN g hn with hlt | ⟨cur',t,z,ht,hh⟩
   ·omega
   ·rw [q2] at hh
    injection hh with hh
    injection hh with _ hh
    exact ht hh.symm
theorem RowI.below {B:Nat} {w w':World} {l:List Int} {v:Value} (h:RowI B w l v) (b:Below w.heap.size w w'):RowI B w' l v:=own_below b B _ _ _ _ _ h
abbrev Nn (Z:Nat→Prop) (gO gX:Nat):Nat→Prop:=fun b=>b=gO∨b=gX∨Z b
def StA (w0:World) (Z:Nat→Prop) (A1 A2:Array Value) (ps:List Int) (v9:Value) (f:Fun) (gO gX:Nat) (w:World):Prop:=
 Below w0.heap.size w0 w∧w.heap[w0.heap.size]? =some (Obj.cells A1 36 (0,0))∧w.heap[w0.heap.size+1]? =some (Obj.cells A2 36 (0,0))∧w0.heap.size+1 < gO∧IntsA (Nn Z gO gX) w ps v9∧(∃cur,w.heap[gO]? =some (Obj.cells cur 45 (0,0)))∧∀k,k < f.2.2.2.1.length→∃u,w.cell? ⟨gO,k,none⟩=some u∧BlkA (Nn Z gO gX) w (blkN f k) u
theorem StA.fresh {w0:World} {Z:Nat→Prop} {A1 A2:Array Value} {ps:List Int} {v9:Value} {f:Fun} {gO gX gY:Nat} {w w':World} (h:StA w0 Z A1 A2 ps v9 f gO gX w) (b:Below w.heap.size w w') (hY:gY=gX∨gY=gO∨w.heap.size≤gY):StA w0 Z A1 A2 ps v9 f gO gY w':=by
 obtain⟨h1,h2,h3,h4,h5,⟨cur,h6⟩,h7⟩:=h
 have l2:=(Array.getElem?_eq_some_iff.1 h2).1
 have l3:=(Array.getElem?_eq_some_iff.1 h3).1
 have l6:=(Array.getElem?_eq_some_iff.1 h6).1
 have hk:∀q,q < w.heap.size→¬Nn Z gO gX q→w'.heap[q]? =w.heap[q]? ∧¬Nn Z gO gY q:=fun q hq hn=>⟨b.block q hq,fun e=>by
  rcases e with e | e | e
  ·exact hn (.inl e)
  ·rcases hY with hY | hY | hY
   ·exact hn (.inr (.inl (e.trans hY)))
   ·exact hn (.inl (e.trans hY))
   ·omega
  ·exact hn (.inr (.inr e))⟩
 refine⟨h1.trans ⟨b.os,b.tape,b.output,b.size,fun i hi=>b.block i (by have:=h1.size;omega)⟩,(b.block _ l2).trans h2,(b.block _ l3).trans h3,h4,h5.grown b.size hk,⟨cur,(b.block _ l6).trans h6⟩,fun k hkk=> ?_⟩
 obtain⟨u,q1,q2⟩:=h7 k hkk
 exact⟨u,(b.cell (p:=⟨gO,k,none⟩) l6).trans q1,q2.grown b.size hk⟩
theorem StA.set {w0:World} {Z:Nat→Prop} {A1 A2:Array Value} {ps:List Int} {v9:Value} {f:Fun} {gO gX:Nat} {w:World} (h:StA w0 Z A1 A2 ps v9 f gO gX w) (hne:gX≠gO) (hlt:w0.heap.size+1 < gX) (j:Nat) (v:Value):StA w0 Z A1 A2 ps v9 f gO gX (w.setCell ⟨gX,j,none⟩ v):=by
 obtain⟨h1,h2,h3,h4,h5,⟨cur,h6⟩,h7⟩:=h
 have hs:∀q,q≠gX→(w.setCell ⟨gX,j,none⟩ v).heap[q]? =w.heap[q]? :=fun q hq=>Below.heap_setCell w ⟨gX,j,none⟩ v q hq
 have hb:=h1.setCell (p:=⟨gX,j,none⟩) (by show w0.heap.size≤gX;omega) v
 have hsz:w.heap.size≤(w.setCell ⟨gX,j,none⟩ v).heap.size:=(grown_set w ⟨gX,j,none⟩ v).size
 have hk:∀q,q < w.heap.size→¬Nn Z gO gX q→(w.setCell ⟨gX,j,none⟩ v).heap[q]? =w.heap[q]? ∧¬Nn Z gO gX q:=fun q _ hn=>⟨hs q (fun e=>hn (.inr (.inl e))),hn⟩
 refine⟨hb,(hs _ (by omega)).trans h2,(hs _ (by omega)).trans h3,h4,h5.grown hsz hk,⟨cur,(hs _ hne.symm).trans h6⟩,fun k hkk=> ?_⟩
 obtain⟨u,q1,q2⟩:=h7 k hkk
 exact⟨u,cell_same (hs gO hne.symm) q1,q2.grown hsz hk⟩
theorem StA.weak {w0:World} {Z:Nat→Prop} {A1 A2:Array Value} {ps:List Int} {v9:Value} {f:Fun} {gO gX:Nat} {w:World} (h:StA w0 Z A1 A2 ps v9 f gO gX w):StA w0 Z A1 A2 ps v9 f gO gO w:=h.fresh (Below.refl _ _) (.inr (.inl rfl))
theorem set_cell {w:World} {g k:Nat} {cur:Array Value} {t:TypeId} {u0:Value} (h:w.heap[g]? =some (Obj.cells cur t (0,0))) (hc:w.cell? ⟨g,k,none⟩=some u0) (u:Value):
  (w.setCell ⟨g,k,none⟩ u).cell? ⟨g,k,none⟩=some u∧(∀j,j≠k→(w.setCell ⟨g,k,none⟩ u).cell? ⟨g,j,none⟩=w.cell? ⟨g,j,none⟩)∧(w.setCell ⟨g,k,none⟩ u).heap[g]? =some (Obj.cells (cur.setIfInBounds k u) t (0,0)):=by
 have e:=heap_setCell_same w g k cur t u h
 have hk:k < cur.size:=by
  unfold World.cell? at hc
  simp only [h] at hc
  exact(Array.getElem?_eq_some_iff.1 hc).1
 refine⟨?_,fun j hj=> ?_,e⟩
 ·unfold World.cell?
  simp only [e]
  simp [hk]
 ·unfold World.cell?
  simp only [e,h]
  exact Array.getElem?_setIfInBounds_ne (by omega)
theorem free_cells {w:World} {g k:Nat} {cur:Array Value} {t:TypeId} (h:w.heap[g]? =some (Obj.cells cur t (0,0))):w.frozen? ⟨g,k,none⟩=false:=by simp [World.frozen?,h]
theorem StA.put {w0:World} {Z:Nat→Prop} {A1 A2:Array Value} {ps:List Int} {v9:Value} {f:Fun} {gO:Nat} {w:World} (h:StA w0 Z A1 A2 ps v9 f gO gO w) {K:Nat} (hK:K < f.2.2.2.1.length) {u:Value} (hu:BlkA (Nn Z gO gO) w (blkN f K) u):StA w0 Z A1 A2 ps v9 f gO gO (w.setCell ⟨gO,K,none⟩ u):=by
 obtain⟨h1,h2,h3,h4,h5,⟨cur,h6⟩,h7⟩:=h
 have hs:∀q,q≠gO→(w.setCell ⟨gO,K,none⟩ u).heap[q]? =w.heap[q]? :=fun q hq=>Below.heap_setCell w ⟨gO,K,none⟩ u q hq
 have hb:=h1.setCell (p:=⟨gO,K,none⟩) (by show w0.heap.size≤gO;omega) u
 have hsz:w.heap.size≤(w.setCell ⟨gO,K,none⟩ u).heap.size:=(grown_set w ⟨gO,K,none⟩ u).size
 have hk:∀q,q < w.heap.size→¬Nn Z gO gO q→(w.setCell ⟨gO,K,none⟩ u).heap[q]? =w.heap[q]? ∧¬Nn Z gO gO q:=fun q _ hn=>⟨hs q (fun e=>hn (.inr (.inl e))),hn⟩
 obtain⟨u0,q1,_⟩:=h7 K hK
 obtain⟨e1,e2,e3⟩:=set_cell h6 q1 u
 refine⟨hb,(hs _ (by omega)).trans h2,(hs _ (by omega)).trans h3,h4,h5.grown hsz hk,⟨_,e3⟩,fun k hkk=> ?_⟩
 by_cases hkK:k=K
 ·subst hkK
  exact⟨u,e1,hu.grown hsz hk⟩
 ·obtain⟨u',q1',q2'⟩:=h7 k hkk
  exact⟨u',(e2 k hkK).trans q1',q2'.grown hsz hk⟩
def InX (Z:Nat→Prop) (gO gX:Nat) (w:World) (b:List Ins):Prop:=(∃cur,w.heap[gX]? =some (Obj.cells cur 47 (0,0)))∧∀i x,b[i]? =some x→InsA (Nn Z gO gX) w x gX (i * 8)
theorem InX.below {Z:Nat→Prop} {gO gX:Nat} {w w':World} {b:List Ins} (h:InX Z gO gX w b) (k:Below w.heap.size w w'):InX Z gO gX w' b:=by
 obtain⟨⟨cur,h1⟩,h2⟩:=h
 have l1:=(Array.getElem?_eq_some_iff.1 h1).1
 exact⟨⟨cur,(k.block _ l1).trans h1⟩,fun i x hx=>(h2 i x hx).grown k.size (fun q hq hn=>⟨k.block q hq,hn⟩) (k.block _ l1)⟩
theorem InX.put4 {Z:Nat→Prop} {gO gX:Nat} {w:World} {b:List Ins} (h:InX Z gO gX w b) {I:Nat} {x:Ins} (hx:b[I]? =some x) {va:Value} (ha:IntsA (Nn Z gO gX) w x.2.2.2.2.1 va):InX Z gO gX (w.setCell ⟨gX,I * 8+4,none⟩ va) b:=by
 obtain⟨⟨cur,h1⟩,h2⟩:=h
 obtain⟨hg,va0,vt0,c0,i1,i2⟩:=h2 I x hx
 obtain⟨a1,a2,a3⟩:=set_cell h1 (c0 4 va0 rfl) va
 have hs:∀q,q≠gX→(w.setCell ⟨gX,I * 8+4,none⟩ va).heap[q]? =w.heap[q]? :=fun q hq=>Below.heap_setCell w ⟨gX,I * 8+4,none⟩ va q hq
 have hsz:w.heap.size≤(w.setCell ⟨gX,I * 8+4,none⟩ va).heap.size:=(grown_set w ⟨gX,I * 8+4,none⟩ va).size
 have hk:∀q,q < w.heap.size→¬Nn Z gO gX q→(w.setCell ⟨gX,I * 8+4,none⟩ va).heap[q]? =w.heap[q]? ∧¬Nn Z gO gX q:=fun q _ hn=>⟨hs q (fun e=>hn (.inr (.inl e))),hn⟩
 refine⟨⟨_,a3⟩,fun i y hy=> ?_⟩
 by_cases hi:i=I
 ·subst hi
  rw [hx] at hy
  injection hy with hy
  subst hy
  refine⟨by omega,va,vt0,fun j t hj=> ?_,ha.grown hsz hk,i2.grown hsz hk⟩
  by_cases j4:j=4
  ·subst j4
   rw [show(insC x va vt0)[4]? =some va from rfl] at hj
   injection hj with hj
   rw [←hj]
   exact a1
  ·have hold:(insC x va0 vt0)[j]? =some t:=by
    match j,hj with
     |0,hj=>exact hj
     |1,hj=>exact hj
     |2,hj=>exact hj
     |3,hj=>exact hj
     |4,_=>exact absurd rfl j4
     |5,hj=>exact hj
     |6,hj=>exact hj
     |7,hj=>exact hj
     |n+8,hj=>simp [insC] at hj
   exact(a2 _ (by omega)).trans (c0 j t hold)
 ·obtain⟨g',va1,vt1,d0,d1,d2⟩:=h2 i y hy
  refine⟨by omega,va1,vt1,fun j t hj=> ?_,d1.grown hsz hk,d2.grown hsz hk⟩
  have hj8:j < 8:=by
   have:=(List.getElem?_eq_some_iff.1 hj).1
   simpa [insC] using this
  exact(a2 _ (by omega)).trans (d0 j t hj)
theorem InX.put5 {Z:Nat→Prop} {gO gX:Nat} {w:World} {b:List Ins} (h:InX Z gO gX w b) {I:Nat} {x:Ins} (hx:b[I]? =some x) {vt:Value} (ha:IntsA (Nn Z gO gX) w x.2.2.2.2.2.1 vt):InX Z gO gX (w.setCell ⟨gX,I * 8+5,none⟩ vt) b:=by
 obtain⟨⟨cur,h1⟩,h2⟩:=h
 obtain⟨hg,va0,vt0,c0,i1,i2⟩:=h2 I x hx
 obtain⟨a1,a2,a3⟩:=set_cell h1 (c0 5 vt0 rfl) vt
 have hs:∀q,q≠gX→(w.setCell ⟨gX,I * 8+5,none⟩ vt).heap[q]? =w.heap[q]? :=fun q hq=>Below.heap_setCell w ⟨gX,I * 8+5,none⟩ vt q hq
 have hsz:w.heap.size≤(w.setCell ⟨gX,I * 8+5,none⟩ vt).heap.size:=(grown_set w ⟨gX,I * 8+5,none⟩ vt).size
 have hk:∀q,q < w.heap.size→¬Nn Z gO gX q→(w.setCell ⟨gX,I * 8+5,none⟩ vt).heap[q]? =w.heap[q]? ∧¬Nn Z gO gX q:=fun q _ hn=>⟨hs q (fun e=>hn (.inr (.inl e))),hn⟩
 refine⟨⟨_,a3⟩,fun i y hy=> ?_⟩
 by_cases hi:i=I
 ·subst hi
  rw [hx] at hy
  injection hy with hy
  subst hy
  refine⟨by omega,va0,vt,fun j t hj=> ?_,i1.grown hsz hk,ha.grown hsz hk⟩
  by_cases j4:j=5
  ·subst j4
   rw [show(insC x va0 vt)[5]? =some vt from rfl] at hj
   injection hj with hj
   rw [←hj]
   exact a1
  ·have hold:(insC x va0 vt0)[j]? =some t:=by
    match j,hj with
     |0,hj=>exact hj
     |1,hj=>exact hj
     |2,hj=>exact hj
     |3,hj=>exact hj
     |4,hj=>exact hj
     |5,_=>exact absurd rfl j4
     |6,hj=>exact hj
     |7,hj=>exact hj
     |n+8,hj=>simp [insC] at hj
   exact(a2 _ (by omega)).trans (c0 j t hold)
 ·obtain⟨g',va1,vt1,d0,d1,d2⟩:=h2 i y hy
  refine⟨by omega,va1,vt1,fun j t hj=> ?_,d1.grown hsz hk,d2.grown hsz hk⟩
  have hj8:j < 8:=by
   have:=(List.getElem?_eq_some_iff.1 hj).1
   simpa [insC] using this
  exact(a2 _ (by omega)).trans (d0 j t hj)
theorem blk_cells {N:Nat→Prop} {w:World} {b:List Ins} {g o:Nat} (h:∀i x,b[i]? =some x→InsA N w x g (o+i * 8)):∃ys:List Value,ys.length=b.length * 8∧(∀j u,ys[j]? =some u→w.cell? ⟨g,o+j,none⟩=some u)∧(∀u∈ys,u.oneCell'=true)∧∀i x,b[i]? =some x→∃va vt,(∀j t,(insC x va vt)[j]? =some t→ys[i * 8+j]? =some t)∧IntsA N w x.2.2.2.2.1 va∧IntsA N w x.2.2.2.2.2.1 vt:=by
 induction b generalizing o with
 |nil=>exact⟨[],by simp,fun j u hj=>by simp at hj,fun u hu=>by simp at hu,fun i x hx=>by simp at hx⟩
 |cons x r ih=>
  obtain⟨ys,h1,h2,h3,h4⟩:=ih (o:=o+8) (fun i y hy=>by
   have:=h (i+1) y (by simpa using hy)
   rw [show o+(i+1) * 8=o+8+i * 8 by omega] at this
   exact this)
  obtain⟨hg,va,vt,c0,c1,c2⟩:=h 0 x rfl
  have hl:(insC x va vt).length=8:=rfl
  obtain⟨ao,ca,rfl,_⟩:=id c1
  obtain⟨to,ct,rfl,_⟩:=id c2
  refine⟨insC x (.slice ao x.2.2.2.2.1.length ca) (.slice to x.2.2.2.2.2.1.length ct) ++ ys,by rw [List.length_append,hl,h1,List.length_cons];omega,fun j u hj=> ?_,fun u hu=> ?_,fun i y hy=> ?_⟩
  ·by_cases hj8:j < 8
   ·rw [List.getElem?_append_left (by rw [hl];exact hj8)] at hj
    have:=c0 j u hj
    rw [show o+0 * 8+j=o+j by omega] at this
    exact this
   ·rw [List.getElem?_append_right (by rw [hl];omega),hl] at hj
    have:=h2 (j - 8) u hj
    rw [show o+8+(j - 8)=o+j by omega] at this
    exact this
  ·rcases List.mem_append.1 hu with hu | hu
   ·simp only [insC,List.mem_cons,List.not_mem_nil,or_false] at hu
    rcases hu with rfl | rfl | rfl | rfl | rfl | rfl | rfl | rfl <;> rfl
   ·exact h3 u hu
  ·cases i with
   |zero=>
    simp only [List.getElem?_cons_zero,Option.some.injEq] at hy
    subst hy
    refine⟨_,_,fun j t hj=> ?_,c1,c2⟩
    have hj8:j < 8:=by rw [←hl];exact(List.getElem?_eq_some_iff.1 hj).1
    rw [show 0 * 8+j=j by omega,List.getElem?_append_left (by rw [hl];exact hj8)]
    exact hj
   |succ i=>
    obtain⟨va',vt',d0,d1,d2⟩:=h4 i y (by simpa using hy)
    refine⟨va',vt',fun j t hj=> ?_,d1,d2⟩
    rw [List.getElem?_append_right (by rw [hl];omega),hl,show(i+1) * 8+j - 8=i * 8+j by omega]
    exact d0 j t hj
end Go.Proofs.YtljkgcfnoegibaaGreatDoor
namespace Go.Proofs.YtljkgcfnoegibaaGreatDoor.MixR
open Go Go.RowKit
def Rel:Type:={r:World→World→Prop // (∀w,r w w)∧(∀a b c,r a b→r b c→r a c)∧∀w,r w w.drew}
def Up (R:Rel):Type:={p:Value→World→Prop // ∀v w w',R.1 w w'→p v w→p v w'}
def Up.eq (R:Rel) (c:Value):Up R:=⟨fun v _=>v=c,fun _ _ _ _ h=>h⟩
def Up.any (R:Rel):Up R:=⟨fun _ _=>True,fun _ _ _ _ h=>h⟩
theorem grow_step {R:Rel} {a b c:World} (h:R.1 a b) (k:R.1 b c):R.1 a c:=R.2.2.1 _ _ _ h k
section
variable (P:Program) (ops:Array Oper) (W:World) {R:Rel} (F:Tmp→Up R)
def Fd (dst:Option Tmp) (v:Value) (w:World):Prop:=∀d,dst=some d→(F d).1 v w
def Valid (dst:Option Tmp) (v:Value):Prop:=∃w,R.1 W w∧Fd F dst v w
def add (dst:Option Tmp) (S:Tmp→Prop):Tmp→Prop:=fun t=>dst=some t∨S t
def del (dst:Option Tmp) (S:Tmp→Prop):Tmp→Prop:=fun t=>dst≠some t∧S t
def Known (S:Tmp→Prop) (ts:List Tmp) (a:Act) (w:World):Prop:=∀t∈ts,S t→∀v,a.tmps[t]? =some v→(F t).1 v w
def AllK (S:Tmp→Prop) (a:Act) (w:World):Prop:=∀t,S t→∀v,a.tmps[t]? =some v→(F t).1 v w
def mixUpon (o:Oper) (w:World):Result Next→Prop
 |.ok (.value v) w'=>R.1 w w'∧Fd F o.dst v w'
 |.ok .skip w'=>R.1 w w'∧Fd F o.dst undef w'
 |.ok (.enter f args) w'=>Calls P f args w' fun e w''=>∃v,e= .returned v∧R.1 w w''∧Fd F o.dst v w''
 |.ok (.row row args) w'=>Rows P row args w' fun v w''=>R.1 w w''∧Fd F o.dst v w''
 |_=>False
def mixAt (o:Oper) (a:Act) (S:Tmp→Prop):Prop:=∀w,R.1 W w→Known F S (o.looksAt ops) a w→mixUpon P F o w ((execOp a.eval o).run P w)
def body (o:Oper) (K:Act→(Tmp→Prop)→Prop) (a:Act) (S:Tmp→Prop):Prop:=
 if Region.wanted o (yielded ops a.tmps)then mixAt P ops W F o a S∧∀v,Valid W F o.dst v→K (a.put o.dst v) (add o.dst S)else K (a.put o.dst undef) (del o.dst S)
def mOp (i:Nat) (K:Act→(Tmp→Prop)→Prop) (a:Act) (S:Tmp→Prop):Prop:=match ops[i]? with
 |none=>K a S
 |some o=>body P ops W F o K a S
def wpMix (Q:Act→(Tmp→Prop)→Prop):List Oper→Act→(Tmp→Prop)→Prop
 |[],a,S=>Q a S
 |o :: rest,a,S=>(Region.wanted o (yielded ops a.tmps)=true→∃v,Valid W F o.dst v)∧body P ops W F o (wpMix Q rest) a S
def wpAnyM (md:Region.Mode) (Q:Act→(Tmp→Prop)→Prop):Nat→Array Bool→Act→(Tmp→Prop)→Prop
 |0,listed,a,S=>Region.ready md ops listed= []∧Q a S
 |fuel+1,listed,a,S=>
  (Region.ready md ops listed= []→Q a S)∧
  ∀i∈Region.ready md ops listed,mOp P ops W F i (wpAnyM md Q fuel (listed.setIfInBounds i true)) a S
end
section
variable {P:Program} {ops:Array Oper} {W:World} {R:Rel} {F:Tmp→Up R} {md:Region.Mode}
theorem put_other {a:Act} {dst:Option Tmp} {v:Value} {t:Tmp} (h:dst≠some t):(a.put dst v).tmps[t]? =a.tmps[t]? :=by
 cases dst with
 |none=>rfl
 |some d=>
  have:d≠t:=fun e=>h (by rw [e])
  simp [Act.put,this]
theorem put_same {a:Act} {v u:Value} {t:Tmp} (h:(a.put (some t) v).tmps[t]? =some u):u=v:=by
 simp only [Act.put,Array.getElem?_setIfInBounds,if_true] at h
 split at h
 ·injection h with h;exact h.symm
 ·cases h
theorem AllK.add {S:Tmp→Prop} {a:Act} {w w':World} {dst:Option Tmp} {v:Value} (h:AllK F S a w) (b:R.1 w w') (hf:Fd F dst v w'):AllK F (add dst S) (a.put dst v) w':=by
 intro t ht u hu
 by_cases e:dst=some t
 ·subst e
  rw [put_same hu]
  exact hf t rfl
 ·rw [put_other e] at hu
  rcases ht with ht | ht
  ·exact absurd ht e
  ·exact(F t).2 _ _ _ b (h t ht u hu)
theorem AllK.del {S:Tmp→Prop} {a:Act} {w:World} {dst:Option Tmp} {v:Value} (h:AllK F S a w):AllK F (del dst S) (a.put dst v) w:=by
 intro t ht u hu
 rw [put_other ht.1] at hu
 exact h t ht.2 u hu
theorem body_mono {o:Oper} {K K':Act→(Tmp→Prop)→Prop} {a:Act} {S:Tmp→Prop} (h:∀a S,K a S→K' a S) (hh:body P ops W F o K a S):body P ops W F o K' a S:=by
 unfold body at *
 split
 ·rename_i hw;rw [if_pos hw] at hh;exact⟨hh.1,fun v hv=>h _ _ (hh.2 v hv)⟩
 ·rename_i hw;rw [if_neg hw] at hh;exact h _ _ hh
theorem wp_of_body {o:Oper} {a:Act} {S:Tmp→Prop} {K:Act→(Tmp→Prop)→Prop} {K':Act→World→Prop} {Q':Exit→Act→World→Prop} {w:World} (hC:R.1 W w) (hA:AllK F S a w)
  (h:∀a' S' w',R.1 W w'→AllK F S' a' w'→K a' S'→K' a' w') (hm:mixAt P ops W F o a S) (hn:∀v,Valid W F o.dst v→K (a.put o.dst v) (add o.dst S)):o.wp P a w K' Q':=by
 have h3:=hm w hC (fun t _ hs v hv=>hA t hs v hv)
 have fin:∀v w',R.1 w w'→Fd F o.dst v w'→K' (a.put o.dst v) w':=fun v w' hb hf=>
  h _ _ _ (grow_step hC hb) (hA.add hb hf) (hn v ⟨w',grow_step hC hb,hf⟩)
 unfold Oper.wp
 generalize (execOp a.eval o).run P w=r at *
 cases r with
 |ok n w'=>
  cases n <;> simp only [mixUpon] at h3 <;> simp only [Oper.upon]
  case value v=>exact fin _ _ h3.1 h3.2
  case skip=>exact fin _ _ h3.1 h3.2
  case enter f args=>exact h3.mono fun e w'' ⟨v,he,hb,hf⟩=>by subst he;exact fin _ _ hb hf
  case row row args=>exact h3.mono fun v w'' ⟨hb,hf⟩=>fin _ _ hb hf
 |halt x w'=>simp only [mixUpon] at h3
theorem wpAny_of_mix {Q:Act→(Tmp→Prop)→Prop} {Q':Exit→Act→World→Prop} (hQ:∀a S w,R.1 W w→AllK F S a w→Q a S→Q' .normal a w):∀(fuel:Nat) (listed:Array Bool) (a:Act) (S:Tmp→Prop) (w:World),R.1 W w→AllK F S a w→
  wpAnyM P ops W F md Q fuel listed a S→wpAny P md ops Q' fuel listed a w
 |0,_,_,_,_,hC,hA,h=>⟨h.1,hQ _ _ _ hC hA h.2⟩
 |fuel+1,listed,a,S,w,hC,hA,h=>⟨fun h0=>hQ _ _ _ hC hA (h.1 h0),fun i hi=>by
   have hh:=h.2 i hi
   unfold mOp at hh
   unfold wpOp
   split
   ·rename_i ho;simp only [ho] at hh;exact wpAny_of_mix hQ fuel _ _ _ _ hC hA hh
   ·rename_i o ho
    simp only [ho] at hh
    unfold body at hh
    split
    ·rename_i hw
     rw [if_pos hw] at hh
     exact .inl (wp_of_body hC hA (fun a' S' w' c k q=>wpAny_of_mix hQ fuel _ _ _ _ c k q) hh.1 hh.2)
    ·rename_i hw
     rw [if_neg hw] at hh
     exact wpAny_of_mix hQ fuel _ _ _ _ hC hA.del hh⟩
theorem mix_move {o:Oper} (hs:∀cs b,o.op≠ .select cs b) {a:Act} {dst:Option Tmp} {v:Value} {S S':Tmp→Prop} (hd:∀d,dst=some d→d ∉ o.looksAt ops) (hS:∀t,dst≠some t→(S' t↔S t)):mixAt P ops W F o (a.put dst v) S'↔mixAt P ops W F o a S:=by
 have e:=execOp_put (ops:=ops) o hs a dst v hd
 have ne:∀t,t∈o.looksAt ops→dst≠some t:=fun t ht e=>hd t e ht
 unfold mixAt
 rw [e]
 constructor
 ·intro h w hC hK
  refine h w hC fun t ht hs v hv=> ?_
  rw [put_other (ne t ht)] at hv
  exact hK t ht ((hS t (ne t ht)).1 hs) v hv
 ·intro h w hC hK
  refine h w hC fun t ht hs v hv=> ?_
  exact hK t ht ((hS t (ne t ht)).2 hs) v (by rw [put_other (ne t ht)];exact hv)
theorem add_iff {dst:Option Tmp} {S:Tmp→Prop}:∀t,dst≠some t→(add dst S t↔S t):=fun _ h=>⟨fun k=>k.resolve_left h,.inr⟩
theorem del_iff {dst:Option Tmp} {S:Tmp→Prop}:∀t,dst≠some t→(del dst S t↔S t):=fun _ h=>⟨fun k=>k.2,fun k=>⟨h,k⟩⟩
theorem add_add (x y:Option Tmp) (S:Tmp→Prop):add x (add y S)=add y (add x S):=by
 funext t;unfold add;exact propext or_left_comm
theorem del_del (x y:Option Tmp) (S:Tmp→Prop):del x (del y S)=del y (del x S):=by
 funext t;unfold del;exact propext and_left_comm
theorem add_del {x y:Option Tmp} (h:∀d,x=some d→y≠some d) (S:Tmp→Prop):add x (del y S)=del y (add x S):=by
 funext t;unfold add del
 refine propext ⟨?_,?_⟩
 ·rintro (e | ⟨h1,h2⟩)
  ·exact⟨h t e,.inl e⟩
  ·exact⟨h1,.inr h2⟩
 ·rintro ⟨h1,e | h2⟩
  ·exact .inl e
  ·exact .inr ⟨h1,h2⟩
theorem body_swap {oi oj:Oper} (hap:oi.apart ops oj=true) (hsi:∀cs b,oi.op≠ .select cs b) (hsj:∀cs b,oj.op≠ .select cs b) {K:Act→(Tmp→Prop)→Prop} {a:Act} {S:Tmp→Prop}
  (hex:Region.wanted oi (yielded ops a.tmps)=true→∃v,Valid W F oi.dst v) (h:body P ops W F oi (fun a' S'=>body P ops W F oj K a' S') a S):body P ops W F oj (fun a' S'=>body P ops W F oi K a' S') a S:=by
 obtain⟨h1,h2,h3⟩:=Oper.apart_spec hap
 have h2':∀d,oj.dst=some d→oi.dst≠some d:=fun d e e2=>h2 d e2 e
 unfold body at *
 by_cases wi:Region.wanted oi (yielded ops a.tmps)=true
 ·rw [if_pos wi] at h
  obtain⟨m1,n1⟩:=h
  obtain⟨v0,hv0⟩:=hex wi
  by_cases wj:Region.wanted oj (yielded ops a.tmps)=true
  ·rw [if_pos wj]
   refine⟨?_,fun u hu=> ?_⟩
   ·have:=n1 v0 hv0
    dsimp only at this
    rw [wanted_put oj a oi.dst v0 h1,if_pos wj] at this
    exact(mix_move hsj h1 add_iff).1 this.1
   ·dsimp only
    rw [wanted_put oi a oj.dst u h3,if_pos wi]
    refine⟨(mix_move hsi h3 add_iff).2 m1,fun v hv=> ?_⟩
    have:=n1 v hv
    dsimp only at this
    rw [wanted_put oj a oi.dst v h1,if_pos wj] at this
    have:=this.2 u hu
    rw [Act.put_comm a v u h2,add_add] at this
    exact this
  ·rw [if_neg wj]
   dsimp only
   rw [wanted_put oi a oj.dst undef h3,if_pos wi]
   refine⟨(mix_move hsi h3 del_iff).2 m1,fun v hv=> ?_⟩
   have:=n1 v hv
   dsimp only at this
   rw [wanted_put oj a oi.dst v h1,if_neg wj,Act.put_comm a v undef h2,←add_del h2] at this
   exact this
 ·rw [if_neg wi] at h
  rw [wanted_put oj a oi.dst undef h1] at h
  by_cases wj:Region.wanted oj (yielded ops a.tmps)=true
  ·rw [if_pos wj] at h ⊢
   refine⟨(mix_move hsj h1 del_iff).1 h.1,fun u hu=> ?_⟩
   dsimp only
   rw [wanted_put oi a oj.dst u h3,if_neg wi]
   have:=h.2 u hu
   rw [Act.put_comm a undef u h2,add_del h2'] at this
   exact this
  ·rw [if_neg wj] at h ⊢
   dsimp only
   rw [wanted_put oi a oj.dst undef h3,if_neg wi]
   rw [Act.put_comm a undef undef h2,del_del] at h
   exact h
theorem wanted_body {o:Oper} {K:Act→(Tmp→Prop)→Prop} {a:Act} {S:Tmp→Prop} {A:Act→Prop} (hu:∀u,A (a.put o.dst u)) (hh:body P ops W F o K a S):body P ops W F o (fun a' S'=>A a'∧K a' S') a S:=by
 unfold body at *
 split
 ·rename_i hw;rw [if_pos hw] at hh;exact⟨hh.1,fun v hv=>⟨hu v,hh.2 v hv⟩⟩
 ·rename_i hw;rw [if_neg hw] at hh;exact⟨hu _,hh⟩
theorem wpAnyM_first {Q:Act→(Tmp→Prop)→Prop} {i:Nat} {oi:Oper} (hi:ops[i]? =some oi) (hsel:∀(j:Nat) (o:Oper) cs b,ops[j]? =some o→o.op≠ .select cs b):
  ∀(fuel:Nat) (listed:Array Bool) (a:Act) (S:Tmp→Prop),
   (∀j oj,ops[j]? =some oj→j≠i→listed.getD j true=false→(∀e∈oj.after,Region.binds md e=true→e.on≠i)→oi.apart ops oj=true)→
   i∈Region.ready md ops listed→(Region.wanted oi (yielded ops a.tmps)=true→∃v,Valid W F oi.dst v)→
   body P ops W F oi (wpAnyM P ops W F md Q fuel (listed.setIfInBounds i true)) a S→wpAnyM P ops W F md Q (fuel+1) listed a S:=by
 intro fuel
 induction fuel with
 |zero=>
  intro listed a S _ hr hex H
  refine⟨fun h=>(by rw [h] at hr;cases hr),fun j hj=> ?_⟩
  by_cases hji:j=i
  ·subst hji;unfold mOp;simp only [hi];exact H
  ·have hno:=ready_mono hj hji
   have:Region.ready md ops (listed.setIfInBounds i true)= []:=by
    unfold body at H
    split at H
    ·rename_i hw
     obtain⟨v,hv⟩:=hex hw
     exact(H.2 v hv).1
    ·exact H.1
   rw [this] at hno
   cases hno
 |succ fuel ih=>
  intro listed a S hfree hr hex H
  refine⟨fun h=>(by rw [h] at hr;cases hr),fun j hj=> ?_⟩
  by_cases hji:j=i
  ·subst hji;unfold mOp;simp only [hi];exact H
  ·obtain⟨hjun,oj,hoj,hall⟩:=mem_ready.1 hj
   have hnot:∀e∈oj.after,Region.binds md e=true→e.on≠i:=fun e he hb heq=>by
    have h1:=hall e he hb
    have h0:=(mem_ready.1 hr).1
    rw [heq] at h1
    rcases Nat.lt_or_ge i listed.size with h' | h'
    ·simp [h'] at h0 h1;rw [h0] at h1;cases h1
    ·simp [Array.getElem?_eq_none h'] at h1
   have hap:=hfree j oj hoj hji hjun hnot
   obtain⟨_,_,h3⟩:=Oper.apart_spec hap
   have H1:body P ops W F oi (fun a' S'=>body P ops W F oj (wpAnyM P ops W F md Q fuel ((listed.setIfInBounds i true).setIfInBounds j true)) a' S') a S:=body_mono (fun a' S' h=>by
    have:=h.2 j (ready_mono hj hji)
    unfold mOp at this
    simp only [hoj] at this
    exact this) H
   have H2:=body_swap hap (fun cs b=>hsel i oi cs b hi) (fun cs b=>hsel j oj cs b hoj) hex H1
   have H3:=wanted_body (A:=fun a'=>Region.wanted oi (yielded ops a'.tmps)=true→∃v,Valid W F oi.dst v) (fun u=>by rw [wanted_put oi a oj.dst u h3];exact hex) H2
   have hfree':∀k ok,ops[k]? =some ok→k≠i→(listed.setIfInBounds j true).getD k true=false→
     (∀e∈ok.after,Region.binds md e=true→e.on≠i)→oi.apart ops ok=true:=fun k ok hk hki hun hno=>by
    refine hfree k ok hk hki ?_ hno
    by_cases hjk:j=k
    ·subst hjk;exact hjun
    ·rw [getD_set_ne true hjk] at hun;exact hun
   unfold mOp
   simp only [hoj]
   refine body_mono (fun a' S' h=>ih (listed.setIfInBounds j true) a' S' hfree' (ready_mono hr (Ne.symm hji)) h.1 ?_) H3
   rw [Array.setIfInBounds_comm _ _ hji]
   exact h.2
theorem wpAnyM_lex {Q:Act→(Tmp→Prop)→Prop} (hs:Region.noSelect ops=true):∀(l:List Oper) (k:Nat) (listed:Array Bool) (a:Act) (S:Tmp→Prop),(∀j,l[j]? =ops[k+j]?)→
  Region.lexFrom md ops l.length k listed=true→wpMix P ops W F Q l a S→wpAnyM P ops W F md Q l.length listed a S
 |[],_,_,_,_,_,hB,h=>⟨by simpa [Region.lexFrom] using hB,h⟩
 |o :: l,k,listed,a,S,hl,hB,h=>by
  have h0:ops[k]? =some o:=by simpa using (hl 0).symm
  simp only [List.length_cons,Region.lexFrom,Bool.and_eq_true] at hB
  obtain⟨⟨hr,hf⟩,hB'⟩:=hB
  refine wpAnyM_first h0 (Region.noSelect_spec hs) l.length listed a S (Region.free_spec h0 hf) (by simpa using hr) h.1 ?_
  exact body_mono (fun a' S' q=>wpAnyM_lex hs l (k+1) _ _ _ (fun j=>by have:=hl (j+1);simpa [Nat.add_assoc,Nat.add_comm 1 j] using this) hB' q) h.2
theorem wp_region_mix {id:Nat} {Q:Exit→Act→World→Prop} {a:Act} {l:List Oper} (F:Tmp→Up R) (hm:P.follows .mixedOrders=true) (hB:Region.lexB .any l.toArray=true)
  (h:wpMix P l.toArray W F (fun a' S=>∀w',R.1 W w'→AllK F S a' w'→Q .normal a' w') l a (fun _=>False)):(Code.region id l.toArray true).wp P Q a W:=by
 simp only [Region.lexB,Bool.and_eq_true] at hB
 refine wp_region_any hm (wpAny_of_mix (W:=W) (F:=F) (Q:=fun a' S=>∀w',R.1 W w'→AllK F S a' w'→Q .normal a' w') (fun _ _ w' hC hA h=>h w' hC hA) _ _ _ (fun _=>False) _ (R.2.2.2 _) (fun t ht=>ht.elim) ?_)
 have:=wpAnyM_lex (W:=W) (F:=F) (md:= .any) hB.1 l 0 (Array.replicate l.toArray.size false) a (fun _=>False) (by simp) (by simpa using hB.2) h
 simpa using this
theorem mix_nil {Q:Act→(Tmp→Prop)→Prop} {a:Act} {S:Tmp→Prop} (h:Q a S):wpMix P ops W F Q [] a S:=h
theorem mix_step {Q:Act→(Tmp→Prop)→Prop} {a:Act} {S:Tmp→Prop} {o:Oper} {rest:List Oper} (hw:Region.wanted o (yielded ops a.tmps)=true) (hex:∃v,Valid W F o.dst v)
  (hm:∀w,R.1 W w→Known F S (o.looksAt ops) a w→mixUpon P F o w ((execOp a.eval o).run P w)) (h:∀v,Valid W F o.dst v→wpMix P ops W F Q rest (a.put o.dst v) (add o.dst S)):wpMix P ops W F Q (o :: rest) a S:=by
 refine⟨fun _=>hex,?_⟩
 unfold body
 rw [if_pos hw]
 exact⟨hm,h⟩
end
end Go.Proofs.YtljkgcfnoegibaaGreatDoor.MixR
