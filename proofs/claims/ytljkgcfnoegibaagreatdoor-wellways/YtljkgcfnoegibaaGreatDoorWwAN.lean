/- Texts of one chain, joined. -/
import Derived.Test.YtljkgcfnoegibaaGreatDoorWwAF
import Derived.Test.YtljkgcfnoegibaaGreatDoorWwAJ
import Derived.Test.YtljkgcfnoegibaaGreatDoorWwAK
import Derived.Test.YtljkgcfnoegibaaGreatDoorWwAM
import Derived.Deep.Quiet
import Derived.Below
namespace Go.Proofs.YtljkgcfnoegibaaGreatDoor
open Go Go.RowKit
open G (Tok Er Ins Fun)
def Par (f:Fun) (k:Int) (done out:List Int):Prop:=∃e,out=done ++ e∧∀y∈e,y∈nextF f k.toNat∨∃x a b,e=a ++ b∧y∈a∧x∈b∧y∈nextF f x.toNat
theorem Par.refl (f:Fun) (k:Int) (done:List Int):Par f k done done:=⟨[],by simp,by simp⟩
theorem Par.trans {f:Fun} {k:Int} {a b c:List Int} (h:Par f k a b) (j:Par f k b c):Par f k a c:=by
 obtain⟨e,rfl,h1⟩:=h
 obtain⟨d,rfl,j1⟩:=j
 refine⟨e ++ d,by simp,fun y hy=> ?_⟩
 rcases List.mem_append.1 hy with hy | hy
 ·rcases h1 y hy with q | ⟨x,a1,b1,rfl,q2,q3,q4⟩
  ·exact .inl q
  ·exact .inr ⟨x,a1,b1 ++ d,by simp,q2,by simp [q3],q4⟩
 ·rcases j1 y hy with q | ⟨x,a1,b1,rfl,q2,q3,q4⟩
  ·exact .inl q
  ·exact .inr ⟨x,e ++ a1,b1,by simp,by simp [q2],q3,q4⟩
theorem walk_par {f:Fun} {N:Nat} {path:List Int} {k:Int} (hs:∀m out,m∈nextF f k.toNat→Par f k out (postF f N m out path)):
  ∀(l out:List Int),(∀m∈l,m∈nextF f k.toNat)→Par f k out (walkF f N path out l):=by
 intro l
 induction l with
 |nil=>intro out _;exact Par.refl _ _ _
 |cons m l ih=>
  intro out hl
  have e:walkF f N path out (m :: l)=walkF f N path (stepF f N path out m) l:=rfl
  rw [e]
  refine Par.trans ?_ (ih _ (fun x hx=>hl x (by simp [hx])))
  by_cases hc:hasL out m=true∨hasL path m=true
  ·rw [stepF_no hc];exact Par.refl _ _ _
  ·have hc1:hasL out m=false:=by simpa using fun e=>hc (.inl e)
   have hc2:hasL path m=false:=by simpa using fun e=>hc (.inr e)
   rw [stepF_yes hc1 hc2]
   exact hs m out (hl m (by simp))
theorem post_par {f:Fun}:∀(N:Nat) (k:Int) (done op:List Int),∃out,Par f k done out∧(postF f N k done op=out ++ [k]∨postF f N k done op=done):=by
 intro N
 induction N with
 |zero=>intro k done op;exact⟨done,Par.refl _ _ _,.inr rfl⟩
 |succ N ih=>
  intro k done op
  refine⟨walkF f N (op ++ [k]) done (nextF f k.toNat),?_,.inl (postF_succ f N k done op)⟩
  refine walk_par (fun m out hm=> ?_) _ _ (fun m hm=>hm)
  obtain⟨o,h1,h2⟩:=ih m out (op ++ [k])
  rcases h2 with e | e
  ·rw [e]
   obtain⟨d,rfl,h3⟩:=h1
   refine⟨d ++ [m],by simp,fun y hy=> ?_⟩
   rcases List.mem_append.1 hy with hy | hy
   ·rcases h3 y hy with q | ⟨x,a1,b1,rfl,q2,q3,q4⟩
    ·exact .inr ⟨m,d,[m],rfl,hy,by simp,q⟩
    ·exact .inr ⟨x,a1,b1 ++ [m],by simp,q2,by simp [q3],q4⟩
   ·simp at hy
    subst hy
    exact .inl hm
  ·rw [e];exact Par.refl _ _ _
theorem post_all {f:Fun} {Q:Int→Prop} (hQ:∀x m,Q x→m∈nextF f x.toNat→Q m):∀(N:Nat) (k:Int) (done op:List Int),Q k→(∀x∈done,Q x)→∀x∈postF f N k done op,Q x:=by
 intro N
 induction N with
 |zero=>intro k done op _ h;exact h
 |succ N ih=>
  intro k done op hk hd x hx
  rw [postF_succ] at hx
  have key:∀(l out:List Int),(∀m∈l,Q m)→(∀m∈out,Q m)→∀m∈walkF f N (op ++ [k]) out l,Q m:=by
   intro l
   induction l with
   |nil=>intro out _ h;exact h
   |cons m l ih2=>
    intro out hl ho
    refine ih2 _ (fun x hx=>hl x (by simp [hx])) ?_
    unfold stepF
    split
    ·exact ho
    ·exact ih m out _ (hl m (by simp)) ho
  rcases List.mem_append.1 hx with hx | hx
  ·exact key _ _ (fun m hm=>hQ k m hk hm) hd x hx
  ·simp at hx;subst hx;exact hk
theorem post_closed {f:Fun} (hT:Tos f):∀(N:Nat) (k:Int) (done op:List Int),(op ++ [k]).Nodup→Num f.2.2.2.1.length (op ++ [k])→N+op.length=f.2.2.2.1.length→
  k∈postF f N k done op∧(∀x∈done,x∈postF f N k done op)∧∀x∈postF f N k done op,x ∉ done→∀y∈nextF f x.toNat,y∈postF f N k done op∨y∈op:=by
 intro N
 induction N with
 |zero=>
  intro k done op h1 h2 h3
  have:=fit_len _ _ h1 h2
  simp at this
  omega
 |succ N ih=>
  intro k done op h1 h2 h3
  have key:∀(l out:List Int),Num f.2.2.2.1.length l→(∀x∈done,x∈out)→(∀x∈out,x ∉ done→∀y∈nextF f x.toNat,y∈out∨y∈op ++ [k])→
    (∀m∈l,m∈walkF f N (op ++ [k]) out l∨m∈op ++ [k])∧(∀x∈out,x∈walkF f N (op ++ [k]) out l)∧(∀x∈walkF f N (op ++ [k]) out l,x ∉ done→∀y∈nextF f x.toNat,y∈walkF f N (op ++ [k]) out l∨y∈op ++ [k]):=by
   intro l
   induction l with
   |nil=>intro out _ _ h;exact⟨by simp,fun x hx=>hx,h⟩
   |cons m l ih2=>
    intro out hl hd hc
    have e:walkF f N (op ++ [k]) out (m :: l)=walkF f N (op ++ [k]) (stepF f N (op ++ [k]) out m) l:=rfl
    rw [e]
    by_cases hm:hasL out m=true∨hasL (op ++ [k]) m=true
    ·rw [stepF_no hm]
     obtain⟨k1,k2,k3⟩:=ih2 out (fun x hx=>hl x (by simp [hx])) hd hc
     refine⟨fun x hx=> ?_,k2,k3⟩
     rcases List.mem_cons.1 hx with rfl | hx
     ·rcases hm with hm | hm
      ·exact .inl (k2 _ (hasL_mem.1 hm))
      ·exact .inr (hasL_mem.1 hm)
     ·exact k1 x hx
    ·have hc1:hasL out m=false:=by simpa using fun e=>hm (.inl e)
     have hc2:hasL (op ++ [k]) m=false:=by simpa using fun e=>hm (.inr e)
     rw [stepF_yes hc1 hc2]
     have hnd:(op ++ [k] ++ [m]).Nodup:=List.nodup_append.2 ⟨h1,by simp,by rintro x hx y hy rfl;simp at hy;subst hy;exact hasL_no.1 hc2 hx⟩
     have hnu:Num f.2.2.2.1.length (op ++ [k] ++ [m]):=by
      intro x hx
      rcases List.mem_append.1 hx with hx | hx
      ·exact h2 x hx
      ·simp at hx;subst hx;exact hl x (by simp)
     obtain⟨j1,j2,j3⟩:=ih m out (op ++ [k]) hnd hnu (by simp;omega)
     obtain⟨k1,k2,k3⟩:=ih2 (postF f N m out (op ++ [k])) (fun x hx=>hl x (by simp [hx])) (fun x hx=>j2 x (hd x hx)) (by
      intro x hx hxd y hy
      by_cases hxo:x∈out
      ·rcases hc x hxo hxd y hy with q | q
       ·exact .inl (j2 y q)
       ·exact .inr q
      ·exact j3 x hx hxo y hy)
     refine⟨fun x hx=> ?_,fun x hx=>k2 x (j2 x hx),k3⟩
     rcases List.mem_cons.1 hx with rfl | hx
     ·exact .inl (k2 _ j1)
     ·exact k1 x hx
  obtain⟨k1,k2,k3⟩:=key (nextF f k.toNat) done (hT _) (fun x hx=>hx) (fun x hx hn=>absurd hx hn)
  rw [postF_succ]
  refine⟨by simp,fun x hx=>by simp [k2 x hx],fun x hx hxd y hy=> ?_⟩
  have fin:y∈walkF f N (op ++ [k]) done (nextF f k.toNat)∨y∈op ++ [k]→y∈walkF f N (op ++ [k]) done (nextF f k.toNat) ++ [k]∨y∈op:=by
   rintro (q | q)
   ·exact .inl (by simp [q])
   ·rcases List.mem_append.1 q with q | q
    ·exact .inr q
    ·exact .inl (by simp at q;simp [q])
  rcases List.mem_append.1 hx with hx | hx
  ·exact fin (k3 x hx hxd y hy)
  ·simp at hx
   subst hx
   exact fin (k1 y hy)
theorem next_getD {f:Fun} {b:Int} (h:b.toNat < f.2.2.2.1.length):(succsF f).getD b.toNat []=nextF f b.toNat:=by
 rw [List.getD_eq_getElem?_getD,succsF_at h];rfl
theorem gr_succs {f:Fun} (hT:Tos f) (h0:0 < f.2.2.2.1.length):Gr (succsF f):=by
 refine⟨fun l hl=> ?_,by rw [succsF_len];exact h0⟩
 obtain⟨K,hK,rfl⟩:=List.mem_iff_getElem.1 hl
 have hK2:K < f.2.2.2.1.length:=by rw [←succsF_len];exact hK
 have e:=succsF_at hK2
 rw [List.getElem?_eq_getElem hK] at e
 injection e with e
 rw [e,succsF_len]
 exact hT K
theorem all_next {f:Fun} (hT:Tos f) (h0:0 < f.2.2.2.1.length) {x m:Int} (h:All (succsF f) x) (hm:m∈nextF f x.toNat):All (succsF f) m:=by
 have hx:=h.num (gr_succs hT h0)
 rw [succsF_len] at hx
 refine h.step (by rw [next_getD (by omega)];exact hm) ?_
 have:=hT _ m hm
 omega
theorem mem_order {f:Fun} (hT:Tos f) (h0:0 < f.2.2.2.1.length) (m:Int):m∈orderF f↔All (succsF f) m:=by
 unfold orderF
 rw [List.mem_reverse]
 constructor
 ·exact post_all (f:=f) (Q:=All (succsF f)) (fun x m hx hm=>all_next hT h0 hx hm) _ 0 [] [] (All.first _) (by simp) m
 ·obtain⟨h1,_,h3⟩:=post_closed hT f.2.2.2.1.length 0 [] [] (by simp) (fun m hm=>by simp at hm;subst hm;omega) (by simp)
  refine Rch.rec' (fun x hx _=> ?_) (fun b c hb hm hc _=> ?_) m
  ·simp at hx;subst hx;exact h1
  ·have hx:=All.num (gr_succs hT h0) hb
   rw [succsF_len] at hx
   rw [next_getD (by omega)] at hc
   rcases h3 b hm (by simp) c hc with q | q
   ·exact q
   ·simp at q
theorem at_order {f:Fun} (hT:Tos f) (h0:0 < f.2.2.2.1.length) {i:Nat} {b:Int} (h:(orderF f)[i]? =some b):atF f b=i:=
 (placeL_yes (take_fresh (order_num hT h0).1 h) h).symm
theorem at_all {f:Fun} (hT:Tos f) (h0:0 < f.2.2.2.1.length) (b:Int):All (succsF f) b↔0≤atF f b:=by
 rw [←mem_order hT h0]
 constructor
 ·intro h
  obtain⟨i,hi,rfl⟩:=List.mem_iff_getElem.1 h
  rw [at_order hT h0 (List.getElem?_eq_getElem hi)]
  omega
 ·intro h
  refine Classical.byContradiction fun e=> ?_
  have:=placeL_no (l:=orderF f) (hasL_no.2 e)
  unfold atF at h
  omega
def Ord (ll:List (List Int)) (pl:Int→Int):Prop:=(∀b,All ll b↔0≤pl b)∧(∀a b,All ll a→All ll b→pl a=pl b→a=b)∧pl 0=0∧
 ∀b,All ll b→b≠0→∃p,All ll p∧b∈ll.getD p.toNat []∧pl p < pl b
theorem ord_of {f:Fun} (hT:Tos f) (h0:0 < f.2.2.2.1.length):Ord (succsF f) (atF f):=by
 have idx:∀b,All (succsF f) b→∃i:Nat,(orderF f)[i]? =some b∧atF f b=i:=by
  intro b hb
  obtain⟨i,hi,e⟩:=List.mem_iff_getElem.1 ((mem_order hT h0 b).2 hb)
  have h:(orderF f)[i]? =some b:=by rw [List.getElem?_eq_getElem hi,e]
  exact⟨i,h,at_order hT h0 h⟩
 obtain⟨out,hp,he⟩:=post_par (f:=f) f.2.2.2.1.length 0 [] []
 have he1:postF f f.2.2.2.1.length 0 [] []=out ++ [0]:=by
  rcases he with e | e
  ·exact e
  ·have:=(post_closed hT f.2.2.2.1.length 0 [] [] (by simp) (fun m hm=>by simp at hm;subst hm;omega) (by simp)).1
   rw [e] at this
   simp at this
 have hord:orderF f=0 :: out.reverse:=by unfold orderF;rw [he1];simp
 have hz:atF f 0=0:=at_order hT h0 (i:=0) (by rw [hord];rfl)
 refine⟨at_all hT h0,fun a b ha hb e=> ?_,hz,fun b hb hne=> ?_⟩
 ·obtain⟨i,h1,h2⟩:=idx a ha
  obtain⟨j,k1,k2⟩:=idx b hb
  have:i=j:=by omega
  subst this
  rw [h1] at k1
  injection k1
 ·obtain⟨e,hee,hpar⟩:=hp
  have hee2:e=out:=by simpa using hee.symm
  subst hee2
  have hbe:b∈e:=by
   have:=(mem_order hT h0 b).2 hb
   rw [hord] at this
   rcases List.mem_cons.1 this with q | q
   ·exact absurd q hne
   ·simpa using q
  have back:∀(x y:Int) (a c:List Int),e ++ [0]=a ++ c→y∈a→x∈c→y∈nextF f x.toNat→∃p,All (succsF f) p∧y∈(succsF f).getD p.toNat []∧atF f p < atF f y:=by
   intro x y a c hac hy hx hyx
   have ho:orderF f=c.reverse ++ a.reverse:=by
    have:orderF f=(e ++ [0]).reverse:=by rw [hord];simp
    rw [this,hac];simp
   have hxo:x∈orderF f:=by rw [ho];simp [hx]
   have hxa:=(mem_order hT h0 x).1 hxo
   have hn:=hxa.num (gr_succs hT h0)
   rw [succsF_len] at hn
   refine⟨x,hxa,by rw [next_getD (by omega)];exact hyx,?_⟩
   obtain⟨i,hi,ei⟩:=List.mem_iff_getElem.1 (List.mem_reverse.2 hx)
   obtain⟨j,hj,ej⟩:=List.mem_iff_getElem.1 (List.mem_reverse.2 hy)
   have q1:(orderF f)[i]? =some x:=by rw [ho,List.getElem?_append_left hi,List.getElem?_eq_getElem hi,ei]
   have q2:(orderF f)[c.reverse.length+j]? =some y:=by
    rw [ho,List.getElem?_append_right (by omega),Nat.add_sub_cancel_left,List.getElem?_eq_getElem hj,ej]
   rw [at_order hT h0 q1,at_order hT h0 q2]
   omega
  rcases hpar b hbe with q | ⟨x,a,c,hac,q2,q3,q4⟩
  ·exact back 0 b e [0] rfl hbe (by simp) q
  ·exact back x b a (c ++ [0]) (by rw [hac];simp) q2 (by simp [q3]) q4
def badT (N:Nat) (t:List Int):Bool:=t.any fun m=>decide (m < 0∨(N:Int)≤m)
def badI (N:Nat) (x:Ins):Bool:=decide (x.1≠20) && badT N x.2.2.2.2.2.1
def blkGo (N n:Nat):Nat→List Ins→Int
 |_,[]=>0
 |i,x :: r=>if endsB x.1≠decide (i+1=n)then 15 else if badI N x then 7 else blkGo N n (i+1) r
def blkE (N:Nat) (b:List Ins):Int:=if b.length=0 then 15 else blkGo N b.length 0 b
def shapedGo (N:Nat):Nat→List (List Ins)→Int × Int
 |_,[]=>(0,0)
 |k,b :: r=>if blkE N b≠0 then(blkE N b,(k:Int))else shapedGo N (k+1) r
def shapedF (f:Fun):Int × Int:=if f.2.2.2.1.length=0 then(15,0)else shapedGo f.2.2.2.1.length 0 f.2.2.2.1
theorem dropE_at {α:Type} {l:List α} {i:Nat} {x:α} (h:l[i]? =some x):l.drop i=x :: l.drop (i+1):=by
 obtain⟨h1,rfl⟩:=List.getElem?_eq_some_iff.1 h
 exact List.drop_eq_getElem_cons h1
theorem blkGo_end {N n i:Nat} {x:Ins} {r:List Ins} (h:endsB x.1≠decide (i+1=n)):blkGo N n i (x :: r)=15:=by rw [blkGo,if_pos h]
theorem blkGo_bad {N n i:Nat} {x:Ins} {r:List Ins} (h:endsB x.1=decide (i+1=n)) (hb:badI N x=true):blkGo N n i (x :: r)=7:=by rw [blkGo,if_neg (by simp [h]),if_pos hb]
theorem blkGo_next {N n i:Nat} {x:Ins} {r:List Ins} (h:endsB x.1=decide (i+1=n)) (hb:badI N x=false):blkGo N n i (x :: r)=blkGo N n (i+1) r:=by rw [blkGo,if_neg (by simp [h]),if_neg (by simp [hb])]
theorem shapedGo_hit {N k:Nat} {b:List Ins} {r:List (List Ins)} {z:Int} (h:blkE N b=z) (hz:z≠0):shapedGo N k (b :: r)=(z,(k:Int)):=by rw [shapedGo,h,if_pos hz]
theorem shapedGo_next {N k:Nat} {b:List Ins} {r:List (List Ins)} (h:blkE N b=0):shapedGo N k (b :: r)=shapedGo N (k+1) r:=by rw [shapedGo,if_neg (by simp [h])]
theorem two_boxes (w:World) (cs:Array Value):Below w.heap.size w ((w.alloc (.cells cs 36)).alloc (.cells #[.int .i64 0,.int .i64 0] 29))∧((w.alloc (.cells cs 36)).alloc (.cells #[.int .i64 0,.int .i64 0] 29)).heap[w.heap.size]? =some (.cells cs 36 (0,0))∧
  ((w.alloc (.cells cs 36)).alloc (.cells #[.int .i64 0,.int .i64 0] 29)).heap[w.heap.size+1]? =some (.cells #[.int .i64 0,.int .i64 0] 29 (0,0))∧w.heap.size+1 < ((w.alloc (.cells cs 36)).alloc (.cells #[.int .i64 0,.int .i64 0] 29)).heap.size:=by
 refine⟨below_step (below_box w _) (below_box _ _),(heap_alloc_old _ _ (by simp)).trans (heap_alloc_new w _),?_,by simp⟩
 have:=heap_alloc_new (w.alloc (.cells cs 36)) (.cells #[.int .i64 0,.int .i64 0] 29)
 rwa [show(w.alloc (.cells cs 36)).heap.size=w.heap.size+1 from by simp] at this
theorem err_box {w:World} {c:Nat} {a b:Value} (h:w.heap[c]? =some (.cells #[a,b] 29 (0,0))):w.cell? ⟨c,0,none⟩=some a∧w.cell? ⟨c,1,none⟩=some b∧w.frozen? ⟨c,0,none⟩=false∧w.frozen? ⟨c,1,none⟩=false:=by
 simp [World.cell?,World.frozen?,h]
theorem err_below {w W wr:World} {a b:Value} (h0:Below w.heap.size w W) (h:Below W.heap.size W wr):Below w.heap.size w ((wr.setCell ⟨w.heap.size+1,0,none⟩ a).setCell ⟨w.heap.size+1,1,none⟩ b):=
 ((below_step h0 h).setCell (p:=⟨w.heap.size+1,0,none⟩) (Nat.le_succ _) a).setCell (p:=⟨w.heap.size+1,1,none⟩) (Nat.le_succ _) b
def fstN {α:Type} (g:Nat→Option α) (n:Nat):Option α:=(List.range n).findSome? g
theorem fstN_none {α:Type} {g:Nat→Option α} {n:Nat} (h:∀j,j < n→g j=none):fstN g n=none:=by
 unfold fstN
 rw [List.findSome?_eq_none_iff]
 intro j hj
 exact h j (by simpa using hj)
theorem fstN_some {α:Type} {g:Nat→Option α} {n K:Nat} {a:α} (h:∀j,j < K→g j=none) (hK:K < n) (ha:g K=some a):fstN g n=some a:=by
 unfold fstN
 have e:List.range n=List.range K ++ (List.range (n - K)).map (K+ ·):=by
  have h1:=List.range_add (n:=K) (m:=n - K)
  rwa [show K+(n - K)=n by omega] at h1
 rw [e,List.findSome?_append,List.findSome?_eq_none_iff.2 (fun j hj=>h j (by simpa using hj))]
 obtain⟨m,hm⟩:∃m,n - K=m+1:=⟨n - K - 1,by omega⟩
 rw [hm,List.range_succ_eq_map]
 simp [ha]
theorem fstN_all {α:Type} {g:Nat→Option α} {n:Nat} (h:fstN g n=none):∀j,j < n→g j=none:=by
 intro j hj
 unfold fstN at h
 rw [List.findSome?_eq_none_iff] at h
 exact h j (by simpa using hj)
theorem fstN_at {α:Type} {g:Nat→Option α}:∀ {n:Nat} {a:α},fstN g n=some a→∃K,K < n∧g K=some a∧∀j,j < K→g j=none:=by
 intro n
 induction n with
 |zero=>intro a h;simp [fstN] at h
 |succ n ih=>
  intro a h
  unfold fstN at h ih
  rw [List.range_succ,List.findSome?_append] at h
  cases h1:(List.range n).findSome? g with
  |some b=>
   rw [h1] at h
   obtain⟨K,h2,h3,h4⟩:=ih h1
   simp at h
   subst h
   exact⟨K,by omega,h3,h4⟩
  |none=>
   rw [h1] at h
   simp at h
   exact⟨n,by omega,h,fstN_all h1⟩
abbrev ins0:Ins:=(0,0,0,0,[],[],[],0)
abbrev fun0:Fun:=([],[],0,[],0)
def blkN (f:Fun) (k:Nat):List Ins:=f.2.2.2.1.getD k []
def insN (f:Fun) (k i:Nat):Ins:=(blkN f k).getD i ins0
def funN (p:List Fun) (i:Nat):Fun:=p.getD i fun0
theorem blkN_at {f:Fun} {k:Nat} (h:k < f.2.2.2.1.length):f.2.2.2.1[k]? =some (blkN f k):=by
 unfold blkN;rw [List.getD_eq_getElem?_getD,List.getElem?_eq_getElem h];rfl
theorem insN_at {f:Fun} {k i:Nat} (h:i < (blkN f k).length):(blkN f k)[i]? =some (insN f k i):=by
 unfold insN;rw [List.getD_eq_getElem?_getD,List.getElem?_eq_getElem h];rfl
theorem funN_at {p:List Fun} {i:Nat} (h:i < p.length):p[i]? =some (funN p i):=by
 unfold funN;rw [List.getD_eq_getElem?_getD,List.getElem?_eq_getElem h];rfl
theorem funN_of {p:List Fun} {i:Nat} {f:Fun} (h:p[i]? =some f):funN p i=f:=by
 unfold funN;rw [List.getD_eq_getElem?_getD,h];rfl
def mkX (x:Ins):Int:=L5.imakes x.1 x.2.2.2.1
def hitX (id:Int) (x:Ins):Bool:=decide (x.2.1=id) && decide (mkX x≠0)
abbrev Plc:=Int × Int × Int × Bool
def scanG (f:Fun) (id:Int) (k i:Nat):Option Plc:=if hitX id (insN f k i)then some ((k:Int),(i:Int),mkX (insN f k i),true)else none
def scanB (f:Fun) (id:Int) (k lim:Nat):Option Plc:=fstN (scanG f id k) (min lim (blkN f k).length)
def limB (f:Fun) (K J k:Nat):Nat:=if k < K then(blkN f k).length else J
def scanF (f:Fun) (id:Int) (K J:Nat):Option Plc:=fstN (fun k=>scanB f id k (limB f K J k)) (min (K+1) f.2.2.2.1.length)
def isPar (f:Fun) (id:Int):Bool:=decide (0≤id) && decide (id < f.2.1.length)
def madeF (f:Fun) (id:Int) (K J:Nat):Plc:=if isPar f id then(0,-1,f.2.1.getD id.toNat 0,true)else(scanF f id K J).getD (0,0,0,false)
def findF (p:List Fun) (nm:List UInt8):Option Fun:=fstN (fun i=>if(funN p i).1=nm then some (funN p i)else none) p.length
def dupB (p:List Fun) (i k:Nat):Bool:=decide ((funN p i).1=(funN p k).1)
def dupF (p:List Fun):Option (Int × Int):=fstN (fun i=>(fstN (fun k=>if dupB p i k then some ((5:Int),(funN p i).2.2.2.2)else none) i)) p.length
abbrev mainN:List UInt8:= [109,97,105,110]
def namesF (p:List Fun):Int × Int:=match dupF p with
 |some e=>e
 |none=>match findF p mainN with
  |none=>(12,0)
  |some m=>if hasL m.2.1 2 then(13,m.2.2.2.2)else(0,0)
def phiF (f:Fun) (k i:Nat):Bool:=(decide (i=0) || decide ((insN f k (i - 1)).1=20)) && decide ((insN f k i).2.2.2.2.2.1.length=((predsF f).getD k []).length) && ((predsF f).getD k []).all fun b=>hasL (insN f k i).2.2.2.2.2.1 b
def laterX (x:Ins):Bool:=decide (x.1=23) || decide (x.1=24) || decide (x.1=25) || (decide (x.1=21) && decide (x.2.2.1≠0))
def valC (f:Fun) (k i:Nat) (src:Bool):Int:=
 if(decide (mkX (insN f k i)≠0) && (madeF f (insN f k i).2.1 k i).2.2.2)=true then 5
 else if(decide ((insN f k i).1=20) && !phiF f k i)=true then 11
 else if(src && laterX (insN f k i))=true then 2 else 0
def headX (p:List Fun) (f:Fun) (x:Ins):Int:=
 if(decide (x.1=28) && (decide (f.2.2.1=0) != decide (x.2.2.2.2.1.length=0)))=true then 13
 else if x.1≠21 then 0
 else match findF p x.2.2.2.2.2.2.1 with
  |none=>12
  |some g=>if g.2.2.1≠x.2.2.2.1 then 9 else if g.2.1.length≠x.2.2.2.2.1.length then 13 else 0
def wantX (p:List Fun) (f:Fun) (x:Ins) (n:Nat):Int:=
 if x.1=20∨x.1=24 then x.2.2.2.1 else if x.1=28 then f.2.2.1 else if x.1=21 then((findF p x.2.2.2.2.2.2.1).getD fun0).2.1.getD n 0 else(L5.takes (L5.num x.1)).getD n 0
def takC (p:List Fun) (f:Fun) (k i n:Nat):Int:=
 let x:=insN f k i
 let m:=madeF f (x.2.2.2.2.1.getD n 0) f.2.2.2.1.length 0
 if m.2.2.2=false then 8 else if m.2.2.1≠wantX p f x n then 9 else if m.2.1 < 0 then 0
 else if x.1=20 then(if aheadB (succsF f) m.1 (x.2.2.2.2.2.1.getD n 0)then 0 else 10)
 else if(decide (m.1=k) && decide ((i:Int)≤m.2.1))=true then 10 else if(decide (m.1≠k) && !aheadB (succsF f) m.1 k)=true then 10 else 0
def takN (p:List Fun) (f:Fun) (k i n:Nat):Option Int:=if takC p f k i n≠0 then some (takC p f k i n)else none
def lookC (p:List Fun) (f:Fun) (k i:Nat):Int:=if headX p f (insN f k i)≠0 then headX p f (insN f k i)else(fstN (takN p f k i) (insN f k i).2.2.2.2.1.length).getD 0
def reachB (f:Fun):Bool:=decide ((orderF f).length=f.2.2.2.1.length) && decide (((predsF f).getD 0 []).length=0)
def atC (c at_:Int):Option (Int × Int):=if c≠0 then some (c,at_)else none
def valuesF (f:Fun) (src:Bool):Option (Int × Int):=fstN (fun k=>fstN (fun i=>atC (valC f k i src) (insN f k i).2.2.2.2.2.2.2) (blkN f k).length) f.2.2.2.1.length
def looksF (p:List Fun) (f:Fun):Option (Int × Int):=fstN (fun k=>fstN (fun i=>atC (lookC p f k i) (insN f k i).2.2.2.2.2.2.2) (blkN f k).length) f.2.2.2.1.length
def funcE (p:List Fun) (f:Fun) (src:Bool):Int × Int:=
 if(shapedF f).1≠0 then((shapedF f).1,f.2.2.2.2)else if reachB f=false then(14,f.2.2.2.2)
 else match valuesF f src with
  |some e=>e
  |none=>(looksF p f).getD (0,0)
def funcO (p:List Fun) (src:Bool) (i:Nat):Option (Int × Int):=if(funcE p (funN p i) src).1≠0 then some (funcE p (funN p i) src)else none
def checkP (p:List Fun) (src:Bool):Int × Int:=
 if(wholeF 0 0 p).1≠0 then((wholeF 0 0 p).1,(funN p (wholeF 0 0 p).2.toNat).2.2.2.2)
 else if(namesF p).1≠0 then namesF p
 else(fstN (funcO p src) p.length).getD (0,0)
theorem sU1 {α:Type} (l:List α) (i:Nat) (a:α):l.toArray.setIfInBounds i a=(l.set i a).toArray:=List.setIfInBounds_toArray ..
theorem sU2 {α:Type} (a:α) (l:List α) (n:Nat) (b:α):(a :: l).set (n+1) b=a :: l.set n b:=List.set_cons_succ ..
theorem sU3 {α:Type} (a:α) (l:List α) (b:α):(a :: l).set 0 b=b :: l:=List.set_cons_zero ..
end Go.Proofs.YtljkgcfnoegibaaGreatDoor
namespace Go.Proofs.YtljkgcfnoegibaaGreatDoor.Mix
open Go Go.RowKit
def Up:Type:={p:Value→World→Prop // ∀v w w',Below w.heap.size w w'→p v w→p v w'}
def Up.eq (c:Value):Up:=⟨fun v _=>v=c,fun _ _ _ _ h=>h⟩
def Up.any:Up:=⟨fun _ _=>True,fun _ _ _ _ h=>h⟩
theorem grow_step {a b c:World} (h:Below a.heap.size a b) (k:Below b.heap.size b c):Below a.heap.size a c:=h.trans (k.mono h.size)
section
variable (P:Program) (ops:Array Oper) (W:World) (F:Tmp→Up)
def Fd (dst:Option Tmp) (v:Value) (w:World):Prop:=∀d,dst=some d→(F d).1 v w
def Valid (dst:Option Tmp) (v:Value):Prop:=∃w,Below W.heap.size W w∧Fd F dst v w
def add (dst:Option Tmp) (S:Tmp→Prop):Tmp→Prop:=fun t=>dst=some t∨S t
def del (dst:Option Tmp) (S:Tmp→Prop):Tmp→Prop:=fun t=>dst≠some t∧S t
def Known (S:Tmp→Prop) (ts:List Tmp) (a:Act) (w:World):Prop:=∀t∈ts,S t→∀v,a.tmps[t]? =some v→(F t).1 v w
def AllK (S:Tmp→Prop) (a:Act) (w:World):Prop:=∀t,S t→∀v,a.tmps[t]? =some v→(F t).1 v w
def mixUpon (o:Oper) (w:World):Result Next→Prop
 |.ok (.value v) w'=>Below w.heap.size w w'∧Fd F o.dst v w'
 |.ok .skip w'=>Below w.heap.size w w'∧Fd F o.dst undef w'
 |.ok (.enter f args) w'=>Calls P f args w' fun e w''=>∃v,e= .returned v∧Below w.heap.size w w''∧Fd F o.dst v w''
 |.ok (.row row args) w'=>Rows P row args w' fun v w''=>Below w.heap.size w w''∧Fd F o.dst v w''
 |_=>False
def mixAt (o:Oper) (a:Act) (S:Tmp→Prop):Prop:=∀w,Below W.heap.size W w→Known F S (o.looksAt ops) a w→mixUpon P F o w ((execOp a.eval o).run P w)
def body (o:Oper) (K:Act→(Tmp→Prop)→Prop) (a:Act) (S:Tmp→Prop):Prop:=
 if Region.wanted o (yielded ops a.tmps)then mixAt P ops W F o a S∧∀v,Valid W F o.dst v→K (a.put o.dst v) (add o.dst S)else K (a.put o.dst undef) (del o.dst S)
def mOp (i:Nat) (K:Act→(Tmp→Prop)→Prop) (a:Act) (S:Tmp→Prop):Prop:=match ops[i]? with
 |none=>K a S
 |some o=>body P ops W F o K a S
def wpMix (Q:Act→(Tmp→Prop)→Prop):List Oper→Act→(Tmp→Prop)→Prop
 |[],a,S=>Q a S
 |o :: rest,a,S=>(Region.wanted o (yielded ops a.tmps)=true→∃v,Valid W F o.dst v)∧body P ops W F o (wpMix Q rest) a S
def wpAnyM (md:Region.Mode) (Q:Act→(Tmp→Prop)→Prop):Nat→Array Bool→Act→(Tmp→Prop)→Prop
 |0,listed,a,S=>Region.ready md ops listed= []∧Q a S
 |fuel+1,listed,a,S=>
  (Region.ready md ops listed= []→Q a S)∧
  ∀i∈Region.ready md ops listed,mOp P ops W F i (wpAnyM md Q fuel (listed.setIfInBounds i true)) a S
end
section
variable {P:Program} {ops:Array Oper} {W:World} {F:Tmp→Up} {md:Region.Mode}
theorem put_other {a:Act} {dst:Option Tmp} {v:Value} {t:Tmp} (h:dst≠some t):(a.put dst v).tmps[t]? =a.tmps[t]? :=by
 cases dst with
 |none=>rfl
 |some d=>
  have:d≠t:=fun e=>h (by rw [e])
  simp [Act.put,this]
theorem put_same {a:Act} {v u:Value} {t:Tmp} (h:(a.put (some t) v).tmps[t]? =some u):u=v:=by
 simp only [Act.put,Array.getElem?_setIfInBounds,if_true] at h
 split at h
 ·injection h with h;exact h.symm
 ·cases h
theorem AllK.add {S:Tmp→Prop} {a:Act} {w w':World} {dst:Option Tmp} {v:Value} (h:AllK F S a w) (b:Below w.heap.size w w') (hf:Fd F dst v w'):AllK F (add dst S) (a.put dst v) w':=by
 intro t ht u hu
 by_cases e:dst=some t
 ·subst e
  rw [put_same hu]
  exact hf t rfl
 ·rw [put_other e] at hu
  rcases ht with ht | ht
  ·exact absurd ht e
  ·exact(F t).2 _ _ _ b (h t ht u hu)
theorem AllK.del {S:Tmp→Prop} {a:Act} {w:World} {dst:Option Tmp} {v:Value} (h:AllK F S a w):AllK F (del dst S) (a.put dst v) w:=by
 intro t ht u hu
 rw [put_other ht.1] at hu
 exact h t ht.2 u hu
theorem body_mono {o:Oper} {K K':Act→(Tmp→Prop)→Prop} {a:Act} {S:Tmp→Prop} (h:∀a S,K a S→K' a S) (hh:body P ops W F o K a S):body P ops W F o K' a S:=by
 unfold body at *
 split
 ·rename_i hw;rw [if_pos hw] at hh;exact⟨hh.1,fun v hv=>h _ _ (hh.2 v hv)⟩
 ·rename_i hw;rw [if_neg hw] at hh;exact h _ _ hh
theorem wp_of_body {o:Oper} {a:Act} {S:Tmp→Prop} {K:Act→(Tmp→Prop)→Prop} {K':Act→World→Prop} {Q':Exit→Act→World→Prop} {w:World} (hC:Below W.heap.size W w) (hA:AllK F S a w)
  (h:∀a' S' w',Below W.heap.size W w'→AllK F S' a' w'→K a' S'→K' a' w') (hm:mixAt P ops W F o a S) (hn:∀v,Valid W F o.dst v→K (a.put o.dst v) (add o.dst S)):o.wp P a w K' Q':=by
 have h3:=hm w hC (fun t _ hs v hv=>hA t hs v hv)
 have fin:∀v w',Below w.heap.size w w'→Fd F o.dst v w'→K' (a.put o.dst v) w':=fun v w' hb hf=>
  h _ _ _ (grow_step hC hb) (hA.add hb hf) (hn v ⟨w',grow_step hC hb,hf⟩)
 unfold Oper.wp
 generalize (execOp a.eval o).run P w=r at *
 cases r with
 |ok n w'=>
  cases n <;> simp only [mixUpon] at h3 <;> simp only [Oper.upon]
  case value v=>exact fin _ _ h3.1 h3.2
  case skip=>exact fin _ _ h3.1 h3.2
  case enter f args=>exact h3.mono fun e w'' ⟨v,he,hb,hf⟩=>by subst he;exact fin _ _ hb hf
  case row row args=>exact h3.mono fun v w'' ⟨hb,hf⟩=>fin _ _ hb hf
 |halt x w'=>simp only [mixUpon] at h3
theorem wpAny_of_mix {Q:Act→(Tmp→Prop)→Prop} {Q':Exit→Act→World→Prop} (hQ:∀a S w,Below W.heap.size W w→AllK F S a w→Q a S→Q' .normal a w):∀(fuel:Nat) (listed:Array Bool) (a:Act) (S:Tmp→Prop) (w:World),Below W.heap.size W w→AllK F S a w→
  wpAnyM P ops W F md Q fuel listed a S→wpAny P md ops Q' fuel listed a w
 |0,_,_,_,_,hC,hA,h=>⟨h.1,hQ _ _ _ hC hA h.2⟩
 |fuel+1,listed,a,S,w,hC,hA,h=>⟨fun h0=>hQ _ _ _ hC hA (h.1 h0),fun i hi=>by
   have hh:=h.2 i hi
   unfold mOp at hh
   unfold wpOp
   split
   ·rename_i ho;simp only [ho] at hh;exact wpAny_of_mix hQ fuel _ _ _ _ hC hA hh
   ·rename_i o ho
    simp only [ho] at hh
    unfold body at hh
    split
    ·rename_i hw
     rw [if_pos hw] at hh
     exact .inl (wp_of_body hC hA (fun a' S' w' c k q=>wpAny_of_mix hQ fuel _ _ _ _ c k q) hh.1 hh.2)
    ·rename_i hw
     rw [if_neg hw] at hh
     exact wpAny_of_mix hQ fuel _ _ _ _ hC hA.del hh⟩
theorem mix_move {o:Oper} (hs:∀cs b,o.op≠ .select cs b) {a:Act} {dst:Option Tmp} {v:Value} {S S':Tmp→Prop} (hd:∀d,dst=some d→d ∉ o.looksAt ops) (hS:∀t,dst≠some t→(S' t↔S t)):mixAt P ops W F o (a.put dst v) S'↔mixAt P ops W F o a S:=by
 have e:=execOp_put (ops:=ops) o hs a dst v hd
 have ne:∀t,t∈o.looksAt ops→dst≠some t:=fun t ht e=>hd t e ht
 unfold mixAt
 rw [e]
 constructor
 ·intro h w hC hK
  refine h w hC fun t ht hs v hv=> ?_
  rw [put_other (ne t ht)] at hv
  exact hK t ht ((hS t (ne t ht)).1 hs) v hv
 ·intro h w hC hK
  refine h w hC fun t ht hs v hv=> ?_
  exact hK t ht ((hS t (ne t ht)).2 hs) v (by rw [put_other (ne t ht)];exact hv)
theorem add_iff {dst:Option Tmp} {S:Tmp→Prop}:∀t,dst≠some t→(add dst S t↔S t):=fun _ h=>⟨fun k=>k.resolve_left h,.inr⟩
theorem del_iff {dst:Option Tmp} {S:Tmp→Prop}:∀t,dst≠some t→(del dst S t↔S t):=fun _ h=>⟨fun k=>k.2,fun k=>⟨h,k⟩⟩
theorem add_add (x y:Option Tmp) (S:Tmp→Prop):add x (add y S)=add y (add x S):=by
 funext t;unfold add;exact propext or_left_comm
theorem del_del (x y:Option Tmp) (S:Tmp→Prop):del x (del y S)=del y (del x S):=by
 funext t;unfold del;exact propext and_left_comm
theorem add_del {x y:Option Tmp} (h:∀d,x=some d→y≠some d) (S:Tmp→Prop):add x (del y S)=del y (add x S):=by
 funext t;unfold add del
 refine propext ⟨?_,?_⟩
 ·rintro (e | ⟨h1,h2⟩)
  ·exact⟨h t e,.inl e⟩
  ·exact⟨h1,.inr h2⟩
 ·rintro ⟨h1,e | h2⟩
  ·exact .inl e
  ·exact .inr ⟨h1,h2⟩
theorem body_swap {oi oj:Oper} (hap:oi.apart ops oj=true) (hsi:∀cs b,oi.op≠ .select cs b) (hsj:∀cs b,oj.op≠ .select cs b) {K:Act→(Tmp→Prop)→Prop} {a:Act} {S:Tmp→Prop}
  (hex:Region.wanted oi (yielded ops a.tmps)=true→∃v,Valid W F oi.dst v) (h:body P ops W F oi (fun a' S'=>body P ops W F oj K a' S') a S):body P ops W F oj (fun a' S'=>body P ops W F oi K a' S') a S:=by
 obtain⟨h1,h2,h3⟩:=Oper.apart_spec hap
 have h2':∀d,oj.dst=some d→oi.dst≠some d:=fun d e e2=>h2 d e2 e
 unfold body at *
 by_cases wi:Region.wanted oi (yielded ops a.tmps)=true
 ·rw [if_pos wi] at h
  obtain⟨m1,n1⟩:=h
  obtain⟨v0,hv0⟩:=hex wi
  by_cases wj:Region.wanted oj (yielded ops a.tmps)=true
  ·rw [if_pos wj]
   refine⟨?_,fun u hu=> ?_⟩
   ·have:=n1 v0 hv0
    dsimp only at this
    rw [wanted_put oj a oi.dst v0 h1,if_pos wj] at this
    exact(mix_move hsj h1 add_iff).1 this.1
   ·dsimp only
    rw [wanted_put oi a oj.dst u h3,if_pos wi]
    refine⟨(mix_move hsi h3 add_iff).2 m1,fun v hv=> ?_⟩
    have:=n1 v hv
    dsimp only at this
    rw [wanted_put oj a oi.dst v h1,if_pos wj] at this
    have:=this.2 u hu
    rw [Act.put_comm a v u h2,add_add] at this
    exact this
  ·rw [if_neg wj]
   dsimp only
   rw [wanted_put oi a oj.dst undef h3,if_pos wi]
   refine⟨(mix_move hsi h3 del_iff).2 m1,fun v hv=> ?_⟩
   have:=n1 v hv
   dsimp only at this
   rw [wanted_put oj a oi.dst v h1,if_neg wj,Act.put_comm a v undef h2,←add_del h2] at this
   exact this
 ·rw [if_neg wi] at h
  rw [wanted_put oj a oi.dst undef h1] at h
  by_cases wj:Region.wanted oj (yielded ops a.tmps)=true
  ·rw [if_pos wj] at h ⊢
   refine⟨(mix_move hsj h1 del_iff).1 h.1,fun u hu=> ?_⟩
   dsimp only
   rw [wanted_put oi a oj.dst u h3,if_neg wi]
   have:=h.2 u hu
   rw [Act.put_comm a undef u h2,add_del h2'] at this
   exact this
  ·rw [if_neg wj] at h ⊢
   dsimp only
   rw [wanted_put oi a oj.dst undef h3,if_neg wi]
   rw [Act.put_comm a undef undef h2,del_del] at h
   exact h
theorem wanted_body {o:Oper} {K:Act→(Tmp→Prop)→Prop} {a:Act} {S:Tmp→Prop} {A:Act→Prop} (hu:∀u,A (a.put o.dst u)) (hh:body P ops W F o K a S):body P ops W F o (fun a' S'=>A a'∧K a' S') a S:=by
 unfold body at *
 split
 ·rename_i hw;rw [if_pos hw] at hh;exact⟨hh.1,fun v hv=>⟨hu v,hh.2 v hv⟩⟩
 ·rename_i hw;rw [if_neg hw] at hh;exact⟨hu _,hh⟩
theorem wpAnyM_first {Q:Act→(Tmp→Prop)→Prop} {i:Nat} {oi:Oper} (hi:ops[i]? =some oi) (hsel:∀(j:Nat) (o:Oper) cs b,ops[j]? =some o→o.op≠ .select cs b):
  ∀(fuel:Nat) (listed:Array Bool) (a:Act) (S:Tmp→Prop),
   (∀j oj,ops[j]? =some oj→j≠i→listed.getD j true=false→(∀e∈oj.after,Region.binds md e=true→e.on≠i)→oi.apart ops oj=true)→
   i∈Region.ready md ops listed→(Region.wanted oi (yielded ops a.tmps)=true→∃v,Valid W F oi.dst v)→
   body P ops W F oi (wpAnyM P ops W F md Q fuel (listed.setIfInBounds i true)) a S→wpAnyM P ops W F md Q (fuel+1) listed a S:=by
 intro fuel
 induction fuel with
 |zero=>
  intro listed a S _ hr hex H
  refine⟨fun h=>(by rw [h] at hr;cases hr),fun j hj=> ?_⟩
  by_cases hji:j=i
  ·subst hji;unfold mOp;simp only [hi];exact H
  ·have hno:=ready_mono hj hji
   have:Region.ready md ops (listed.setIfInBounds i true)= []:=by
    unfold body at H
    split at H
    ·rename_i hw
     obtain⟨v,hv⟩:=hex hw
     exact(H.2 v hv).1
    ·exact H.1
   rw [this] at hno
   cases hno
 |succ fuel ih=>
  intro listed a S hfree hr hex H
  refine⟨fun h=>(by rw [h] at hr;cases hr),fun j hj=> ?_⟩
  by_cases hji:j=i
  ·subst hji;unfold mOp;simp only [hi];exact H
  ·obtain⟨hjun,oj,hoj,hall⟩:=mem_ready.1 hj
   have hnot:∀e∈oj.after,Region.binds md e=true→e.on≠i:=fun e he hb heq=>by
    have h1:=hall e he hb
    have h0:=(mem_ready.1 hr).1
    rw [heq] at h1
    rcases Nat.lt_or_ge i listed.size with h' | h'
    ·simp [h'] at h0 h1;rw [h0] at h1;cases h1
    ·simp [Array.getElem?_eq_none h'] at h1
   have hap:=hfree j oj hoj hji hjun hnot
   obtain⟨_,_,h3⟩:=Oper.apart_spec hap
   have H1:body P ops W F oi (fun a' S'=>body P ops W F oj (wpAnyM P ops W F md Q fuel ((listed.setIfInBounds i true).setIfInBounds j true)) a' S') a S:=body_mono (fun a' S' h=>by
    have:=h.2 j (ready_mono hj hji)
    unfold mOp at this
    simp only [hoj] at this
    exact this) H
   have H2:=body_swap hap (fun cs b=>hsel i oi cs b hi) (fun cs b=>hsel j oj cs b hoj) hex H1
   have H3:=wanted_body (A:=fun a'=>Region.wanted oi (yielded ops a'.tmps)=true→∃v,Valid W F oi.dst v) (fun u=>by rw [wanted_put oi a oj.dst u h3];exact hex) H2
   have hfree':∀k ok,ops[k]? =some ok→k≠i→(listed.setIfInBounds j true).getD k true=false→
     (∀e∈ok.after,Region.binds md e=true→e.on≠i)→oi.apart ops ok=true:=fun k ok hk hki hun hno=>by
    refine hfree k ok hk hki ?_ hno
    by_cases hjk:j=k
    ·subst hjk;exact hjun
    ·rw [getD_set_ne true hjk] at hun;exact hun
   unfold mOp
   simp only [hoj]
   refine body_mono (fun a' S' h=>ih (listed.setIfInBounds j true) a' S' hfree' (ready_mono hr (Ne.symm hji)) h.1 ?_) H3
   rw [Array.setIfInBounds_comm _ _ hji]
   exact h.2
theorem wpAnyM_lex {Q:Act→(Tmp→Prop)→Prop} (hs:Region.noSelect ops=true):∀(l:List Oper) (k:Nat) (listed:Array Bool) (a:Act) (S:Tmp→Prop),(∀j,l[j]? =ops[k+j]?)→
  Region.lexFrom md ops l.length k listed=true→wpMix P ops W F Q l a S→wpAnyM P ops W F md Q l.length listed a S
 |[],_,_,_,_,_,hB,h=>⟨by simpa [Region.lexFrom] using hB,h⟩
 |o :: l,k,listed,a,S,hl,hB,h=>by
  have h0:ops[k]? =some o:=by simpa using (hl 0).symm
  simp only [List.length_cons,Region.lexFrom,Bool.and_eq_true] at hB
  obtain⟨⟨hr,hf⟩,hB'⟩:=hB
  refine wpAnyM_first h0 (Region.noSelect_spec hs) l.length listed a S (Region.free_spec h0 hf) (by simpa using hr) h.1 ?_
  exact body_mono (fun a' S' q=>wpAnyM_lex hs l (k+1) _ _ _ (fun j=>by have:=hl (j+1);simpa [Nat.add_assoc,Nat.add_comm 1 j] using this) hB' q) h.2
theorem wp_region_mix {id:Nat} {Q:Exit→Act→World→Prop} {a:Act} {l:List Oper} (F:Tmp→Up) (hm:P.follows .mixedOrders=true) (hB:Region.lexB .any l.toArray=true)
  (h:wpMix P l.toArray W F (fun a' S=>∀w',Below W.heap.size W w'→AllK F S a' w'→Q .normal a' w') l a (fun _=>False)):(Code.region id l.toArray true).wp P Q a W:=by
 simp only [Region.lexB,Bool.and_eq_true] at hB
 refine wp_region_any hm (wpAny_of_mix (W:=W) (F:=F) (Q:=fun a' S=>∀w',Below W.heap.size W w'→AllK F S a' w'→Q .normal a' w') (fun _ _ w' hC hA h=>h w' hC hA) _ _ _ (fun _=>False) _ (Below.refl _ _).drew (fun t ht=>ht.elim) ?_)
 have:=wpAnyM_lex (W:=W) (F:=F) (md:= .any) hB.1 l 0 (Array.replicate l.toArray.size false) a (fun _=>False) (by simp) (by simpa using hB.2) h
 simpa using this
theorem mix_nil {Q:Act→(Tmp→Prop)→Prop} {a:Act} {S:Tmp→Prop} (h:Q a S):wpMix P ops W F Q [] a S:=h
theorem mix_skip {Q:Act→(Tmp→Prop)→Prop} {a:Act} {S:Tmp→Prop} {o:Oper} {rest:List Oper} (hw:Region.wanted o (yielded ops a.tmps)=false) (h:wpMix P ops W F Q rest (a.put o.dst undef) (del o.dst S)):wpMix P ops W F Q (o :: rest) a S:=by
 refine⟨fun k=>absurd (hw.symm.trans k) (by decide),?_⟩
 unfold body
 rw [if_neg (by rw [hw];decide)]
 exact h
theorem mix_step {Q:Act→(Tmp→Prop)→Prop} {a:Act} {S:Tmp→Prop} {o:Oper} {rest:List Oper} (hw:Region.wanted o (yielded ops a.tmps)=true) (hex:∃v,Valid W F o.dst v)
  (hm:∀w,Below W.heap.size W w→Known F S (o.looksAt ops) a w→mixUpon P F o w ((execOp a.eval o).run P w)) (h:∀v,Valid W F o.dst v→wpMix P ops W F Q rest (a.put o.dst v) (add o.dst S)):wpMix P ops W F Q (o :: rest) a S:=by
 refine⟨fun _=>hex,?_⟩
 unfold body
 rw [if_pos hw]
 exact⟨hm,h⟩
end
end Go.Proofs.YtljkgcfnoegibaaGreatDoor.Mix
