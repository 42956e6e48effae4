/- Texts of one chain, joined. -/
import Derived.Test.YtljkgcfnoegibaaGreatDoorWcAA
import Derived.Test.YtljkgcfnoegibaaGreatDoorWcAC
import Derived.Test.YtljkgcfnoegibaaGreatDoorWcAK
import Derived.Test.YtljkgcfnoegibaaGreatDoorWcAL
set_option maxHeartbeats 4000000
set_option maxRecDepth 20000
namespace Go.Proofs.YtljkgcfnoegibaaGreatDoor
open Go Go.RowKit
open G (Tok Er Ins Fun)
def cnt (tr:List Int) (k:Int):Nat:=(tr.getD k.toNat 0).toNat
def finF (f:Fun) (tr:List Int):List Int→List Int→List Int
 |[],out=>out
 |k :: up,out=>finF f tr up (walkF f (f.2.2.2.1.length - (up.length+1)) (up.reverse ++ [k]) out ((nextF f k.toNat).drop (cnt tr k)) ++ [k])
theorem finF_same (f:Fun) {tr tr':List Int}:∀(up out:List Int),(∀k∈up,cnt tr k=cnt tr' k)→finF f tr up out=finF f tr' up out:=by
 intro up
 induction up with
 |nil=>intro out _;rfl
 |cons k up ih=>
  intro out h
  rw [finF,finF,h k (by simp)]
  exact ih _ (fun x hx=>h x (by simp [hx]))
theorem finF_done {f:Fun} {tr:List Int} {k:Int} {up out:List Int} (h:(nextF f k.toNat).length≤cnt tr k):finF f tr (k :: up) out=finF f tr up (out ++ [k]):=by
 rw [finF,List.drop_eq_nil_of_le h];rfl
theorem dropL_at {l:List Int} {c:Nat} {m:Int} (h:l[c]? =some m):l.drop c=m :: l.drop (c+1):=by
 obtain⟨h1,h2⟩:=List.getElem?_eq_some_iff.1 h
 rw [List.drop_eq_getElem_cons h1,h2]
theorem finF_old {f:Fun} {tr tr':List Int} {k m:Int} {up out:List Int} (hm:(nextF f k.toNat)[cnt tr k]? =some m) (hc:cnt tr' k=cnt tr k+1) (hs:∀x∈up,cnt tr x=cnt tr' x)
  (h:hasL out m=true∨hasL (up.reverse ++ [k]) m=true):finF f tr (k :: up) out=finF f tr' (k :: up) out:=by
 rw [finF,finF,dropL_at hm,hc]
 show finF f tr up (walkF f _ _ (stepF f _ _ out m) _ ++ [k])=_
 rw [stepF_no h]
 exact finF_same f _ _ hs
theorem finF_new {f:Fun} {tr tr':List Int} {k m:Int} {up out:List Int} (hm:(nextF f k.toNat)[cnt tr k]? =some m) (hc:cnt tr' k=cnt tr k+1) (hs:∀x∈up,cnt tr x=cnt tr' x)
  (h1:hasL out m=false) (h2:hasL (up.reverse ++ [k]) m=false) (h0:cnt tr' m=0) (hN:up.length+2≤f.2.2.2.1.length):finF f tr (k :: up) out=finF f tr' (m :: k :: up) out:=by
 rw [finF,finF,finF,dropL_at hm,hc,h0]
 show finF f tr up (walkF f _ _ (stepF f _ _ out m) _ ++ [k])=_
 rw [stepF_yes h1 h2,finF_same f _ _ hs,List.drop_zero]
 obtain⟨M,hM⟩:∃M,f.2.2.2.1.length - (up.length+1)=M+1:=⟨f.2.2.2.1.length - (up.length+2),by omega⟩
 have hM2:f.2.2.2.1.length - ((k :: up).length+1)=M:=by simp only [List.length_cons];omega
 rw [hM,hM2,postF_succ,List.reverse_cons]
theorem hasL_app (a b:List Int) (n:Int):hasL (a ++ b) n=(hasL a n || hasL b n):=by simp [hasL]
theorem sum_less (g g':Nat→Nat) (k:Nat) (h1:g' k+1=g k) (h2:∀j,j≠k→g' j=g j):∀n,k < n→((List.range n).map g').sum+1=((List.range n).map g).sum:=by
 have key:∀n,n≤k→((List.range n).map g').sum=((List.range n).map g).sum:=by
  intro n
  induction n with
  |zero=>intro _;rfl
  |succ n ih=>
   intro hn
   rw [List.range_succ,List.map_append,List.map_append,List.sum_append,List.sum_append,ih (by omega)]
   simp [h2 n (by omega)]
 intro n
 induction n with
 |zero=>intro h;omega
 |succ n ih=>
  intro hn
  rw [List.range_succ,List.map_append,List.map_append,List.sum_append,List.sum_append]
  by_cases e:n=k
  ·subst e
   rw [key n (Nat.le_refl _)]
   simp
   omega
  ·have:=ih (by omega)
   simp [h2 n e]
   omega
def leftN (f:Fun) (done tr:List Int):Nat:=((List.range f.2.2.2.1.length).map fun(k:Nat)=>(nextF f k).length - cnt tr k).sum+(f.2.2.2.1.length - done.length)
def Dfs (f:Fun) (way done tr:List Int) (mt:List Bool):Prop:=
 finF f tr way.reverse done=postF f f.2.2.2.1.length 0 [] []∧(way.Nodup∧Num f.2.2.2.1.length way)∧(done.Nodup∧Num f.2.2.2.1.length done)∧(∀m∈done,m ∉ way)∧
 tr.length=f.2.2.2.1.length∧mt.length=f.2.2.2.1.length∧(∀k:Nat,k < f.2.2.2.1.length→mt[k]? =some (hasL done k || hasL way k))∧
 (∀k:Nat,k < f.2.2.2.1.length→∃c:Nat,tr[k]? =some (c:Int)∧c≤(nextF f k).length∧((hasL done k || hasL way k)=false→c=0))
theorem cnt_at {tr:List Int} {k c:Nat} (h:tr[k]? =some (c:Int)):cnt tr k=c:=by
 unfold cnt;rw [Int.toNat_natCast,List.getD_eq_getElem?_getD,h];simp
theorem cnt_set {tr:List Int} {k:Nat} (hk:k < tr.length) (c:Nat):cnt (tr.set k (c:Int)) k=c:=cnt_at (by rw [List.getElem?_set];simp [hk])
theorem cnt_other {tr:List Int} {k:Nat} (c:Int) {m:Int} (hm:0≤m) (h:m≠k):cnt (tr.set k c) m=cnt tr m:=by
 unfold cnt;rw [List.getD_eq_getElem?_getD,List.getD_eq_getElem?_getD,List.getElem?_set_ne (by omega)]
theorem Dfs.start {f:Fun} (h0:0 < f.2.2.2.1.length):Dfs f [0] [] (List.replicate f.2.2.2.1.length 0) ((List.replicate f.2.2.2.1.length false).set 0 true):=by
 refine⟨?_,⟨by simp,fun m hm=>by simp at hm;subst hm;omega⟩,⟨List.nodup_nil,fun m hm=>by simp at hm⟩,by simp,by simp,by simp,?_,?_⟩
 ·obtain⟨M,hM⟩:∃M,f.2.2.2.1.length=M+1:=⟨f.2.2.2.1.length - 1,by omega⟩
  have hc:cnt (List.replicate (M+1) 0) 0=0:=by simp [cnt]
  rw [hM,postF_succ]
  show finF f _ [0] []=_
  rw [finF,finF,hc,hM]
  simp
 ·intro k hk
  rw [List.getElem?_set]
  by_cases e:0=k
  ·subst e;simp [h0,hasL]
  ·rw [if_neg e,List.getElem?_replicate,if_pos hk]
   have:¬(0:Int)=(k:Int):=by omega
   simp [hasL,this]
 ·intro k hk
  exact⟨0,by rw [List.getElem?_replicate,if_pos hk];rfl,Nat.zero_le _,fun _=>rfl⟩
theorem Dfs.ended {f:Fun} {done tr:List Int} {mt:List Bool} (h:Dfs f [] done tr mt):done=postF f f.2.2.2.1.length 0 [] []:=h.1
theorem Dfs.pop {f:Fun} {up done tr:List Int} {mt:List Bool} {k:Nat} (h:Dfs f (up ++ [(k:Int)]) done tr mt) (hc:tr[k]? =some (((nextF f k).length:Nat):Int)):
  Dfs f up (done ++ [(k:Int)]) tr mt∧leftN f (done ++ [(k:Int)]) tr < leftN f done tr:=by
 obtain⟨h1,h2,h3,h4,h5,h6,h7,h8⟩:=h
 rw [List.reverse_append] at h1
 have hk:=h2.2 (k:Int) (by simp)
 have hd:(done ++ [(k:Int)]).Nodup∧Num f.2.2.2.1.length (done ++ [(k:Int)]):=by
  refine⟨List.nodup_append.2 ⟨h3.1,by simp,?_⟩,?_⟩
  ·rintro x hx y hy rfl
   simp at hy
   exact h4 x hx (by simp [hy])
  ·intro m hm
   rcases List.mem_append.1 hm with hm | hm
   ·exact h3.2 m hm
   ·simp at hm;subst hm;exact hk
 have hn:=List.nodup_append.1 h2.1
 have hku:(k:Int) ∉ up:=fun h=>hn.2.2 _ h _ (by simp) rfl
 refine⟨⟨?_,⟨hn.1,fun m hm=>h2.2 m (by simp [hm])⟩,hd,?_,h5,h6,?_,?_⟩,?_⟩
 ·rw [←h1]
  exact(finF_done (by rw [Int.toNat_natCast,cnt_at hc];exact Nat.le_refl _)).symm
 ·intro m hm
  rcases List.mem_append.1 hm with hm | hm
  ·exact fun h=>h4 m hm (by simp [h])
  ·simp at hm;subst hm;exact hku
 ·intro j hj
  rw [h7 j hj,hasL_app,hasL_app]
  cases hasL done j <;> cases hasL up j <;> cases hasL [(k:Int)] j <;> rfl
 ·intro j hj
  obtain⟨c,q1,q2,q3⟩:=h8 j hj
  refine⟨c,q1,q2,fun e=>q3 ?_⟩
  rw [←e,hasL_app,hasL_app]
  cases hasL done j <;> cases hasL up j <;> cases hasL [(k:Int)] j <;> rfl
 ·have:=fit_len _ _ hd.1 hd.2
  simp at this
  unfold leftN
  simp only [List.length_append,List.length_singleton]
  omega
theorem left_less {f:Fun} {done tr:List Int} {k c:Nat} (hk:k < f.2.2.2.1.length) (ht:tr.length=f.2.2.2.1.length) (hc:tr[k]? =some (c:Int)) (hl:c < (nextF f k).length):leftN f done (tr.set k ((c:Int)+1)) < leftN f done tr:=by
 have h:=sum_less (fun(j:Nat)=>(nextF f j).length - cnt tr j) (fun(j:Nat)=>(nextF f j).length - cnt (tr.set k ((c+1:Nat):Int)) j) k (by
  simp only [cnt_set (tr:=tr) (by omega:k < tr.length) (c+1),cnt_at hc];omega) (fun j hj=>by
  simp only [cnt_other (tr:=tr) (k:=k) ((c+1:Nat):Int) (m:=(j:Int)) (by omega) (by omega)]) _ hk
 unfold leftN
 rw [show((c:Int)+1)=((c+1:Nat):Int) by omega]
 omega
theorem Dfs.counts {f:Fun} {way done tr:List Int} {k c:Nat} (h5:tr.length=f.2.2.2.1.length) (hk:k < f.2.2.2.1.length) (hw:hasL way k=true) (hl:c < (nextF f k).length)
  (h8:∀j:Nat,j < f.2.2.2.1.length→∃d:Nat,tr[j]? =some (d:Int)∧d≤(nextF f j).length∧((hasL done j || hasL way j)=false→d=0)):
  ∀j:Nat,j < f.2.2.2.1.length→∃d:Nat,(tr.set k ((c:Int)+1))[j]? =some (d:Int)∧d≤(nextF f j).length∧((hasL done j || hasL way j)=false→d=0):=by
 intro j hj
 by_cases e:j=k
 ·subst e
  exact⟨c+1,by rw [List.getElem?_set];simp [h5,hj],hl,fun h=>by simp [hw] at h⟩
 ·obtain⟨d,q1,q2,q3⟩:=h8 j hj
  exact⟨d,by rw [List.getElem?_set_ne (by omega)];exact q1,q2,q3⟩
theorem Dfs.old {f:Fun} {up done tr:List Int} {mt:List Bool} {k c m:Nat} (h:Dfs f (up ++ [(k:Int)]) done tr mt) (hc:tr[k]? =some (c:Int)) (hm:(nextF f k)[c]? =some (m:Int)) (hM:m < f.2.2.2.1.length) (hb:mt[m]? =some true):
  Dfs f (up ++ [(k:Int)]) done (tr.set k ((c:Int)+1)) mt∧leftN f done (tr.set k ((c:Int)+1)) < leftN f done tr:=by
 obtain⟨h1,h2,h3,h4,h5,h6,h7,h8⟩:=h
 have hk:k < f.2.2.2.1.length:=by have:=(h2.2 (k:Int) (by simp)).2;omega
 have hl:c < (nextF f k).length:=(List.getElem?_eq_some_iff.1 hm).1
 have hn:=List.nodup_append.1 h2.1
 have hku:(k:Int) ∉ up:=fun h=>hn.2.2 _ h _ (by simp) rfl
 refine⟨⟨?_,h2,h3,h4,by simpa using h5,h6,h7,Dfs.counts h5 hk (by rw [hasL_mem];simp) hl h8⟩,left_less hk h5 hc hl⟩
 rw [←h1,List.reverse_append]
 refine(finF_old (m:=(m:Int)) ?_ ?_ ?_ ?_).symm
 ·rw [Int.toNat_natCast,cnt_at hc];exact hm
 ·rw [cnt_at hc];exact cnt_set (by omega) (c+1)
 ·intro x hx
  have hx':x∈up:=by simpa using hx
  exact(cnt_other _ (h2.2 x (by simp [hx'])).1 (fun e=>hku (e ▸ hx'))).symm
 ·have:=h7 m hM
  rw [hb] at this
  injection this with this
  rw [hasL_app] at this
  show hasL done m=true∨hasL (up.reverse.reverse ++ [(k:Int)]) m=true
  rw [List.reverse_reverse,hasL_app]
  cases hd:hasL done m with
  |true=>exact .inl rfl
  |false=>rw [hd] at this;right;simpa using this.symm
theorem Dfs.new {f:Fun} {up done tr:List Int} {mt:List Bool} {k c m:Nat} (h:Dfs f (up ++ [(k:Int)]) done tr mt) (hc:tr[k]? =some (c:Int)) (hm:(nextF f k)[c]? =some (m:Int)) (hM:m < f.2.2.2.1.length) (hb:mt[m]? =some false):
  Dfs f (up ++ [(k:Int)] ++ [(m:Int)]) done (tr.set k ((c:Int)+1)) (mt.set m true)∧leftN f done (tr.set k ((c:Int)+1)) < leftN f done tr:=by
 obtain⟨h1,h2,h3,h4,h5,h6,h7,h8⟩:=h
 have hk:k < f.2.2.2.1.length:=by have:=(h2.2 (k:Int) (by simp)).2;omega
 have hl:c < (nextF f k).length:=(List.getElem?_eq_some_iff.1 hm).1
 have hn:=List.nodup_append.1 h2.1
 have hku:(k:Int) ∉ up:=fun h=>hn.2.2 _ h _ (by simp) rfl
 have hb2:=h7 m hM
 rw [hb] at hb2
 injection hb2 with hb2
 obtain⟨hd,hw⟩:=Bool.or_eq_false_iff.1 hb2.symm
 have hmk:m≠k:=by
  rintro rfl
  rw [hasL_app] at hw
  simp [hasL] at hw
 have hnw:(up ++ [(k:Int)] ++ [(m:Int)]).Nodup∧Num f.2.2.2.1.length (up ++ [(k:Int)] ++ [(m:Int)]):=by
  refine⟨List.nodup_append.2 ⟨h2.1,by simp,?_⟩,?_⟩
  ·rintro x hx y hy rfl
   simp at hy
   exact hasL_no.1 hw (hy ▸ hx)
  ·intro x hx
   rcases List.mem_append.1 hx with hx | hx
   ·exact h2.2 x hx
   ·simp at hx;subst hx;omega
 have hlen:=fit_len _ _ hnw.1 hnw.2
 simp at hlen
 refine⟨⟨?_,hnw,h3,?_,by simpa using h5,by simpa using h6,?_,?_⟩,left_less hk h5 hc hl⟩
 ·rw [←h1,List.reverse_append,List.reverse_append]
  refine(finF_new (m:=(m:Int)) ?_ ?_ ?_ hd ?_ ?_ ?_).symm
  ·rw [Int.toNat_natCast,cnt_at hc];exact hm
  ·rw [cnt_at hc];exact cnt_set (by omega) (c+1)
  ·intro x hx
   have hx':x∈up:=by simpa using hx
   exact(cnt_other _ (h2.2 x (by simp [hx'])).1 (fun e=>hku (e ▸ hx'))).symm
  ·show hasL (up.reverse.reverse ++ [(k:Int)]) m=false
   rw [List.reverse_reverse];exact hw
  ·rw [cnt_other _ (by omega) (by omega)]
   obtain⟨d,q1,_,q3⟩:=h8 m hM
   rw [cnt_at q1]
   exact q3 (by rw [hd,hw];rfl)
  ·simp;omega
 ·intro x hx hx2
  rcases List.mem_append.1 hx2 with hx2 | hx2
  ·exact h4 x hx hx2
  ·simp at hx2;subst hx2;exact hasL_no.1 hd hx
 ·intro j hj
  rw [List.getElem?_set]
  by_cases e:m=j
  ·subst e
   rw [if_pos rfl,if_pos (by omega),hasL_app _ [(m:Int)]]
   simp [hasL]
  ·rw [if_neg e,h7 j hj,hasL_app _ [(m:Int)]]
   have:¬(m:Int)=(j:Int):=by omega
   simp [hasL,this]
 ·intro j hj
  obtain⟨d,q1,q2,q3⟩:=Dfs.counts (done:=done) h5 hk (by rw [hasL_mem];simp) hl h8 j hj
  refine⟨d,q1,q2,fun e=>q3 ?_⟩
  rw [hasL_app _ [(m:Int)]] at e
  simp only [Bool.or_eq_false_iff] at e ⊢
  exact⟨e.1,e.2.1⟩
theorem placeL_snoc {l:List Int} {m n:Int}:placeL (l ++ [m]) n=if hasL l n then placeL l n else if m=n then(l.length:Int)else -1:=by
 have key:∀(l:List Int) (i:Nat),placeAt (l ++ [m]) n i=if hasL l n then placeAt l n i else if m=n then((i+l.length:Nat):Int)else -1:=by
  intro l
  induction l with
  |nil=>intro i;simp [placeAt,hasL]
  |cons x l ih=>
   intro i
   by_cases e:x=n
   ·simp [placeAt,hasL,e]
   ·rw [List.cons_append,placeAt,if_neg e,ih]
    have:hasL (x :: l) n=hasL l n:=by simp [hasL,e]
    rw [this,placeAt,if_neg e]
    have e2:i+1+l.length=i+(x :: l).length:=by simp only [List.length_cons];omega
    rw [e2]
 have:=key l 0
 simpa [placeL] using this
def placesTo (n:Nat) (l:List Int):List Int:=(List.range n).map fun(k:Nat)=>placeL l (k:Int)
theorem placesTo_len (n:Nat) (l:List Int):(placesTo n l).length=n:=by simp [placesTo]
theorem placesTo_nil (n:Nat):placesTo n []=List.replicate n (-1):=by
 unfold placesTo
 apply List.ext_getElem?
 intro j
 rw [List.getElem?_map,List.getElem?_replicate]
 by_cases h:j < n
 ·rw [List.getElem?_range h,if_pos h];rfl
 ·rw [List.getElem?_eq_none (by simpa using h),if_neg h];rfl
theorem placesTo_snoc {n:Nat} {l:List Int} {m:Nat} (h:hasL l m=false):placesTo n (l ++ [(m:Int)])=(placesTo n l).set m (l.length:Int):=by
 unfold placesTo
 apply List.ext_getElem?
 intro j
 rw [List.getElem?_set,List.getElem?_map,List.getElem?_map,List.length_map,List.length_range]
 by_cases hj:j < n
 ·rw [List.getElem?_range hj,Option.map_some,Option.map_some,placeL_snoc]
  by_cases e:m=j
  ·subst e
   rw [if_pos rfl,if_pos hj,h]
   simp
  ·rw [if_neg e]
   have e2:¬(m:Int)=(j:Int):=by omega
   cases hh:hasL l j with
   |true=>simp
   |false=>rw [if_neg (by simp),if_neg e2,←placeL_no hh]
 ·have:(List.range n)[j]? =none:=List.getElem?_eq_none (by simpa using hj)
  rw [this]
  by_cases e:m=j
  ·subst e;simp [hj]
  ·rw [if_neg e];rfl
theorem placesF_to (f:Fun):placesF f=placesTo f.2.2.2.1.length (orderF f):=rfl
open L5 (word tk0 tk1 mk ds num beside num_out beside_list)
def rowVal (k:Nat):Value:= .agg #[.string (word k),.int .i64 (tk0 k),.int .i64 (tk1 k),.int .i64 (mk k),.int .i64 (ds k)]
def Tab (w:World):Prop:=0 < w.heap.size∧∀k,k < 30→
 w.cell? ⟨0,k * 5,none⟩=some (.string (word k))∧w.cell? ⟨0,k * 5+1,none⟩=some (.int .i64 (tk0 k))∧w.cell? ⟨0,k * 5+2,none⟩=some (.int .i64 (tk1 k))∧w.cell? ⟨0,k * 5+3,none⟩=some (.int .i64 (mk k))∧w.cell? ⟨0,k * 5+4,none⟩=some (.int .i64 (ds k))
theorem Tab.below {w w':World} (h:Tab w) (b:Below w.heap.size w w'):Tab w':=
 ⟨Nat.lt_of_lt_of_le h.1 b.size,fun k hk=>by
  obtain⟨h0,h1,h2,h3,h4⟩:=h.2 k hk
  exact⟨(b.cell h.1).trans h0,(b.cell h.1).trans h1,(b.cell h.1).trans h2,(b.cell h.1).trans h3,(b.cell h.1).trans h4⟩⟩
theorem of_in (k:Nat) (w:World) (h0:1≤k) (h1:k≤29) (ht:Tab w):
  Calls Tryz.prog 54 #[.int .i64 k] w fun e w'=>e= .returned (rowVal k)∧Below w.heap.size w w':=by
 have T:=ht.below (below_box w (.cells #[.string ⟨#[]⟩,.int .i64 0,.int .i64 0,.int .i64 0,.int .i64 0] 91))
 obtain⟨c0,c1,c2,c3,c4⟩:=T.2 k (by omega)
 clear T ht
 go_enter Tryz.func54,Tryz.ntmps54
 go_wp2_with fail
 exact bodyPost_ret (v:=rowVal k) (by simp [results,Tryz.results54,go_sem,rowVal]) rfl ⟨rfl,below_box _ _⟩
theorem of_out (op:Int) (w:World) (h:¬(1≤op∧op≤29)) (ht:Tab w):
  Calls Tryz.prog 54 #[.int .i64 op] w fun e w'=>e= .returned (rowVal 0)∧Below w.heap.size w w':=by
 have T:=ht.below (below_box w (.cells #[.string ⟨#[]⟩,.int .i64 0,.int .i64 0,.int .i64 0,.int .i64 0] 91))
 obtain⟨c0,c1,c2,c3,c4⟩:=T.2 0 (by omega)
 simp only [Nat.zero_mul,Nat.zero_add] at c0 c1 c2 c3 c4
 clear T ht
 by_cases h1:op < 1
 all_goals
  go_enter Tryz.func54,Tryz.ntmps54
  go_wp2_with fail
  exact bodyPost_ret (v:=rowVal 0) (by simp [results,Tryz.results54,go_sem,rowVal]) rfl ⟨rfl,below_box _ _⟩
theorem of_any (op:Int) (w:World) (ht:Tab w):
  Calls Tryz.prog 54 #[.int .i64 op] w fun e w'=>e= .returned (rowVal (num op))∧Below w.heap.size w w':=by
 by_cases h:1≤op∧op≤29
 ·have e:op=(op.toNat:Int):=by omega
  have:=of_in op.toNat w (by omega) (by omega) ht
  rw [←e] at this
  rwa [show num op=op.toNat from if_pos h]
 ·rw [num_out h];exact of_out op w h ht
theorem field_does (a b c d e:Value) (w:World):Sem.run Tryz.prog (Instr.field 91 (.agg #[a,b,c,d,e]) 3) w= .ok e w:=rfl
theorem does_any (op things:Int) (w:World) (ht:Tab w):
  Calls Tryz.prog 53 #[.int .i64 op,.int .i64 things] w fun e w'=>e= .returned (.bool (beside (num op) things))∧Below w.heap.size w w':=by
 have hf:=field_does
 go_enter Tryz.func53,Tryz.ntmps53
 go_wp2_with fail
 refine(of_any op _ ht).mono ?_;rintro e w1 ⟨rfl,b1⟩
 unfold rowVal
 go_wp2_with fail
 go_ret
 exact⟨rfl,b1⟩
def endsB (op:Int):Bool:=decide (26≤op∧op≤29)
theorem ends_l (op:Int):([26,27,28,29]:List Int).contains op=beside (num op) 8:=beside_list (by decide +kernel) (by decide) op
theorem ends_b (op:Int):beside (num op) 8=endsB op:=by
 rw [←ends_l,Bool.eq_iff_iff]
 simp [endsB]
 omega
theorem ends_any (op:Int) (w:World) (ht:Tab w):Calls Tryz.prog 142 #[.int .i64 op] w fun e w'=>e= .returned (.bool (endsB op))∧Below w.heap.size w w':=by
 rw [←ends_b]
 go_enter Tryz.func142,Tryz.ntmps142
 go_wp2_with fail
 refine(does_any op 8 _ ht).mono ?_;rintro e w1 ⟨rfl,b1⟩
 go_wp2_with fail
 go_ret
 exact⟨rfl,b1⟩
def thereB (b:Int) (n:Nat):Bool:=decide (0≤b∧b < (n:Int))
theorem there_any (b:Int) (n:Nat) (w:World):Calls Tryz.prog 123 #[.int .i64 b,.int .i64 n] w fun e w'=>e= .returned (.bool (thereB b n))∧w'=w:=by
 by_cases h:0≤b
 ·have HE:Hid (decide (b < (n:Int))=thereB b n):=hide (by simp [thereB,h])
  have h2:decide (0≤b)=true:=by simpa using h
  go_enter Tryz.func123,Tryz.ntmps123
  go_wp2
  go_ret
  exact⟨L5.ret_bool HE.out,rfl⟩
 ·have HE:Hid (false=thereB b n):=hide (by simp [thereB,h])
  have h2:decide (0≤b)=false:=by simpa using h
  go_enter Tryz.func123,Tryz.ntmps123
  go_wp2
  go_ret
  exact⟨L5.ret_bool HE.out,rfl⟩
theorem labels_any (b:List Ins) (x:Ins) (aok:Option Addr) (capk:Nat) (W w:World) (hb:BlkR W b (.slice aok b.length capk)) (bel:Below W.heap.size W w) (hx:b[b.length - 1]? =some x):
  Calls Tryz.prog 122 #[.slice aok b.length capk] w fun e w'=>(∃v,e= .returned v∧IntsV W x.2.2.2.2.2.1 v)∧w'=w:=by
 obtain⟨_,_,e',m1,m2,kk⟩:=hb
 injection e' with e1 e2 e4
 subst e1 e4
 have hjt:b.length - 1 < b.length:=(List.getElem?_eq_some_iff.1 hx).1
 rcases kk with kk | ⟨gi,oi,rfl,kk⟩
 ·subst kk;simp at hjt
 obtain⟨ai,ti,ca,ct,hv,r0,r1,r2,r3,r4,r5,r6,r7⟩:=(kk (b.length - 1) _ hx).val
 have hgi:gi < W.heap.size:=(kk (b.length - 1) _ hx).1
 replace r5:=(bel.cell (p:=⟨gi,oi+(b.length - 1) * 8+5,none⟩) hgi).trans r5
 have HV:Hid (IntsV W x.2.2.2.2.2.1 (.slice ti x.2.2.2.2.2.1.length ct)):=hide (by
  obtain⟨a1,t1,c1,c2,e,s1,s2,s3,s4,s5,s6⟩:=hv
  injection e with e
  have e2:=congrArg (fun a=>a[5]?) e
  simp at e2
  rw [e2.1,e2.2];exact⟨t1,c2,rfl,s2,s5,s6⟩)
 obtain⟨J,hJ⟩:∃J,J=b.length - 1:=⟨_,rfl⟩
 rw [←hJ] at r5
 have hJI:(b.length:Int) - 1=(J:Int):=by omega
 have hJl:(J:Int) < b.length:=by omega
 unfold maxLen at m2
 have hb0:((b.length:Int) == 0)=false:=beq_eq_false_iff_ne.2 (by omega)
 clear hv kk hx r0 r1 r2 r3 r4 r6 r7 hJ e2 bel
 go_enter Tryz.func122,Tryz.ntmps122
 go_wp2_with fail
 go_ret
 exact⟨⟨_,rfl,HV.out⟩,rfl⟩
theorem hasL_once (l:List Int) (n:Int):hasL (onceL l) n=hasL l n:=by
 have key:∀(l acc:List Int),hasL (l.foldl addL acc) n=(hasL acc n || hasL l n):=by
  intro l
  induction l with
  |nil=>intro acc;simp [hasL]
  |cons m l ih=>
   intro acc
   rw [List.foldl_cons,ih]
   have e:hasL (m :: l) n=(decide (m=n) || hasL l n):=rfl
   cases h:hasL acc m with
   |true=>
    rw [addL_yes h,e]
    by_cases hm:m=n
    ·subst hm;rw [h];simp
    ·simp [hm]
   |false=>rw [addL_no h,hasL_snoc,e,Bool.or_assoc]
 simpa [onceL,hasL] using key l []
def rowsIn (f:Fun) (K:Nat) (acc:List Int):List (List Int):=(succsF f).take K ++ acc :: List.replicate (f.2.2.2.1.length - K - 1) []
def rowsTo (f:Fun) (K:Nat):List (List Int):=(succsF f).take K ++ List.replicate (f.2.2.2.1.length - K) []
theorem succsF_len (f:Fun):(succsF f).length=f.2.2.2.1.length:=by simp [succsF]
theorem succsF_at {f:Fun} {K:Nat} (h:K < f.2.2.2.1.length):(succsF f)[K]? =some (nextF f K):=by
 have hb:f.2.2.2.1[K]? =some f.2.2.2.1[K]:=List.getElem?_eq_getElem h
 rw [nextF_at hb]
 show(f.2.2.2.1.map _)[K]? =_
 rw [List.getElem?_map,hb];rfl
theorem rowsTo_in {f:Fun} {K:Nat} (h:K < f.2.2.2.1.length):rowsTo f K=rowsIn f K []:=by
 unfold rowsTo rowsIn
 obtain⟨M,hM⟩:∃M,f.2.2.2.1.length - K=M+1:=⟨f.2.2.2.1.length - K - 1,by omega⟩
 rw [hM,Nat.add_sub_cancel,List.replicate_succ]
theorem rowsIn_to {f:Fun} {K:Nat} (h:K < f.2.2.2.1.length):rowsIn f K (nextF f K)=rowsTo f (K+1):=by
 unfold rowsTo rowsIn
 rw [take_more (succsF_at h),List.append_assoc,Nat.sub_add_eq];rfl
theorem rowsTo_end (f:Fun):rowsTo f f.2.2.2.1.length=succsF f:=by
 unfold rowsTo
 rw [Nat.sub_self,List.replicate_zero,List.append_nil,List.take_of_length_le (by rw [succsF_len];exact Nat.le_refl _)]
theorem take_len {f:Fun} {K:Nat} (h:K < f.2.2.2.1.length):((succsF f).take K).length=K:=by rw [List.length_take,succsF_len];omega
theorem rowsIn_len {f:Fun} {K:Nat} (acc:List Int) (h:K < f.2.2.2.1.length):(rowsIn f K acc).length=f.2.2.2.1.length:=by
 unfold rowsIn;rw [List.length_append,take_len h,List.length_cons,List.length_replicate];omega
theorem rowsIn_at {f:Fun} {K:Nat} (acc:List Int) (h:K < f.2.2.2.1.length):(rowsIn f K acc)[K]? =some acc:=by
 unfold rowsIn;rw [List.getElem?_append_right (by rw [take_len h];exact Nat.le_refl _),take_len h,Nat.sub_self];rfl
theorem rowsIn_set {f:Fun} {K:Nat} (acc acc':List Int) (h:K < f.2.2.2.1.length):(rowsIn f K acc).set K acc'=rowsIn f K acc':=by
 unfold rowsIn;rw [List.set_append_right _ _ (by rw [take_len h];exact Nat.le_refl _),take_len h,Nat.sub_self];rfl
def FrOk (n K:Nat) (acc fr:List Int):Prop:=fr.length=n∧∀m:Nat,m < n→∃c:Int,fr[m]? =some c∧c≤(K:Int)+1∧(c=(K:Int)+1↔hasL acc m=true)
theorem FrOk.start (n:Nat):FrOk n 0 [] (List.replicate n 0):=by
 refine⟨by simp,fun m hm=>⟨0,by rw [List.getElem?_replicate,if_pos hm],by omega,?_⟩⟩
 simp [hasL]
theorem FrOk.next {n K:Nat} {acc fr:List Int} (h:FrOk n K acc fr):FrOk n (K+1) [] fr:=by
 refine⟨h.1,fun m hm=> ?_⟩
 obtain⟨c,h1,h2,_⟩:=h.2 m hm
 refine⟨c,h1,by omega,?_⟩
 simp [hasL]
 omega
theorem FrOk.put {n K:Nat} {acc fr:List Int} (h:FrOk n K acc fr) {M:Nat} (hM:M < n):FrOk n K (acc ++ [(M:Int)]) (fr.set M ((K:Int)+1)):=by
 refine⟨by simp [h.1],fun m hm=> ?_⟩
 by_cases e:M=m
 ·subst e
  refine⟨(K:Int)+1,by rw [List.getElem?_set,if_pos rfl,if_pos (by have:=h.1;omega)],Int.le_refl _,?_⟩
  rw [hasL_snoc];simp
 ·obtain⟨c,h1,h2,h3⟩:=h.2 m hm
  refine⟨c,by rw [List.getElem?_set_ne e];exact h1,h2,?_⟩
  have:¬(M:Int)=(m:Int):=by omega
  rw [hasL_snoc,h3];simp [this]
def SucW (B g1 g2:Nat) (W0:World) (n K:Nat) (acc:List Int) (ll:List (List Int)) (wr:World):Prop:=∃us fr,RowAt wr W0.heap.size 33 g1 n us∧RowsS B wr ll us∧RowAt wr W0.heap.size 3 g2 n (ints fr)∧FrOk n K acc fr∧Below W0.heap.size W0 wr∧B≤wr.heap.size
theorem succs_try (nm:List UInt8) (ps:List Int) (rt pl:Int) (bl:List (List Ins)) (ao bo:Option Addr) (c cb:Nat) (w:World)
  (hv:FunV w (nm,ps,rt,bl,pl) (.agg #[.string (bs nm),.slice ao ps.length c,.int .i64 rt,.slice bo bl.length cb,.int .i64 pl])) (hF:Ful (nm,ps,rt,bl,pl)) (hT:Tos (nm,ps,rt,bl,pl)):
  Calls Tryz.prog 95 #[.agg #[.string (bs nm),.slice ao ps.length c,.int .i64 rt,.slice bo bl.length cb,.int .i64 pl]] w fun e w'=>∃v,e= .returned v∧RowsO w.heap.size w' (succsF (nm,ps,rt,bl,pl)) v∧Below w.heap.size w w':=by
 obtain⟨i0,hi0,hz0,hz1,hz2⟩:=info_parts Tryz.info33
 obtain⟨i3,hi3,hz3,hz4,hz5⟩:=info_parts Tryz.info3
 have b0:=below_box w (.cells #[.string (bs nm),.slice ao ps.length c,.int .i64 rt,.slice bo bl.length cb,.int .i64 pl] 36)
 have X0:=hide (L5.Box.new w [.string (bs nm),.slice ao ps.length c,.int .i64 rt,.slice bo bl.length cb,.int .i64 pl] 36)
 have HV:=hide (hv.below b0)
 have B0:=hide b0
 have HFu:=hide hF
 have HTo:=hide hT
 have hbl:bl.length≤1000000:=hF.1
 clear b0 hv hF hT
 go_enter Tryz.func95,Tryz.ntmps95
 go_upto_region 1 with fail
 show Code.wp _ _ _ _ (w.alloc (.cells #[.string (bs nm),.slice ao ps.length c,.int .i64 rt,.slice bo bl.length cb,.int .i64 pl] 36))
 replace X0:Hid (L5.Box (w.alloc (.cells #[.string (bs nm),.slice ao ps.length c,.int .i64 rt,.slice bo bl.length cb,.int .i64 pl] 36)) w.heap.size [.string (bs nm),.slice ao ps.length c,.int .i64 rt,.slice bo bl.length cb,.int .i64 pl]):=X0
 generalize w.alloc (.cells #[.string (bs nm),.slice ao ps.length c,.int .i64 rt,.slice bo bl.length cb,.int .i64 pl] 36)=W at *
 have HB:Hid (BlksR W bl (.slice bo bl.length cb)):=hide (by
  obtain⟨vp,vb,e,_,hB⟩:=HV.out
  injection e with e
  have e3:=congrArg (fun a=>a[3]?) e
  simp at e3
  rw [e3];exact hB)
 have x3:=X0.out.2 3 _ rfl
 go_upto_region 2 with (at_make;refine wpList_make_full _ rfl _ _ 105 rfl W.heap.size 33 i0 _ 1 Tryz.underlying105 hi0 hz0 hz1 .i64 .i64 bl.length bl.length bl.length rfl rfl rfl rfl (by rw [hz2];omega) (by unfold maxLen;omega) (Nat.le_refl _) ?_;intro w1 own1 grow1;refine Hid.out ?_)
 rw [made_rows] at own1
 have R1:Hid (RowAt w1 W.heap.size 33 W.heap.size bl.length (List.replicate bl.length (.slice none 0 0))):=hide own1
 have B1:=hide (grown_b grow1)
 clear own1 grow1 x3
 have x3:=(X0.out.below B1.out).2 3 _ rfl
 have hs1:=B1.out.size
 refine hide ?_
 go_upto_region 3 with (at_make;refine wpList_make_full _ rfl _ _ 33 rfl W.heap.size 3 i3 _ 1 Tryz.underlying33 hi3 hz3 hz4 .i64 .i64 bl.length bl.length bl.length rfl rfl rfl rfl (by rw [hz5];omega) (by unfold maxLen;omega) hs1 ?_;intro w2 own2 grow2;refine Hid.out ?_)
 rw [made_ints] at own2
 have R2:Hid (RowAt w2 W.heap.size 3 w1.heap.size bl.length (ints (List.replicate bl.length 0))):=hide own2
 have B2:=hide (grown_b grow2)
 have R12:=hide (R1.out.below B2.out)
 have B12:=hide (below_step B1.out B2.out)
 have hg1:W.heap.size < w1.heap.size:=R1.out.lt.2
 have hg2:w1.heap.size < w2.heap.size:=R2.out.lt.2
 clear own2 grow2 x3 hs1
 have x3:=(X0.out.below B12.out).2 3 _ rfl
 have HSt:Hid (SucW w2.heap.size W.heap.size w1.heap.size W bl.length 0 [] (rowsTo (nm,ps,rt,bl,pl) 0) w2):=hide ⟨_,_,R12.out,by
  have:=RowsS.start w2.heap.size w2 bl.length
  exact this,R2.out,FrOk.start _,B12.out,Nat.le_refl _⟩
 clear R1 R2 B1 B2 R12 B12
 generalize w2.heap.size=B at *
 generalize w1.heap.size=g2 at *
 generalize hg:W.heap.size=g1 at *
 refine hide ?_
 go_wp2_with fail
 clear x3
 go_loopw [20] (fun i wr=>∃K:Nat,K≤bl.length∧i= .int .i64 K∧Hid (SucW B g1 g2 W bl.length K [] (rowsTo (nm,ps,rt,bl,pl) K) wr)) (fun i _=>bl.length - (intOf i).toNat)
 case atStart=>exact⟨0,Nat.zero_le _,rfl,HSt⟩
 case round=>
  clear HSt
  obtain⟨K,hK,rfl,HS⟩:=hrel
  by_cases hkt:K < bl.length
  ·have hkI:(K:Int) < bl.length:=by omega
   obtain⟨b,hbK⟩:∃b,bl[K]? =some b:=⟨bl[K],List.getElem?_eq_getElem hkt⟩
   have HWr:Hid (Below W.heap.size W wr):=hide (by obtain⟨us,fr,_,_,_,_,h,_⟩:=HS.out;exact h)
   obtain⟨_,_,e',l1,l2,l3⟩:=HB.out
   injection e' with e1 e2 e4
   subst e1 e4
   rcases l3 with l3 | ⟨gc,oc,rfl,gk,h2⟩
   ·subst l3;simp at hkt
   obtain⟨vk,kd,kk⟩:=h2 K b hbK
   have kk2:=kk
   obtain⟨aok,capk,rfl,m1,m2,_⟩:=kk
   have c1:=(HWr.out.cell (p:=⟨gc,oc+K,none⟩) gk).trans kd
   obtain⟨x,hx,hlt,h63⟩:=HFu.out.last (List.mem_of_getElem? hbK)
   have HL:=hide (labels_any b x aok capk W wr kk2 HWr.out hx)
   have HNx:Hid (nextF (nm,ps,rt,bl,pl) K=onceL x.2.2.2.2.2.1):=hide (by rw [nextF_at (f:=(nm,ps,rt,bl,pl)) hbK,hlt])
   have HNu:Hid (Num bl.length x.2.2.2.2.2.1):=hide (by
    intro m hm
    refine HTo.out K m ?_
    rw [HNx.out,←hasL_mem,hasL_once,hasL_mem];exact hm)
   have HS0:Hid (SucW B g1 g2 W bl.length K (onceL (x.2.2.2.2.2.1.take 0)) (rowsIn (nm,ps,rt,bl,pl) K (onceL (x.2.2.2.2.2.1.take 0))) wr):=hide (by
    have:=HS.out
    rw [rowsTo_in hkt] at this
    exact this)
   unfold maxLen at m2 l2
   have HIL:Hid (∀v,IntsV W x.2.2.2.2.2.1 v→∃to ct,v= .slice to x.2.2.2.2.2.1.length ct∧Sl W to x.2.2.2.2.2.1):=hide (fun v ⟨to,ct,e,h,_⟩=>⟨to,ct,e,h⟩)
   generalize x.2.2.2.2.2.1=tt at *
   clear kd kk2 h2 hbK e2 hx hlt HS
   go_wp2_with fail
   refine HL.out.mono ?_;rintro e w9 ⟨⟨v,rfl,hiv⟩,hw9⟩
   subst hw9
   obtain⟨to,ct,rfl,hsl⟩:=HIL.out v hiv
   have HSl:=hide hsl
   clear hiv hsl HL HIL c1
   go_wp2_with fail
   generalize w9=W9 at *
   go_loopw [28] (fun i wr=>∃J:Nat,J≤tt.length∧i= .int .i64 J∧Hid (SucW B g1 g2 W bl.length K (onceL (tt.take J)) (rowsIn (nm,ps,rt,bl,pl) K (onceL (tt.take J))) wr)) (fun i _=>tt.length - (intOf i).toNat)
   case atStart=>exact⟨0,Nat.zero_le _,rfl,HS0⟩
   case round=>
    clear HS0
    obtain⟨J,hJ,rfl,HS⟩:=hrel
    by_cases hjt:J < tt.length
    ·have hjI:(J:Int) < tt.length:=by omega
     obtain⟨m,hm⟩:∃m,tt[J]? =some m:=⟨tt[J],List.getElem?_eq_getElem hjt⟩
     obtain⟨hm0,hm1⟩:=HNu.out m (List.mem_of_getElem? hm)
     obtain⟨M,rfl⟩:∃M:Nat,m=(M:Int):=⟨m.toNat,by omega⟩
     have hMl:M < bl.length:=by omega
     have HTk:=hide (onceL_take hm)
     have hal:=onceL_len (tt.take J)
     rw [List.length_take] at hal
     generalize onceL (tt.take J)=acc at *
     rcases HSl.out with e0 | ⟨tb,to2,rfl,t1,t2⟩
     ·subst e0;simp at hjt
     obtain⟨us,fr,q1,q2,q3,q4,q5,q6⟩:=HS.out
     have c9:=(q5.cell (p:=⟨tb,to2+J,none⟩) t1).trans (t2 J _ hm)
     obtain⟨cM,f1,f2,f3⟩:=q4.2 M hMl
     have c8:=q3.cell (ints_at f1)
     have HTh:=hide (there_any M bl.length wr)
     have hth:thereB M bl.length=true:=by simp [thereB];omega
     rw [hth] at HTh
     have Q1:=hide q1
     have Q2:=hide q2
     have Q3:=hide q3
     have Q4:=hide q4
     have Q5:=hide q5
     clear t2 hm hth q1 q2 q3 q4 q5
     cases hh:hasL acc M with
     |true=>
      have hcc:(cM != (K:Int)+1)=false:=by rw [f3.2 hh];simp
      have HE:Hid (SucW B g1 g2 W bl.length K (onceL (tt.take (J+1))) (rowsIn (nm,ps,rt,bl,pl) K (onceL (tt.take (J+1)))) wr):=hide (by rw [HTk.out,addL_yes hh];exact HS.out)
      replace hh:=hide hh
      clear f1 f2 f3
      go_wp2_with fail
      refine HTh.out.mono ?_;rintro e wA ⟨rfl,rfl⟩
      go_wp2_with fail
      go_roundw
      case rel=>exact⟨J+1,by omega,by go_num,HE⟩
      case measure=>simp [intOf];omega
     |false=>
      have hcc:(cM != (K:Int)+1)=true:=by
       have:¬cM=(K:Int)+1:=fun e=>by rw [f3.1 e] at hh;cases hh
       simpa using this
      have z8:=Q3.out.frozen M
      have HA:=hide (HTk.out.trans (addL_no hh))
      obtain⟨l,u,y1,y2,y3⟩:=Q2.out.at (i:=K) (by rw [rowsIn_len _ hkt];exact hkt)
      rw [rowsIn_at _ hkt] at y1
      injection y1 with y1
      subst y1
      have Q2s:Hid (RowsS B (wr.setCell ⟨g2,M,none⟩ (.int .i64 ((K:Int)+1))) (rowsIn (nm,ps,rt,bl,pl) K acc) us):=hide (Q2.out.put (p:=⟨g2,M,none⟩) hg2 _)
      have Q1s:Hid (RowAt (wr.setCell ⟨g2,M,none⟩ (.int .i64 ((K:Int)+1))) W.heap.size 33 g1 bl.length us):=hide (Q1.out.other (p:=⟨g2,M,none⟩) (by show g1≠g2;omega) _)
      have Q3s:Hid (RowAt (wr.setCell ⟨g2,M,none⟩ (.int .i64 ((K:Int)+1))) W.heap.size 3 g2 bl.length (ints (fr.set M ((K:Int)+1)))):=hide (by rw [←ints_set];exact Q3.out.set M _)
      have Q4s:=hide (Q4.out.put hMl)
      have Q5s:Hid (Below W.heap.size W (wr.setCell ⟨g2,M,none⟩ (.int .i64 ((K:Int)+1)))):=hide (Q5.out.setCell (p:=⟨g2,M,none⟩) (by show W.heap.size≤g2;omega) _)
      have Y3:Hid ((wr.setCell ⟨g2,M,none⟩ (.int .i64 ((K:Int)+1))).ownsRow B 3 1 u acc.length (ints acc)):=hide (ownsRow_setCell_below y3 (a:=⟨g2,M,none⟩) hg2 _)
      have hsz:(wr.setCell ⟨g2,M,none⟩ (.int .i64 ((K:Int)+1))).heap.size=wr.heap.size:=by simp
      have q6s:B≤(wr.setCell ⟨g2,M,none⟩ (.int .i64 ((K:Int)+1))).heap.size:=by rw [hsz];exact q6
      have Y2:=hide y2
      replace hh:=hide hh
      clear f1 f2 f3 y2 y3 hsz
      go_upto_region 11 with (go_at_call 123;refine HTh.out.mono ?_;rintro e wA ⟨rfl,rfl⟩)
      show Code.wp _ _ _ _ (wA.setCell ⟨g2,M,none⟩ (.int .i64 ((K:Int)+1)))
      generalize wA.setCell ⟨g2,M,none⟩ (.int .i64 ((K:Int)+1))=wS at *
      have k1:=Q1s.out.cell Y2.out
      obtain⟨uo,uc,rfl⟩:=own_len Y3.out
      go_wp2_with (at_builtin;refine wpList_append_own_at _ rfl (.tmp 55) (.tmp 57) 33 rfl B 3 i3 _ 1 8 Tryz.underlying33 hi3 hz3 hz4 hz5 rfl (by decide) _ _ _ rfl (Y3.out.alloc _) ⟨wS.heap.size,0,none⟩ 1 1 [.int .i64 M] rfl rfl one_cell one_one (by unfold maxLen;omega) (by omega) (by simp;omega) ?_;intro v2 wB own2 grow2 _ at2;refine Hid.out ?_)
      have far:∀g,g < B→some g≠(Value.slice uo acc.length uc).ownBlock:=fun g hg e=>by have:=(Y3.out.lt g e.symm).1;omega
      have P1:Hid (RowAt wB W.heap.size 33 g1 bl.length us):=hide ((Q1s.out.alloc _).kept grow2 (far g1 (by omega)))
      have P3:Hid (RowAt wB W.heap.size 3 g2 bl.length (ints (fr.set M ((K:Int)+1)))):=hide ((Q3s.out.alloc _).kept grow2 (far g2 hg2))
      have P2:=hide (Q2s.out.step (rowsIn_at _ hkt) Y2.out own2 grow2 at2)
      rw [rowsIn_set _ _ hkt] at P2
      have P5:Hid (Below W.heap.size W wB):=hide (Below.grown (Q5s.out.alloc Q5s.out.size _) grow2 (by simp;omega) (fun k hk=>by have:=(Y3.out.lt k hk).1;omega))
      have P6:B≤wB.heap.size:=by have:=grow2.size;simp at this;omega
      have HE:Hid (SucW B g1 g2 W bl.length K (onceL (tt.take (J+1))) (rowsIn (nm,ps,rt,bl,pl) K (onceL (tt.take (J+1)))) (wB.setCell ⟨g1,K,none⟩ v2)):=hide (by
       rw [HA.out]
       exact⟨us.set K v2,_,P1.out.set K v2,P2.out.put (p:=⟨g1,K,none⟩) (by show g1 < B;omega) _,P3.out.other (p:=⟨g1,K,none⟩) (by show g2≠g1;omega) _,Q4s.out,P5.out.setCell (p:=⟨g1,K,none⟩) (by show W.heap.size≤g1;omega) _,by simpa using P6⟩)
      obtain⟨vo,vc,rfl⟩:=own_len own2
      have k2:=P1.out.cell Y2.out
      have k3:=P1.out.frozen K
      clear own2 grow2 at2 k1 far P1 P2 P3 P5 Q1s Q2s Q3s Q5s Y2 Y3
      refine hide ?_
      go_wp2_with fail
      go_roundw
      case rel=>exact⟨J+1,by omega,by go_num,HE⟩
      case measure=>simp [intOf];omega
    ·obtain rfl:J=tt.length:=by omega
     have HE:Hid (SucW B g1 g2 W bl.length (K+1) [] (rowsTo (nm,ps,rt,bl,pl) (K+1)) wr):=hide (by
      obtain⟨us,fr,q1,q2,q3,q4,q5,q6⟩:=HS.out
      rw [List.take_length] at q2 q4
      exact⟨us,fr,q1,by rw [←rowsIn_to hkt,HNx.out];exact q2,q3,q4.next,q5,q6⟩)
     go_wp2_with fail
     go_roundw
     case rel=>exact⟨K+1,by omega,by go_num,HE⟩
     case measure=>simp [intOf];omega
  ·obtain rfl:K=bl.length:=by omega
   obtain⟨us,fr,q1,q2,q3,q4,q5,q6⟩:=HS.out
   have HE:Hid (RowsO w.heap.size wr (succsF (nm,ps,rt,bl,pl)) (.slice (some ⟨g1,0,none⟩) bl.length bl.length)∧Below w.heap.size w wr):=hide (by
    refine⟨?_,below_step B0.out q5⟩
    have:=q2.rows q1 (by omega)
    have e:rowsTo (nm,ps,rt,bl,pl) bl.length=succsF (nm,ps,rt,bl,pl):=rowsTo_end (nm,ps,rt,bl,pl)
    rw [e] at this
    exact this.base B0.out.size)
   clear q1 q2 q3 q4 q5 HS
   go_wp2_with fail
   go_ret
   exact⟨_,rfl,HE.out.1,HE.out.2⟩
end Go.Proofs.YtljkgcfnoegibaaGreatDoor
