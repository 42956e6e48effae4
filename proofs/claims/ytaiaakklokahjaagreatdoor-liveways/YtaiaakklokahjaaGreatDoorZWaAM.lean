/- Texts of one chain, joined. -/
import Derived.Test.YtaiaakklokahjaaGreatDoorZWaAK
import Derived.Test.YtaiaakklokahjaaGreatDoorZWaAL
import Derived.Maps.AppendAt
set_option maxHeartbeats 4000000
set_option maxRecDepth 20000
namespace Go.Proofs.YtaiaakklokahjaaGreatDoor
open Go Go.RowKit
open G (Tok Er Ins Fun)
def cnt (tr:List Int) (k:Int):Nat:=(tr.getD k.toNat 0).toNat
def gz (f:Fun) (tr:List Int):List Int→List Int→List Int
 |[],out=>out
 |k :: up,out=>gz f tr up (cO f (f.2.2.2.1.length - (up.length+1)) (up.reverse ++ [k]) out ((aB f k.toNat).drop (cnt tr k)) ++ [k])
theorem qP (f:Fun) {tr tr':List Int}:∀(up out:List Int),(∀k∈up,cnt tr k=cnt tr' k)→gz f tr up out=gz f tr' up out:=by
 intro up;induction up with
 |nil=>intro out _;rfl
 |cons k up ih=>
  intro out h;rw [gz,gz,h k (by simp)];exact ih _ (fun x hx=>h x (by simp [hx]))
theorem AR {f:Fun} {tr:List Int} {k:Int} {up out:List Int} (h:(aB f k.toNat).length≤cnt tr k):gz f tr (k :: up) out=gz f tr up (out ++ [k]):=by
 rw [gz,List.drop_eq_nil_of_le h];rfl
theorem tX {l:List Int} {c:Nat} {m:Int} (h:l[c]? =some m):l.drop c=m :: l.drop (c+1):=by
 obtain⟨h1,h2⟩:=List.getElem?_eq_some_iff.1 h;rw [List.drop_eq_getElem_cons h1,h2]
theorem Dm {f:Fun} {tr tr':List Int} {k m:Int} {up out:List Int} (hm:(aB f k.toNat)[cnt tr k]? =some m) (hc:cnt tr' k=cnt tr k+1) (hs:∀x∈up,cnt tr x=cnt tr' x)
  (h:ay out m=true∨ay (up.reverse ++ [k]) m=true):gz f tr (k :: up) out=gz f tr' (k :: up) out:=by
 rw [gz,gz,tX hm,hc];show gz f tr up (cO f _ _ (ky f _ _ out m) _ ++ [k])=_;rw [iq h];exact qP f _ _ hs
theorem CD {f:Fun} {tr tr':List Int} {k m:Int} {up out:List Int} (hm:(aB f k.toNat)[cnt tr k]? =some m) (hc:cnt tr' k=cnt tr k+1) (hs:∀x∈up,cnt tr x=cnt tr' x)
  (h1:ay out m=false) (h2:ay (up.reverse ++ [k]) m=false) (h0:cnt tr' m=0) (hN:up.length+2≤f.2.2.2.1.length):gz f tr (k :: up) out=gz f tr' (m :: k :: up) out:=by
 rw [gz,gz,gz,tX hm,hc,h0];show gz f tr up (cO f _ _ (ky f _ _ out m) _ ++ [k])=_;rw [ij h1 h2,qP f _ _ hs,List.drop_zero];obtain⟨M,hM⟩:∃M,f.2.2.2.1.length - (up.length+1)=M+1:=⟨f.2.2.2.1.length - (up.length+2),by omega⟩;have hM2:f.2.2.2.1.length - ((k :: up).length+1)=M:=by simp only [List.length_cons];omega
 rw [hM,hM2,ek,List.reverse_cons]
theorem eh (a b:List Int) (n:Int):ay (a ++ b) n=(ay a n || ay b n):=by simp [ay]
theorem DU (g g':Nat→Nat) (k:Nat) (h1:g' k+1=g k) (h2:∀j,j≠k→g' j=g j):∀n,k < n→((List.range n).map g').sum+1=((List.range n).map g).sum:=by
 have key:∀n,n≤k→((List.range n).map g').sum=((List.range n).map g).sum:=by
  intro n;induction n with
  |zero=>intro _;rfl
  |succ n ih=>
   intro hn;rw [List.range_succ,List.map_append,List.map_append,List.sum_append,List.sum_append,ih (by omega)];simp [h2 n (by omega)]
 intro n;induction n with
 |zero=>intro h;omega
 |succ n ih=>
  intro hn;rw [List.range_succ,List.map_append,List.map_append,List.sum_append,List.sum_append];by_cases e:n=k
  ·subst e;rw [key n (Nat.le_refl _)];simp;omega
  ·have:=ih (by omega);simp [h2 n e];omega
def dW (f:Fun) (done tr:List Int):Nat:=((List.range f.2.2.2.1.length).map fun(k:Nat)=>(aB f k).length - cnt tr k).sum+(f.2.2.2.1.length - done.length)
def Dfs (f:Fun) (way done tr:List Int) (mt:List Bool):Prop:=
 gz f tr way.reverse done=cg f f.2.2.2.1.length 0 [] []∧(way.Nodup∧Num f.2.2.2.1.length way)∧(done.Nodup∧Num f.2.2.2.1.length done)∧(∀m∈done,m ∉ way)∧
 tr.length=f.2.2.2.1.length∧mt.length=f.2.2.2.1.length∧(∀k:Nat,k < f.2.2.2.1.length→mt[k]? =some (ay done k || ay way k))∧
 (∀k:Nat,k < f.2.2.2.1.length→∃c:Nat,tr[k]? =some (c:Int)∧c≤(aB f k).length∧((ay done k || ay way k)=false→c=0))
theorem jQ {tr:List Int} {k c:Nat} (h:tr[k]? =some (c:Int)):cnt tr k=c:=by
 unfold cnt;rw [Int.toNat_natCast,List.getD_eq_getElem?_getD,h];simp
theorem rD {tr:List Int} {k:Nat} (hk:k < tr.length) (c:Nat):cnt (tr.set k (c:Int)) k=c:=jQ (by rw [List.getElem?_set];simp [hk])
theorem kg {tr:List Int} {k:Nat} (c:Int) {m:Int} (hm:0≤m) (h:m≠k):cnt (tr.set k c) m=cnt tr m:=by
 unfold cnt;rw [List.getD_eq_getElem?_getD,List.getD_eq_getElem?_getD,List.getElem?_set_ne (by omega)]
theorem Dfs.start {f:Fun} (h0:0 < f.2.2.2.1.length):Dfs f [0] [] (List.replicate f.2.2.2.1.length 0) ((List.replicate f.2.2.2.1.length false).set 0 true):=by
 refine⟨?_,⟨by simp,fun m hm=>by simp at hm;subst hm;omega⟩,⟨List.nodup_nil,fun m hm=>by simp at hm⟩,by simp,by simp,by simp,?_,?_⟩
 ·obtain⟨M,hM⟩:∃M,f.2.2.2.1.length=M+1:=⟨f.2.2.2.1.length - 1,by omega⟩;have hc:cnt (List.replicate (M+1) 0) 0=0:=by simp [cnt]
  rw [hM,ek];show gz f _ [0] []=_;rw [gz,gz,hc,hM];simp
 ·intro k hk;rw [List.getElem?_set];by_cases e:0=k
  ·subst e;simp [h0,ay]
  ·rw [if_neg e,List.getElem?_replicate,if_pos hk];have:¬(0:Int)=(k:Int):=(by omega);simp [ay,this]
 ·intro k hk;exact⟨0,by rw [List.getElem?_replicate,if_pos hk];rfl,Nat.zero_le _,fun _=>rfl⟩
theorem Dfs.ended {f:Fun} {done tr:List Int} {mt:List Bool} (h:Dfs f [] done tr mt):done=cg f f.2.2.2.1.length 0 [] []:=h.1
theorem Dfs.pop {f:Fun} {up done tr:List Int} {mt:List Bool} {k:Nat} (h:Dfs f (up ++ [(k:Int)]) done tr mt) (hc:tr[k]? =some (((aB f k).length:Nat):Int)):
  Dfs f up (done ++ [(k:Int)]) tr mt∧dW f (done ++ [(k:Int)]) tr < dW f done tr:=by
 obtain⟨h1,h2,h3,h4,h5,h6,h7,h8⟩:=h;rw [List.reverse_append] at h1;have hk:=h2.2 (k:Int) (by simp);have hd:(done ++ [(k:Int)]).Nodup∧Num f.2.2.2.1.length (done ++ [(k:Int)]):=by
  refine⟨List.nodup_append.2 ⟨h3.1,by simp,?_⟩,?_⟩
  ·rintro x hx y hy rfl;simp at hy;exact h4 x hx (by simp [hy])
  ·intro m hm;rcases List.mem_append.1 hm with hm | hm
   ·exact h3.2 m hm
   ·simp at hm;subst hm;exact hk
 have hn:=List.nodup_append.1 h2.1;have hku:(k:Int) ∉ up:=fun h=>hn.2.2 _ h _ (by simp) rfl;refine⟨⟨?_,⟨hn.1,fun m hm=>h2.2 m (by simp [hm])⟩,hd,?_,h5,h6,?_,?_⟩,?_⟩
 ·rw [←h1];exact(AR (by rw [Int.toNat_natCast,jQ hc];exact Nat.le_refl _)).symm
 ·intro m hm;rcases List.mem_append.1 hm with hm | hm
  ·exact fun h=>h4 m hm (by simp [h])
  ·simp at hm;subst hm;exact hku
 ·intro j hj;rw [h7 j hj,eh,eh]
  cases ay done j <;> cases ay up j <;> cases ay [(k:Int)] j <;> rfl
 ·intro j hj;obtain⟨c,q1,q2,q3⟩:=h8 j hj;refine⟨c,q1,q2,fun e=>q3 ?_⟩;rw [←e,eh,eh]
  cases ay done j <;> cases ay up j <;> cases ay [(k:Int)] j <;> rfl
 ·have:=cH _ _ hd.1 hd.2;simp at this;unfold dW;simp only [List.length_append,List.length_singleton];omega
theorem qf {f:Fun} {done tr:List Int} {k c:Nat} (hk:k < f.2.2.2.1.length) (ht:tr.length=f.2.2.2.1.length) (hc:tr[k]? =some (c:Int)) (hl:c < (aB f k).length):dW f done (tr.set k ((c:Int)+1)) < dW f done tr:=by
 have h:=DU (fun(j:Nat)=>(aB f j).length - cnt tr j) (fun(j:Nat)=>(aB f j).length - cnt (tr.set k ((c+1:Nat):Int)) j) k (by
  simp only [rD (tr:=tr) (by omega:k < tr.length) (c+1),jQ hc];omega) (fun j hj=>by
  simp only [kg (tr:=tr) (k:=k) ((c+1:Nat):Int) (m:=(j:Int)) (by omega) (by omega)]) _ hk
 unfold dW;rw [show((c:Int)+1)=((c+1:Nat):Int) by omega];omega
theorem Dfs.counts {f:Fun} {way done tr:List Int} {k c:Nat} (h5:tr.length=f.2.2.2.1.length) (hk:k < f.2.2.2.1.length) (hw:ay way k=true) (hl:c < (aB f k).length)
  (h8:∀j:Nat,j < f.2.2.2.1.length→∃d:Nat,tr[j]? =some (d:Int)∧d≤(aB f j).length∧((ay done j || ay way j)=false→d=0)):
  ∀j:Nat,j < f.2.2.2.1.length→∃d:Nat,(tr.set k ((c:Int)+1))[j]? =some (d:Int)∧d≤(aB f j).length∧((ay done j || ay way j)=false→d=0):=by
 intro j hj;by_cases e:j=k
 ·subst e;exact⟨c+1,by rw [List.getElem?_set];simp [h5,hj],hl,fun h=>by simp [hw] at h⟩
 ·obtain⟨d,q1,q2,q3⟩:=h8 j hj;exact⟨d,by rw [List.getElem?_set_ne (by omega)];exact q1,q2,q3⟩
theorem Dfs.old {f:Fun} {up done tr:List Int} {mt:List Bool} {k c m:Nat} (h:Dfs f (up ++ [(k:Int)]) done tr mt) (hc:tr[k]? =some (c:Int)) (hm:(aB f k)[c]? =some (m:Int)) (hM:m < f.2.2.2.1.length) (hb:mt[m]? =some true):
  Dfs f (up ++ [(k:Int)]) done (tr.set k ((c:Int)+1)) mt∧dW f done (tr.set k ((c:Int)+1)) < dW f done tr:=by
 obtain⟨h1,h2,h3,h4,h5,h6,h7,h8⟩:=h;have hk:k < f.2.2.2.1.length:=by have:=(h2.2 (k:Int) (by simp)).2;omega
 have hl:c < (aB f k).length:=(List.getElem?_eq_some_iff.1 hm).1;have hn:=List.nodup_append.1 h2.1;have hku:(k:Int) ∉ up:=fun h=>hn.2.2 _ h _ (by simp) rfl;refine⟨⟨?_,h2,h3,h4,by simpa using h5,h6,h7,Dfs.counts h5 hk (by rw [aZ];simp) hl h8⟩,qf hk h5 hc hl⟩;rw [←h1,List.reverse_append];refine(Dm (m:=(m:Int)) ?_ ?_ ?_ ?_).symm
 ·rw [Int.toNat_natCast,jQ hc];exact hm
 ·rw [jQ hc];exact rD (by omega) (c+1)
 ·intro x hx;have hx':x∈up:=by simpa using hx
  exact(kg _ (h2.2 x (by simp [hx'])).1 (fun e=>hku (e ▸ hx'))).symm
 ·have:=h7 m hM;rw [hb] at this;injection this with this;rw [eh] at this;show ay done m=true∨ay (up.reverse.reverse ++ [(k:Int)]) m=true;rw [List.reverse_reverse,eh]
  cases hd:ay done m with
  |true=>exact .inl rfl
  |false=>rw [hd] at this;right;simpa using this.symm
theorem Dfs.new {f:Fun} {up done tr:List Int} {mt:List Bool} {k c m:Nat} (h:Dfs f (up ++ [(k:Int)]) done tr mt) (hc:tr[k]? =some (c:Int)) (hm:(aB f k)[c]? =some (m:Int)) (hM:m < f.2.2.2.1.length) (hb:mt[m]? =some false):
  Dfs f (up ++ [(k:Int)] ++ [(m:Int)]) done (tr.set k ((c:Int)+1)) (mt.set m true)∧dW f done (tr.set k ((c:Int)+1)) < dW f done tr:=by
 obtain⟨h1,h2,h3,h4,h5,h6,h7,h8⟩:=h;have hk:k < f.2.2.2.1.length:=by have:=(h2.2 (k:Int) (by simp)).2;omega
 have hl:c < (aB f k).length:=(List.getElem?_eq_some_iff.1 hm).1;have hn:=List.nodup_append.1 h2.1;have hku:(k:Int) ∉ up:=fun h=>hn.2.2 _ h _ (by simp) rfl;have hb2:=h7 m hM;rw [hb] at hb2;injection hb2 with hb2;obtain⟨hd,hw⟩:=Bool.or_eq_false_iff.1 hb2.symm;have hmk:m≠k:=by
  rintro rfl;rw [eh] at hw;simp [ay] at hw
 have hnw:(up ++ [(k:Int)] ++ [(m:Int)]).Nodup∧Num f.2.2.2.1.length (up ++ [(k:Int)] ++ [(m:Int)]):=by
  refine⟨List.nodup_append.2 ⟨h2.1,by simp,?_⟩,?_⟩
  ·rintro x hx y hy rfl;simp at hy;exact eE.1 hw (hy ▸ hx)
  ·intro x hx;rcases List.mem_append.1 hx with hx | hx
   ·exact h2.2 x hx
   ·simp at hx;subst hx;omega
 have hlen:=cH _ _ hnw.1 hnw.2;simp at hlen;refine⟨⟨?_,hnw,h3,?_,by simpa using h5,by simpa using h6,?_,?_⟩,qf hk h5 hc hl⟩
 ·rw [←h1,List.reverse_append,List.reverse_append];refine(CD (m:=(m:Int)) ?_ ?_ ?_ hd ?_ ?_ ?_).symm
  ·rw [Int.toNat_natCast,jQ hc];exact hm
  ·rw [jQ hc];exact rD (by omega) (c+1)
  ·intro x hx;have hx':x∈up:=(by simpa using hx);exact(kg _ (h2.2 x (by simp [hx'])).1 (fun e=>hku (e ▸ hx'))).symm
  ·show ay (up.reverse.reverse ++ [(k:Int)]) m=false;rw [List.reverse_reverse];exact hw
  ·rw [kg _ (by omega) (by omega)];obtain⟨d,q1,_,q3⟩:=h8 m hM;rw [jQ q1];exact q3 (by rw [hd,hw];rfl)
  ·simp;omega
 ·intro x hx hx2;rcases List.mem_append.1 hx2 with hx2 | hx2
  ·exact h4 x hx hx2
  ·simp at hx2;subst hx2;exact eE.1 hd hx
 ·intro j hj;rw [List.getElem?_set];by_cases e:m=j
  ·subst e;rw [if_pos rfl,if_pos (by omega),eh _ [(m:Int)]];simp [ay]
  ·rw [if_neg e,h7 j hj,eh _ [(m:Int)]];have:¬(m:Int)=(j:Int):=(by omega);simp [ay,this]
 ·intro j hj;obtain⟨d,q1,q2,q3⟩:=Dfs.counts (done:=done) h5 hk (by rw [aZ];simp) hl h8 j hj;refine⟨d,q1,q2,fun e=>q3 ?_⟩;rw [eh _ [(m:Int)]] at e;simp only [Bool.or_eq_false_iff] at e ⊢;exact⟨e.1,e.2.1⟩
def bg (w:World) (B e g n:Nat) (xs:List Value):Prop:=w.ownsRow B e 1 (.slice (some ⟨g,0,none⟩) n n) n xs
theorem bg.len {w:World} {B e g n:Nat} {xs:List Value} (h:bg w B e g n xs):xs.length=n:=by have:=h.1;omega
theorem bg.lt {w:World} {B e g n:Nat} {xs:List Value} (h:bg w B e g n xs):B≤g∧g < w.heap.size:=World.ownsRow.lt h g rfl
theorem bg.cell {w:World} {B e g n:Nat} {xs:List Value} (h:bg w B e g n xs) {j:Nat} {u:Value} (hj:xs[j]? =some u):w.cell? ⟨g,j,none⟩=some u:=by
 have h1:=(List.getElem?_eq_some_iff.1 hj).1;have h2:=h.len;rw [World.ownsRow.cellAt h j (by omega),hj]
theorem bg.frozen {w:World} {B e g n:Nat} {xs:List Value} (h:bg w B e g n xs) (j:Nat):w.frozen? ⟨g,j,none⟩=false:=World.ownsRow.frozenAt h j
theorem bg.set {w:World} {B e g n:Nat} {xs:List Value} (h:bg w B e g n xs) (j:Nat) (u:Value):bg (w.setCell ⟨g,j,none⟩ u) B e g n (xs.set j u):=(World.ownsRow.stored h j u).1
theorem bg.below {w w':World} {B e g n:Nat} {xs:List Value} (h:bg w B e g n xs) (b:Below w.heap.size w w'):bg w' B e g n xs:=az b _ _ _ _ _ _ h
theorem bg.base {w:World} {B B' e g n:Nat} {xs:List Value} (h:bg w B e g n xs) (hB:B'≤B):bg w B' e g n xs:=aL h hB
theorem bg.alloc {w:World} {B e g n:Nat} {xs:List Value} (h:bg w B e g n xs) (o:Obj):bg (w.alloc o) B e g n xs:=World.ownsRow.alloc h o
theorem bg.kept {w w':World} {B e g n:Nat} {xs:List Value} {row:Option Nat} (h:bg w B e g n xs) (hg:w.grownBy w' row) (hne:some g≠row):bg w' B e g n xs:=World.ownsRow.kept h hg (.inr hne)
theorem bg.other {w:World} {B e g n:Nat} {xs:List Value} (h:bg w B e g n xs) {p:Addr} (hp:g≠p.block) (u:Value):bg (w.setCell p u) B e g n xs:=bI h (by simpa [Value.ownBlock] using hp) u
theorem ints_set (l:List Int) (j:Nat) (x:Int):(ints l).set j (.int .i64 x)=ints (l.set j x):=by simp [ints,List.map_set]
def ef (l:List Bool):List Value:=l.map Value.bool
theorem qd (l:List Bool) (j:Nat) (x:Bool):(ef l).set j (.bool x)=ef (l.set j x):=by simp [ef,List.map_set]
theorem lX {l:List Bool} {j:Nat} {x:Bool} (h:l[j]? =some x):(ef l)[j]? =some (.bool x):=by simp [ef,h]
theorem qt (n:Nat):(madeCells (Value.int .i64 0).cells (n * 1)).toList=ints (List.replicate n 0):=by
 show(madeCells #[Value.int .i64 0] (n * 1)).toList=_;rw [toList_madeCells_one,Nat.mul_one];simp [ints]
theorem wG (n:Nat):(madeCells (Value.bool false).cells (n * 1)).toList=ef (List.replicate n false):=by
 show(madeCells #[Value.bool false] (n * 1)).toList=_;rw [toList_madeCells_one,Nat.mul_one];simp [ef]
theorem re (n:Nat):(madeCells (Value.slice none 0 0).cells (n * 1)).toList=List.replicate n (.slice none 0 0):=by
 show(madeCells #[Value.slice none 0 0] (n * 1)).toList=_;rw [toList_madeCells_one,Nat.mul_one]
theorem jX {w w':World} (h:w.grownBy w' none):Below w.heap.size w w':=Below.grown (Below.refl _ _) h (Nat.le_refl _) (by intro k hk;cases hk)
def dI (B:Nat) (w:World) (ll:List (List Int)) (us:List Value):Prop:=
 us.length=ll.length∧(∀(i:Nat) (l:List Int),ll[i]? =some l→∃u,us[i]? =some u∧w.ownsRow B 3 1 u l.length (ints l))∧
 (∀(i j:Nat) (u v:Value),i≠j→us[i]? =some u→us[j]? =some v→u.ownBlock=none∨u.ownBlock≠v.ownBlock)
theorem dI.start (B:Nat) (w:World) (n:Nat):dI B w (List.replicate n []) (List.replicate n (.slice none 0 0)):=by
 refine⟨by simp,fun i l h=> ?_,fun i j u v _ h _=> ?_⟩
 ·obtain⟨hi,rfl⟩:=List.getElem?_eq_some_iff.1 h;refine⟨.slice none 0 0,by rw [List.getElem?_replicate,if_pos (by simpa using hi)],?_⟩;rw [List.getElem_replicate];exact World.ownsRow_nil _ _ _ _
 ·obtain⟨hi,rfl⟩:=List.getElem?_eq_some_iff.1 h;rw [List.getElem_replicate];exact .inl rfl
theorem dI.map {B:Nat} {w w':World} {ll:List (List Int)} {us:List Value} (h:dI B w ll us) (f:∀(v:Value) (n:Nat) (xs:List Value),w.ownsRow B 3 1 v n xs→w'.ownsRow B 3 1 v n xs):dI B w' ll us:=by
 refine⟨h.1,fun i l hl=> ?_,h.2.2⟩;obtain⟨u,k1,k2⟩:=h.2.1 i l hl;exact⟨u,k1,f _ _ _ k2⟩
theorem dI.below {B:Nat} {w w':World} {ll:List (List Int)} {us:List Value} (h:dI B w ll us) (b:Below w.heap.size w w'):dI B w' ll us:=h.map fun v n xs=>az b B 3 1 v n xs
theorem dI.put {B:Nat} {w:World} {ll:List (List Int)} {us:List Value} (h:dI B w ll us) {p:Addr} (hp:p.block < B) (x:Value):dI B (w.setCell p x) ll us:=h.map fun _ _ _ hv=>ownsRow_setCell_below hv hp x
theorem dI.at {B:Nat} {w:World} {ll:List (List Int)} {us:List Value} (h:dI B w ll us) {i:Nat} (hi:i < ll.length):∃l u,ll[i]? =some l∧us[i]? =some u∧w.ownsRow B 3 1 u l.length (ints l):=by
 have hl:ll[i]? =some ll[i]:=List.getElem?_eq_getElem hi;obtain⟨u,k1,k2⟩:=h.2.1 i _ hl;exact⟨_,u,hl,k1,k2⟩
theorem dI.step {B:Nat} {wr w2:World} {ll:List (List Int)} {us:List Value} {i:Nat} {l:List Int} {u v':Value} {x:Int} {o:Obj} (h:dI B wr ll us) (hl:ll[i]? =some l) (hu:us[i]? =some u)
  (own:w2.ownsRow B 3 1 v' (l.length+1) (ints l ++ [.int .i64 x])) (hg:(wr.alloc o).grownBy w2 u.ownBlock) (hat:v'.ownBlock=u.ownBlock∨v'.ownBlock=some (wr.alloc o).heap.size):dI B w2 (ll.set i (l ++ [x])) (us.set i v'):=by
 obtain⟨h1,h2,h3⟩:=h;have hi:=(List.getElem?_eq_some_iff.1 hl).1;have hiu:=(List.getElem?_eq_some_iff.1 hu).1;have small:∀(j:Nat) (v:Value),us[j]? =some v→∀k,v.ownBlock=some k→k < wr.heap.size:=by
  intro j v hv k hk;have hj:j < ll.length:=by have:=(List.getElem?_eq_some_iff.1 hv).1;omega
  obtain⟨y,q1,q2⟩:=h2 j _ (List.getElem?_eq_getElem hj);rw [hv] at q1;injection q1 with q1;subst q1;exact(q2.lt k hk).2
 have far:∀(j:Nat) (v:Value),j≠i→us[j]? =some v→v.ownBlock=none∨v.ownBlock≠v'.ownBlock:=by
  intro j v hj hv;rcases hat with e | e
  ·rw [e];exact h3 j i v u hj hv hu
  ·cases hb:v.ownBlock with
   |none=>exact .inl rfl
   |some k=>
    right;rw [e];have:=small j v hv k hb;simp;omega
 refine⟨by simp [h1],fun j m hm=> ?_,fun j k a b hjk ha hb=> ?_⟩
 ·rw [List.getElem?_set] at hm;by_cases e:i=j
  ·subst e;rw [if_pos rfl,if_pos hi] at hm;injection hm with hm;subst hm;refine⟨v',by rw [List.getElem?_set,if_pos rfl,if_pos hiu],by simpa [ints] using own⟩
  ·rw [if_neg e] at hm;obtain⟨y,q1,q2⟩:=h2 j m hm;refine⟨y,by rw [List.getElem?_set_ne e];exact q1,?_⟩;exact(q2.alloc o).kept hg (h3 j i y u (fun e2=>e e2.symm) q1 hu)
 ·rw [List.getElem?_set] at ha hb;by_cases e:i=j
  ·subst e;rw [if_pos rfl,if_pos hiu] at ha;injection ha with ha;subst ha;rw [if_neg hjk] at hb;rcases far k b (fun e=>hjk e.symm) hb with q | q
   ·cases hv:v'.ownBlock with
    |none=>exact .inl rfl
    |some z=>right;rw [q];simp
   ·exact .inr fun e=>q e.symm
  ·rw [if_neg e] at ha;by_cases e2:i=k
   ·subst e2;rw [if_pos rfl,if_pos hiu] at hb;injection hb with hb;subst hb;exact far j a hjk ha
   ·rw [if_neg e2] at hb;exact h3 j k a b hjk ha hb
theorem dI.rows {B B' g n:Nat} {w:World} {ll:List (List Int)} {us:List Value} (h:dI B w ll us) (hr:bg w B' 26 g n us) (hB:B'≤B):bf B' w ll (.slice (some ⟨g,0,none⟩) n n):=by
 have e:n=ll.length:=by have:=hr.len;have:=h.1;omega
 subst e;refine⟨us,hr,h.1,fun i l hl=> ?_⟩;obtain⟨u,k1,k2⟩:=h.2.1 i l hl;exact⟨u,k1,aL k2 hB⟩
theorem vW (b:List Ins) (x:Ins) (aok:Option Addr) (capk:Nat) (W w:World) (hb:iR W b (.slice aok b.length capk)) (bel:Below W.heap.size W w) (hx:b[b.length - 1]? =some x):
  Calls Tryz.prog 99 #[.slice aok b.length capk] w fun e w'=>(∃v,e= .returned v∧bT W x.2.2.2.2.2.1 v)∧w'=w:=by
 obtain⟨_,_,e',m1,m2,kk⟩:=hb;injection e' with e1 e2 e4;subst e1 e4;have hjt:b.length - 1 < b.length:=(List.getElem?_eq_some_iff.1 hx).1;rcases kk with kk | ⟨gi,oi,rfl,kk⟩
 ·subst kk;simp at hjt
 obtain⟨ai,ti,ca,ct,hv,r0,r1,r2,r3,r4,r5,r6,r7⟩:=(kk (b.length - 1) _ hx).val;have hgi:gi < W.heap.size:=(kk (b.length - 1) _ hx).1;replace r5:=(bel.cell (p:=⟨gi,oi+(b.length - 1) * 8+5,none⟩) hgi).trans r5;have HV:Hid (bT W x.2.2.2.2.2.1 (.slice ti x.2.2.2.2.2.1.length ct)):=aa (by
  obtain⟨a1,t1,c1,c2,e,s1,s2,s3,s4,s5,s6⟩:=hv;injection e with e;have e2:=congrArg (fun a=>a[5]?) e;simp at e2;rw [e2.1,e2.2];exact⟨t1,c2,rfl,s2,s5,s6⟩)
 obtain⟨J,hJ⟩:∃J,J=b.length - 1:=⟨_,rfl⟩;rw [←hJ] at r5;have hJI:(b.length:Int) - 1=(J:Int):=by omega
 have hJl:(J:Int) < b.length:=by omega
 unfold maxLen at m2;have hb0:((b.length:Int) == 0)=false:=beq_eq_false_iff_ne.2 (by omega);clear hv kk hx r0 r1 r2 r3 r4 r6 r7 hJ e2 bel;go_enter Tryz.func99,Tryz.ntmps99
 go_wp2_with fail
 go_ret;exact⟨⟨_,rfl,HV.out⟩,rfl⟩
theorem qU (l:List Int) (n:Int):ay (cG l) n=ay l n:=by
 have key:∀(l acc:List Int),ay (l.foldl iB acc) n=(ay acc n || ay l n):=by
  intro l;induction l with
  |nil=>intro acc;simp [ay]
  |cons m l ih=>
   intro acc;rw [List.foldl_cons,ih];have e:ay (m :: l) n=(decide (m=n) || ay l n):=rfl
   cases h:ay acc m with
   |true=>
    rw [jO h,e];by_cases hm:m=n
    ·subst hm;rw [h];simp
    ·simp [hm]
   |false=>rw [lZ h,fQ,e,Bool.or_assoc]
 simpa [cG,ay] using key l []
def dY (f:Fun) (K:Nat) (acc:List Int):List (List Int):=(aC f).take K ++ acc :: List.replicate (f.2.2.2.1.length - K - 1) []
def gW (f:Fun) (K:Nat):List (List Int):=(aC f).take K ++ List.replicate (f.2.2.2.1.length - K) []
theorem bP (f:Fun):(aC f).length=f.2.2.2.1.length:=by simp [aC]
theorem eU {f:Fun} {K:Nat} (h:K < f.2.2.2.1.length):(aC f)[K]? =some (aB f K):=by
 have hb:f.2.2.2.1[K]? =some f.2.2.2.1[K]:=List.getElem?_eq_getElem h;rw [hU hb];show(f.2.2.2.1.map _)[K]? =_;rw [List.getElem?_map,hb];rfl
theorem AP {f:Fun} {K:Nat} (h:K < f.2.2.2.1.length):gW f K=dY f K []:=by
 unfold gW dY;obtain⟨M,hM⟩:∃M,f.2.2.2.1.length - K=M+1:=⟨f.2.2.2.1.length - K - 1,by omega⟩;rw [hM,Nat.add_sub_cancel,List.replicate_succ]
theorem AF {f:Fun} {K:Nat} (h:K < f.2.2.2.1.length):dY f K (aB f K)=gW f (K+1):=by
 unfold gW dY;rw [aR (eU h),List.append_assoc,Nat.sub_add_eq];rfl
theorem wX (f:Fun):gW f f.2.2.2.1.length=aC f:=by
 unfold gW;rw [Nat.sub_self,List.replicate_zero,List.append_nil,List.take_of_length_le (by rw [bP];exact Nat.le_refl _)]
theorem take_len {f:Fun} {K:Nat} (h:K < f.2.2.2.1.length):((aC f).take K).length=K:=by rw [List.length_take,bP];omega
theorem wQ {f:Fun} {K:Nat} (acc:List Int) (h:K < f.2.2.2.1.length):(dY f K acc).length=f.2.2.2.1.length:=by
 unfold dY;rw [List.length_append,take_len h,List.length_cons,List.length_replicate];omega
theorem q8 {f:Fun} {K:Nat} (acc:List Int) (h:K < f.2.2.2.1.length):(dY f K acc)[K]? =some acc:=by
 unfold dY;rw [List.getElem?_append_right (by rw [take_len h];exact Nat.le_refl _),take_len h,Nat.sub_self];rfl
theorem vP {f:Fun} {K:Nat} (acc acc':List Int) (h:K < f.2.2.2.1.length):(dY f K acc).set K acc'=dY f K acc':=by
 unfold dY;rw [List.set_append_right _ _ (by rw [take_len h];exact Nat.le_refl _),take_len h,Nat.sub_self];rfl
def pX (n K:Nat) (acc fr:List Int):Prop:=fr.length=n∧∀m:Nat,m < n→∃c:Int,fr[m]? =some c∧c≤(K:Int)+1∧(c=(K:Int)+1↔ay acc m=true)
theorem pX.start (n:Nat):pX n 0 [] (List.replicate n 0):=by
 refine⟨by simp,fun m hm=>⟨0,by rw [List.getElem?_replicate,if_pos hm],by omega,?_⟩⟩;simp [ay]
theorem pX.next {n K:Nat} {acc fr:List Int} (h:pX n K acc fr):pX n (K+1) [] fr:=by
 refine⟨h.1,fun m hm=> ?_⟩;obtain⟨c,h1,h2,_⟩:=h.2 m hm;refine⟨c,h1,by omega,?_⟩;simp [ay];omega
theorem pX.put {n K:Nat} {acc fr:List Int} (h:pX n K acc fr) {M:Nat} (hM:M < n):pX n K (acc ++ [(M:Int)]) (fr.set M ((K:Int)+1)):=by
 refine⟨by simp [h.1],fun m hm=> ?_⟩;by_cases e:M=m
 ·subst e;refine⟨(K:Int)+1,by rw [List.getElem?_set,if_pos rfl,if_pos (by have:=h.1;omega)],Int.le_refl _,?_⟩;rw [fQ];simp
 ·obtain⟨c,h1,h2,h3⟩:=h.2 m hm;refine⟨c,by rw [List.getElem?_set_ne e];exact h1,h2,?_⟩;have:¬(M:Int)=(m:Int):=by omega
  rw [fQ,h3];simp [this]
def vY (B g1 g2:Nat) (W0:World) (n K:Nat) (acc:List Int) (ll:List (List Int)) (wr:World):Prop:=∃us fr,bg wr W0.heap.size 26 g1 n us∧dI B wr ll us∧bg wr W0.heap.size 3 g2 n (ints fr)∧pX n K acc fr∧Below W0.heap.size W0 wr∧B≤wr.heap.size
theorem zW (nm:List UInt8) (ps:List Int) (rt pl:Int) (bl:List (List Ins)) (ao bo:Option Addr) (c cb:Nat) (w:World)
  (hv:bS w (nm,ps,rt,bl,pl) (.agg #[.string (bs nm),.slice ao ps.length c,.int .i64 rt,.slice bo bl.length cb,.int .i64 pl])) (hF:Ful (nm,ps,rt,bl,pl)) (hT:Tos (nm,ps,rt,bl,pl)):
  Calls Tryz.prog 64 #[.agg #[.string (bs nm),.slice ao ps.length c,.int .i64 rt,.slice bo bl.length cb,.int .i64 pl]] w fun e w'=>∃v,e= .returned v∧bf w.heap.size w' (aC (nm,ps,rt,bl,pl)) v∧Below w.heap.size w w':=by
 obtain⟨i0,hi0,hz0,hz1,hz2⟩:=info_parts Tryz.sx;obtain⟨i3,hi3,hz3,hz4,hz5⟩:=info_parts Tryz.cU;have b0:=af w (.cells #[.string (bs nm),.slice ao ps.length c,.int .i64 rt,.slice bo bl.length cb,.int .i64 pl] 29);have X0:=aa (L5.Box.new w [.string (bs nm),.slice ao ps.length c,.int .i64 rt,.slice bo bl.length cb,.int .i64 pl] 29);have HV:=aa (hv.below b0);have B0:=aa b0;have HFu:=aa hF;have HTo:=aa hT;have hbl:bl.length≤1000000:=hF.1;clear b0 hv hF hT;go_enter Tryz.func64,Tryz.ntmps64
 go_upto_region 1 with fail
 show Code.wp _ _ _ _ (w.alloc (.cells #[.string (bs nm),.slice ao ps.length c,.int .i64 rt,.slice bo bl.length cb,.int .i64 pl] 29));replace X0:Hid (L5.Box (w.alloc (.cells #[.string (bs nm),.slice ao ps.length c,.int .i64 rt,.slice bo bl.length cb,.int .i64 pl] 29)) w.heap.size [.string (bs nm),.slice ao ps.length c,.int .i64 rt,.slice bo bl.length cb,.int .i64 pl]):=X0;generalize w.alloc (.cells #[.string (bs nm),.slice ao ps.length c,.int .i64 rt,.slice bo bl.length cb,.int .i64 pl] 29)=W at *;have HB:Hid (fj W bl (.slice bo bl.length cb)):=aa (by
  obtain⟨vp,vb,e,_,hB⟩:=HV.out;injection e with e;have e3:=congrArg (fun a=>a[3]?) e;simp at e3;rw [e3];exact hB)
 have x3:=X0.out.2 3 _ rfl;go_upto_region 2 with (at_make;refine wpList_make_full _ rfl _ _ 65 rfl W.heap.size 26 i0 _ 1 Tryz.underlying65 hi0 hz0 hz1 .i64 .i64 bl.length bl.length bl.length rfl rfl rfl rfl (by rw [hz2];omega) (by unfold maxLen;omega) (Nat.le_refl _) ?_;intro w1 own1 grow1;refine Hid.out ?_)
 rw [re] at own1;have R1:Hid (bg w1 W.heap.size 26 W.heap.size bl.length (List.replicate bl.length (.slice none 0 0))):=aa own1;have B1:=aa (jX grow1);clear own1 grow1 x3;have x3:=(X0.out.below B1.out).2 3 _ rfl;have hs1:=B1.out.size;refine aa ?_;go_upto_region 3 with (at_make;refine wpList_make_full _ rfl _ _ 26 rfl W.heap.size 3 i3 _ 1 Tryz.underlying26 hi3 hz3 hz4 .i64 .i64 bl.length bl.length bl.length rfl rfl rfl rfl (by rw [hz5];omega) (by unfold maxLen;omega) hs1 ?_;intro w2 own2 grow2;refine Hid.out ?_)
 rw [qt] at own2;have R2:Hid (bg w2 W.heap.size 3 w1.heap.size bl.length (ints (List.replicate bl.length 0))):=aa own2;have B2:=aa (jX grow2);have R12:=aa (R1.out.below B2.out);have B12:=aa (ae B1.out B2.out);have hg1:W.heap.size < w1.heap.size:=R1.out.lt.2;have hg2:w1.heap.size < w2.heap.size:=R2.out.lt.2;clear own2 grow2 x3 hs1;have x3:=(X0.out.below B12.out).2 3 _ rfl;have HSt:Hid (vY w2.heap.size W.heap.size w1.heap.size W bl.length 0 [] (gW (nm,ps,rt,bl,pl) 0) w2):=aa ⟨_,_,R12.out,by
  have:=dI.start w2.heap.size w2 bl.length;exact this,R2.out,pX.start _,B12.out,Nat.le_refl _⟩
 clear R1 R2 B1 B2 R12 B12;generalize w2.heap.size=B at *;generalize w1.heap.size=g2 at *;generalize hg:W.heap.size=g1 at *;refine aa ?_;go_wp2_with fail
 clear x3;go_loopw [20] (fun i wr=>∃K:Nat,K≤bl.length∧i= .int .i64 K∧Hid (vY B g1 g2 W bl.length K [] (gW (nm,ps,rt,bl,pl) K) wr)) (fun i _=>bl.length - (intOf i).toNat)
 case atStart=>exact⟨0,Nat.zero_le _,rfl,HSt⟩
 case round=>
  clear HSt;obtain⟨K,hK,rfl,HS⟩:=hrel;by_cases hkt:K < bl.length
  ·have hkI:(K:Int) < bl.length:=(by omega);obtain⟨b,hbK⟩:∃b,bl[K]? =some b:=⟨bl[K],List.getElem?_eq_getElem hkt⟩;have HWr:Hid (Below W.heap.size W wr):=aa (by obtain⟨us,fr,_,_,_,_,h,_⟩:=HS.out;exact h);obtain⟨_,_,e',l1,l2,l3⟩:=HB.out;injection e' with e1 e2 e4;subst e1 e4;rcases l3 with l3 | ⟨gc,oc,rfl,gk,h2⟩
   ·subst l3;simp at hkt
   obtain⟨vk,kd,kk⟩:=h2 K b hbK;have kk2:=kk;obtain⟨aok,capk,rfl,m1,m2,_⟩:=kk;have c1:=(HWr.out.cell (p:=⟨gc,oc+K,none⟩) gk).trans kd;obtain⟨x,hx,hlt,h63⟩:=HFu.out.last (List.mem_of_getElem? hbK);have HL:=aa (vW b x aok capk W wr kk2 HWr.out hx);have HNx:Hid (aB (nm,ps,rt,bl,pl) K=cG x.2.2.2.2.2.1):=aa (by rw [hU (f:=(nm,ps,rt,bl,pl)) hbK,hlt]);have HNu:Hid (Num bl.length x.2.2.2.2.2.1):=aa (by
    intro m hm;refine HTo.out K m ?_;rw [HNx.out,←aZ,qU,aZ];exact hm)
   have HS0:Hid (vY B g1 g2 W bl.length K (cG (x.2.2.2.2.2.1.take 0)) (dY (nm,ps,rt,bl,pl) K (cG (x.2.2.2.2.2.1.take 0))) wr):=aa (by
    have:=HS.out;rw [AP hkt] at this;exact this)
   unfold maxLen at m2 l2;have HIL:Hid (∀v,bT W x.2.2.2.2.2.1 v→∃to ct,v= .slice to x.2.2.2.2.2.1.length ct∧Sl W to x.2.2.2.2.2.1):=aa (fun v ⟨to,ct,e,h,_⟩=>⟨to,ct,e,h⟩);generalize x.2.2.2.2.2.1=tt at *;clear kd kk2 h2 hbK e2 hx hlt HS;go_wp2_with fail
   refine HL.out.mono ?_;rintro e w9 ⟨⟨v,rfl,hiv⟩,hw9⟩;subst hw9;obtain⟨to,ct,rfl,hsl⟩:=HIL.out v hiv;have HSl:=aa hsl;clear hiv hsl HL HIL c1;go_wp2_with fail
   generalize w9=W9 at *;go_loopw [28] (fun i wr=>∃J:Nat,J≤tt.length∧i= .int .i64 J∧Hid (vY B g1 g2 W bl.length K (cG (tt.take J)) (dY (nm,ps,rt,bl,pl) K (cG (tt.take J))) wr)) (fun i _=>tt.length - (intOf i).toNat)
   case atStart=>exact⟨0,Nat.zero_le _,rfl,HS0⟩
   case round=>
    clear HS0;obtain⟨J,hJ,rfl,HS⟩:=hrel;by_cases hjt:J < tt.length
    ·have hjI:(J:Int) < tt.length:=(by omega);obtain⟨m,hm⟩:∃m,tt[J]? =some m:=⟨tt[J],List.getElem?_eq_getElem hjt⟩;obtain⟨hm0,hm1⟩:=HNu.out m (List.mem_of_getElem? hm);obtain⟨M,rfl⟩:∃M:Nat,m=(M:Int):=⟨m.toNat,by omega⟩;have hMl:M < bl.length:=(by omega);have HTk:=aa (nS hm);have hal:=mY (tt.take J);rw [List.length_take] at hal;generalize cG (tt.take J)=acc at *;rcases HSl.out with e0 | ⟨tb,to2,rfl,t1,t2⟩
     ·subst e0;simp at hjt
     obtain⟨us,fr,q1,q2,q3,q4,q5,q6⟩:=HS.out;have c9:=(q5.cell (p:=⟨tb,to2+J,none⟩) t1).trans (t2 J _ hm);obtain⟨cM,f1,f2,f3⟩:=q4.2 M hMl;have c8:=q3.cell (ints_at f1);have HTh:=aa (zZ M bl.length wr);have hth:kY M bl.length=true:=(by simp [kY];omega);rw [hth] at HTh;have Q1:=aa q1;have Q2:=aa q2;have Q3:=aa q3;have Q4:=aa q4;have Q5:=aa q5;clear t2 hm hth q1 q2 q3 q4 q5
     cases hh:ay acc M with
     |true=>
      have hcc:(cM != (K:Int)+1)=false:=(by rw [f3.2 hh];simp);have HE:Hid (vY B g1 g2 W bl.length K (cG (tt.take (J+1))) (dY (nm,ps,rt,bl,pl) K (cG (tt.take (J+1)))) wr):=aa (by rw [HTk.out,jO hh];exact HS.out);replace hh:=aa hh;clear f1 f2 f3;go_wp2_with fail
      refine HTh.out.mono ?_;rintro e wA ⟨rfl,rfl⟩;go_wp2_with fail
      go_roundw
      case rel=>exact⟨J+1,by omega,by go_num,HE⟩
      case measure=>simp [intOf];omega
     |false=>
      have hcc:(cM != (K:Int)+1)=true:=by
       have:¬cM=(K:Int)+1:=fun e=>by rw [f3.1 e] at hh;cases hh
       simpa using this
      have z8:=Q3.out.frozen M;have HA:=aa (HTk.out.trans (lZ hh));obtain⟨l,u,y1,y2,y3⟩:=Q2.out.at (i:=K) (by rw [wQ _ hkt];exact hkt);rw [q8 _ hkt] at y1;injection y1 with y1;subst y1;have Q2s:Hid (dI B (wr.setCell ⟨g2,M,none⟩ (.int .i64 ((K:Int)+1))) (dY (nm,ps,rt,bl,pl) K acc) us):=aa (Q2.out.put (p:=⟨g2,M,none⟩) hg2 _);have Q1s:Hid (bg (wr.setCell ⟨g2,M,none⟩ (.int .i64 ((K:Int)+1))) W.heap.size 26 g1 bl.length us):=aa (Q1.out.other (p:=⟨g2,M,none⟩) (by show g1≠g2;omega) _);have Q3s:Hid (bg (wr.setCell ⟨g2,M,none⟩ (.int .i64 ((K:Int)+1))) W.heap.size 3 g2 bl.length (ints (fr.set M ((K:Int)+1)))):=aa (by rw [←ints_set];exact Q3.out.set M _);have Q4s:=aa (Q4.out.put hMl);have Q5s:Hid (Below W.heap.size W (wr.setCell ⟨g2,M,none⟩ (.int .i64 ((K:Int)+1)))):=aa (Q5.out.setCell (p:=⟨g2,M,none⟩) (by show W.heap.size≤g2;omega) _);have Y3:Hid ((wr.setCell ⟨g2,M,none⟩ (.int .i64 ((K:Int)+1))).ownsRow B 3 1 u acc.length (ints acc)):=aa (ownsRow_setCell_below y3 (a:=⟨g2,M,none⟩) hg2 _);have hsz:(wr.setCell ⟨g2,M,none⟩ (.int .i64 ((K:Int)+1))).heap.size=wr.heap.size:=(by simp);have q6s:B≤(wr.setCell ⟨g2,M,none⟩ (.int .i64 ((K:Int)+1))).heap.size:=(by rw [hsz];exact q6);have Y2:=aa y2;replace hh:=aa hh;clear f1 f2 f3 y2 y3 hsz;go_upto_region 11 with (go_at_call 100;refine HTh.out.mono ?_;rintro e wA ⟨rfl,rfl⟩)
      show Code.wp _ _ _ _ (wA.setCell ⟨g2,M,none⟩ (.int .i64 ((K:Int)+1)));generalize wA.setCell ⟨g2,M,none⟩ (.int .i64 ((K:Int)+1))=wS at *;have k1:=Q1s.out.cell Y2.out;obtain⟨uo,uc,rfl⟩:=aI Y3.out;go_wp2_with (at_builtin;refine wpList_append_own_at _ rfl (.tmp 55) (.tmp 57) 26 rfl B 3 i3 _ 1 8 Tryz.underlying26 hi3 hz3 hz4 hz5 rfl (by decide) _ _ _ rfl (Y3.out.alloc _) ⟨wS.heap.size,0,none⟩ 1 1 [.int .i64 M] rfl rfl one_cell one_one (by unfold maxLen;omega) (by omega) (by simp;omega) ?_;intro v2 wB own2 grow2 _ at2;refine Hid.out ?_)
      have far:∀g,g < B→some g≠(Value.slice uo acc.length uc).ownBlock:=fun g hg e=>by have:=(Y3.out.lt g e.symm).1;omega
      have P1:Hid (bg wB W.heap.size 26 g1 bl.length us):=aa ((Q1s.out.alloc _).kept grow2 (far g1 (by omega)));have P3:Hid (bg wB W.heap.size 3 g2 bl.length (ints (fr.set M ((K:Int)+1)))):=aa ((Q3s.out.alloc _).kept grow2 (far g2 hg2));have P2:=aa (Q2s.out.step (q8 _ hkt) Y2.out own2 grow2 at2);rw [vP _ _ hkt] at P2;have P5:Hid (Below W.heap.size W wB):=aa (Below.grown (Q5s.out.alloc Q5s.out.size _) grow2 (by simp;omega) (fun k hk=>by have:=(Y3.out.lt k hk).1;omega));have P6:B≤wB.heap.size:=(by have:=grow2.size;simp at this;omega);have HE:Hid (vY B g1 g2 W bl.length K (cG (tt.take (J+1))) (dY (nm,ps,rt,bl,pl) K (cG (tt.take (J+1)))) (wB.setCell ⟨g1,K,none⟩ v2)):=aa (by
       rw [HA.out];exact⟨us.set K v2,_,P1.out.set K v2,P2.out.put (p:=⟨g1,K,none⟩) (by show g1 < B;omega) _,P3.out.other (p:=⟨g1,K,none⟩) (by show g2≠g1;omega) _,Q4s.out,P5.out.setCell (p:=⟨g1,K,none⟩) (by show W.heap.size≤g1;omega) _,by simpa using P6⟩)
      obtain⟨vo,vc,rfl⟩:=aI own2;have k2:=P1.out.cell Y2.out;have k3:=P1.out.frozen K;clear own2 grow2 at2 k1 far P1 P2 P3 P5 Q1s Q2s Q3s Q5s Y2 Y3;refine aa ?_;go_wp2_with fail
      go_roundw
      case rel=>exact⟨J+1,by omega,by go_num,HE⟩
      case measure=>simp [intOf];omega
    ·obtain rfl:J=tt.length:=(by omega);have HE:Hid (vY B g1 g2 W bl.length (K+1) [] (gW (nm,ps,rt,bl,pl) (K+1)) wr):=aa (by
      obtain⟨us,fr,q1,q2,q3,q4,q5,q6⟩:=HS.out;rw [List.take_length] at q2 q4;exact⟨us,fr,q1,by rw [←AF hkt,HNx.out];exact q2,q3,q4.next,q5,q6⟩)
     go_wp2_with fail
     go_roundw
     case rel=>exact⟨K+1,by omega,by go_num,HE⟩
     case measure=>simp [intOf];omega
  ·obtain rfl:K=bl.length:=(by omega);obtain⟨us,fr,q1,q2,q3,q4,q5,q6⟩:=HS.out;have HE:Hid (bf w.heap.size wr (aC (nm,ps,rt,bl,pl)) (.slice (some ⟨g1,0,none⟩) bl.length bl.length)∧Below w.heap.size w wr):=aa (by
    refine⟨?_,ae B0.out q5⟩;have:=q2.rows q1 (by omega);have e:gW (nm,ps,rt,bl,pl) bl.length=aC (nm,ps,rt,bl,pl):=wX (nm,ps,rt,bl,pl);rw [e] at this;exact this.base B0.out.size)
   clear q1 q2 q3 q4 q5 HS;go_wp2_with fail
   go_ret;exact⟨_,rfl,HE.out.1,HE.out.2⟩
def Mid (B:Nat) (W w:World):Prop:=W.heap.size≤w.heap.size∧∀k,B≤k→k < W.heap.size→w.heap[k]? =W.heap[k]?
theorem Mid.refl (B:Nat) (W:World):Mid B W W:=⟨Nat.le_refl _,fun _ _ _=>rfl⟩
theorem Mid.put {B:Nat} {W w:World} (h:Mid B W w) {p:Addr} (hp:p.block < B∨W.heap.size≤p.block) (u:Value):Mid B W (w.setCell p u):=
 ⟨by simpa using h.1,fun k h1 h2=>(Below.heap_setCell w p u k (by omega)).trans (h.2 k h1 h2)⟩
theorem Mid.alloc {B:Nat} {W w:World} (h:Mid B W w) (o:Obj):Mid B W (w.alloc o):=
 ⟨by have:=h.1;simp;omega,fun k h1 h2=>(Below.heap_alloc w o k (by have:=h.1;omega)).trans (h.2 k h1 h2)⟩
theorem Mid.grown {B:Nat} {W w w':World} {row:Option Nat} (h:Mid B W w) (hg:w.grownBy w' row) (hr:∀k,row=some k→k < B∨W.heap.size≤k):Mid B W w':=
 ⟨Nat.le_trans h.1 hg.size,fun k h1 h2=>(hg.block k (by have:=h.1;omega) (fun e=>by have:=hr k e.symm;omega)).trans (h.2 k h1 h2)⟩
theorem Mid.below {B:Nat} {W w w':World} (h:Mid B W w) (b:Below w.heap.size w w'):Mid B W w':=
 ⟨Nat.le_trans h.1 b.size,fun k h1 h2=>(b.block k (by have:=h.1;omega)).trans (h.2 k h1 h2)⟩
theorem Mid.cell {B:Nat} {W w:World} (h:Mid B W w) {p:Addr} (h1:B≤p.block) (h2:p.block < W.heap.size):w.cell? p=W.cell? p:=World.cell?_of_block (w:=W) (h.2 p.block h1 h2)
theorem sN {B e s n:Nat} {W w:World} {v:Value} {xs:List Value} (h:W.ownsRow B e s v n xs) (m:Mid B W w):w.ownsRow B e s v n xs:=by
 refine⟨h.1,?_⟩;rcases h.2 with hn | ⟨g,cap,cur,rfl,hb,hgg,rest⟩
 ·exact .inl hn
 ·exact .inr ⟨g,cap,cur,rfl,hb,(m.2 g hb (Array.getElem?_eq_some_iff.1 hgg).1).trans hgg,rest⟩
theorem bf.mid {B:Nat} {W w:World} {ll:List (List Int)} {v:Value} (h:bf B W ll v) (m:Mid B W w):bf B w ll v:=by
 obtain⟨us,h1,h2,h3⟩:=h;refine⟨us,sN h1 m,h2,fun i l hl=> ?_⟩;obtain⟨u,k1,k2⟩:=h3 i l hl;exact⟨u,k1,sN k2 m⟩
theorem bf.row {B n c:Nat} {w:World} {ll:List (List Int)} {ao:Option Addr} (h:bf B w ll (.slice ao n c)) {K:Nat} {l:List Int} (hl:ll[K]? =some l):
  ∃g lo lc,ao=some ⟨g,0,none⟩∧w.cell? ⟨g,K,none⟩=some (.slice lo l.length lc)∧w.ownsRow B 3 1 (.slice lo l.length lc) l.length (ints l)∧B≤g∧g < w.heap.size:=by
 obtain⟨us,h1,h2,h3⟩:=h;obtain⟨u,k1,k2⟩:=h3 K l hl;obtain⟨lo,lc,rfl⟩:=aI k2;have hK:=(List.getElem?_eq_some_iff.1 hl).1;rcases bY h1 with ⟨_,hn⟩ | ⟨g,cap,e,q1,q2,q3,q4,q5,q6⟩
 ·omega
 ·injection e with e1 e2 e3;exact⟨g,lo,lc,e1,q5 K _ k1,k2,q3,q4⟩
theorem Ff {B n c:Nat} {w:World} {l:List Int} {ao:Option Addr} (h:w.ownsRow B 3 1 (.slice ao n c) l.length (ints l)) {j:Nat} {m:Int} (hm:l[j]? =some m):
  ∃g,ao=some ⟨g,0,none⟩∧w.cell? ⟨g,j,none⟩=some (.int .i64 m)∧g < w.heap.size:=by
 have hj:=(List.getElem?_eq_some_iff.1 hm).1;rcases bY h with ⟨_,hn⟩ | ⟨g,cap,e,q1,q2,q3,q4,q5,q6⟩
 ·omega
 ·injection e with e1 e2 e3;exact⟨g,e1,q5 j _ (ints_at hm),q4⟩
theorem oZ (l:List Int):(cG l).Nodup:=by
 have key:∀(l acc:List Int),acc.Nodup→(l.foldl iB acc).Nodup:=by
  intro l;induction l with
  |nil=>intro acc h;exact h
  |cons m l ih=>
   intro acc h;rw [List.foldl_cons];refine ih _ ?_
   cases hh:ay acc m with
   |true=>rw [jO hh];exact h
   |false=>
    rw [lZ hh];refine List.nodup_append.2 ⟨h,by simp,?_⟩;rintro x hx y hy rfl;simp at hy;subst hy;rw [aZ.2 hx] at hh
    cases hh
 exact key l [] List.nodup_nil
theorem pz {l:List Int} (h:l.Nodup) {j:Nat} {m:Int} (hm:l[j]? =some m):ay (l.take j) m=false:=by
 cases hh:ay (l.take j) m with
 |false=>rfl
 |true=>
  exfalso;have h1:=aZ.1 hh;obtain⟨i,hi,e⟩:=List.mem_iff_getElem.1 h1;have hij:i < j:=by rw [List.length_take] at hi;omega
  obtain⟨hj,e2⟩:=List.getElem?_eq_some_iff.1 hm;rw [List.getElem_take] at e;exact absurd ((List.getElem_inj h).1 (e.trans e2.symm)) (by omega)
def dz (f:Fun) (K:Nat) (acc:List Int):List (List Int):=(List.range f.2.2.2.1.length).map fun(b:Nat)=>aY f b K ++ (if ay acc b then [(K:Int)] else [])
theorem fP (f:Fun) (K:Nat) (acc:List Int):(dz f K acc).length=f.2.2.2.1.length:=by simp [dz]
theorem gC {f:Fun} (K:Nat) (acc:List Int) {M:Nat} (hM:M < f.2.2.2.1.length):(dz f K acc)[M]? =some (aY f M K ++ (if ay acc M then [(K:Int)] else [])):=by
 unfold dz;rw [List.getElem?_map,List.getElem?_range hM];rfl
theorem tA (f:Fun):dz f 0 []=List.replicate f.2.2.2.1.length []:=by
 apply List.ext_getElem?;intro j;rw [List.getElem?_replicate];by_cases hj:j < f.2.2.2.1.length
 ·rw [gC _ _ hj,if_pos hj];simp [aY,ay]
 ·rw [if_neg hj,List.getElem?_eq_none (by rw [fP];omega)]
theorem zT {f:Fun} {K M:Nat} {acc:List Int} (hM:M < f.2.2.2.1.length):(dz f K acc).set M (aY f M K ++ [(K:Int)])=dz f K (acc ++ [(M:Int)]):=by
 apply List.ext_getElem?;intro j;rw [List.getElem?_set,fP];by_cases hj:j < f.2.2.2.1.length
 ·rw [gC _ _ hj,gC _ _ hj];by_cases e:M=j
  ·subst e;rw [if_pos rfl,if_pos hM,fQ];simp
  ·have e2:¬(M:Int)=(j:Int):=(by omega);rw [if_neg e,fQ];simp [e2]
 ·have n1:∀acc,(dz f K acc)[j]? =none:=fun acc=>List.getElem?_eq_none (by rw [fP];omega);rw [n1,n1];by_cases e:M=j
  ·omega
  ·rw [if_neg e]
theorem wZ (f:Fun) (K:Nat):dz f K (aB f K)=dz f (K+1) []:=by
 apply List.ext_getElem?;intro j;by_cases hj:j < f.2.2.2.1.length
 ·rw [gC _ _ hj,gC _ _ hj]
  cases hh:ay (aB f K) j with
  |true=>rw [oh hh];simp [ay]
  |false=>rw [qZ hh];simp [ay]
 ·rw [List.getElem?_eq_none (by rw [fP];omega),List.getElem?_eq_none (by rw [fP];omega)]
theorem AV (f:Fun):dz f f.2.2.2.1.length []=aJ f:=by
 unfold dz aJ;apply List.map_congr_left;intro b _;simp [ay]
end Go.Proofs.YtaiaakklokahjaaGreatDoor
