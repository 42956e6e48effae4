/- Texts of one chain, joined. -/
import Derived.Test.YtljkgcfnoegibaaGreatDoorZAAI
import Derived.Test.YtljkgcfnoegibaaGreatDoorZAAL
namespace Go.Proofs.YtljkgcfnoegibaaGreatDoor
open Go Go.RowKit
open G (Tok Er Ins Fun)
def Num (n:Nat) (l:List Int):Prop:=∀m∈l,0≤m∧m < n
theorem dU:∀(n:Nat) (l:List Int),l.Nodup→Num n l→l.length≤n:=by
 intro n;induction n with
 |zero=>
  intro l _ h
  cases l with
  |nil=>simp
  |cons m l=>have:=h m (by simp);omega
 |succ n ih=>
  intro l hn h;have h1:=ih (l.erase (n:Int)) (hn.erase _) (fun m hm=>by
   have h2:=(hn.mem_erase_iff).1 hm;have h3:=h m h2.2;have h4:m≠(n:Int):=h2.1;omega)
  have h2:=List.length_erase (a:=(n:Int)) (l:=l);split at h2 <;> omega
def cL (f:Fun):Nat→Int→List Int→List Int→List Int
 |0,_,done,_=>done
 |N+1,k,done,op=>(aW f k.toNat).foldl (fun out m=>if az out m || az (op ++ [k]) m then out else cL f N m out (op ++ [k])) done ++ [k]
def lg (f:Fun) (N:Nat) (path out:List Int) (m:Int):List Int:=if az out m || az path m then out else cL f N m out path
def dm (f:Fun) (N:Nat) (path done l:List Int):List Int:=l.foldl (lg f N path) done
theorem eB (f:Fun) (N:Nat) (k:Int) (done op:List Int):cL f (N+1) k done op=dm f N (op ++ [k]) done (aW f k.toNat) ++ [k]:=rfl
theorem iF {f:Fun} {N:Nat} {path out:List Int} {m:Int} (h:az out m=true∨az path m=true):lg f N path out m=out:=by
 unfold lg;rcases h with h | h <;> simp [h]
theorem g8 {f:Fun} {N:Nat} {path out:List Int} {m:Int} (h1:az out m=false) (h2:az path m=false):lg f N path out m=cL f N m out path:=by
 unfold lg;simp [h1,h2]
def Tos (f:Fun):Prop:=∀j,Num f.2.2.2.1.length (aW f j)
def Ext (n:Nat) (done op out:List Int):Prop:=∃e,out=done ++ e∧e.Nodup∧∀m∈e,(0≤m∧m < n)∧m ∉ done∧m ∉ op
theorem Ext.refl (n:Nat) (done op:List Int):Ext n done op done:=⟨[],by simp,List.nodup_nil,by simp⟩
theorem Ext.trans {n:Nat} {a b c op:List Int} (h:Ext n a op b) (k:Ext n b op c):Ext n a op c:=by
 obtain⟨e,rfl,h1,h2⟩:=h;obtain⟨d,rfl,k1,k2⟩:=k;refine⟨e ++ d,by simp,List.nodup_append.2 ⟨h1,k1,?_⟩,?_⟩
 ·rintro x hx y hy rfl;exact(k2 x hy).2.1 (by simp [hx])
 ·intro m hm;rcases List.mem_append.1 hm with hm | hm
  ·exact h2 m hm
  ·exact⟨(k2 m hm).1,fun h=>(k2 m hm).2.1 (by simp [h]),(k2 m hm).2.2⟩
theorem Ext.one {n:Nat} {a b op:List Int} {k:Int} (h:Ext n a (op ++ [k]) b) (hk:0≤k∧k < n) (ha:k ∉ a) (ho:k ∉ op):Ext n a op (b ++ [k]):=by
 obtain⟨e,rfl,h1,h2⟩:=h;refine⟨e ++ [k],by simp,List.nodup_append.2 ⟨h1,by simp,?_⟩,?_⟩
 ·rintro x hx y hy rfl;simp at hy;exact(h2 x hx).2.2 (by simp [hy])
 ·intro m hm;rcases List.mem_append.1 hm with hm | hm
  ·exact⟨(h2 m hm).1,(h2 m hm).2.1,fun h=>(h2 m hm).2.2 (by simp [h])⟩
  ·simp at hm;subst hm;exact⟨hk,ha,ho⟩
theorem eO {l:List Int} {n:Int}:az l n=false↔n ∉ l:=by
 rw [←bL];simp
theorem uY {f:Fun} (hT:Tos f):∀(N:Nat) (k:Int) (done op:List Int),(0≤k∧k < f.2.2.2.1.length)→k ∉ done→k ∉ op→Ext f.2.2.2.1.length done op (cL f N k done op):=by
 intro N;induction N with
 |zero=>intro k done op _ _ _;exact Ext.refl _ _ _
 |succ N ih=>
  intro k done op hk hd ho;rw [eB];refine Ext.one ?_ hk hd ho;have key:∀(l out:List Int),Num f.2.2.2.1.length l→Ext f.2.2.2.1.length done (op ++ [k]) out→Ext f.2.2.2.1.length done (op ++ [k]) (dm f N (op ++ [k]) out l):=by
   intro l;induction l with
   |nil=>intro out _ h;exact h
   |cons m l ih2=>
    intro out hl h;refine ih2 _ (fun x hx=>hl x (by simp [hx])) ?_;by_cases hc:az out m=true∨az (op ++ [k]) m=true
    ·rw [iF hc];exact h
    ·have hc1:az out m=false:=(by simpa using fun e=>hc (.inl e));have hc2:az (op ++ [k]) m=false:=(by simpa using fun e=>hc (.inr e));rw [g8 hc1 hc2];exact h.trans (ih m out (op ++ [k]) (hl m (by simp)) (eO.1 hc1) (eO.1 hc2))
  exact key _ _ (hT _) (Ext.refl _ _ _)
theorem Ext.num {n:Nat} {done op out:List Int} (h:Ext n done op out) (hd:done.Nodup) (hn:Num n done):out.Nodup∧Num n out:=by
 obtain⟨e,rfl,h1,h2⟩:=h;refine⟨List.nodup_append.2 ⟨hd,h1,?_⟩,?_⟩
 ·rintro x hx y hy rfl;exact(h2 x hy).2.1 hx
 ·intro m hm;rcases List.mem_append.1 hm with hm | hm
  ·exact hn m hm
  ·exact(h2 m hm).1
theorem eL (l:List Int):∀u∈ints l,u.oneCell'=true:=by
 intro u hu;obtain⟨m,_,rfl⟩:=List.mem_map.1 hu;rfl
theorem lx {f:Fun} (hF:Ful f) {k:Nat} (hk:k < f.2.2.2.1.length):(aW f k).length≤1000000:=by
 have hb:f.2.2.2.1[k]? =some f.2.2.2.1[k]:=List.getElem?_eq_getElem hk;obtain⟨x,hx,hl,h63⟩:=hF.last (List.mem_of_getElem? hb);rw [ju hb,hl];exact Nat.le_trans (nQ _) h63
def aC (f:Fun):List Int:=(cL f f.2.2.2.1.length 0 [] []).reverse
theorem nK {f:Fun} (hT:Tos f) (h0:0 < f.2.2.2.1.length):(cL f f.2.2.2.1.length 0 [] []).Nodup∧Num f.2.2.2.1.length (cL f f.2.2.2.1.length 0 [] []):=
 (uY hT _ 0 [] [] ⟨by omega,by omega⟩ (by simp) (by simp)).num List.nodup_nil (fun m hm=>by simp at hm)
theorem gj {f:Fun} (hT:Tos f) (h0:0 < f.2.2.2.1.length):(aC f).length≤f.2.2.2.1.length:=by
 unfold aC;rw [List.length_reverse];exact dU _ _ (nK hT h0).1 (nK hT h0).2
def placeAt:List Int→Int→Nat→Int
 |[],_,_=> -1
 |m :: l,n,i=>if m=n then i else placeAt l n (i+1)
def j6 (l:List Int) (n:Int):Int:=placeAt l n 0
theorem uP:∀(l:List Int) (n:Int) (k i:Nat),az (l.take k) n=false→l[k]? =some n→placeAt l n i=((i+k:Nat):Int):=by
 intro l;induction l with
 |nil=>intro n k i _ h;simp at h
 |cons m l ih=>
  intro n k i h1 h2
  cases k with
  |zero=>simp at h2;subst h2;simp [placeAt]
  |succ k=>
   simp only [List.take_succ_cons,az,List.any_cons,Bool.or_eq_false_iff,decide_eq_false_iff_not] at h1;rw [placeAt,if_neg h1.1,ih n k (i+1) h1.2 (by simpa using h2)];congr 1;omega
theorem xT:∀(l:List Int) (n:Int) (i:Nat),az l n=false→placeAt l n i= -1:=by
 intro l;induction l with
 |nil=>intro n i _;rfl
 |cons m l ih=>
  intro n i h;simp only [az,List.any_cons,Bool.or_eq_false_iff,decide_eq_false_iff_not] at h;rw [placeAt,if_neg h.1];exact ih n (i+1) h.2
theorem yv {l:List Int} {n:Int} {k:Nat} (h1:az (l.take k) n=false) (h2:l[k]? =some n):(k:Int)=j6 l n:=by
 rw [j6,uP l n k 0 h1 h2];simp
theorem sF {l:List Int} {n:Int} (h:az l n=false):(-1:Int)=j6 l n:=(xT l n 0 h).symm
def dD (f:Fun):List Int:=(List.range f.2.2.2.1.length).map fun(k:Nat)=>j6 (aC f) (k:Int)
theorem kA (f:Fun):(dD f).length=f.2.2.2.1.length:=by simp [dD]
def cnt (tr:List Int) (k:Int):Nat:=(tr.getD k.toNat 0).toNat
def finF (f:Fun) (tr:List Int):List Int→List Int→List Int
 |[],out=>out
 |k :: up,out=>finF f tr up (dm f (f.2.2.2.1.length - (up.length+1)) (up.reverse ++ [k]) out ((aW f k.toNat).drop (cnt tr k)) ++ [k])
theorem sK (f:Fun) {tr tr':List Int}:∀(up out:List Int),(∀k∈up,cnt tr k=cnt tr' k)→finF f tr up out=finF f tr' up out:=by
 intro up;induction up with
 |nil=>intro out _;rfl
 |cons k up ih=>
  intro out h;rw [finF,finF,h k (by simp)];exact ih _ (fun x hx=>h x (by simp [hx]))
theorem C0 {f:Fun} {tr:List Int} {k:Int} {up out:List Int} (h:(aW f k.toNat).length≤cnt tr k):finF f tr (k :: up) out=finF f tr up (out ++ [k]):=by
 rw [finF,List.drop_eq_nil_of_le h];rfl
theorem xC {l:List Int} {c:Nat} {m:Int} (h:l[c]? =some m):l.drop c=m :: l.drop (c+1):=by
 obtain⟨h1,h2⟩:=List.getElem?_eq_some_iff.1 h;rw [List.drop_eq_getElem_cons h1,h2]
theorem DZ {f:Fun} {tr tr':List Int} {k m:Int} {up out:List Int} (hm:(aW f k.toNat)[cnt tr k]? =some m) (hc:cnt tr' k=cnt tr k+1) (hs:∀x∈up,cnt tr x=cnt tr' x)
  (h:az out m=true∨az (up.reverse ++ [k]) m=true):finF f tr (k :: up) out=finF f tr' (k :: up) out:=by
 rw [finF,finF,xC hm,hc];show finF f tr up (dm f _ _ (lg f _ _ out m) _ ++ [k])=_;rw [iF h];exact sK f _ _ hs
theorem DH {f:Fun} {tr tr':List Int} {k m:Int} {up out:List Int} (hm:(aW f k.toNat)[cnt tr k]? =some m) (hc:cnt tr' k=cnt tr k+1) (hs:∀x∈up,cnt tr x=cnt tr' x)
  (h1:az out m=false) (h2:az (up.reverse ++ [k]) m=false) (h0:cnt tr' m=0) (hN:up.length+2≤f.2.2.2.1.length):finF f tr (k :: up) out=finF f tr' (m :: k :: up) out:=by
 rw [finF,finF,finF,xC hm,hc,h0];show finF f tr up (dm f _ _ (lg f _ _ out m) _ ++ [k])=_;rw [g8 h1 h2,sK f _ _ hs,List.drop_zero];obtain⟨M,hM⟩:∃M,f.2.2.2.1.length - (up.length+1)=M+1:=⟨f.2.2.2.1.length - (up.length+2),by omega⟩;have hM2:f.2.2.2.1.length - ((k :: up).length+1)=M:=by simp only [List.length_cons];omega
 rw [hM,hM2,eB,List.reverse_cons]
theorem fm (a b:List Int) (n:Int):az (a ++ b) n=(az a n || az b n):=by simp [az]
theorem Fc (g g':Nat→Nat) (k:Nat) (h1:g' k+1=g k) (h2:∀j,j≠k→g' j=g j):∀n,k < n→((List.range n).map g').sum+1=((List.range n).map g).sum:=by
 have key:∀n,n≤k→((List.range n).map g').sum=((List.range n).map g).sum:=by
  intro n;induction n with
  |zero=>intro _;rfl
  |succ n ih=>
   intro hn;rw [List.range_succ,List.map_append,List.map_append,List.sum_append,List.sum_append,ih (by omega)];simp [h2 n (by omega)]
 intro n;induction n with
 |zero=>intro h;omega
 |succ n ih=>
  intro hn;rw [List.range_succ,List.map_append,List.map_append,List.sum_append,List.sum_append];by_cases e:n=k
  ·subst e;rw [key n (Nat.le_refl _)];simp;omega
  ·have:=ih (by omega);simp [h2 n e];omega
def eT (f:Fun) (done tr:List Int):Nat:=((List.range f.2.2.2.1.length).map fun(k:Nat)=>(aW f k).length - cnt tr k).sum+(f.2.2.2.1.length - done.length)
def Dfs (f:Fun) (way done tr:List Int) (mt:List Bool):Prop:=
 finF f tr way.reverse done=cL f f.2.2.2.1.length 0 [] []∧(way.Nodup∧Num f.2.2.2.1.length way)∧(done.Nodup∧Num f.2.2.2.1.length done)∧(∀m∈done,m ∉ way)∧
 tr.length=f.2.2.2.1.length∧mt.length=f.2.2.2.1.length∧(∀k:Nat,k < f.2.2.2.1.length→mt[k]? =some (az done k || az way k))∧
 (∀k:Nat,k < f.2.2.2.1.length→∃c:Nat,tr[k]? =some (c:Int)∧c≤(aW f k).length∧((az done k || az way k)=false→c=0))
theorem kC {tr:List Int} {k c:Nat} (h:tr[k]? =some (c:Int)):cnt tr k=c:=by
 unfold cnt;rw [Int.toNat_natCast,List.getD_eq_getElem?_getD,h];simp
theorem tL {tr:List Int} {k:Nat} (hk:k < tr.length) (c:Nat):cnt (tr.set k (c:Int)) k=c:=kC (by rw [List.getElem?_set];simp [hk])
theorem lj {tr:List Int} {k:Nat} (c:Int) {m:Int} (hm:0≤m) (h:m≠k):cnt (tr.set k c) m=cnt tr m:=by
 unfold cnt;rw [List.getD_eq_getElem?_getD,List.getD_eq_getElem?_getD,List.getElem?_set_ne (by omega)]
theorem Dfs.start {f:Fun} (h0:0 < f.2.2.2.1.length):Dfs f [0] [] (List.replicate f.2.2.2.1.length 0) ((List.replicate f.2.2.2.1.length false).set 0 true):=by
 refine⟨?_,⟨by simp,fun m hm=>by simp at hm;subst hm;omega⟩,⟨List.nodup_nil,fun m hm=>by simp at hm⟩,by simp,by simp,by simp,?_,?_⟩
 ·obtain⟨M,hM⟩:∃M,f.2.2.2.1.length=M+1:=⟨f.2.2.2.1.length - 1,by omega⟩;have hc:cnt (List.replicate (M+1) 0) 0=0:=by simp [cnt]
  rw [hM,eB];show finF f _ [0] []=_;rw [finF,finF,hc,hM];simp
 ·intro k hk;rw [List.getElem?_set];by_cases e:0=k
  ·subst e;simp [h0,az]
  ·rw [if_neg e,List.getElem?_replicate,if_pos hk];have:¬(0:Int)=(k:Int):=(by omega);simp [az,this]
 ·intro k hk;exact⟨0,by rw [List.getElem?_replicate,if_pos hk];rfl,Nat.zero_le _,fun _=>rfl⟩
theorem Dfs.ended {f:Fun} {done tr:List Int} {mt:List Bool} (h:Dfs f [] done tr mt):done=cL f f.2.2.2.1.length 0 [] []:=h.1
theorem Dfs.pop {f:Fun} {up done tr:List Int} {mt:List Bool} {k:Nat} (h:Dfs f (up ++ [(k:Int)]) done tr mt) (hc:tr[k]? =some (((aW f k).length:Nat):Int)):
  Dfs f up (done ++ [(k:Int)]) tr mt∧eT f (done ++ [(k:Int)]) tr < eT f done tr:=by
 obtain⟨h1,h2,h3,h4,h5,h6,h7,h8⟩:=h;rw [List.reverse_append] at h1;have hk:=h2.2 (k:Int) (by simp);have hd:(done ++ [(k:Int)]).Nodup∧Num f.2.2.2.1.length (done ++ [(k:Int)]):=by
  refine⟨List.nodup_append.2 ⟨h3.1,by simp,?_⟩,?_⟩
  ·rintro x hx y hy rfl;simp at hy;exact h4 x hx (by simp [hy])
  ·intro m hm;rcases List.mem_append.1 hm with hm | hm
   ·exact h3.2 m hm
   ·simp at hm;subst hm;exact hk
 have hn:=List.nodup_append.1 h2.1;have hku:(k:Int) ∉ up:=fun h=>hn.2.2 _ h _ (by simp) rfl;refine⟨⟨?_,⟨hn.1,fun m hm=>h2.2 m (by simp [hm])⟩,hd,?_,h5,h6,?_,?_⟩,?_⟩
 ·rw [←h1];exact(C0 (by rw [Int.toNat_natCast,kC hc];exact Nat.le_refl _)).symm
 ·intro m hm;rcases List.mem_append.1 hm with hm | hm
  ·exact fun h=>h4 m hm (by simp [h])
  ·simp at hm;subst hm;exact hku
 ·intro j hj;rw [h7 j hj,fm,fm]
  cases az done j <;> cases az up j <;> cases az [(k:Int)] j <;> rfl
 ·intro j hj;obtain⟨c,q1,q2,q3⟩:=h8 j hj;refine⟨c,q1,q2,fun e=>q3 ?_⟩;rw [←e,fm,fm]
  cases az done j <;> cases az up j <;> cases az [(k:Int)] j <;> rfl
 ·have:=dU _ _ hd.1 hd.2;simp at this;unfold eT;simp only [List.length_append,List.length_singleton];omega
theorem rO {f:Fun} {done tr:List Int} {k c:Nat} (hk:k < f.2.2.2.1.length) (ht:tr.length=f.2.2.2.1.length) (hc:tr[k]? =some (c:Int)) (hl:c < (aW f k).length):eT f done (tr.set k ((c:Int)+1)) < eT f done tr:=by
 have h:=Fc (fun(j:Nat)=>(aW f j).length - cnt tr j) (fun(j:Nat)=>(aW f j).length - cnt (tr.set k ((c+1:Nat):Int)) j) k (by
  simp only [tL (tr:=tr) (by omega:k < tr.length) (c+1),kC hc];omega) (fun j hj=>by
  simp only [lj (tr:=tr) (k:=k) ((c+1:Nat):Int) (m:=(j:Int)) (by omega) (by omega)]) _ hk
 unfold eT;rw [show((c:Int)+1)=((c+1:Nat):Int) by omega];omega
theorem Dfs.counts {f:Fun} {way done tr:List Int} {k c:Nat} (h5:tr.length=f.2.2.2.1.length) (hk:k < f.2.2.2.1.length) (hw:az way k=true) (hl:c < (aW f k).length)
  (h8:∀j:Nat,j < f.2.2.2.1.length→∃d:Nat,tr[j]? =some (d:Int)∧d≤(aW f j).length∧((az done j || az way j)=false→d=0)):
  ∀j:Nat,j < f.2.2.2.1.length→∃d:Nat,(tr.set k ((c:Int)+1))[j]? =some (d:Int)∧d≤(aW f j).length∧((az done j || az way j)=false→d=0):=by
 intro j hj;by_cases e:j=k
 ·subst e;exact⟨c+1,by rw [List.getElem?_set];simp [h5,hj],hl,fun h=>by simp [hw] at h⟩
 ·obtain⟨d,q1,q2,q3⟩:=h8 j hj;exact⟨d,by rw [List.getElem?_set_ne (by omega)];exact q1,q2,q3⟩
theorem Dfs.old {f:Fun} {up done tr:List Int} {mt:List Bool} {k c m:Nat} (h:Dfs f (up ++ [(k:Int)]) done tr mt) (hc:tr[k]? =some (c:Int)) (hm:(aW f k)[c]? =some (m:Int)) (hM:m < f.2.2.2.1.length) (hb:mt[m]? =some true):
  Dfs f (up ++ [(k:Int)]) done (tr.set k ((c:Int)+1)) mt∧eT f done (tr.set k ((c:Int)+1)) < eT f done tr:=by
 obtain⟨h1,h2,h3,h4,h5,h6,h7,h8⟩:=h;have hk:k < f.2.2.2.1.length:=by have:=(h2.2 (k:Int) (by simp)).2;omega
 have hl:c < (aW f k).length:=(List.getElem?_eq_some_iff.1 hm).1;have hn:=List.nodup_append.1 h2.1;have hku:(k:Int) ∉ up:=fun h=>hn.2.2 _ h _ (by simp) rfl;refine⟨⟨?_,h2,h3,h4,by simpa using h5,h6,h7,Dfs.counts h5 hk (by rw [bL];simp) hl h8⟩,rO hk h5 hc hl⟩;rw [←h1,List.reverse_append];refine(DZ (m:=(m:Int)) ?_ ?_ ?_ ?_).symm
 ·rw [Int.toNat_natCast,kC hc];exact hm
 ·rw [kC hc];exact tL (by omega) (c+1)
 ·intro x hx;have hx':x∈up:=by simpa using hx
  exact(lj _ (h2.2 x (by simp [hx'])).1 (fun e=>hku (e ▸ hx'))).symm
 ·have:=h7 m hM;rw [hb] at this;injection this with this;rw [fm] at this;show az done m=true∨az (up.reverse.reverse ++ [(k:Int)]) m=true;rw [List.reverse_reverse,fm]
  cases hd:az done m with
  |true=>exact .inl rfl
  |false=>rw [hd] at this;right;simpa using this.symm
theorem Dfs.new {f:Fun} {up done tr:List Int} {mt:List Bool} {k c m:Nat} (h:Dfs f (up ++ [(k:Int)]) done tr mt) (hc:tr[k]? =some (c:Int)) (hm:(aW f k)[c]? =some (m:Int)) (hM:m < f.2.2.2.1.length) (hb:mt[m]? =some false):
  Dfs f (up ++ [(k:Int)] ++ [(m:Int)]) done (tr.set k ((c:Int)+1)) (mt.set m true)∧eT f done (tr.set k ((c:Int)+1)) < eT f done tr:=by
 obtain⟨h1,h2,h3,h4,h5,h6,h7,h8⟩:=h;have hk:k < f.2.2.2.1.length:=by have:=(h2.2 (k:Int) (by simp)).2;omega
 have hl:c < (aW f k).length:=(List.getElem?_eq_some_iff.1 hm).1;have hn:=List.nodup_append.1 h2.1;have hku:(k:Int) ∉ up:=fun h=>hn.2.2 _ h _ (by simp) rfl;have hb2:=h7 m hM;rw [hb] at hb2;injection hb2 with hb2;obtain⟨hd,hw⟩:=Bool.or_eq_false_iff.1 hb2.symm;have hmk:m≠k:=by
  rintro rfl;rw [fm] at hw;simp [az] at hw
 have hnw:(up ++ [(k:Int)] ++ [(m:Int)]).Nodup∧Num f.2.2.2.1.length (up ++ [(k:Int)] ++ [(m:Int)]):=by
  refine⟨List.nodup_append.2 ⟨h2.1,by simp,?_⟩,?_⟩
  ·rintro x hx y hy rfl;simp at hy;exact eO.1 hw (hy ▸ hx)
  ·intro x hx;rcases List.mem_append.1 hx with hx | hx
   ·exact h2.2 x hx
   ·simp at hx;subst hx;omega
 have hlen:=dU _ _ hnw.1 hnw.2;simp at hlen;refine⟨⟨?_,hnw,h3,?_,by simpa using h5,by simpa using h6,?_,?_⟩,rO hk h5 hc hl⟩
 ·rw [←h1,List.reverse_append,List.reverse_append];refine(DH (m:=(m:Int)) ?_ ?_ ?_ hd ?_ ?_ ?_).symm
  ·rw [Int.toNat_natCast,kC hc];exact hm
  ·rw [kC hc];exact tL (by omega) (c+1)
  ·intro x hx;have hx':x∈up:=(by simpa using hx);exact(lj _ (h2.2 x (by simp [hx'])).1 (fun e=>hku (e ▸ hx'))).symm
  ·show az (up.reverse.reverse ++ [(k:Int)]) m=false;rw [List.reverse_reverse];exact hw
  ·rw [lj _ (by omega) (by omega)];obtain⟨d,q1,_,q3⟩:=h8 m hM;rw [kC q1];exact q3 (by rw [hd,hw];rfl)
  ·simp;omega
 ·intro x hx hx2;rcases List.mem_append.1 hx2 with hx2 | hx2
  ·exact h4 x hx hx2
  ·simp at hx2;subst hx2;exact eO.1 hd hx
 ·intro j hj;rw [List.getElem?_set];by_cases e:m=j
  ·subst e;rw [if_pos rfl,if_pos (by omega),fm _ [(m:Int)]];simp [az]
  ·rw [if_neg e,h7 j hj,fm _ [(m:Int)]];have:¬(m:Int)=(j:Int):=(by omega);simp [az,this]
 ·intro j hj;obtain⟨d,q1,q2,q3⟩:=Dfs.counts (done:=done) h5 hk (by rw [bL];simp) hl h8 j hj;refine⟨d,q1,q2,fun e=>q3 ?_⟩;rw [fm _ [(m:Int)]] at e;simp only [Bool.or_eq_false_iff] at e ⊢;exact⟨e.1,e.2.1⟩
theorem xy {l:List Int} {m n:Int}:j6 (l ++ [m]) n=if az l n then j6 l n else if m=n then(l.length:Int)else -1:=by
 have key:∀(l:List Int) (i:Nat),placeAt (l ++ [m]) n i=if az l n then placeAt l n i else if m=n then((i+l.length:Nat):Int)else -1:=by
  intro l;induction l with
  |nil=>intro i;simp [placeAt,az]
  |cons x l ih=>
   intro i;by_cases e:x=n
   ·simp [placeAt,az,e]
   ·rw [List.cons_append,placeAt,if_neg e,ih];have:az (x :: l) n=az l n:=(by simp [az,e]);rw [this,placeAt,if_neg e];have e2:i+1+l.length=i+(x :: l).length:=(by simp only [List.length_cons];omega);rw [e2]
 have:=key l 0;simpa [j6] using this
def dM (n:Nat) (l:List Int):List Int:=(List.range n).map fun(k:Nat)=>j6 l (k:Int)
theorem tH (n:Nat) (l:List Int):(dM n l).length=n:=by simp [dM]
theorem tf (n:Nat):dM n []=List.replicate n (-1):=by
 unfold dM;apply List.ext_getElem?;intro j;rw [List.getElem?_map,List.getElem?_replicate];by_cases h:j < n
 ·rw [List.getElem?_range h,if_pos h];rfl
 ·rw [List.getElem?_eq_none (by simpa using h),if_neg h];rfl
theorem rl {n:Nat} {l:List Int} {m:Nat} (h:az l m=false):dM n (l ++ [(m:Int)])=(dM n l).set m (l.length:Int):=by
 unfold dM;apply List.ext_getElem?;intro j;rw [List.getElem?_set,List.getElem?_map,List.getElem?_map,List.length_map,List.length_range];by_cases hj:j < n
 ·rw [List.getElem?_range hj,Option.map_some,Option.map_some,xy];by_cases e:m=j
  ·subst e;rw [if_pos rfl,if_pos hj,h];simp
  ·rw [if_neg e];have e2:¬(m:Int)=(j:Int):=by omega
   cases hh:az l j with
   |true=>simp
   |false=>rw [if_neg (by simp),if_neg e2,←sF hh]
 ·have:(List.range n)[j]? =none:=List.getElem?_eq_none (by simpa using hj);rw [this];by_cases e:m=j
  ·subst e;simp [hj]
  ·rw [if_neg e];rfl
theorem Ad (f:Fun):dD f=dM f.2.2.2.1.length (aC f):=rfl
def ku (but:Int) (met:List Int) (m:Int):List Int:=if m=but then met else jZ met m
theorem qG {but m:Int} {met:List Int} (h:m=but):ku but met m=met:=if_pos h
theorem pT {but m:Int} {met:List Int} (h:m≠but) (hh:az met m=true):ku but met m=met:=(if_neg h).trans (kF hh)
theorem qJ {but m:Int} {met:List Int} (h:m≠but) (hh:az met m=false):ku but met m=met ++ [m]:=(if_neg h).trans (nj hh)
def fO (n:Nat) (l:List Int):Prop:=l.Nodup∧Num n l
theorem fO.nil (n:Nat):fO n []:=⟨List.nodup_nil,fun m hm=>by simp at hm⟩
theorem fO.ku {n:Nat} {met:List Int} (h:fO n met) (but:Int) {m:Int} (hm:0≤m∧m < n):fO n (ku but met m):=by
 by_cases h1:m=but
 ·rw [qG h1];exact h
 ·cases h2:az met m with
  |true=>rw [pT h1 h2];exact h
  |false=>
   rw [qJ h1 h2];refine⟨List.nodup_append.2 ⟨h.1,by simp,?_⟩,?_⟩
   ·rintro x hx y hy rfl;simp at hy;subst hy;exact eO.1 h2 hx
   ·intro x hx;rcases List.mem_append.1 hx with hx | hx
    ·exact h.2 x hx
    ·simp at hx;subst hx;exact hm
def aX (but:Int) (met l:List Int):List Int:=l.foldl (ku but) met
theorem fO.aX {n:Nat} (but:Int):∀(l met:List Int),fO n met→Num n l→fO n (aX but met l):=by
 intro l;induction l with
 |nil=>intro met h _;exact h
 |cons m l ih=>intro met h hl;exact ih _ (h.ku but (hl m (by simp))) (fun x hx=>hl x (by simp [hx]))
theorem G8 (met:List Int) (m:Int):met.length≤(jZ met m).length:=by
 unfold jZ;split
 ·omega
 ·simp
theorem Ie (but:Int) (met:List Int) (m:Int):met.length≤(ku but met m).length:=by
 unfold ku;split
 ·omega
 ·exact G8 _ _
theorem nM (but:Int):∀(l met:List Int),met.length≤(aX but met l).length:=by
 intro l;induction l with
 |nil=>intro met;exact Nat.le_refl _
 |cons m l ih=>intro met;exact Nat.le_trans (Ie but met m) (ih _)
theorem Num.take {n:Nat} {l:List Int} (h:Num n l) (k:Nat):Num n (l.take k):=fun x hx=>h x (List.mem_of_mem_take hx)
def growE (ll:List (List Int)) (but:Int):Nat→Nat→List Int→List Int
 |0,_,met=>met
 |N+1,i,met=>match met[i]? with
  |none=>met
  |some m=>growE ll but N (i+1) (aX but met (ll.getD m.toNat []))
def iJ (ll:List (List Int)) (frm:List Int) (but:Int):List Int:=growE ll but (ll.length+1) 0 (aX but [] frm)
theorem nR {ll:List (List Int)} {but:Int} {N i:Nat} {met:List Int} (h:met.length≤i):growE ll but N i met=met:=by
 cases N with
 |zero=>rfl
 |succ N=>rw [growE,List.getElem?_eq_none h]
theorem mC {ll:List (List Int)} {but m:Int} {N i:Nat} {met:List Int} (h:met[i]? =some m):growE ll but (N+1) i met=growE ll but N (i+1) (aX but met (ll.getD m.toNat [])):=by
 rw [growE,h]
def Gb (ll:List (List Int)) (frm:List Int) (but:Int):Nat→Int→Prop
 |0,m=>m∈frm∧m≠but
 |n+1,m=>∃b,Gb ll frm but n b∧m∈ll.getD b.toNat []∧m≠but
def Rch (ll:List (List Int)) (frm:List Int) (but m:Int):Prop:=∃n,Gb ll frm but n m
theorem Rch.start {ll:List (List Int)} {frm:List Int} {but m:Int} (h:m∈frm) (hb:m≠but):Rch ll frm but m:=⟨0,h,hb⟩
theorem Rch.step {ll:List (List Int)} {frm:List Int} {but m c:Int} (h:Rch ll frm but m) (hc:c∈ll.getD m.toNat []) (hb:c≠but):Rch ll frm but c:=by
 obtain⟨n,h⟩:=h;exact⟨n+1,m,h,hc,hb⟩
theorem Rch.xD {ll:List (List Int)} {frm:List Int} {but:Int} {Q:Int→Prop} (h0:∀m,m∈frm→m≠but→Q m) (hs:∀b c,Rch ll frm but b→Q b→c∈ll.getD b.toNat []→c≠but→Q c):∀m,Rch ll frm but m→Q m:=by
 have key:∀n m,Gb ll frm but n m→Q m:=by
  intro n;induction n with
  |zero=>intro m h;exact h0 m h.1 h.2
  |succ n ih=>
   rintro m ⟨b,h1,h2,h3⟩;exact hs b m ⟨n,h1⟩ (ih b h1) h2 h3
 rintro m ⟨n,h⟩;exact key n m h
theorem Rch.ne {ll:List (List Int)} {frm:List Int} {but m:Int} (h:Rch ll frm but m):m≠but:=by
 refine Rch.xD (Q:=fun m=>m≠but) (fun m _ h=>h) (fun b c _ _ _ h=>h) m h
theorem Ee {met:List Int} {n m:Int}:m∈jZ met n↔m∈met∨m=n:=by
 unfold jZ
 cases h:az met n with
 |true=>
  simp only [if_true];constructor
  ·exact .inl
  ·rintro (h1 | rfl)
   ·exact h1
   ·exact bL.1 h
 |false=>simp
theorem Eb {but n m:Int} {met:List Int}:m∈ku but met n↔m∈met∨(m=n∧m≠but):=by
 unfold ku;by_cases h:n=but
 ·rw [if_pos h];constructor
  ·exact .inl
  ·rintro (h1 | ⟨rfl,h2⟩)
   ·exact h1
   ·exact absurd h h2
 ·rw [if_neg h,Ee];constructor
  ·rintro (h1 | rfl)
   ·exact .inl h1
   ·exact .inr ⟨rfl,h⟩
  ·rintro (h1 | ⟨rfl,_⟩)
   ·exact .inl h1
   ·exact .inr rfl
theorem js {but m:Int}:∀(l met:List Int),m∈aX but met l↔m∈met∨(m∈l∧m≠but):=by
 intro l;induction l with
 |nil=>intro met;simp [aX]
 |cons n l ih=>
  intro met;have e:aX but met (n :: l)=aX but (ku but met n) l:=rfl;rw [e,ih,Eb];constructor
  ·rintro ((h | ⟨rfl,h2⟩) | ⟨h1,h2⟩)
   ·exact .inl h
   ·exact .inr ⟨by simp,h2⟩
   ·exact .inr ⟨by simp [h1],h2⟩
  ·rintro (h | ⟨h1,h2⟩)
   ·exact .inl (.inl h)
   ·rcases List.mem_cons.1 h1 with rfl | h1
    ·exact .inl (.inr ⟨rfl,h2⟩)
    ·exact .inr ⟨h1,h2⟩
theorem gM (but:Int):∀(l met:List Int) (i:Nat) (m:Int),met[i]? =some m→(aX but met l)[i]? =some m:=by
 intro l;induction l with
 |nil=>intro met i m h;exact h
 |cons n l ih=>
  intro met i m h;have e:aX but met (n :: l)=aX but (ku but met n) l:=rfl;rw [e];refine ih _ i m ?_;unfold ku jZ;split
  ·exact h
  ·split
   ·exact h
   ·rw [List.getElem?_append_left (List.getElem?_eq_some_iff.1 h).1];exact h
def EL (ll:List (List Int)) (but:Int) (I:Nat) (met:List Int):Prop:=∀(j:Nat) (m c:Int),j < I→met[j]? =some m→c∈ll.getD m.toNat []→c≠but→c∈met
theorem pC {ll:List (List Int)} {but:Int} (hen:∀l∈ll,Num ll.length l):∀(N I:Nat) (met:List Int),fO ll.length met→I≤met.length→ll.length+1≤N+I→EL ll but I met→
  (∀m∈met,m∈growE ll but N I met)∧(∀m c,m∈growE ll but N I met→c∈ll.getD m.toNat []→c≠but→c∈growE ll but N I met)∧fO ll.length (growE ll but N I met)∧
  (∀Q:Int→Prop,(∀m∈met,Q m)→(∀m c,Q m→c∈ll.getD m.toNat []→c≠but→Q c)→∀m∈growE ll but N I met,Q m):=by
 intro N;induction N with
 |zero=>
  intro I met hn hI hf _;have:=dU _ _ hn.1 hn.2;omega
 |succ N ih=>
  intro I met hn hI hf hc
  cases hm:met[I]? with
  |none=>
   have hl:=List.getElem?_eq_none_iff.1 hm;rw [nR hl];refine⟨fun _ h=>h,fun m c hm hcc hb=> ?_,hn,fun Q h _=>h⟩;obtain⟨j,hj,rfl⟩:=List.mem_iff_getElem.1 hm;exact hc j _ c (by omega) (List.getElem?_eq_getElem hj) hcc hb
  |some m=>
   rw [mC hm];have hml:=hn.2 m (List.mem_of_getElem? hm);have hnum:Num ll.length (ll.getD m.toNat []):=by
    intro x hx;rw [List.getD_eq_getElem?_getD] at hx
    cases hg:ll[m.toNat]? with
    |none=>rw [hg] at hx;simp at hx
    |some l=>rw [hg] at hx;exact hen l (List.mem_of_getElem? hg) x (by simpa using hx)
   have hge:met.length≤(aX but met (ll.getD m.toNat [])).length:=nM _ _ _;have hlt:=(List.getElem?_eq_some_iff.1 hm).1;obtain⟨i1,i2,i3,i4⟩:=ih (I+1) (aX but met (ll.getD m.toNat [])) (fO.aX but _ _ hn hnum) (by omega) (by omega) (by
    intro j x c hj hx hcc hb;rw [js];by_cases e:j=I
    ·subst e;rw [gM but _ _ _ _ hm] at hx;injection hx with hx;subst hx;exact .inr ⟨hcc,hb⟩
    ·have hjl:j < met.length:=(by omega);have hx2:met[j]? =some met[j]:=List.getElem?_eq_getElem hjl;rw [gM but _ _ _ _ hx2] at hx;injection hx with hx;exact .inl (hc j x c (by omega) (by rw [hx2,hx]) hcc hb))
   refine⟨fun x hx=>i1 x (js _ _ |>.2 (.inl hx)),i2,i3,fun Q h0 hs x hx=>i4 Q ?_ hs x hx⟩;intro y hy;rcases(js _ _).1 hy with hy | ⟨hy,hb⟩
   ·exact h0 y hy
   ·exact hs m y (h0 m (List.mem_of_getElem? hm)) hy hb
theorem pR {ll:List (List Int)} {frm:List Int} {but:Int} (hen:∀l∈ll,Num ll.length l) (hfn:Num ll.length frm) (m:Int):m∈iJ ll frm but↔Rch ll frm but m:=by
 obtain⟨h1,h2,_,h4⟩:=pC (but:=but) hen (ll.length+1) 0 (aX but [] frm) (fO.aX but _ _ (fO.nil _) hfn) (Nat.zero_le _) (by omega) (fun j _ _ hj=>by omega);constructor
 ·intro hm;refine h4 (Rch ll frm but) (fun x hx=> ?_) (fun x c hx hc hb=>hx.step hc hb) m hm;rcases(js _ _).1 hx with hx | ⟨hx,hb⟩
  ·cases hx
  ·exact Rch.start hx hb
 ·intro hm;refine Rch.xD (Q:=fun m=>m∈iJ ll frm but) (fun x hx hb=>h1 x ((js _ _).2 (.inr ⟨hx,hb⟩))) (fun x c _ hx hc hb=>h2 x c hx hc hb) m hm
theorem Ep {ll:List (List Int)} {frm:List Int} {but:Int} (hen:∀l∈ll,Num ll.length l) (hfn:Num ll.length frm):fO ll.length (iJ ll frm but):=
 (pC (but:=but) hen (ll.length+1) 0 (aX but [] frm) (fO.aX but _ _ (fO.nil _) hfn) (Nat.zero_le _) (by omega) (fun j _ _ hj=>by omega)).2.2.1
def All (ll:List (List Int)) (m:Int):Prop:=Rch ll [0] (-1) m
def Ahd (ll:List (List Int)) (a b:Int):Prop:=All ll a∧All ll b∧(a=b∨¬Rch ll [0] a b)
theorem Rch.all {ll:List (List Int)} {a m:Int} (hen:∀l∈ll,Num ll.length l) (h:Rch ll [0] a m):All ll m:=by
 refine Rch.xD (Q:=fun m=>All ll m) (fun m hm _=>Rch.start hm (by simp at hm;omega)) (fun b c _ hb hc _=>hb.step hc ?_) m h;intro e;rw [List.getD_eq_getElem?_getD] at hc
 cases hg:ll[b.toNat]? with
 |none=>rw [hg] at hc;simp at hc
 |some l=>rw [hg] at hc;have:=hen l (List.mem_of_getElem? hg) c (by simpa using hc);omega
theorem Ahd.refl {ll:List (List Int)} {a:Int} (h:All ll a):Ahd ll a a:=⟨h,h,.inl rfl⟩
theorem Ahd.trans {ll:List (List Int)} {a b c:Int} (h:Ahd ll a b) (k:Ahd ll b c):Ahd ll a c:=by
 refine⟨h.1,k.2.1,?_⟩;rcases h.2.2 with rfl | h2
 ·exact k.2.2
 rcases k.2.2 with rfl | k2
 ·exact .inr h2
 right;intro hr;refine k2 (Rch.xD (Q:=fun m=>Rch ll [0] b m) (fun m hm hb=>Rch.start hm ?_) (fun x y hx hy hc hb=>hy.step hc ?_) c hr)
 ·rintro rfl;exact h2 (Rch.start hm hb)
 ·rintro rfl;exact h2 (hx.step hc hb)
theorem Ahd.tU {ll:List (List Int)} {a b:Int} (h:Ahd ll a b) (k:Ahd ll b a):a=b:=by
 by_cases hab:a=b
 ·exact hab
 exfalso;have h2:=h.2.2.resolve_left hab;have k2:=k.2.2.resolve_left (fun e=>hab e.symm);have key:∀m,All ll m→Rch ll [0] a m∧Rch ll [0] b m:=by
  refine Rch.xD (fun m hm _=> ?_) (fun x y _ hx hc _=> ?_)
  ·have ha:m≠a:=(by rintro rfl;exact k2 (Rch.start hm hab));have hb:m≠b:=(by rintro rfl;exact h2 (Rch.start hm ha));exact⟨Rch.start hm ha,Rch.start hm hb⟩
  ·have ha:y≠a:=(by rintro rfl;exact k2 (hx.2.step hc hab));have hb:y≠b:=(by rintro rfl;exact h2 (hx.1.step hc ha));exact⟨hx.1.step hc ha,hx.2.step hc hb⟩
 exact h2 (key b h.2.1).1
theorem Ahd.chain {ll:List (List Int)} {x y z:Int} (h:Ahd ll x z) (k:Ahd ll y z):Ahd ll x y∨Ahd ll y x:=by
 by_cases h1:Ahd ll x y
 ·exact .inl h1
 by_cases h2:Ahd ll y x
 ·exact .inr h2
 exfalso;have hxy:x≠y:=by rintro rfl;exact h1 (Ahd.refl h.1)
 have r1:Rch ll [0] x y:=Classical.byContradiction fun e=>h1 ⟨h.1,k.1,.inr e⟩;have r2:Rch ll [0] y x:=Classical.byContradiction fun e=>h2 ⟨k.1,h.1,.inr e⟩;have key:∀m,All ll m→Rch ll [0] x m∨Rch ll [0] y m:=by
  refine Rch.xD (fun m hm _=> ?_) (fun b c _ hb hc _=> ?_)
  ·by_cases e:m=x
   ·subst e;exact .inr r2
   ·exact .inl (Rch.start hm e)
  ·rcases hb with hb | hb
   ·by_cases e:c=x
    ·subst e;exact .inr r2
    ·exact .inl (hb.step hc e)
   ·by_cases e:c=y
    ·subst e;exact .inl r1
    ·exact .inr (hb.step hc e)
 rcases key z h.2.1 with e | e
 ·rcases h.2.2 with rfl | h3
  ·exact h2 k
  ·exact h3 e
 ·rcases k.2.2 with rfl | k3
  ·exact h1 h
  ·exact k3 e
theorem Rch.lC {ll:List (List Int)} {m:Int}:¬Rch ll [0] 0 m:=by
 intro h;exact Rch.xD (Q:=fun _=>False) (fun m hm hb=>hb (by simpa using hm)) (fun _ _ _ h _ _=>h) m h
theorem All.first (ll:List (List Int)):All ll 0:=Rch.start (by simp) (by omega)
theorem Ahd.first {ll:List (List Int)} {m:Int} (h:All ll m):Ahd ll 0 m:=⟨All.first ll,h,.inr Rch.lC⟩
def lV (p:Nat→Bool) (n:Nat):Nat:=((List.range n).filter p).length
theorem jt (p:Nat→Bool) (n:Nat):lV p (n+1)=lV p n+(if p n then 1 else 0):=by
 unfold lV;rw [List.range_succ,List.filter_append,List.length_append]
 cases h:p n <;> simp [h]
theorem ug {p q:Nat→Bool}:∀n,(∀x,x < n→p x=true→q x=true)→lV p n≤lV q n:=by
 intro n;induction n with
 |zero=>intro _;exact Nat.le_refl _
 |succ n ih=>
  intro h;rw [jt,jt];have h1:=ih (fun x hx=>h x (by omega));have h2:=h n (by omega)
  cases hp:p n with
  |false=>simp;omega
  |true=>rw [h2 hp];simp;omega
theorem BQ {p q:Nat→Bool} (n:Nat) (h:∀x,x < n→p x=q x):lV p n=lV q n:=
 Nat.le_antisymm (ug n fun x hx hp=>by rw [←h x hx];exact hp) (ug n fun x hx hp=>by rw [h x hx];exact hp)
theorem vq {p q:Nat→Bool} {y:Nat} (hy:p y=false):∀n,y < n→(∀x,x < n→q x=(p x || decide (x=y)))→lV q n=lV p n+1:=by
 intro n;induction n with
 |zero=>intro h;omega
 |succ n ih=>
  intro hn h;rw [jt,jt,h n (by omega)];by_cases e:n=y
  ·subst e;have:lV q n=lV p n:=BQ n fun x hx=>by rw [h x (by omega)];simp;omega
   rw [this,hy];simp
  ·have:=ih (by omega) (fun x hx=>h x (by omega));rw [this];simp [e];omega
theorem Gx {p q:Nat→Bool} {y n:Nat} (hy:p y=false) (hq:q y=true) (hn:y < n) (h:∀x,x < n→p x=true→q x=true):lV p n < lV q n:=by
 have h1:=vq (p:=p) (q:=fun x=>p x || decide (x=y)) hy n hn (fun x _=>rfl);have h2:=ug (p:=fun x=>p x || decide (x=y)) (q:=q) n (fun x hx hp=>by
  simp only [Bool.or_eq_true,decide_eq_true_eq] at hp;rcases hp with hp | rfl
  ·exact h x hx hp
  ·exact hq)
 omega
theorem J1 (g:Int→Nat):∀(l:List Int),l≠ []→∃a∈l,∀c∈l,g c≤g a:=by
 intro l;induction l with
 |nil=>intro h;exact absurd rfl h
 |cons x l ih=>
  intro _;by_cases h:l= []
  ·subst h;exact⟨x,by simp,fun c hc=>by simp at hc;subst hc;exact Nat.le_refl _⟩
  ·obtain⟨a,ha,hm⟩:=ih h;by_cases e:g a≤g x
   ·refine⟨x,by simp,fun c hc=> ?_⟩;rcases List.mem_cons.1 hc with rfl | hc
    ·exact Nat.le_refl _
    ·exact Nat.le_trans (hm c hc) e
   ·refine⟨a,by simp [ha],fun c hc=> ?_⟩;rcases List.mem_cons.1 hc with rfl | hc
    ·omega
    ·exact hm c hc
def cd (ll:List (List Int)) (a b:Int):Bool:=az (iJ ll [0] (-1)) a && az (iJ ll [0] (-1)) b && (decide (a=b) || !az (iJ ll [0] a) b)
def bf (ll:List (List Int)) (b:Int):Nat:=lV (fun a=>decide ((a:Int)≠b) && cd ll a b) ll.length
def Gr (ll:List (List Int)):Prop:=(∀l∈ll,Num ll.length l)∧0 < ll.length
theorem Gr.frm {ll:List (List Int)} (h:Gr ll):Num ll.length [0]:=fun m hm=>by
 have:=h.2;simp at hm;subst hm;omega
theorem AW {ll:List (List Int)} (h:Gr ll) (m:Int):az (iJ ll [0] (-1)) m=true↔All ll m:=by rw [bL];exact pR h.1 h.frm m
theorem All.num {ll:List (List Int)} (h:Gr ll) {m:Int} (hm:All ll m):0≤m∧m < ll.length:=(Ep h.1 h.frm).2 m ((pR h.1 h.frm m).2 hm)
theorem cn {ll:List (List Int)} (h:Gr ll) (a b:Int):cd ll a b=true↔Ahd ll a b:=by
 unfold cd Ahd;rw [Bool.and_eq_true,Bool.and_eq_true,AW h,AW h,Bool.or_eq_true,decide_eq_true_eq,Bool.not_eq_true',←Bool.not_eq_true,bL,pR h.1 h.frm,and_assoc]
theorem pE {ll:List (List Int)} (h:Gr ll) (a b:Int):cd ll a b=false↔¬Ahd ll a b:=by rw [←cn h];simp
theorem mK {ll:List (List Int)} (h:Gr ll) {a b:Int} (hab:Ahd ll a b) (hne:a≠b):bf ll a < bf ll b:=by
 obtain⟨h0,h1⟩:=hab.1.num h;obtain⟨A,rfl⟩:∃A:Nat,a=(A:Int):=⟨a.toNat,by omega⟩;refine Gx (y:=A) (by simp) (by simp [hne,(cn h _ _).2 hab]) (by omega) (fun x hx hp=> ?_);simp only [Bool.and_eq_true,decide_eq_true_eq,cn h] at hp ⊢;refine⟨?_,hp.2.trans hab⟩;rintro rfl;exact hne (hab.tU hp.2)
theorem Ea {ll:List (List Int)} (h:Gr ll) {b:Int} (hb:All ll b) (h0:b≠0):∃a,Ahd ll a b∧a≠b∧bf ll a+1=bf ll b∧∀c,Ahd ll c b→c≠b→Ahd ll c a:=by
 obtain⟨a,ha,hm⟩:=J1 (bf ll) (((List.range ll.length).filter fun(a:Nat)=>decide ((a:Int)≠b) && cd ll a b).map Int.ofNat) (by
  intro e;have:(0:Int)∈((List.range ll.length).filter fun(a:Nat)=>decide ((a:Int)≠b) && cd ll a b).map Int.ofNat:=
   List.mem_map.2 ⟨0,List.mem_filter.2 ⟨by simpa using h.2,by simp only [Bool.and_eq_true,decide_eq_true_eq,cn h];exact⟨fun e=>h0 (by rw [←e];rfl),Ahd.first hb⟩⟩,rfl⟩
  rw [e] at this
  cases this)
 obtain⟨A,hA,rfl⟩:=List.mem_map.1 ha;obtain⟨hAr,hAp⟩:=List.mem_filter.1 hA;simp only [Bool.and_eq_true,decide_eq_true_eq,cn h] at hAp;have last:∀c,Ahd ll c b→c≠b→Ahd ll c A:=by
  intro c hc hne;obtain⟨c0,c1⟩:=hc.1.num h;obtain⟨C,rfl⟩:∃C:Nat,c=(C:Int):=⟨c.toNat,by omega⟩;rcases hc.chain hAp.2 with k | k
  ·exact k
  ·by_cases e:(A:Int)=C
   ·rw [e];exact Ahd.refl hc.1
   ·have h1:=mK h k e;have h2:=hm (C:Int) (List.mem_map.2 ⟨C,List.mem_filter.2 ⟨by simp;omega,by simp only [Bool.and_eq_true,decide_eq_true_eq,cn h];exact⟨hne,hc⟩⟩,rfl⟩);have h3:bf ll (C:Int)≤bf ll (A:Int):=h2;omega
 refine⟨A,hAp.2,hAp.1,?_,last⟩;refine(vq (p:=fun(x:Nat)=>decide ((x:Int)≠(A:Int)) && cd ll x A) (y:=A) (by simp) _ (by simpa using hAr) (fun x hx=> ?_)).symm;rw [Bool.eq_iff_iff];simp only [Bool.or_eq_true,Bool.and_eq_true,decide_eq_true_eq,cn h];constructor
 ·rintro ⟨h1,h2⟩;by_cases e:x=A
  ·exact .inr e
  ·exact .inl ⟨by omega,last _ h2 h1⟩
 ·rintro (⟨h1,h2⟩ | rfl)
  ·refine⟨?_,h2.trans hAp.2⟩;rintro rfl;exact hAp.1 (hAp.2.tU h2)
  ·exact hAp
def iW (ll:List (List Int)) (b a:Int):Prop:=a≠b∧Ahd ll a b∧bf ll a+1=bf ll b
theorem iW.one {ll:List (List Int)} (h:Gr ll) {b a c:Int} (ha:iW ll b a) (hc:iW ll b c):a=c:=by
 rcases ha.2.1.chain hc.2.1 with k | k
 ·refine Classical.byContradiction fun e=> ?_;have:=mK h k e;have:=ha.2.2;have:=hc.2.2;omega
 ·refine Classical.byContradiction fun e=> ?_;have:=mK h k (fun e2=>e e2.symm);have:=ha.2.2;have:=hc.2.2;omega
theorem iW.ex {ll:List (List Int)} (h:Gr ll) {b:Int} (hb:All ll b) (h0:b≠0):∃a,iW ll b a:=by
 obtain⟨a,h1,h2,h3,_⟩:=Ea h hb h0;exact⟨a,h2,h1,h3⟩
theorem iW.last {ll:List (List Int)} (h:Gr ll) {b a c:Int} (ha:iW ll b a) (hc:Ahd ll c b) (hne:c≠b):Ahd ll c a:=by
 have hb:=ha.2.1.2.1;have h0:b≠0:=by
  rintro rfl;exact ha.1 (ha.2.1.tU (Ahd.first ha.2.1.1))
 obtain⟨d,h1,h2,h3,h4⟩:=Ea h hb h0;rw [ha.one h ⟨h2,h1,h3⟩];exact h4 c hc hne
theorem iW.lC {ll:List (List Int)} {a:Int}:¬iW ll 0 a:=fun h=>h.1 (h.2.1.tU (Ahd.first h.2.1.1))
theorem iW.Iw {ll:List (List Int)} (h:Gr ll) {b a:Int} (ha:Ahd ll a b) (hne:a≠b) (hl:∀c,Ahd ll c b→c≠b→Ahd ll c a):iW ll b a:=by
 have h0:b≠0:=by
  rintro rfl;exact hne (ha.tU (Ahd.first ha.1))
 obtain⟨d,h1,h2,h3,h4⟩:=Ea h ha.2.1 h0;have e:a=d:=(h4 a ha hne).tU (hl d h1 h2);rw [e];exact⟨h2,h1,h3⟩
def atF (f:Fun) (k:Int):Int:=j6 (aC f) k
theorem xS {f:Fun} {k:Nat} (h:k < f.2.2.2.1.length):(dD f)[k]? =some (atF f k):=by
 unfold dD;rw [List.getElem?_map,List.getElem?_range h];rfl
def gT (N:Nat) (t:List Int):Bool:=t.any fun m=>decide (m < 0∨(N:Int)≤m)
def fT (N:Nat) (x:Ins):Bool:=decide (x.1≠20) && gT N x.2.2.2.2.2.1
def blkGo (N n:Nat):Nat→List Ins→Int
 |_,[]=>0
 |i,x :: r=>if fj x.1≠decide (i+1=n)then 15 else if fT N x then 7 else blkGo N n (i+1) r
def jw (N:Nat) (b:List Ins):Int:=if b.length=0 then 15 else blkGo N b.length 0 b
def shapedGo (N:Nat):Nat→List (List Ins)→Int × Int
 |_,[]=>(0,0)
 |k,b :: r=>if jw N b≠0 then(jw N b,(k:Int))else shapedGo N (k+1) r
def aH (f:Fun):Int × Int:=if f.2.2.2.1.length=0 then(15,0)else shapedGo f.2.2.2.1.length 0 f.2.2.2.1
theorem jf {α:Type} {l:List α} {i:Nat} {x:α} (h:l[i]? =some x):l.drop i=x :: l.drop (i+1):=by
 obtain⟨h1,rfl⟩:=List.getElem?_eq_some_iff.1 h;exact List.drop_eq_getElem_cons h1
theorem jk {N n i:Nat} {x:Ins} {r:List Ins} (h:fj x.1≠decide (i+1=n)):blkGo N n i (x :: r)=15:=by rw [blkGo,if_pos h]
theorem jj {N n i:Nat} {x:Ins} {r:List Ins} (h:fj x.1=decide (i+1=n)) (hb:fT N x=true):blkGo N n i (x :: r)=7:=by rw [blkGo,if_neg (by simp [h]),if_pos hb]
theorem ix {N n i:Nat} {x:Ins} {r:List Ins} (h:fj x.1=decide (i+1=n)) (hb:fT N x=false):blkGo N n i (x :: r)=blkGo N n (i+1) r:=by rw [blkGo,if_neg (by simp [h]),if_neg (by simp [hb])]
theorem dT {N k:Nat} {b:List Ins} {r:List (List Ins)} {z:Int} (h:jw N b=z) (hz:z≠0):shapedGo N k (b :: r)=(z,(k:Int)):=by rw [shapedGo,h,if_pos hz]
theorem jc {N k:Nat} {b:List Ins} {r:List (List Ins)} (h:jw N b=0):shapedGo N k (b :: r)=shapedGo N (k+1) r:=by rw [shapedGo,if_neg (by simp [h])]
theorem si (w:World) (cs:Array Value):Below w.heap.size w ((w.alloc (.cells cs 36)).alloc (.cells #[.int .i64 0,.int .i64 0] 29))∧((w.alloc (.cells cs 36)).alloc (.cells #[.int .i64 0,.int .i64 0] 29)).heap[w.heap.size]? =some (.cells cs 36 (0,0))∧
  ((w.alloc (.cells cs 36)).alloc (.cells #[.int .i64 0,.int .i64 0] 29)).heap[w.heap.size+1]? =some (.cells #[.int .i64 0,.int .i64 0] 29 (0,0))∧w.heap.size+1 < ((w.alloc (.cells cs 36)).alloc (.cells #[.int .i64 0,.int .i64 0] 29)).heap.size:=by
 refine⟨af (ah w _) (ah _ _),(heap_alloc_old _ _ (by simp)).trans (heap_alloc_new w _),?_,by simp⟩;have:=heap_alloc_new (w.alloc (.cells cs 36)) (.cells #[.int .i64 0,.int .i64 0] 29);rwa [show(w.alloc (.cells cs 36)).heap.size=w.heap.size+1 from by simp] at this
theorem fu {w:World} {c:Nat} {a b:Value} (h:w.heap[c]? =some (.cells #[a,b] 29 (0,0))):w.cell? ⟨c,0,none⟩=some a∧w.cell? ⟨c,1,none⟩=some b∧w.frozen? ⟨c,0,none⟩=false∧w.frozen? ⟨c,1,none⟩=false:=by
 simp [World.cell?,World.frozen?,h]
theorem dx {w W wr:World} {a b:Value} (h0:Below w.heap.size w W) (h:Below W.heap.size W wr):Below w.heap.size w ((wr.setCell ⟨w.heap.size+1,0,none⟩ a).setCell ⟨w.heap.size+1,1,none⟩ b):=
 ((af h0 h).setCell (p:=⟨w.heap.size+1,0,none⟩) (Nat.le_succ _) a).setCell (p:=⟨w.heap.size+1,1,none⟩) (Nat.le_succ _) b
end Go.Proofs.YtljkgcfnoegibaaGreatDoor
