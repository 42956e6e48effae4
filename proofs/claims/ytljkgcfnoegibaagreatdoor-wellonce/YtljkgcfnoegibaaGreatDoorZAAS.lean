/- Texts of one chain, joined. -/
import Derived.Test.YtljkgcfnoegibaaGreatDoorZAAK
import Derived.Test.YtljkgcfnoegibaaGreatDoorZAAR
namespace Go.Proofs.YtljkgcfnoegibaaGreatDoor
open Go Go.RowKit
open G (Tok Er Ins Fun)
def Par (f:Fun) (k:Int) (done out:List Int):Prop:=∃e,out=done ++ e∧∀y∈e,y∈aW f k.toNat∨∃x a b,e=a ++ b∧y∈a∧x∈b∧y∈aW f x.toNat
theorem Par.refl (f:Fun) (k:Int) (done:List Int):Par f k done done:=⟨[],by simp,by simp⟩
theorem Par.trans {f:Fun} {k:Int} {a b c:List Int} (h:Par f k a b) (j:Par f k b c):Par f k a c:=by
 obtain⟨e,rfl,h1⟩:=h;obtain⟨d,rfl,j1⟩:=j;refine⟨e ++ d,by simp,fun y hy=> ?_⟩;rcases List.mem_append.1 hy with hy | hy
 ·rcases h1 y hy with q | ⟨x,a1,b1,rfl,q2,q3,q4⟩
  ·exact .inl q
  ·exact .inr ⟨x,a1,b1 ++ d,by simp,q2,by simp [q3],q4⟩
 ·rcases j1 y hy with q | ⟨x,a1,b1,rfl,q2,q3,q4⟩
  ·exact .inl q
  ·exact .inr ⟨x,e ++ a1,b1,by simp,by simp [q2],q3,q4⟩
theorem ER {f:Fun} {N:Nat} {path:List Int} {k:Int} (hs:∀m out,m∈aW f k.toNat→Par f k out (cL f N m out path)):
  ∀(l out:List Int),(∀m∈l,m∈aW f k.toNat)→Par f k out (dm f N path out l):=by
 intro l;induction l with
 |nil=>intro out _;exact Par.refl _ _ _
 |cons m l ih=>
  intro out hl;have e:dm f N path out (m :: l)=dm f N path (lg f N path out m) l:=rfl;rw [e];refine Par.trans ?_ (ih _ (fun x hx=>hl x (by simp [hx])));by_cases hc:az out m=true∨az path m=true
  ·rw [iF hc];exact Par.refl _ _ _
  ·have hc1:az out m=false:=(by simpa using fun e=>hc (.inl e));have hc2:az path m=false:=(by simpa using fun e=>hc (.inr e));rw [g8 hc1 hc2];exact hs m out (hl m (by simp))
theorem Fz {f:Fun}:∀(N:Nat) (k:Int) (done op:List Int),∃out,Par f k done out∧(cL f N k done op=out ++ [k]∨cL f N k done op=done):=by
 intro N;induction N with
 |zero=>intro k done op;exact⟨done,Par.refl _ _ _,.inr rfl⟩
 |succ N ih=>
  intro k done op;refine⟨dm f N (op ++ [k]) done (aW f k.toNat),?_,.inl (eB f N k done op)⟩;refine ER (fun m out hm=> ?_) _ _ (fun m hm=>hm);obtain⟨o,h1,h2⟩:=ih m out (op ++ [k]);rcases h2 with e | e
  ·rw [e];obtain⟨d,rfl,h3⟩:=h1;refine⟨d ++ [m],by simp,fun y hy=> ?_⟩;rcases List.mem_append.1 hy with hy | hy
   ·rcases h3 y hy with q | ⟨x,a1,b1,rfl,q2,q3,q4⟩
    ·exact .inr ⟨m,d,[m],rfl,hy,by simp,q⟩
    ·exact .inr ⟨x,a1,b1 ++ [m],by simp,q2,by simp [q3],q4⟩
   ·simp at hy;subst hy;exact .inl hm
  ·rw [e];exact Par.refl _ _ _
theorem EU {f:Fun} {Q:Int→Prop} (hQ:∀x m,Q x→m∈aW f x.toNat→Q m):∀(N:Nat) (k:Int) (done op:List Int),Q k→(∀x∈done,Q x)→∀x∈cL f N k done op,Q x:=by
 intro N;induction N with
 |zero=>intro k done op _ h;exact h
 |succ N ih=>
  intro k done op hk hd x hx;rw [eB] at hx;have key:∀(l out:List Int),(∀m∈l,Q m)→(∀m∈out,Q m)→∀m∈dm f N (op ++ [k]) out l,Q m:=by
   intro l;induction l with
   |nil=>intro out _ h;exact h
   |cons m l ih2=>
    intro out hl ho;refine ih2 _ (fun x hx=>hl x (by simp [hx])) ?_;unfold lg;split
    ·exact ho
    ·exact ih m out _ (hl m (by simp)) ho
  rcases List.mem_append.1 hx with hx | hx
  ·exact key _ _ (fun m hm=>hQ k m hk hm) hd x hx
  ·simp at hx;subst hx;exact hk
theorem oA {f:Fun} (hT:Tos f):∀(N:Nat) (k:Int) (done op:List Int),(op ++ [k]).Nodup→Num f.2.2.2.1.length (op ++ [k])→N+op.length=f.2.2.2.1.length→
  k∈cL f N k done op∧(∀x∈done,x∈cL f N k done op)∧∀x∈cL f N k done op,x ∉ done→∀y∈aW f x.toNat,y∈cL f N k done op∨y∈op:=by
 intro N;induction N with
 |zero=>
  intro k done op h1 h2 h3;have:=dU _ _ h1 h2;simp at this;omega
 |succ N ih=>
  intro k done op h1 h2 h3;have key:∀(l out:List Int),Num f.2.2.2.1.length l→(∀x∈done,x∈out)→(∀x∈out,x ∉ done→∀y∈aW f x.toNat,y∈out∨y∈op ++ [k])→
    (∀m∈l,m∈dm f N (op ++ [k]) out l∨m∈op ++ [k])∧(∀x∈out,x∈dm f N (op ++ [k]) out l)∧(∀x∈dm f N (op ++ [k]) out l,x ∉ done→∀y∈aW f x.toNat,y∈dm f N (op ++ [k]) out l∨y∈op ++ [k]):=by
   intro l;induction l with
   |nil=>intro out _ _ h;exact⟨by simp,fun x hx=>hx,h⟩
   |cons m l ih2=>
    intro out hl hd hc;have e:dm f N (op ++ [k]) out (m :: l)=dm f N (op ++ [k]) (lg f N (op ++ [k]) out m) l:=rfl;rw [e];by_cases hm:az out m=true∨az (op ++ [k]) m=true
    ·rw [iF hm];obtain⟨k1,k2,k3⟩:=ih2 out (fun x hx=>hl x (by simp [hx])) hd hc;refine⟨fun x hx=> ?_,k2,k3⟩;rcases List.mem_cons.1 hx with rfl | hx
     ·rcases hm with hm | hm
      ·exact .inl (k2 _ (bL.1 hm))
      ·exact .inr (bL.1 hm)
     ·exact k1 x hx
    ·have hc1:az out m=false:=(by simpa using fun e=>hm (.inl e));have hc2:az (op ++ [k]) m=false:=(by simpa using fun e=>hm (.inr e));rw [g8 hc1 hc2];have hnd:(op ++ [k] ++ [m]).Nodup:=List.nodup_append.2 ⟨h1,by simp,by rintro x hx y hy rfl;simp at hy;subst hy;exact eO.1 hc2 hx⟩;have hnu:Num f.2.2.2.1.length (op ++ [k] ++ [m]):=by
      intro x hx;rcases List.mem_append.1 hx with hx | hx
      ·exact h2 x hx
      ·simp at hx;subst hx;exact hl x (by simp)
     obtain⟨j1,j2,j3⟩:=ih m out (op ++ [k]) hnd hnu (by simp;omega);obtain⟨k1,k2,k3⟩:=ih2 (cL f N m out (op ++ [k])) (fun x hx=>hl x (by simp [hx])) (fun x hx=>j2 x (hd x hx)) (by
      intro x hx hxd y hy;by_cases hxo:x∈out
      ·rcases hc x hxo hxd y hy with q | q
       ·exact .inl (j2 y q)
       ·exact .inr q
      ·exact j3 x hx hxo y hy)
     refine⟨fun x hx=> ?_,fun x hx=>k2 x (j2 x hx),k3⟩;rcases List.mem_cons.1 hx with rfl | hx
     ·exact .inl (k2 _ j1)
     ·exact k1 x hx
  obtain⟨k1,k2,k3⟩:=key (aW f k.toNat) done (hT _) (fun x hx=>hx) (fun x hx hn=>absurd hx hn);rw [eB];refine⟨by simp,fun x hx=>by simp [k2 x hx],fun x hx hxd y hy=> ?_⟩;have fin:y∈dm f N (op ++ [k]) done (aW f k.toNat)∨y∈op ++ [k]→y∈dm f N (op ++ [k]) done (aW f k.toNat) ++ [k]∨y∈op:=by
   rintro (q | q)
   ·exact .inl (by simp [q])
   ·rcases List.mem_append.1 q with q | q
    ·exact .inr q
    ·exact .inl (by simp at q;simp [q])
  rcases List.mem_append.1 hx with hx | hx
  ·exact fin (k3 x hx hxd y hy)
  ·simp at hx;subst hx;exact fin (k1 y hy)
theorem jy {f:Fun} {b:Int} (h:b.toNat < f.2.2.2.1.length):(aD f).getD b.toNat []=aW f b.toNat:=by
 rw [List.getD_eq_getElem?_getD,ia h];rfl
theorem fI {f:Fun} (hT:Tos f) (h0:0 < f.2.2.2.1.length):Gr (aD f):=by
 refine⟨fun l hl=> ?_,by rw [bI];exact h0⟩;obtain⟨K,hK,rfl⟩:=List.mem_iff_getElem.1 hl;have hK2:K < f.2.2.2.1.length:=by rw [←bI];exact hK
 have e:=ia hK2;rw [List.getElem?_eq_getElem hK] at e;injection e with e;rw [e,bI];exact hT K
theorem EX {f:Fun} (hT:Tos f) (h0:0 < f.2.2.2.1.length) {x m:Int} (h:All (aD f) x) (hm:m∈aW f x.toNat):All (aD f) m:=by
 have hx:=h.num (fI hT h0);rw [bI] at hx;refine h.step (by rw [jy (by omega)];exact hm) ?_;have:=hT _ m hm;omega
theorem eu {f:Fun} (hT:Tos f) (h0:0 < f.2.2.2.1.length) (m:Int):m∈aC f↔All (aD f) m:=by
 unfold aC;rw [List.mem_reverse];constructor
 ·exact EU (f:=f) (Q:=All (aD f)) (fun x m hx hm=>EX hT h0 hx hm) _ 0 [] [] (All.first _) (by simp) m
 ·obtain⟨h1,_,h3⟩:=oA hT f.2.2.2.1.length 0 [] [] (by simp) (fun m hm=>by simp at hm;subst hm;omega) (by simp);refine Rch.xD (fun x hx _=> ?_) (fun b c hb hm hc _=> ?_) m
  ·simp at hx;subst hx;exact h1
  ·have hx:=All.num (fI hT h0) hb;rw [bI] at hx;rw [jy (by omega)] at hc;rcases h3 b hm (by simp) c hc with q | q
   ·exact q
   ·simp at q
theorem fP {f:Fun} (hT:Tos f) (h0:0 < f.2.2.2.1.length) {i:Nat} {b:Int} (h:(aC f)[i]? =some b):atF f b=i:=
 (yv (il (hH hT h0).1 h) h).symm
theorem J7 {f:Fun} (hT:Tos f) (h0:0 < f.2.2.2.1.length) (b:Int):All (aD f) b↔0≤atF f b:=by
 rw [←eu hT h0];constructor
 ·intro h;obtain⟨i,hi,rfl⟩:=List.mem_iff_getElem.1 h;rw [fP hT h0 (List.getElem?_eq_getElem hi)];omega
 ·intro h;refine Classical.byContradiction fun e=> ?_;have:=sF (l:=aC f) (eO.2 e);unfold atF at h;omega
def Ord (ll:List (List Int)) (pl:Int→Int):Prop:=(∀b,All ll b↔0≤pl b)∧(∀a b,All ll a→All ll b→pl a=pl b→a=b)∧pl 0=0∧
 ∀b,All ll b→b≠0→∃p,All ll p∧b∈ll.getD p.toNat []∧pl p < pl b
theorem DC {f:Fun} (hT:Tos f) (h0:0 < f.2.2.2.1.length):Ord (aD f) (atF f):=by
 have idx:∀b,All (aD f) b→∃i:Nat,(aC f)[i]? =some b∧atF f b=i:=by
  intro b hb;obtain⟨i,hi,e⟩:=List.mem_iff_getElem.1 ((eu hT h0 b).2 hb);have h:(aC f)[i]? =some b:=by rw [List.getElem?_eq_getElem hi,e]
  exact⟨i,h,fP hT h0 h⟩
 obtain⟨out,hp,he⟩:=Fz (f:=f) f.2.2.2.1.length 0 [] [];have he1:cL f f.2.2.2.1.length 0 [] []=out ++ [0]:=by
  rcases he with e | e
  ·exact e
  ·have:=(oA hT f.2.2.2.1.length 0 [] [] (by simp) (fun m hm=>by simp at hm;subst hm;omega) (by simp)).1;rw [e] at this;simp at this
 have hord:aC f=0 :: out.reverse:=by unfold aC;rw [he1];simp
 have hz:atF f 0=0:=fP hT h0 (i:=0) (by rw [hord];rfl);refine⟨J7 hT h0,fun a b ha hb e=> ?_,hz,fun b hb hne=> ?_⟩
 ·obtain⟨i,h1,h2⟩:=idx a ha;obtain⟨j,k1,k2⟩:=idx b hb;have:i=j:=by omega
  subst this;rw [h1] at k1;injection k1
 ·obtain⟨e,hee,hpar⟩:=hp;have hee2:e=out:=by simpa using hee.symm
  subst hee2;have hbe:b∈e:=by
   have:=(eu hT h0 b).2 hb;rw [hord] at this;rcases List.mem_cons.1 this with q | q
   ·exact absurd q hne
   ·simpa using q
  have back:∀(x y:Int) (a c:List Int),e ++ [0]=a ++ c→y∈a→x∈c→y∈aW f x.toNat→∃p,All (aD f) p∧y∈(aD f).getD p.toNat []∧atF f p < atF f y:=by
   intro x y a c hac hy hx hyx;have ho:aC f=c.reverse ++ a.reverse:=by
    have:aC f=(e ++ [0]).reverse:=(by rw [hord];simp);rw [this,hac];simp
   have hxo:x∈aC f:=(by rw [ho];simp [hx]);have hxa:=(eu hT h0 x).1 hxo;have hn:=hxa.num (fI hT h0);rw [bI] at hn;refine⟨x,hxa,by rw [jy (by omega)];exact hyx,?_⟩;obtain⟨i,hi,ei⟩:=List.mem_iff_getElem.1 (List.mem_reverse.2 hx);obtain⟨j,hj,ej⟩:=List.mem_iff_getElem.1 (List.mem_reverse.2 hy);have q1:(aC f)[i]? =some x:=(by rw [ho,List.getElem?_append_left hi,List.getElem?_eq_getElem hi,ei]);have q2:(aC f)[c.reverse.length+j]? =some y:=by
    rw [ho,List.getElem?_append_right (by omega),Nat.add_sub_cancel_left,List.getElem?_eq_getElem hj,ej]
   rw [fP hT h0 q1,fP hT h0 q2];omega
  rcases hpar b hbe with q | ⟨x,a,c,hac,q2,q3,q4⟩
  ·exact back 0 b e [0] rfl hbe (by simp) q
  ·exact back x b a (c ++ [0]) (by rw [hac];simp) q2 (by simp [q3]) q4
def bw {α:Type} (g:Nat→Option α) (n:Nat):Option α:=(List.range n).findSome? g
theorem bh {α:Type} {g:Nat→Option α} {n:Nat} (h:∀j,j < n→g j=none):bw g n=none:=by
 unfold bw;rw [List.findSome?_eq_none_iff];intro j hj;exact h j (by simpa using hj)
theorem bN {α:Type} {g:Nat→Option α} {n K:Nat} {a:α} (h:∀j,j < K→g j=none) (hK:K < n) (ha:g K=some a):bw g n=some a:=by
 unfold bw;have e:List.range n=List.range K ++ (List.range (n - K)).map (K+ ·):=by
  have h1:=List.range_add (n:=K) (m:=n - K);rwa [show K+(n - K)=n by omega] at h1
 rw [e,List.findSome?_append,List.findSome?_eq_none_iff.2 (fun j hj=>h j (by simpa using hj))];obtain⟨m,hm⟩:∃m,n - K=m+1:=⟨n - K - 1,by omega⟩;rw [hm,List.range_succ_eq_map];simp [ha]
theorem fe {α:Type} {g:Nat→Option α} {n:Nat} (h:bw g n=none):∀j,j < n→g j=none:=by
 intro j hj;unfold bw at h;rw [List.findSome?_eq_none_iff] at h;exact h j (by simpa using hj)
theorem da {α:Type} {g:Nat→Option α}:∀ {n:Nat} {a:α},bw g n=some a→∃K,K < n∧g K=some a∧∀j,j < K→g j=none:=by
 intro n;induction n with
 |zero=>intro a h;simp [bw] at h
 |succ n ih=>
  intro a h;unfold bw at h ih;rw [List.range_succ,List.findSome?_append] at h
  cases h1:(List.range n).findSome? g with
  |some b=>
   rw [h1] at h;obtain⟨K,h2,h3,h4⟩:=ih h1;simp at h;subst h;exact⟨K,by omega,h3,h4⟩
  |none=>
   rw [h1] at h;simp at h;exact⟨n,by omega,h,fe h1⟩
abbrev Mb:Ins:=(0,0,0,0,[],[],[],0)
abbrev ie:Fun:=([],[],0,[],0)
def aG (f:Fun) (k:Nat):List Ins:=f.2.2.2.1.getD k []
def au (f:Fun) (k i:Nat):Ins:=(aG f k).getD i Mb
def aF (p:List Fun) (i:Nat):Fun:=p.getD i ie
theorem eS {f:Fun} {k:Nat} (h:k < f.2.2.2.1.length):f.2.2.2.1[k]? =some (aG f k):=by
 unfold aG;rw [List.getD_eq_getElem?_getD,List.getElem?_eq_getElem h];rfl
theorem gR {f:Fun} {k i:Nat} (h:i < (aG f k).length):(aG f k)[i]? =some (au f k i):=by
 unfold au;rw [List.getD_eq_getElem?_getD,List.getElem?_eq_getElem h];rfl
theorem eQ {p:List Fun} {i:Nat} (h:i < p.length):p[i]? =some (aF p i):=by
 unfold aF;rw [List.getD_eq_getElem?_getD,List.getElem?_eq_getElem h];rfl
theorem Aj {p:List Fun} {i:Nat} {f:Fun} (h:p[i]? =some f):aF p i=f:=by
 unfold aF;rw [List.getD_eq_getElem?_getD,h];rfl
def mkX (x:Ins):Int:=L5.bD x.1 x.2.2.2.1
def mI (id:Int) (x:Ins):Bool:=decide (x.2.1=id) && decide (mkX x≠0)
abbrev Plc:=Int × Int × Int × Bool
def me (f:Fun) (id:Int) (k i:Nat):Option Plc:=if mI id (au f k i)then some ((k:Int),(i:Int),mkX (au f k i),true)else none
def fU (f:Fun) (id:Int) (k lim:Nat):Option Plc:=bw (me f id k) (min lim (aG f k).length)
def fH (f:Fun) (K J k:Nat):Nat:=if k < K then(aG f k).length else J
def gz (f:Fun) (id:Int) (K J:Nat):Option Plc:=bw (fun k=>fU f id k (fH f K J k)) (min (K+1) f.2.2.2.1.length)
def jA (f:Fun) (id:Int):Bool:=decide (0≤id) && decide (id < f.2.1.length)
def eA (f:Fun) (id:Int) (K J:Nat):Plc:=if jA f id then(0,-1,f.2.1.getD id.toNat 0,true)else(gz f id K J).getD (0,0,0,false)
def findF (p:List Fun) (nm:List UInt8):Option Fun:=bw (fun i=>if(aF p i).1=nm then some (aF p i)else none) p.length
def lU (p:List Fun) (i k:Nat):Bool:=decide ((aF p i).1=(aF p k).1)
def ur (p:List Fun):Option (Int × Int):=bw (fun i=>(bw (fun k=>if lU p i k then some ((5:Int),(aF p i).2.2.2.2)else none) i)) p.length
abbrev dP:List UInt8:= [109,97,105,110]
def namesF (p:List Fun):Int × Int:=match ur p with
 |some e=>e
 |none=>match findF p dP with
  |none=>(12,0)
  |some m=>if az m.2.1 2 then(13,m.2.2.2.2)else(0,0)
def iI (f:Fun) (k i:Nat):Bool:=(decide (i=0) || decide ((au f k (i - 1)).1=20)) && decide ((au f k i).2.2.2.2.2.1.length=((aK f).getD k []).length) && ((aK f).getD k []).all fun b=>az (au f k i).2.2.2.2.2.1 b
def du (x:Ins):Bool:=decide (x.1=23) || decide (x.1=24) || decide (x.1=25) || (decide (x.1=21) && decide (x.2.2.1≠0))
def cR (f:Fun) (k i:Nat) (src:Bool):Int:=
 if(decide (mkX (au f k i)≠0) && (eA f (au f k i).2.1 k i).2.2.2)=true then 5
 else if(decide ((au f k i).1=20) && !iI f k i)=true then 11
 else if(src && du (au f k i))=true then 2 else 0
def cE (p:List Fun) (f:Fun) (x:Ins):Int:=
 if(decide (x.1=28) && (decide (f.2.2.1=0) != decide (x.2.2.2.2.1.length=0)))=true then 13
 else if x.1≠21 then 0
 else match findF p x.2.2.2.2.2.2.1 with
  |none=>12
  |some g=>if g.2.2.1≠x.2.2.2.1 then 9 else if g.2.1.length≠x.2.2.2.2.1.length then 13 else 0
def dC (p:List Fun) (f:Fun) (x:Ins) (n:Nat):Int:=
 if x.1=20∨x.1=24 then x.2.2.2.1 else if x.1=28 then f.2.2.1 else if x.1=21 then((findF p x.2.2.2.2.2.2.1).getD ie).2.1.getD n 0 else(L5.takes (L5.num x.1)).getD n 0
def gD (p:List Fun) (f:Fun) (k i n:Nat):Int:=
 let x:=au f k i
 let m:=eA f (x.2.2.2.2.1.getD n 0) f.2.2.2.1.length 0
 if m.2.2.2=false then 8 else if m.2.2.1≠dC p f x n then 9 else if m.2.1 < 0 then 0
 else if x.1=20 then(if cd (aD f) m.1 (x.2.2.2.2.2.1.getD n 0)then 0 else 10)
 else if(decide (m.1=k) && decide ((i:Int)≤m.2.1))=true then 10 else if(decide (m.1≠k) && !cd (aD f) m.1 k)=true then 10 else 0
def EF (p:List Fun) (f:Fun) (k i n:Nat):Option Int:=if gD p f k i n≠0 then some (gD p f k i n)else none
def ez (p:List Fun) (f:Fun) (k i:Nat):Int:=if cE p f (au f k i)≠0 then cE p f (au f k i)else(bw (EF p f k i) (au f k i).2.2.2.2.1.length).getD 0
def dq (f:Fun):Bool:=decide ((aC f).length=f.2.2.2.1.length) && decide (((aK f).getD 0 []).length=0)
def atC (c at_:Int):Option (Int × Int):=if c≠0 then some (c,at_)else none
def dZ (f:Fun) (src:Bool):Option (Int × Int):=bw (fun k=>bw (fun i=>atC (cR f k i src) (au f k i).2.2.2.2.2.2.2) (aG f k).length) f.2.2.2.1.length
def iZ (p:List Fun) (f:Fun):Option (Int × Int):=bw (fun k=>bw (fun i=>atC (ez p f k i) (au f k i).2.2.2.2.2.2.2) (aG f k).length) f.2.2.2.1.length
def dH (p:List Fun) (f:Fun) (src:Bool):Int × Int:=
 if(aH f).1≠0 then((aH f).1,f.2.2.2.2)else if dq f=false then(14,f.2.2.2.2)
 else match dZ f src with
  |some e=>e
  |none=>(iZ p f).getD (0,0)
def eG (p:List Fun) (src:Bool) (i:Nat):Option (Int × Int):=if(dH p (aF p i) src).1≠0 then some (dH p (aF p i) src)else none
def bj (p:List Fun) (src:Bool):Int × Int:=
 if(wholeF 0 0 p).1≠0 then((wholeF 0 0 p).1,(aF p (wholeF 0 0 p).2.toNat).2.2.2.2)
 else if(namesF p).1≠0 then namesF p
 else(bw (eG p src) p.length).getD (0,0)
def Mod (f:Fun):Prop:=f.2.2.2.1.length≤1000000∧∀b∈f.2.2.2.1,b.length≤1000000
theorem Mod.blk {f:Fun} (h:Mod f) (k:Nat):(aG f k).length≤1000000:=by
 by_cases hk:k < f.2.2.2.1.length
 ·exact h.2 _ (List.mem_of_getElem? (eS hk))
 ·unfold aG;rw [List.getD_eq_getElem?_getD,List.getElem?_eq_none (by omega)];simp
theorem eD {w:World} {f:Fun} {bo:Option Addr} {n cb k:Nat} (h:dy w f.2.2.2.1 (.slice bo n cb)) (hk:k < f.2.2.2.1.length):∃g o ao c,bo=some ⟨g,o,none⟩∧g < w.heap.size∧w.cell? ⟨g,o+k,none⟩=some (.slice ao (aG f k).length c)∧j7 w (aG f k) (.slice ao (aG f k).length c):=by
 obtain⟨bo',cb',e,_,_,h3⟩:=h;injection e with e1 e2 e3;subst e1;rcases h3 with h3 | ⟨g,o,rfl,hg,h4⟩
 ·rw [h3] at hk;simp at hk
 ·obtain⟨u,hu,hb⟩:=h4 k _ (eS hk);obtain⟨ao,c,rfl,_⟩:=id hb;exact⟨g,o,ao,c,rfl,hg,hu,hb⟩
theorem eR {w:World} {f:Fun} {ao:Option Addr} {n c k i:Nat} (h:j7 w (aG f k) (.slice ao n c)) (hi:i < (aG f k).length):∃g o,ao=some ⟨g,o,none⟩∧my w (au f k i) g (o+i * 8):=by
 obtain⟨ao',c',e,_,_,h3⟩:=h;injection e with e1 e2 e3;subst e1;rcases h3 with h3 | ⟨g,o,rfl,h4⟩
 ·rw [h3] at hi;simp at hi
 ·exact⟨g,o,rfl,h4 i _ (gR hi)⟩
theorem bU {a b:Int} (h:a=b):Ending.returned (.int .i64 a)= .returned (.int .i64 b):=by rw [h]
theorem de {w:World} {f:Fun} {v:Value} (hv:cg w f v):∃lp cp lb cb,v= .agg #[.string (bs f.1),.slice lp f.2.1.length cp,.int .i64 f.2.2.1,.slice lb f.2.2.2.1.length cb,.int .i64 f.2.2.2.2]∧
  L5.Box (w.alloc (.cells #[.string (bs f.1),.slice lp f.2.1.length cp,.int .i64 f.2.2.1,.slice lb f.2.2.2.1.length cb,.int .i64 f.2.2.2.2] 36)) w.heap.size [.string (bs f.1),.slice lp f.2.1.length cp,.int .i64 f.2.2.1,.slice lb f.2.2.2.1.length cb,.int .i64 f.2.2.2.2]∧
  Below w.heap.size w (w.alloc (.cells #[.string (bs f.1),.slice lp f.2.1.length cp,.int .i64 f.2.2.1,.slice lb f.2.2.2.1.length cb,.int .i64 f.2.2.2.2] 36)):=by
 obtain⟨vp,vb,rfl,⟨lp,cp,rfl,_⟩,⟨lb,cb,rfl,_⟩⟩:=hv;exact⟨lp,cp,lb,cb,rfl,L5.Box.new w [.string (bs f.1),.slice lp f.2.1.length cp,.int .i64 f.2.2.1,.slice lb f.2.2.2.1.length cb,.int .i64 f.2.2.2.2] 36,ah _ _⟩
theorem fN {w:World} {f:Fun} {a b d:Value} {lb:Option Addr} {n cb:Nat} {c:Value} (hv:cg w f (.agg #[a,b,c,.slice lb n cb,d])):dy w f.2.2.2.1 (.slice lb n cb):=by
 obtain⟨vp',vb',e,_,h2⟩:=hv;injection e with e;have e1:=congrArg (fun a=>a[3]?) e;simp at e1;rw [←e1] at h2;exact h2
theorem eh {w:World} {p:List Fun} {po:Option Addr} {n pc i:Nat} (h:bK w p (.slice po n pc)) (hi:i < p.length):∃g o,po=some ⟨g,o,none⟩∧lS w (aF p i) g (o+i * 5):=by
 obtain⟨po',pc',e,_,_,h3⟩:=h;injection e with e1 e2 e3;subst e1;rcases h3 with h3 | ⟨g,o,rfl,h4⟩
 ·rw [h3] at hi;simp at hi
 ·exact⟨g,o,rfl,h4 i _ (eQ hi)⟩
theorem bP {w:World} {b t:Nat} {a0 a1 a2 a3 a4:Value} (h:w.heap[b]? =some (.cells #[a0,a1,a2,a3,a4] t (0,0))):(w.cell? ⟨b,0,none⟩=some a0∧w.cell? ⟨b,1,none⟩=some a1∧w.cell? ⟨b,2,none⟩=some a2∧w.cell? ⟨b,3,none⟩=some a3∧w.cell? ⟨b,4,none⟩=some a4)∧(w.frozen? ⟨b,0,none⟩=false∧w.frozen? ⟨b,1,none⟩=false∧w.frozen? ⟨b,2,none⟩=false∧w.frozen? ⟨b,3,none⟩=false∧w.frozen? ⟨b,4,none⟩=false)∧b < w.heap.size:=by
 refine⟨⟨?_,?_,?_,?_,?_⟩,⟨?_,?_,?_,?_,?_⟩,(Array.getElem?_eq_some_iff.1 h).1⟩ <;> simp [World.cell?,World.frozen?,h]
theorem DT {a b:List UInt8} (h:¬a=b):((bs a).toList == (bs b).toList)=false:=by rw [ByteArray.toList_eq,ByteArray.toList_eq,dz,dz];simpa using h
theorem uR (w:World):cg w ie (.agg #[.string ⟨#[]⟩,.slice none 0 0,.int .i64 0,.slice none 0 0,.int .i64 0]):=
 ⟨_,_,rfl,⟨none,0,rfl,.inl rfl,Nat.le_refl _,by unfold maxLen;omega⟩,⟨none,0,rfl,Nat.le_refl _,by unfold maxLen;omega,.inl rfl⟩⟩
theorem aV {w:World} {b t:Nat} {a0:Value} (h:w.heap[b]? =some (.cells #[a0] t (0,0))):w.cell? ⟨b,0,none⟩=some a0∧b < w.heap.size:=⟨by simp [World.cell?,h],(Array.getElem?_eq_some_iff.1 h).1⟩
def ChN (g:Int→Int):Nat→Int→Int→Prop
 |0,a,b=>a=b
 |n+1,a,b=>g b≠ -1∧ChN g n a (g b)
def Ch (g:Int→Int) (a b:Int):Prop:=∃n,ChN g n a b
theorem Ch.refl (g:Int→Int) (a:Int):Ch g a a:=⟨0,rfl⟩
theorem Ch.up {g:Int→Int} {a b:Int} (h:g b≠ -1) (k:Ch g a (g b)):Ch g a b:=by
 obtain⟨n,k⟩:=k;exact⟨n+1,h,k⟩
theorem Ch.cases {g:Int→Int} {a b:Int} (h:Ch g a b):a=b∨(g b≠ -1∧Ch g a (g b)):=by
 obtain⟨n,h⟩:=h
 cases n with
 |zero=>exact .inl h
 |succ n=>exact .inr ⟨h.1,n,h.2⟩
def dF (ll:List (List Int)) (g:Int→Int) (x:Int):Prop:=All ll x∧(x=0∨g x≠ -1)
def Wf (ll:List (List Int)) (pl g:Int→Int):Prop:=g 0= -1∧(∀x,¬All ll x→g x= -1)∧∀x,g x≠ -1→All ll x∧dF ll g (g x)∧pl (g x) < pl x
theorem Ch.le {ll:List (List Int)} {pl g:Int→Int} (hw:Wf ll pl g) {a b:Int} (h:Ch g a b):a=b∨pl a < pl b:=by
 have key:∀n a b,ChN g n a b→a=b∨pl a < pl b:=by
  intro n;induction n with
  |zero=>intro a b h;exact .inl h
  |succ n ih=>
   rintro a b ⟨h1,h2⟩;have h3:=(hw.2.2 b h1).2.2;rcases ih a (g b) h2 with rfl | h4
   ·exact .inr h3
   ·exact .inr (by omega)
 obtain⟨n,h⟩:=h;exact key n a b h
theorem Ch.ple {ll:List (List Int)} {pl g:Int→Int} (hw:Wf ll pl g) {a b:Int} (h:Ch g a b):pl a≤pl b:=by
 rcases h.le hw with rfl | h
 ·exact Int.le_refl _
 ·omega
theorem Ch.LZ {ll:List (List Int)} {pl g:Int→Int} (hw:Wf ll pl g) {a b:Int} (h:Ch g a b) (hb:dF ll g b):dF ll g a:=by
 have key:∀n a b,ChN g n a b→dF ll g b→dF ll g a:=by
  intro n;induction n with
  |zero=>rintro a b rfl h;exact h
  |succ n ih=>
   rintro a b ⟨h1,h2⟩ _;exact ih a (g b) h2 (hw.2.2 b h1).2.1
 obtain⟨n,h⟩:=h;exact key n a b h hb
theorem Ch.zero {ll:List (List Int)} {pl g:Int→Int} (hw:Wf ll pl g) {z:Int} (h:Ch g z 0):z=0:=by
 rcases h.cases with h | ⟨h,_⟩
 ·exact h
 ·exact absurd hw.1 h
theorem dF.pl0 {ll:List (List Int)} {pl g:Int→Int} (ho:Ord ll pl) {x:Int} (h:dF ll g x):0≤pl x:=(ho.1 x).1 h.1
theorem Ch.iff {g:Int→Int} {b:Int} (h:g b≠ -1) (z:Int):Ch g z b↔z=b∨Ch g z (g b):=by
 constructor
 ·intro k;rcases k.cases with e | e
  ·exact .inl e
  ·exact .inr e.2
 ·rintro (rfl | k)
  ·exact Ch.refl _ _
  ·exact Ch.up h k
theorem Cw {ll:List (List Int)} {pl g:Int→Int} (ho:Ord ll pl) (hw:Wf ll pl g) {a b:Int} (ha:dF ll g a) (hb:dF ll g b) (h:pl b < pl a):
  g a≠ -1∧dF ll g (g a)∧pl (g a) < pl a∧∀z,(Ch g z a∧Ch g z b)↔(Ch g z (g a)∧Ch g z b):=by
 have hga:g a≠ -1:=by
  rcases ha.2 with rfl | h1
  ·have:=hb.pl0 ho;have:=ho.2.2.1;omega
  ·exact h1
 obtain⟨_,k2,k3⟩:=hw.2.2 a hga;refine⟨hga,k2,k3,fun z=> ?_⟩;rw [Ch.iff hga];constructor
 ·rintro ⟨rfl | h1,h2⟩
  ·have:=h2.ple hw;omega
  ·exact⟨h1,h2⟩
 ·rintro ⟨h1,h2⟩;exact⟨.inr h1,h2⟩
def Sh (ll:List (List Int)) (g:Int→Int) (l:List Int) (x:Int):Prop:=(x= -1∧∀p∈l,¬dF ll g p)∨(dF ll g x∧(∃p∈l,dF ll g p)∧∀z,Ch g z x↔∀p∈l,dF ll g p→Ch g z p)
theorem Sh.nil (ll:List (List Int)) (g:Int→Int):Sh ll g [] (-1):= .inl ⟨rfl,by simp⟩
theorem dF.ne {ll:List (List Int)} (h:Gr ll) {g:Int→Int} {x:Int} (k:dF ll g x):x≠ -1:=by have:=k.1.num h;omega
theorem Sh.no {ll:List (List Int)} {g:Int→Int} {l:List Int} {x b:Int} (h:Sh ll g l x) (hb:¬dF ll g b):Sh ll g (l ++ [b]) x:=by
 rcases h with ⟨h1,h2⟩ | ⟨h1,⟨p,h2,h3⟩,h4⟩
 ·refine .inl ⟨h1,fun p hp=> ?_⟩;rcases List.mem_append.1 hp with hp | hp
  ·exact h2 p hp
  ·simp at hp;subst hp;exact hb
 ·refine .inr ⟨h1,⟨p,by simp [h2],h3⟩,fun z=> ?_⟩;rw [h4];constructor
  ·intro h p hp hk;rcases List.mem_append.1 hp with hp | hp
   ·exact h p hp hk
   ·simp at hp;subst hp;exact absurd hk hb
  ·intro h p hp;exact h p (by simp [hp])
theorem Sh.first {ll:List (List Int)} (hg:Gr ll) {g:Int→Int} {l:List Int} {b:Int} (h:Sh ll g l (-1)) (hb:dF ll g b):Sh ll g (l ++ [b]) b:=by
 rcases h with ⟨_,h2⟩ | ⟨h1,_⟩
 ·refine .inr ⟨hb,⟨b,by simp,hb⟩,fun z=>⟨fun hz p hp hk=> ?_,fun hz=>hz b (by simp) hb⟩⟩;rcases List.mem_append.1 hp with hp | hp
  ·exact absurd hk (h2 p hp)
  ·simp at hp;subst hp;exact hz
 ·exact absurd rfl (h1.ne hg)
theorem Sh.more {ll:List (List Int)} {g:Int→Int} {l:List Int} {x b c:Int} (h:Sh ll g l x) (hx:x≠ -1) (hb:dF ll g b) (hc:dF ll g c) (hz:∀z,Ch g z c↔(Ch g z x∧Ch g z b)):Sh ll g (l ++ [b]) c:=by
 rcases h with ⟨h1,_⟩ | ⟨h1,⟨p,h2,h3⟩,h4⟩
 ·exact absurd h1 hx
 ·refine .inr ⟨hc,⟨p,by simp [h2],h3⟩,fun z=> ?_⟩;rw [hz,h4];constructor
  ·rintro ⟨k1,k2⟩ p hp hk;rcases List.mem_append.1 hp with hp | hp
   ·exact k1 p hp hk
   ·simp at hp;subst hp;exact k2
  ·intro k;exact⟨fun p hp=>k p (by simp [hp]),k b (by simp) hb⟩
theorem Sh.known {ll:List (List Int)} {g:Int→Int} {l:List Int} {x:Int} (h:Sh ll g l x) (hx:x≠ -1):dF ll g x:=by
 rcases h with ⟨h1,_⟩ | ⟨h1,_⟩
 ·exact absurd h1 hx
 ·exact h1
def gf (ll:List (List Int)) (pl:Int→Int) (z:Int):Nat→Nat→Int→Prop
 |0,_,m=>m=0∧m≠z
 |n+1,k,m=>∃b,m∈ll.getD b.toNat []∧m≠z∧((pl b < pl m∧gf ll pl z n k b)∨∃k',k=k'+1∧gf ll pl z n k' b)
theorem gf.mono {ll:List (List Int)} {pl:Int→Int} {z:Int}:∀n k m,gf ll pl z n k m→∀K,k≤K→gf ll pl z n K m:=by
 intro n;induction n with
 |zero=>intro k m h K _;exact h
 |succ n ih=>
  rintro k m ⟨b,h1,h2,h3⟩ K hK;refine⟨b,h1,h2,?_⟩;rcases h3 with ⟨h3,h4⟩ | ⟨k',rfl,h4⟩
  ·exact .inl ⟨h3,ih k b h4 K hK⟩
  ·exact .inr ⟨K - 1,by omega,ih k' b h4 _ (by omega)⟩
theorem gf.rch {ll:List (List Int)} {pl:Int→Int} {z:Int}:∀n k m,gf ll pl z n k m→Rch ll [0] z m:=by
 intro n;induction n with
 |zero=>rintro k m ⟨rfl,h⟩;exact Rch.start (by simp) h
 |succ n ih=>
  rintro k m ⟨b,h1,h2,h3⟩;rcases h3 with ⟨_,h4⟩ | ⟨k',_,h4⟩
  ·exact(ih k b h4).step h1 h2
  ·exact(ih k' b h4).step h1 h2
theorem gf.of {ll:List (List Int)} (pl:Int→Int) {z m:Int} (h:Rch ll [0] z m):∃n k,gf ll pl z n k m:=by
 have key:∀n m,Gb ll [0] z n m→gf ll pl z n n m:=by
  intro n;induction n with
  |zero=>rintro m ⟨h1,h2⟩;exact⟨by simpa using h1,h2⟩
  |succ n ih=>
   rintro m ⟨b,h1,h2,h3⟩;exact⟨b,h2,h3,.inr ⟨n,rfl,ih b h1⟩⟩
 obtain⟨n,h⟩:=h;exact⟨n,n,key n m h⟩
theorem gf.part {ll:List (List Int)} {pl:Int→Int} {z:Int} (a:Int):∀n k m,gf ll pl z n k m→gf ll pl a n k m∨∃n',gf ll pl z n' k a:=by
 intro n;induction n with
 |zero=>
  rintro k m ⟨rfl,h⟩;by_cases e:a=0
  ·subst e;exact .inr ⟨0,rfl,h⟩
  ·exact .inl ⟨rfl,fun e2=>e e2.symm⟩
 |succ n ih=>
  intro k m hm;by_cases e:m=a
  ·subst e;exact .inr ⟨n+1,hm⟩
  ·obtain⟨b,h1,h2,h3⟩:=hm;rcases h3 with ⟨h3,h4⟩ | ⟨k',rfl,h4⟩
   ·rcases ih k b h4 with q | q
    ·exact .inl ⟨b,h1,e,.inl ⟨h3,q⟩⟩
    ·exact .inr q
   ·rcases ih k' b h4 with q | ⟨n',q⟩
    ·exact .inl ⟨b,h1,e,.inr ⟨k',rfl,q⟩⟩
    ·exact .inr ⟨n',gf.mono _ _ _ q _ (by omega)⟩
def Dd (ll:List (List Int)) (g:Int→Int):Prop:=∀x y,g x≠ -1→Ahd ll y x→y≠x→Ahd ll y (g x)
def Mis (ll:List (List Int)) (pl:Int→Int) (r:Nat) (g:Int→Int):Prop:=∀d z n k,All ll d→k < r→gf ll pl z n k d→¬Ch g z d
def Rd (ll:List (List Int)) (pl:Int→Int) (r:Nat) (g:Int→Int):Prop:=Wf ll pl g∧(0 < r→∀x,All ll x→x≠0→g x≠ -1)∧Dd ll g∧Mis ll pl r g
def Mrd (ll:List (List Int)) (pl:Int→Int) (r i:Nat) (old g:Int→Int):Prop:=Wf ll pl g∧(∀x,All ll x→x≠0→pl x < i∨0 < r→g x≠ -1)∧Dd ll g∧(∀x,All ll x→(i:Int)≤pl x→g x=old x)∧
 (∀d z n k,All ll d→pl d < i→k≤r→gf ll pl z n k d→¬Ch g z d)∧Mis ll pl r old
theorem Mrd.start {ll:List (List Int)} {pl:Int→Int} (ho:Ord ll pl) {r:Nat} {g:Int→Int} (h:Rd ll pl r g):Mrd ll pl r 0 g g:=by
 refine⟨h.1,fun x hx h0 hr=> ?_,h.2.2.1,fun _ _ _=>rfl,fun d z n k hd hp=> ?_,h.2.2.2⟩
 ·rcases hr with hr | hr
  ·have:=(ho.1 x).1 hx;omega
  ·exact h.2.1 hr x hx h0
 ·have:=(ho.1 d).1 hd;omega
theorem Mrd.zero {ll:List (List Int)} {pl:Int→Int} (ho:Ord ll pl) {r:Nat} {old g:Int→Int} (h:Mrd ll pl r 0 old g):Mrd ll pl r 1 old g:=by
 have hz:∀x,All ll x→pl x < (1:Nat)→x=0:=by
  intro x hx hp;have h1:=(ho.1 x).1 hx;have h2:=ho.2.2.1;exact ho.2.1 x 0 hx (All.first _) (by omega)
 refine⟨h.1,fun x hx h0 hr=> ?_,h.2.2.1,fun x hx hp=>h.2.2.2.1 x hx (by omega),fun d z n k hd hp hk hway hc=> ?_,h.2.2.2.2.2⟩
 ·rcases hr with hr | hr
  ·exact absurd (hz x hx hr) h0
  ·exact h.2.1 x hx h0 (.inr hr)
 ·obtain rfl:=hz d hd hp;have:=hc.zero h.1;subst this;exact(gf.rch n k 0 hway).ne rfl
theorem Mrd.done {ll:List (List Int)} {pl:Int→Int} {r n:Nat} {old g:Int→Int} (h:Mrd ll pl r n old g) (hn:∀x,All ll x→pl x < n):Rd ll pl (r+1) g:=
 ⟨h.1,fun _ x hx h0=>h.2.1 x hx h0 (.inl (hn x hx)),h.2.2.1,fun d z m k hd hk hw=>h.2.2.2.2.1 d z m k hd (hn d hd) (by omega) hw⟩
theorem Ahd.pred {ll:List (List Int)} {y b p:Int} (h:Ahd ll y b) (hne:y≠b) (hp:All ll p) (hb:b∈ll.getD p.toNat []):Ahd ll y p:=by
 refine⟨h.1,hp,?_⟩;right;intro hr;exact(h.2.2.resolve_left hne) (hr.step hb (fun e=>hne e.symm))
theorem Dd.ch {ll:List (List Int)} {pl g:Int→Int} (hw:Wf ll pl g) (hd:Dd ll g):∀(N:Nat) (y d:Int),pl d < N→0≤pl d→dF ll g d→Ord ll pl→Ahd ll y d→Ch g y d:=by
 intro N;induction N with
 |zero=>intro y d h1 h2;omega
 |succ N ih=>
  intro y d h1 h2 hk ho ha;by_cases e:y=d
  ·subst e;exact Ch.refl _ _
  ·have h0:d≠0:=by
    rintro rfl;exact e (ha.tU (Ahd.first ha.1))
   have hg:g d≠ -1:=hk.2.resolve_left h0;obtain⟨_,k2,k3⟩:=hw.2.2 d hg;exact Ch.up hg (ih y (g d) (by omega) (k2.pl0 ho) k2 ho (hd d y hg ha e))
theorem Dd.Lj {ll:List (List Int)} {pl g:Int→Int} (hw:Wf ll pl g) (hd:Dd ll g) {x y p:Int} (h:Ch g x p) (ha:Ahd ll y p) (hp:pl y≤pl x):Ahd ll y x:=by
 have key:∀n p,ChN g n x p→Ahd ll y p→Ahd ll y x:=by
  intro n;induction n with
  |zero=>rintro p rfl h;exact h
  |succ n ih=>
   rintro p ⟨h1,h2⟩ ha;refine ih (g p) h2 (hd p y h1 ha ?_);rintro rfl;have:=(hw.2.2 y h1).2.2;have:=Ch.ple hw ⟨n,h2⟩;omega
 obtain⟨n,h⟩:=h;exact key n p h ha
def upd (g:Int→Int) (b x:Int):Int→Int:=fun y=>if y=b then x else g y
theorem pH (g:Int→Int) (b x:Int):upd g b x b=x:=if_pos rfl
theorem lh (g:Int→Int) {b x y:Int} (h:y≠b):upd g b x y=g y:=if_neg h
theorem Ch.AR {ll:List (List Int)} {pl g:Int→Int} (hw:Wf ll pl g) {b x d z:Int} (h:pl d < pl b):Ch (upd g b x) z d↔Ch g z d:=by
 have key:∀n d,pl d < pl b→(ChN (upd g b x) n z d↔ChN g n z d):=by
  intro n;induction n with
  |zero=>intro d _;exact Iff.rfl
  |succ n ih=>
   intro d h;have e:upd g b x d=g d:=lh g (by rintro rfl;omega);show(upd g b x d≠ -1∧ChN (upd g b x) n z (upd g b x d))↔(g d≠ -1∧ChN g n z (g d));rw [e];constructor
   ·rintro ⟨h1,h2⟩;exact⟨h1,(ih _ (by have:=(hw.2.2 d h1).2.2;omega)).1 h2⟩
   ·rintro ⟨h1,h2⟩;exact⟨h1,(ih _ (by have:=(hw.2.2 d h1).2.2;omega)).2 h2⟩
 exact⟨fun⟨n,k⟩=>⟨n,(key n d h).1 k⟩,fun⟨n,k⟩=>⟨n,(key n d h).2 k⟩⟩
theorem Ch.Lq {ll:List (List Int)} {pl g old:Int→Int} (hw:Wf ll pl g) {i:Nat} (hs:∀x,All ll x→(i:Int)≤pl x→g x=old x) {z p:Int} (h:Ch g z p) (hp:All ll p) (hz:pl z < i):
  ∃a,All ll a∧pl a < i∧Ch g z a∧Ch old a p:=by
 have key:∀n p,ChN g n z p→All ll p→∃a,All ll a∧pl a < i∧Ch g z a∧Ch old a p:=by
  intro n;induction n with
  |zero=>
   rintro p rfl h;exact⟨z,h,hz,Ch.refl _ _,Ch.refl _ _⟩
  |succ n ih=>
   intro p h hp;by_cases e:pl p < i
   ·exact⟨p,hp,e,⟨n+1,h⟩,Ch.refl _ _⟩
   ·obtain⟨h1,h2⟩:=h;obtain⟨a,k1,k2,k3,k4⟩:=ih (g p) h2 (hw.2.2 p h1).2.1.1;have e2:=hs p hp (by omega);exact⟨a,k1,k2,k3,Ch.up (by rw [←e2];exact h1) (by rw [←e2];exact k4)⟩
 obtain⟨n,h⟩:=h;exact key n p h hp
theorem Mrd.step {ll:List (List Int)} (hg:Gr ll) {pl:Int→Int} (ho:Ord ll pl) {r i:Nat} {old g:Int→Int} (h:Mrd ll pl r i old g) {b x:Int} {l:List Int} (hb:All ll b) (h0:b≠0) (hp:pl b=i)
  (hl:∀p,p∈l↔(0≤p∧p < ll.length∧b∈ll.getD p.toNat [])) (hs:Sh ll g l x):Mrd ll pl r (i+1) old (upd g b x):=by
 obtain⟨hw,hk,hd,hsame,hmis,hold⟩:=h;have inl:∀p,All ll p→b∈ll.getD p.toNat []→p∈l:=fun p hp hm=>(hl p).2 ⟨(hp.num hg).1,(hp.num hg).2,hm⟩;obtain⟨p0,q1,q2,q3⟩:=ho.2.2.2 b hb h0;have kn:∀p,All ll p→pl p < i∨0 < r→dF ll g p:=fun p hp hi=>⟨hp,by
  by_cases e:p=0
  ·exact .inl e
  ·exact .inr (hk p hp e hi)⟩
 have kp0:dF ll g p0:=kn p0 q1 (.inl (by omega));rcases hs with ⟨_,hs2⟩ | ⟨kx,_,hz⟩
 ·exact absurd kp0 (hs2 p0 (inl p0 q1 q2))
 have cx0:Ch g x p0:=(hz x).1 (Ch.refl _ _) p0 (inl p0 q1 q2) kp0;have hxi:pl x < i:=by have:=cx0.ple hw;omega
 have hxb:x≠b:=by rintro rfl;omega
 have kmono:∀y,dF ll g y→dF ll (upd g b x) y:=by
  intro y hy;refine⟨hy.1,hy.2.imp id fun e=> ?_⟩;by_cases eb:y=b
  ·subst eb;rw [pH];exact kx.ne hg
  ·rw [lh g eb];exact e
 refine⟨⟨?_,?_,?_⟩,?_,?_,?_,?_,hold⟩
 ·rw [lh g (fun e=>h0 e.symm)];exact hw.1
 ·intro y hy;rw [lh g (by rintro rfl;exact hy hb)];exact hw.2.1 y hy
 ·intro y hy;by_cases eb:y=b
  ·subst eb;rw [pH];exact⟨hb,kmono x kx,by omega⟩
  ·rw [lh g eb] at hy ⊢;obtain⟨k1,k2,k3⟩:=hw.2.2 y hy;exact⟨k1,kmono _ k2,k3⟩
 ·intro y hy hy0 hi;by_cases eb:y=b
  ·subst eb;rw [pH];exact kx.ne hg
  ·rw [lh g eb];refine hk y hy hy0 ?_;rcases hi with hi | hi
   ·left;refine Classical.byContradiction fun e=>eb (ho.2.1 y b hy hb ?_);have:pl y < ((i+1:Nat):Int):=hi;omega
   ·exact .inr hi
 ·intro v y hv ha hne;by_cases eb:v=b
  ·subst eb;rw [pH];have hin:∀p,All ll p→v∈ll.getD p.toNat []→dF ll g p→Ch g y p:=fun p hp hm hkp=>Dd.ch hw hd ((pl p).toNat+1) y p (by have:=hkp.pl0 ho;omega) (hkp.pl0 ho) hkp ho (ha.pred hne hp hm);have cy:Ch g y x:=(hz y).2 (fun p hpl hkp=>hin p hkp.1 ((hl p).1 hpl).2.2 hkp);exact Dd.Lj hw hd cx0 (ha.pred hne q1 q2) (cy.ple hw)
  ·rw [lh g eb] at hv ⊢;exact hd v y hv ha hne
 ·intro y hy hi;rw [lh g (by rintro rfl;omega)];exact hsame y hy (by omega)
 ·intro d z n k hda hdi hkr hway hc;by_cases eb:d=b
  ·subst eb
   cases n with
   |zero=>exact h0 hway.1
   |succ n=>
    obtain⟨p,h1,h2,h3⟩:=hway;have hcx:Ch g z x:=by
     rcases hc.cases with e | ⟨_,e⟩
     ·exact absurd e.symm h2
     ·rw [pH] at e;exact(Ch.AR hw (by omega)).1 e
    rcases h3 with ⟨h3,h4⟩ | ⟨k',rfl,h4⟩
    ·have hpa:=(gf.rch _ _ _ h4).all hg.1;exact hmis p z n k hpa (by omega) hkr h4 ((hz z).1 hcx p (inl p hpa h1) (kn p hpa (.inl (by omega))))
    ·have hpa:=(gf.rch _ _ _ h4).all hg.1;have hcp:=(hz z).1 hcx p (inl p hpa h1) (kn p hpa (.inr (by omega)));obtain⟨a,a1,a2,a3,a4⟩:=hcp.Lq hw hsame hpa (by have:=hcx.ple hw;omega);rcases gf.part a n k' p h4 with q | ⟨n',q⟩
     ·exact hold p a n k' hpa (by omega) q a4
     ·exact hmis a z n' k' a1 a2 (by omega) q a3
  ·have hdi2:pl d < i:=by
    refine Classical.byContradiction fun e=>eb (ho.2.1 d b hda hb ?_);have:pl d < ((i+1:Nat):Int):=hdi;omega
   exact hmis d z n k hda hdi2 hkr hway ((Ch.AR hw (by omega)).1 hc)
theorem EJ {ll:List (List Int)} (hg:Gr ll) {pl g:Int→Int} (hw:Wf ll pl g) (hk:∀x,All ll x→x≠0→g x≠ -1) (hd:Dd ll g) (hm:∀d z,All ll d→Rch ll [0] z d→¬Ch g z d) (b:Int):g b=upB ll b:=by
 by_cases hb:All ll b
 ·by_cases h0:b=0
  ·subst h0;rw [hw.1];exact(uC hg fun a=>iW.lC).symm
  ·have h1:=hk b hb h0;obtain⟨_,k2,k3⟩:=hw.2.2 b h1;have hne:g b≠b:=(by intro e;rw [e] at k3;omega);have hah:Ahd ll (g b) b:=⟨k2.1,hb,.inr fun hr=>hm b (g b) hb hr (Ch.up h1 (Ch.refl _ _))⟩;exact(tq hg (iW.Iw hg hah hne (fun c hc hcb=>hd b c h1 hc hcb))).symm
 ·rw [hw.2.1 b hb];exact(uC hg fun a ha=>hb ha.2.1.2.1).symm
theorem vN {P:Nat→Nat→Prop} (hm:∀j k k',P j k→k≤k'→P j k'):∀m,(∀j,j < m→∃k,P j k)→∃K,∀j,j < m→P j K:=by
 intro m;induction m with
 |zero=>intro _;exact⟨0,fun j h=>by omega⟩
 |succ m ih=>
  intro h;obtain⟨K,hK⟩:=ih (fun j hj=>h j (by omega));obtain⟨k,hk⟩:=h m (by omega);refine⟨max K k,fun j hj=> ?_⟩;by_cases e:j=m
  ·subst e;exact hm _ _ _ hk (Nat.le_max_right _ _)
  ·exact hm _ _ _ (hK j (by omega)) (Nat.le_max_left _ _)
def EY (ll:List (List Int)) (pl:Int→Int) (K:Nat):Prop:=∀d z,All ll d→All ll z→Rch ll [0] z d→∃n,gf ll pl z n K d
theorem rP {ll:List (List Int)} (hg:Gr ll) (pl:Int→Int):∃K,EY ll pl K:=by
 obtain⟨K,hK⟩:=vN (P:=fun d K=>∀z,z < ll.length→Rch ll [0] (z:Int) (d:Int)→∃n,gf ll pl (z:Int) n K (d:Int))
  (fun j k k' h hk z hz hr=>by obtain⟨n,q⟩:=h z hz hr;exact⟨n,gf.mono _ _ _ q _ hk⟩) ll.length (fun d _=>by
   refine vN (P:=fun z K=>Rch ll [0] (z:Int) (d:Int)→∃n,gf ll pl (z:Int) n K (d:Int)) (fun j k k' h hk hr=>by obtain⟨n,q⟩:=h hr;exact⟨n,gf.mono _ _ _ q _ hk⟩) ll.length (fun z _=> ?_);by_cases hr:Rch ll [0] (z:Int) (d:Int)
   ·obtain⟨n,k,q⟩:=gf.of pl hr;exact⟨k,fun _=>⟨n,q⟩⟩
   ·exact⟨0,fun h=>absurd h hr⟩)
 refine⟨K,fun d z hd hz hr=> ?_⟩;obtain⟨d0,d1⟩:=hd.num hg;obtain⟨z0,z1⟩:=hz.num hg;obtain⟨D,rfl⟩:∃D:Nat,d=(D:Int):=⟨d.toNat,by omega⟩;obtain⟨Z,rfl⟩:∃Z:Nat,z=(Z:Int):=⟨z.toNat,by omega⟩;exact hK D (by omega) Z (by omega) hr
theorem Rd.exact {ll:List (List Int)} (hg:Gr ll) {pl g:Int→Int} {r K:Nat} (h:Rd ll pl r g) (hK:EY ll pl K) (hr:K < r) (b:Int):g b=upB ll b:=by
 obtain⟨hw,hk,hd,hm⟩:=h;refine EJ hg hw (hk (by omega)) hd (fun d z hda hrch hc=> ?_) b;by_cases h0:d=0
 ·subst h0;have:=hc.zero hw;subst this;exact hrch.ne rfl
 ·have hz:All ll z:=(hc.LZ hw ⟨hda,.inr (hk (by omega) d hda h0)⟩).1;obtain⟨n,q⟩:=hK d z hda hz hrch;exact hm d z n K hda hr q hc
theorem Rd.fixed {ll:List (List Int)} (hg:Gr ll) {pl g:Int→Int} {r:Nat} (h:Rd ll pl r g) (hs:∀r,Rd ll pl r g→Rd ll pl (r+1) g) (b:Int):g b=upB ll b:=by
 obtain⟨K,hK⟩:=rP hg pl;have key:∀n,Rd ll pl (r+n) g:=by
  intro n;induction n with
  |zero=>exact h
  |succ n ih=>exact hs _ ih
 exact Rd.exact hg (key (K+1)) hK (by omega) b
theorem Rd.start {ll:List (List Int)} {pl g:Int→Int} (h:∀x,g x= -1):Rd ll pl 0 g:=
 ⟨⟨h 0,fun x _=>h x,fun x hx=>absurd (h x) hx⟩,fun h=>by omega,fun x y hx=>absurd (h x) hx,fun d z n k _ hk=>by omega⟩
theorem Ahd.order {ll:List (List Int)} {pl:Int→Int} (ho:Ord ll pl) {a b:Int} (h:Ahd ll a b):a=b∨pl a < pl b:=by
 have key:∀(N:Nat) (b:Int),pl b < N→Ahd ll a b→a=b∨pl a < pl b:=by
  intro N;induction N with
  |zero=>
   intro b hb h;have:=(ho.1 b).1 h.2.1;omega
  |succ N ih=>
   intro b hb h;by_cases e:a=b
   ·exact .inl e
   ·have h0:b≠0:=(by rintro rfl;exact e (h.tU (Ahd.first h.1)));obtain⟨p,q1,q2,q3⟩:=ho.2.2.2 b h.2.1 h0;rcases ih p (by omega) (h.pred e q1 q2)with rfl | q
    ·exact .inr q3
    ·exact .inr (by omega)
 exact key ((pl b).toNat+1) b (by have:=(ho.1 b).1 h.2.1;omega) h
theorem aP {w:World} {b t:Nat} {a0 a1:Value} (h:w.heap[b]? =some (.cells #[a0,a1] t (0,0))):(w.cell? ⟨b,0,none⟩=some a0∧w.cell? ⟨b,1,none⟩=some a1)∧(w.frozen? ⟨b,0,none⟩=false∧w.frozen? ⟨b,1,none⟩=false)∧b < w.heap.size:=by
 refine⟨⟨?_,?_⟩,⟨?_,?_⟩,(Array.getElem?_eq_some_iff.1 h).1⟩ <;> simp [World.cell?,World.frozen?,h]
theorem qt {p:List Fun} {f:Fun} {x:Ins} (h2:x.1=21):cE p f x=if(findF p x.2.2.2.2.2.2.1).isSome then(if((findF p x.2.2.2.2.2.2.1).getD ie).2.2.1≠x.2.2.2.1 then 9 else if((findF p x.2.2.2.2.2.2.1).getD ie).2.1.length≠x.2.2.2.2.1.length then 13 else 0)else 12:=by
 unfold cE;rw [if_neg (by rw [h2];simp),if_neg (by rw [h2];simp)]
 cases findF p x.2.2.2.2.2.2.1 <;> rfl
def qL (p:List Fun) (x:Ins) (n:Nat):Prop:=(x.1=21→n < ((findF p x.2.2.2.2.2.2.1).getD ie).2.1.length)∧(x.1≠20→x.1≠24→x.1≠28→x.1≠21→n < (L5.takes (L5.num x.1)).length)
end Go.Proofs.YtljkgcfnoegibaaGreatDoor
