/- Texts of one chain, joined. -/
import Derived.Test.YtljkgcfnoegibaaGreatDoorZAAS
import Derived.Maps.OwnSet
import Derived.Maps.OwnOps
set_option maxHeartbeats 1000000
set_option maxRecDepth 20000
namespace Go.Proofs.YtljkgcfnoegibaaGreatDoor
open Go Go.RowKit
open G (Tok Er Ins Fun)
open Mix (Up)
def uB (w:World) (l:List Int) (v:Value):Prop:=∃g o u,v= .pointer (some ⟨g,o,none⟩)∧g < w.heap.size∧w.cell? ⟨g,o,none⟩=some u∧bX w l u
theorem uB.below {w w':World} {l:List Int} {v:Value} (h:uB w l v) (b:Below w.heap.size w w'):uB w' l v:=by
 obtain⟨g,o,u,e,hg,hc,hi⟩:=h;exact⟨g,o,u,e,Nat.lt_of_lt_of_le hg b.size,(b.cell (p:=⟨g,o,none⟩) hg).trans hc,hi.below b⟩
def Up.LF (l:List Int):Up:=⟨fun v w=>uB w l v,fun _ _ _ b h=>h.below b⟩
theorem bW {w:World} {ll:List (List Int)} {v:Value} {l:List Int} (h:fL w ll v) (hl:ll[0]? =some l):∃g o c u,v= .slice (some ⟨g,o,none⟩) ll.length c∧g < w.heap.size∧w.cell? ⟨g,o,none⟩=some u∧bX w l u:=by
 obtain⟨ao,c,rfl,hr,_,_⟩:=h;rcases hr with he | ⟨g,o,rfl,hg,hc⟩
 ·rw [he] at hl;simp at hl
 ·obtain⟨u,hu,hi⟩:=hc 0 l hl;exact⟨g,o,c,u,rfl,hg,hu,hi⟩
def DA (B:Nat) (w:World) (v:Value):Prop:=∃b,v= .pointer (some ⟨b,0,none⟩)∧B≤b∧w.heap[b]? =some (.cells #[.int .i64 0,.int .i64 0,.int .i64 0,.bool false] 62 (0,0))
theorem DA.below {B:Nat} {w w':World} {v:Value} (h:DA B w v) (b:Below w.heap.size w w'):DA B w' v:=by
 obtain⟨q,e,hb,hq⟩:=h;exact⟨q,e,hb,(b.block q (Array.getElem?_eq_some_iff.1 hq).1).trans hq⟩
def Kept (p:List Fun) (f:Fun):Prop:=((aH f).1=0→Ful f∧Tos f∧0 < f.2.2.2.1.length)∧∀k i,k < f.2.2.2.1.length→i < (aG f k).length→cE p f (au f k i)=0→∀n,n < (au f k i).2.2.2.2.1.length→qL p (au f k i) n∧((au f k i).1=20→n < (au f k i).2.2.2.2.2.1.length)
theorem pY:∀(p:List Fun) (i m:Nat),(wholeF i m p).1≠0→∃j:Nat,(wholeF i m p).2=j∧i≤j∧j < i+p.length:=by
 intro p;induction p with
 |nil=>intro i m h;simp [wholeF] at h
 |cons f r ih=>
  intro i m h;by_cases hi:i=32
  ·subst hi;exact⟨32,by rw [kb],Nat.le_refl _,by simp⟩
  ·by_cases hh:bZ f≠0
   ·exact⟨i,by rw [j5 m r hi hh],Nat.le_refl _,by simp⟩
   ·have hh':bZ f=0:=(by simpa using hh);by_cases hb:(runB m f.2.2.2.1).2≠0
    ·exact⟨i,by rw [mg r hi hh' hb],Nat.le_refl _,by simp⟩
    ·have hb':(runB m f.2.2.2.1).2=0:=(by simpa using hb);rw [mq r hi hh' hb'] at h ⊢;obtain⟨j,h1,h2,h3⟩:=ih (i+1) _ h;exact⟨j,h1,by omega,by simp;omega⟩
def yH (B:Nat) (w:World) (v:Value):Prop:=∃b,v= .pointer (some ⟨b,0,none⟩)∧B≤b∧w.heap[b]? =some (.cells #[.int .i64 0,.int .i64 0] 29 (0,0))
theorem yH.below {B:Nat} {w w':World} {v:Value} (h:yH B w v) (b:Below w.heap.size w w'):yH B w' v:=by
 obtain⟨q,e,hb,hq⟩:=h;exact⟨q,e,hb,(b.block q (Array.getElem?_eq_some_iff.1 hq).1).trans hq⟩
def Up.J2 (B:Nat):Up:=⟨fun v w=>yH B w v,fun _ _ _ b h=>h.below b⟩
theorem Ds (b:List Ins):∀m,m≤4096→((runI m b).2=0↔(∀x∈b,aJ x=0)∧m+b.length≤4096)∧((runI m b).2=0→(runI m b).1=m+b.length):=by
 induction b with
 |nil=>intro m hm;simp [runI,hm]
 |cons x b ih=>
  intro m hm;by_cases h1:m=4096
  ·subst h1;simp only [runI,if_true,List.length_cons];exact⟨⟨fun k=>(by cases k),fun k=>(by omega)⟩,fun k=>(by cases k)⟩
  ·by_cases h2:aJ x=0
   ·rw [runI,if_neg h1,if_neg (by simp [h2])];obtain⟨i1,i2⟩:=ih (m+1) (by omega);refine⟨?_,fun k=>by rw [i2 k,List.length_cons];omega⟩;rw [i1];simp only [List.mem_cons,forall_eq_or_imp,h2,true_and,List.length_cons];constructor <;> rintro ⟨a,b⟩ <;> exact⟨a,by omega⟩
   ·rw [runI,if_neg h1,if_pos h2];refine⟨⟨fun k=>absurd k h2,fun k=>absurd (k.1 x (by simp)) h2⟩,fun k=>absurd k h2⟩
def szB (l:List (List Ins)):Nat:=(l.map List.length).sum
theorem Fx (l:List (List Ins)):∀m,m≤4096→((runB m l).2=0↔(∀b∈l,∀x∈b,aJ x=0)∧m+szB l≤4096)∧((runB m l).2=0→(runB m l).1=m+szB l):=by
 induction l with
 |nil=>intro m hm;simp [runB,szB,hm]
 |cons b l ih=>
  intro m hm;obtain⟨j1,j2⟩:=Ds b m hm;have hs:szB (b :: l)=b.length+szB l:=by simp [szB]
  by_cases h1:(runI m b).2=0
  ·rw [runB,if_neg (by simp [h1]),j2 h1];obtain⟨k1,k2⟩:=j1.1 h1;obtain⟨i1,i2⟩:=ih (m+b.length) k2;rw [hs];refine⟨?_,fun k=>by rw [i2 k];omega⟩;rw [i1];simp only [List.mem_cons,forall_eq_or_imp];constructor
   ·rintro ⟨a,c⟩;exact⟨⟨k1,a⟩,by omega⟩
   ·rintro ⟨⟨_,a⟩,c⟩;exact⟨a,by omega⟩
  ·rw [runB,if_pos h1,hs];refine⟨⟨fun k=>absurd k h1,fun k=>absurd (j1.2 ⟨k.1 b (by simp),by omega⟩) h1⟩,fun k=>absurd k h1⟩
def szP (p:List Fun):Nat:=(p.map fun x=>szB x.2.2.2.1).sum
theorem rN (p:List Fun):∀i m,i≤32→m≤4096→((wholeF i m p).1=0↔(∀f∈p,bZ f=0∧∀b∈f.2.2.2.1,∀x∈b,aJ x=0)∧i+p.length≤32∧m+szP p≤4096)∧((wholeF i m p).1=0→wholeF i m p=(0,0)):=by
 induction p with
 |nil=>intro i m h1 h2;simp [wholeF,szP,h1,h2]
 |cons f p ih=>
  intro i m h1 h2;have hs:szP (f :: p)=szB f.2.2.2.1+szP p:=by simp [szP]
  obtain⟨j1,j2⟩:=Fx f.2.2.2.1 m h2;rw [hs];by_cases k1:i=32
  ·subst k1;rw [kb,List.length_cons];exact⟨⟨fun k=>(by cases k),fun k=>(by omega)⟩,fun k=>(by cases k)⟩
  by_cases k2:bZ f=0
  ·by_cases k3:(runB m f.2.2.2.1).2=0
   ·rw [mq p k1 k2 k3,j2 k3];obtain⟨b1,b2⟩:=j1.1 k3;obtain⟨i1,i2⟩:=ih (i+1) (m+szB f.2.2.2.1) (by omega) b2;refine⟨?_,i2⟩;rw [i1];simp only [List.mem_cons,forall_eq_or_imp,List.length_cons];constructor
    ·rintro ⟨a,c,d⟩;exact⟨⟨⟨k2,b1⟩,a⟩,by omega,by omega⟩
    ·rintro ⟨⟨_,a⟩,c,d⟩;exact⟨a,by omega,by omega⟩
   ·rw [mg p k1 k2 k3];refine⟨⟨fun k=>absurd k k3,fun k=>absurd (j1.2 ⟨(k.1 f (by simp)).2,by omega⟩) k3⟩,fun k=>absurd k k3⟩
  ·rw [j5 m p k1 k2];refine⟨⟨fun k=>absurd k k2,fun k=>absurd (k.1 f (by simp)).1 k2⟩,fun k=>absurd k k2⟩
def Shp (f:Fun):Prop:=f.2.2.2.1.length≤1000000∧(∀b∈f.2.2.2.1,∀x∈b,x.2.2.2.2.2.1.length≤1000000)∧(aH f).1=0
theorem AM {f:Fun} (h:Shp f):0 < f.2.2.2.1.length:=by
 have h3:=h.2.2;unfold aH at h3;split at h3
 ·cases h3
 ·omega
theorem AV {f:Fun} (h:Shp f):∀b∈f.2.2.2.1,b.length≠0∧blkGo f.2.2.2.1.length b.length 0 b=0:=by
 have h0:=AM h;have h3:=h.2.2;unfold aH at h3;rw [if_neg (by omega)] at h3;intro b hb;have:=rn _ _ _ h3 b hb;unfold jw at this;split at this
 ·cases this
 ·exact⟨by assumption,this⟩
theorem Ar {f:Fun} (h:Shp f):Ful f:=by
 refine⟨Nat.le_trans h.1 (by omega),fun b hb=>⟨fun e=>(AV h b hb).1 (by rw [e];rfl),fun x hx=> ?_⟩⟩;exact Nat.le_trans (h.2.1 b hb x hx) (by omega)
theorem Ir {f:Fun} (h:Shp f):Tos f:=by
 intro j;by_cases hj:j < f.2.2.2.1.length
 ·have hb:f.2.2.2.1[j]? =some f.2.2.2.1[j]:=List.getElem?_eq_getElem hj;obtain⟨h1,h2⟩:=AV h _ (List.mem_of_getElem? hb);obtain⟨x,hx,hl,_⟩:=(Ar h).last (List.mem_of_getElem? hb);rw [ju hb,hl];obtain⟨k1,k2⟩:=yA _ _ _ _ h2 _ x hx;have hend:fj x.1=true:=by rw [k1];simp;omega
  have hop:x.1≠20:=by
   intro e;rw [e] at hend;simp [fj] at hend
  have hbt:gT f.2.2.2.1.length x.2.2.2.2.2.1=false:=by
   unfold fT at k2;simpa [hop] using k2
  intro m hm;have hm2:m∈x.2.2.2.2.2.1:=by rw [←bL,sQ,bL] at hm;exact hm
  unfold gT at hbt;have:=List.any_eq_false.1 hbt m hm2;simp at this;omega
 ·have e:aW f j= []:=by
   unfold aW;rw [List.getD_eq_getElem?_getD,List.getElem?_eq_none (by omega)];rfl
  rw [e];intro m hm
  cases hm
theorem nD {x:Ins} (h:aJ x=0):eU x.1 x.2.2.2.2.1.length x.2.2.2.2.2.1.length=true:=by
 cases hc:eU x.1 x.2.2.2.2.1.length x.2.2.2.2.2.1.length with
 |true=>rfl
 |false=>
  exfalso;unfold aJ at h;rw [hc] at h;by_cases h1:(kh x.1 && L5.may x.1 x.2.2.2.1)=false
  ·rw [if_pos h1] at h;cases h
  ·rw [if_neg h1] at h;by_cases h2:iE x.1 x.2.1 x.2.2.2.1=false
   ·rw [if_pos h2] at h;cases h
   ·rw [if_neg h2,if_pos rfl] at h;cases h
theorem E5:(L5.takes (L5.num 27)).length=1:=by decide +kernel
theorem Am {p:List Fun} {f:Fun} {x:Ins} {n:Nat} (hc:aJ x=0) (hh:cE p f x=0) (hn:n < x.2.2.2.2.1.length):qL p x n∧(x.1=20→n < x.2.2.2.2.2.1.length):=by
 have hk:=nD hc;refine⟨⟨fun h21=> ?_,fun h20 h24 h28 h21=> ?_⟩,fun h20=> ?_⟩
 ·rw [qt h21] at hh
  cases hs:(findF p x.2.2.2.2.2.2.1).isSome with
  |false=>rw [hs] at hh;simp at hh
  |true=>
   rw [hs,if_pos rfl] at hh;by_cases h1:((findF p x.2.2.2.2.2.2.1).getD ie).2.2.1≠x.2.2.2.1
   ·rw [if_pos h1] at hh;cases hh
   ·rw [if_neg h1] at hh;by_cases h2:((findF p x.2.2.2.2.2.2.1).getD ie).2.1.length≠x.2.2.2.2.1.length
    ·rw [if_pos h2] at hh;cases hh
    ·have h3:((findF p x.2.2.2.2.2.2.1).getD ie).2.1.length=x.2.2.2.2.1.length:=(by simpa using h2);omega
 ·unfold eU at hk;rw [if_neg h20,if_neg h21,if_neg h24] at hk;by_cases h26:x.1=26
  ·rw [if_pos h26] at hk;simp at hk;rw [hk.1] at hn;simp at hn
  ·rw [if_neg h26] at hk;by_cases h27:x.1=27
   ·rw [if_pos h27] at hk;simp at hk;rw [h27,E5];omega
   ·rw [if_neg h27,if_neg h28] at hk;simp at hk;have:=hk.1;unfold tkN at this;omega
 ·unfold eU at hk;rw [if_pos h20] at hk;simp at hk;omega
theorem Hn {p:List Fun} (hW:(wholeF 0 0 p).1=0) (hN:∀f∈p,f.2.2.2.1.length≤1000000∧∀b∈f.2.2.2.1,∀x∈b,x.2.2.2.2.2.1.length≤1000000):∀f∈p,Kept p f:=by
 intro f hf;have hc:=(((rN p 0 0 (by omega) (by omega)).1.1 hW).1 f hf).2;refine⟨fun hS=> ?_,fun k i hk hi hh n hn=> ?_⟩
 ·have h:Shp f:=⟨(hN f hf).1,(hN f hf).2,hS⟩;exact⟨Ar h,Ir h,AM h⟩
 ·exact Am (hc _ (List.mem_of_getElem? (eS hk)) _ (List.mem_of_getElem? (gR hi))) hh hn
theorem g9 {α:Type} (g:Nat→Option α) (n:Nat):bw g (n+1)=(bw g n).or (g n):=by
 unfold bw;rw [List.range_succ,List.findSome?_append]
 cases h:g n <;> simp [List.findSome?,h]
theorem mD {α:Type} {g h:Nat→Option α} {n:Nat} (e:∀j,j < n→g j=h j):bw g n=bw h n:=by
 induction n with
 |zero=>rfl
 |succ n ih=>rw [g9,g9,ih (fun j hj=>e j (by omega)),e n (by omega)]
theorem uM (f:Fun) (id:Int):gz f id 0 0=none:=by
 unfold gz;apply bh;intro k hk;have hk0:k=0:=by omega
 subst hk0;simp [fH,fU,bw]
theorem zV {f:Fun} {id:Int} {K J:Nat} (hK:K < f.2.2.2.1.length) (hJ:J < (aG f K).length):gz f id K (J+1)=(gz f id K J).or (me f id K J):=by
 unfold gz;rw [Nat.min_eq_left (by omega),g9,g9];have e:bw (fun k=>fU f id k (fH f K (J+1) k)) K=bw (fun k=>fU f id k (fH f K J k)) K:=mD fun k hk=>by simp [fH,hk]
 have e1:fU f id K (fH f K (J+1) K)=(fU f id K (fH f K J K)).or (me f id K J):=by
  simp only [fH,Nat.lt_irrefl,if_false];unfold fU;rw [Nat.min_eq_left (by omega),Nat.min_eq_left (by omega),g9]
 rw [e,e1,Option.or_assoc]
theorem yN {f:Fun} {id:Int} {K:Nat} (hK:K < f.2.2.2.1.length):gz f id (K+1) 0=gz f id K (aG f K).length:=by
 have e:bw (fun k=>fU f id k (fH f (K+1) 0 k)) (K+1)=bw (fun k=>fU f id k (fH f K (aG f K).length k)) (K+1):=by
  refine mD fun k hk=> ?_;have h1:fH f (K+1) 0 k=(aG f k).length:=by simp [fH,hk]
  have h2:fH f K (aG f K).length k=(aG f k).length:=by
   by_cases hkk:k < K
   ·simp [fH,hkk]
   ·have:k=K:=(by omega);subst this;simp [fH]
  rw [h1,h2]
 unfold gz;rw [show min (K+1) f.2.2.2.1.length=K+1 by omega,←e];by_cases h:K+1 < f.2.2.2.1.length
 ·rw [show min (K+1+1) f.2.2.2.1.length=K+1+1 by omega,g9];have h0:fU f id (K+1) (fH f (K+1) 0 (K+1))=none:=by simp [fH,fU,bw]
  rw [h0];simp
 ·rw [show min (K+1+1) f.2.2.2.1.length=K+1 by omega]
def plF (f:Fun) (id:Int) (K J:Nat):Option (Int × Int × Int):=if jA f id then some (0,-1,f.2.1.getD id.toNat 0)else(gz f id K J).map fun m=>(m.1,m.2.1,m.2.2.1)
theorem uW {f:Fun} {id:Int} {K J:Nat} {m:Plc} (h:gz f id K J=some m):∃k i,k < f.2.2.2.1.length∧i < (aG f k).length∧mI id (au f k i)=true∧m=((k:Int),(i:Int),mkX (au f k i),true):=by
 obtain⟨k,hk,h1,_⟩:=da h;obtain⟨i,hi,h2,_⟩:=da h1;unfold me at h2;split at h2
 ·rename_i hh
  cases h2;exact⟨k,i,by omega,by omega,hh,rfl⟩
 ·cases h2
theorem made_pl (f:Fun) (id:Int) (K J:Nat):eA f id K J=match plF f id K J with
  |some m=>(m.1,m.2.1,m.2.2,true)
  |none=>(0,0,0,false):=by
 unfold eA plF;split
 ·rfl
 ·cases h:gz f id K J with
  |none=>rfl
  |some m=>
   obtain⟨k,i,_,_,_,rfl⟩:=uW h;rfl
theorem Jw {f:Fun} {id:Int} {K J:Nat} {m:Int × Int × Int} (h:plF f id K J=some m):(jA f id=true∧m=(0,-1,f.2.1.getD id.toNat 0))∨∃k i,k < f.2.2.2.1.length∧i < (aG f k).length∧mI id (au f k i)=true∧m=((k:Int),(i:Int),mkX (au f k i)):=by
 unfold plF at h;split at h
 ·rename_i hp
  cases h;exact .inl ⟨hp,rfl⟩
 ·right
  cases h1:gz f id K J with
  |none=>simp [h1] at h
  |some m'=>
   obtain⟨k,i,a,b,c,rfl⟩:=uW h1;simp [h1] at h;exact⟨k,i,a,b,c,h.symm⟩
theorem sy (f:Fun) (id:Int):plF f id 0 0=if jA f id then some (0,-1,f.2.1.getD id.toNat 0)else none:=by
 unfold plF;rw [uM];rfl
theorem qj {f:Fun} {id:Int} {K J:Nat} (hK:K < f.2.2.2.1.length) (hJ:J < (aG f K).length):plF f id K (J+1)=(plF f id K J).or (if mI id (au f K J)then some ((K:Int),(J:Int),mkX (au f K J))else none):=by
 unfold plF;split
 ·simp
 ·rw [zV hK hJ]
  cases gz f id K J with
  |some m=>simp
  |none=>
   simp only [Option.none_or,Option.map_none,me];split <;> rfl
theorem wJ {f:Fun} {id:Int} {K:Nat} (hK:K < f.2.2.2.1.length):plF f id (K+1) 0=plF f id K (aG f K).length:=by
 unfold plF;rw [yN hK]
def IM (f:Fun) (K J:Nat):Prop:=∀k i,(k < K∨k=K∧i < J)→k < f.2.2.2.1.length→i < (aG f k).length→mkX (au f k i)≠0→plF f (au f k i).2.1 k i=none
theorem iL {id:Int} {x:Ins}:mI id x=true↔x.2.1=id∧mkX x≠0:=by
 unfold mI;simp
theorem Iv {f:Fun} {K J:Nat} (hK:K < f.2.2.2.1.length) (hJ:J < (aG f K).length) (h0:mkX (au f K J)≠0) (hn:plF f (au f K J).2.1 K J=none) (id:Int):plF f id K (J+1)=if id=(au f K J).2.1 then some ((K:Int),(J:Int),mkX (au f K J))else plF f id K J:=by
 rw [qj hK hJ];by_cases h:id=(au f K J).2.1
 ·subst h;rw [hn,if_pos rfl,if_pos (iL.2 ⟨rfl,h0⟩)];rfl
 ·rw [if_neg h,if_neg (fun hh=>h (iL.1 hh).1.symm)];simp
theorem FR {f:Fun} {K J:Nat} (hK:K < f.2.2.2.1.length) (hJ:J < (aG f K).length) (h0:mkX (au f K J)=0) (id:Int):plF f id K (J+1)=plF f id K J:=by
 rw [qj hK hJ,if_neg (fun hh=>(iL.1 hh).2 h0)];simp
def bB (f:Fun) (K J:Nat):List Ins:=(f.2.2.2.1.take K).flatten ++ (aG f K).take J
def tyL (f:Fun) (id:Int) (l:List Ins):Option Int:=l.foldl (fun a x=>if mI id x then some (mkX x)else a) (if jA f id then some (f.2.1.getD id.toNat 0)else none)
theorem mj (f:Fun):bB f 0 0= []:=by simp [bB]
theorem lB {f:Fun} {K J:Nat} (hJ:J < (aG f K).length):bB f K (J+1)=bB f K J ++ [au f K J]:=by
 unfold bB;rw [List.take_add_one,gR hJ];simp
theorem jl {f:Fun} {K:Nat} (hK:K < f.2.2.2.1.length):bB f (K+1) 0=bB f K (aG f K).length:=by
 unfold bB;rw [List.take_add_one,eS hK];simp
theorem qQ (f:Fun) (id:Int) (l:List Ins) (x:Ins):tyL f id (l ++ [x])=if mI id x then some (mkX x)else tyL f id l:=by
 simp [tyL,List.foldl_append]
theorem vR {f:Fun} {id:Int} {K:Nat} (hK:K < f.2.2.2.1.length) (h0:tyL f id (bB f K 0)=(plF f id K 0).map (·.2.2)):∀J,J≤(aG f K).length→IM f K J→tyL f id (bB f K J)=(plF f id K J).map (·.2.2):=by
 intro J;induction J with
 |zero=>intro _ _;exact h0
 |succ J ih=>
  intro hJ hO;have hJ':J < (aG f K).length:=by omega
  have e:=ih (by omega) (fun k i hki=>hO k i (by omega));rw [lB hJ',qQ,qj hK hJ',e];by_cases hh:mI id (au f K J)=true
  ·have hn:=hO K J (by omega) hK hJ' (iL.1 hh).2;rw [(iL.1 hh).1] at hn;rw [if_pos hh,if_pos hh,hn];rfl
  ·rw [if_neg hh,if_neg hh];simp
theorem AE {f:Fun} {id:Int}:∀K,K≤f.2.2.2.1.length→IM f K 0→tyL f id (bB f K 0)=(plF f id K 0).map (·.2.2):=by
 intro K;induction K with
 |zero=>
  intro _ _;rw [mj,sy];unfold tyL;simp only [List.foldl_nil];split <;> rfl
 |succ K ih=>
  intro hK hO;have e:=ih (by omega) (fun k i hki=>hO k i (by omega));rw [jl (by omega),wJ (by omega)];exact vR (by omega) e _ (Nat.le_refl _) (fun k i hki=>hO k i (by omega))
theorem mE:∀(l m:List Int),l.Nodup→(∀x∈l,x∈m)→m.length≤l.length→m.Nodup∧∀x∈m,x∈l:=by
 intro l;induction l with
 |nil=>
  intro m _ _ hl;have:m= []:=List.length_eq_zero_iff.1 (by simpa using hl);subst this;simp
 |cons a l ih=>
  intro m hn hs hl;obtain⟨s,t,rfl⟩:=List.append_of_mem (hs a (by simp));rw [List.nodup_cons] at hn;obtain⟨h1,h2⟩:=ih (s ++ t) hn.2 (fun x hx=>by
   have:=hs x (by simp [hx]);simp only [List.mem_append,List.mem_cons] at this ⊢;rcases this with h | h | h
   ·exact .inl h
   ·subst h;exact absurd hx hn.1
   ·exact .inr h) (by simp at hl ⊢;omega)
  have ha:a ∉ s ++ t:=fun h=>hn.1 (h2 a h);refine⟨?_,fun x hx=> ?_⟩
  ·have:(a :: (s ++ t)).Nodup:=List.nodup_cons.2 ⟨ha,h1⟩;exact List.perm_middle.symm.nodup this
  ·simp only [List.mem_append,List.mem_cons] at hx;rcases hx with h | h | h
   ·exact List.mem_cons_of_mem _ (h2 x (by simp [h]))
   ·simp [h]
   ·exact List.mem_cons_of_mem _ (h2 x (by simp [h]))
def oI (ps tt:List Int) (j:Nat):Bool:=az ps (tt.getD j 0) && !az (tt.take j) (tt.getD j 0)
def kU (ps tt:List Int):Bool:=(List.range tt.length).all (oI ps tt) && decide (tt.length=ps.length)
theorem Ab {tt:List Int} (h:∀j,j < tt.length→az (tt.take j) (tt.getD j 0)=false):tt.Nodup:=by
 unfold List.Nodup;rw [List.pairwise_iff_getElem];intro i j hi hj hij e;have h1:=h j hj;rw [eO] at h1;apply h1;have h2:tt.getD j 0=tt[j]:=by rw [List.getD_eq_getElem?_getD,List.getElem?_eq_getElem hj];rfl
 rw [h2,←e];exact List.mem_take_iff_getElem.2 ⟨i,by omega,rfl⟩
theorem FV {ps tt:List Int} (hp:ps.Nodup):kU ps tt=(decide (tt.length=ps.length) && ps.all fun b=>az tt b):=by
 rw [Bool.eq_iff_iff];unfold kU;simp only [Bool.and_eq_true,List.all_eq_true,decide_eq_true_eq,List.mem_range,oI,Bool.not_eq_true'];constructor
 ·rintro ⟨h,hl⟩;have hn:=Ab (fun j hj=>(h j hj).2);have hs:∀x∈tt,x∈ps:=by
   intro x hx;obtain⟨j,hj,rfl⟩:=List.mem_iff_getElem.1 hx;have:=bL.1 (h j hj).1;rwa [List.getD_eq_getElem?_getD,List.getElem?_eq_getElem hj] at this
  obtain⟨_,h2⟩:=mE tt ps hn hs (by omega);exact⟨hl,fun x hx=>bL.2 (h2 x hx)⟩
 ·rintro ⟨hl,h⟩;obtain⟨h1,h2⟩:=mE ps tt hp (fun x hx=>bL.1 (h x hx)) (by omega);refine⟨fun j hj=> ?_,hl⟩;have e:tt.getD j 0=tt[j]:=by rw [List.getD_eq_getElem?_getD,List.getElem?_eq_getElem hj];rfl
  exact⟨bL.2 (h2 _ (by rw [e];exact List.getElem_mem hj)),il h1 (by rw [List.getElem?_eq_getElem hj,e])⟩
theorem wV {f:Fun} {k:Nat} (hk:k < f.2.2.2.1.length):(aK f)[k]? =some (bM f k f.2.2.2.1.length):=by
 unfold aK;rw [List.getElem?_map,List.getElem?_range hk];rfl
theorem zW {f:Fun} {k:Nat} (hk:k < f.2.2.2.1.length):(aK f).getD k []=bM f k f.2.2.2.1.length:=by
 rw [List.getD_eq_getElem?_getD,wV hk];rfl
theorem mR (f:Fun) (b k:Nat):(bM f b k).Nodup:=by
 unfold bM;unfold List.Nodup;rw [List.pairwise_map];refine List.Pairwise.imp ?_ ((List.pairwise_lt_range (n:=k)).sublist List.filter_sublist);intro a c h e;simp at e;omega
theorem qe (f:Fun) (b k:Nat):Num k (bM f b k):=by
 intro m hm;unfold bM at hm;simp only [List.mem_map,List.mem_filter,List.mem_range] at hm;obtain⟨a,⟨h,_⟩,rfl⟩:=hm;simp;omega
theorem vu {f:Fun} {k i:Nat} (hk:k < f.2.2.2.1.length):iI f k i=((decide (i=0) || decide ((au f k (i - 1)).1=20)) && kU (bM f k f.2.2.2.1.length) (au f k i).2.2.2.2.2.1):=by
 unfold iI;rw [FV (mR f k _),zW hk,Bool.and_assoc]
theorem Fb {f:Fun} {k:Nat} {tt:List Int} (h:kU (bM f k f.2.2.2.1.length) tt=true):Num f.2.2.2.1.length tt:=by
 unfold kU at h;simp only [Bool.and_eq_true,List.all_eq_true,decide_eq_true_eq,List.mem_range,oI,Bool.not_eq_true'] at h;intro x hx;obtain⟨j,hj,rfl⟩:=List.mem_iff_getElem.1 hx;have:=bL.1 (h.1 j hj).1;rw [List.getD_eq_getElem?_getD,List.getElem?_eq_getElem hj] at this;exact qe f k _ _ this
theorem FJ {f:Fun} (hT:Tos f) (h0:0 < f.2.2.2.1.length):(aC f).length≤f.2.2.2.1.length:=dU _ _ (hH hT h0).1 (hH hT h0).2
theorem nz {f:Fun} (hT:Tos f) (h0:0 < f.2.2.2.1.length) (h:dq f=true) {k:Nat} (hk:k < f.2.2.2.1.length):All (aD f) k:=by
 unfold dq at h;simp only [Bool.and_eq_true,decide_eq_true_eq] at h;rw [←eu hT h0];obtain⟨h1,h2⟩:=hH hT h0;refine(mE (aC f) ((List.range f.2.2.2.1.length).map Int.ofNat) h1 (fun x hx=> ?_) (by simp;omega)).2 _ ?_
 ·have:=h2 x hx;simp only [List.mem_map,List.mem_range];exact⟨x.toNat,by omega,by simp;omega⟩
 ·simp only [List.mem_map,List.mem_range];exact⟨k,hk,rfl⟩
def Gw (f:Fun) (a:Int × Int) (b:Int × Int):Bool:=if a.1=b.1 then decide (a.2 < b.2)else cd (aD f) a.1 b.1
def tkC (f:Fun) (v t:Int) (b:Int × Int):Int:=match plF f v f.2.2.2.1.length 0 with
 |none=>8
 |some m=>if m.2.2≠t then 9 else if Gw f (m.1,m.2.1) b then 0 else 10
def kD (f:Fun) (k i n:Nat):Int × Int:=if(au f k i).1=20 then((au f k i).2.2.2.2.2.1.getD n 0,((aG f ((au f k i).2.2.2.2.2.1.getD n 0).toNat).length:Int))else((k:Int),(i:Int))
theorem LJ {p:List Fun} {f:Fun} {k i n:Nat} (hT:Tos f) (h0:0 < f.2.2.2.1.length) (hR:dq f=true) (hk:k < f.2.2.2.1.length)
  (hphi:(au f k i).1=20→0≤(au f k i).2.2.2.2.2.1.getD n 0∧(au f k i).2.2.2.2.2.1.getD n 0 < f.2.2.2.1.length):
  tkC f ((au f k i).2.2.2.2.1.getD n 0) (dC p f (au f k i) n) (kD f k i n)=gD p f k i n:=by
 have hG:=fI hT h0;unfold tkC gD;simp only [made_pl]
 cases hm:plF f ((au f k i).2.2.2.2.1.getD n 0) f.2.2.2.1.length 0 with
 |none=>simp
 |some m=>
  simp only [Bool.true_eq_false,if_false];split
  ·rfl
  ·rcases Jw hm with ⟨_,rfl⟩ | ⟨b,j,hb,hj,_,rfl⟩
   ·rw [if_pos (show(-1:Int) < 0 by omega)];have hbef:Gw f (0,-1) (kD f k i n)=true:=by
     unfold Gw kD;split
     ·rename_i h20;obtain⟨g1,g2⟩:=hphi h20;generalize (au f k i).2.2.2.2.2.1.getD n 0=q at g1 g2;split
      ·simp;omega
      ·rw [cn hG];obtain⟨Q,rfl⟩:∃Q:Nat,q=Q:=⟨q.toNat,by omega⟩;exact Ahd.first (nz hT h0 hR (by omega))
     ·split
      ·simp;omega
      ·rw [cn hG];exact Ahd.first (nz hT h0 hR hk)
    rw [if_pos hbef]
   ·rw [if_neg (show ¬((j:Int) < 0) by omega)];unfold Gw kD;by_cases h20:(au f k i).1=20
    ·obtain⟨g1,g2⟩:=hphi h20;rw [if_pos h20,if_pos h20];generalize (au f k i).2.2.2.2.2.1.getD n 0=q at g1 g2;obtain⟨Q,rfl⟩:∃Q:Nat,q=Q:=⟨q.toNat,by omega⟩;by_cases hbq:(b:Int)=Q
     ·have:b=Q:=(by omega);subst this;have ha:cd (aD f) b b=true:=(cn hG _ _).2 (Ahd.refl (nz hT h0 hR hb));simp [ha,hj]
     ·simp [hbq]
    ·rw [if_neg h20,if_neg h20];by_cases hbk:(b:Int)=k
     ·simp only [hbk,if_true,decide_true,Bool.true_and,ne_eq,not_true_eq_false,decide_false,Bool.false_and];by_cases hji:(j:Int) < i
      ·simp [hji];omega
      ·simp [hji];omega
     ·simp only [hbk,if_false,decide_false,Bool.false_and,ne_eq,not_false_eq_true,decide_true,Bool.true_and]
      cases cd (aD f) b k <;> simp
open Go Go.RowKit Go.Maps
theorem Tryz.qh:Tryz.prog.underlying 3=some (.int .i64):=by kernel_rfl
theorem iY:Keyed Tryz.prog 3:=int_keyed Tryz.qh
theorem Tryz.An:Tryz.prog.underlying 40=some (.map 3 3):=by kernel_rfl
theorem Tryz.Dv:Tryz.prog.underlying 109=some (.map 3 113):=by kernel_rfl
theorem Tryz.tA:Tryz.prog.underlying 158=some (.map 3 159):=by kernel_rfl
theorem Tryz.IE (w:World):(zeroValue 3).run Tryz.prog w= .ok (.int .i64 0) w:=by kernel_rfl
theorem Tryz.F0 (w:World):(zeroValue 113).run Tryz.prog w= .ok (.agg #[.int .i64 0,.int .i64 0]) w:=by kernel_rfl
theorem Tryz.Hi (w:World):(zeroValue 159).run Tryz.prog w= .ok (.agg #[]) w:=by kernel_rfl
abbrev Wf6 (a:Int):Prop:=(Lit.int .i64 a).wf=true
theorem fJ {a:Int} (h:I64 a):Wf6 a:=by
 obtain⟨h1,h2⟩:=h;exact WalkArith.wf_i64 (by omega)
abbrev Rdg:=Value→Option (DataW Unit × List MemPlace)
def bS (w:World) (R:Rdg) (b n:Nat) (m:Int→Option (DataW Unit)):Prop:=
 ∃D,w.ownsMap Tryz.prog 3 R b n D∧∀a:Int,Wf6 a→Maps.has D (.int .i64 a)=(m a).isSome∧∀z,D.atKey (.int .i64 a) z=(m a).getD z
theorem bS.mono {w:World} {R:Rdg} {b n n':Nat} {m:Int→Option (DataW Unit)} (h:bS w R b n m) (hn:n≤n'):bS w R b n' m:=by
 obtain⟨D,h1,h2⟩:=h;exact⟨D,h1.mono hn,h2⟩
theorem bS.congr {w:World} {R:Rdg} {b n:Nat} {m m':Int→Option (DataW Unit)} (h:bS w R b n m) (e:∀a,m a=m' a):bS w R b n m':=by
 have:m=m':=funext e;subst this;exact h
theorem bS.made (w:World) (R:Rdg):bS (w.alloc (.map #[] 0)) R w.heap.size 0 (fun _=>none):=
 ⟨.map [],World.ownsMap_made _ _ _ _,fun _ _=>⟨rfl,fun _=>rfl⟩⟩
theorem bS.lt {w:World} {R:Rdg} {b n:Nat} {m:Int→Option (DataW Unit)} (h:bS w R b n m):b < w.heap.size:=by
 obtain⟨D,h1,_⟩:=h;exact h1.lt
theorem bS.isMap {w:World} {R:Rdg} {b n:Nat} {m:Int→Option (DataW Unit)} (h:bS w R b n m):∃es c,w.heap[b]? =some (.map es c):=by
 obtain⟨D,⟨es,c,h1,_⟩,_⟩:=h;exact⟨es,c,h1⟩
theorem bS.kept {w w':World} {R:Rdg} {b n:Nat} {m:Int→Option (DataW Unit)} {row:Option Nat} (h:bS w R b n m) (hg:w.grownBy w' row) (hne:some b≠row):bS w' R b n m:=by
 obtain⟨D,h1,h2⟩:=h;exact⟨D,h1.kept hg hne,h2⟩
theorem bY {w w':World} (h:Below w.heap.size w w') (row:Option Nat):w.grownBy w' row:=⟨h.os,h.tape,h.output,h.size,fun i hi _=>h.block i hi⟩
theorem cx {w w':World} {B b:Nat} (h:w.grownBy w' (some b)) (hB:B≤w.heap.size) (hb:B≤b):Below B w w':=⟨h.os,h.tape,h.output,h.size,fun i hi=>h.block i (by omega) (by intro e;cases e;omega)⟩
theorem bS.below {w w':World} {R:Rdg} {b n:Nat} {m:Int→Option (DataW Unit)} (h:bS w R b n m) (hb:Below w.heap.size w w'):bS w' R b n m:=h.kept (bY hb none) (by simp)
theorem vw {w w':World} {b:Nat} (hg:w.grownBy w' (some b)) (hm:∃es c,w.heap[b]? =some (.map es c)) {a:Addr} {v:Value} (h:w.cell? a=some v):w'.cell? a=some v:=by
 refine hg.cell h ?_;intro e;injection e with e;obtain⟨es,c,hm⟩:=hm;unfold World.cell? at h;rw [e,hm] at h;simp at h
theorem bS.put {w':World} {R:Rdg} {b n:Nat} {m:Int→Option (DataW Unit)} {D:DataW Unit} (id:Int) (hI:Wf6 id) (d:DataW Unit) (h2:∀a:Int,Wf6 a→Maps.has D (.int .i64 a)=(m a).isSome∧∀z,D.atKey (.int .i64 a) z=(m a).getD z) (hD:IsMap D)
  (h:w'.ownsMap Tryz.prog 3 R b n (D.put (.int .i64 id) d)):bS w' R b n (fun a=>if a=id then some d else m a):=by
 refine⟨_,h,fun a ha=> ?_⟩;by_cases e:a=id
 ·subst e;simp only [if_true];have hk:WideAt.IsKeyLit (Lit.int .i64 a):=trivial;exact⟨has_put_same hD hk d,fun z=>atKey_put_same hD hk d z⟩
 ·simp only [e,if_false];have hne:(Lit.int .i64 a)≠ .int .i64 id:=by intro h;injection h with _ h;exact e h
  exact⟨(has_put_other hne d).trans (h2 a ha).1,fun z=>(atKey_put_other hne d z).trans ((h2 a ha).2 z)⟩
section
variable {ops:Array Oper} {rest:List Oper} {o:Oper} {a:Act} {Q:Exit→Act→World→Prop}
theorem oD (w:World) (hg:o.guard=none) (mo x v:Operand) (t:TypeId) (hop:o.op=Op.mapUpdate t mo x v) (e:TypeId) (ht:Tryz.prog.underlying t=some (.map 3 e)) (R:Rdg) (b n:Nat) (m:Int→Option (DataW Unit))
  (hm:a.eval mo= .map (some b)) (hM:bS w R b n m) (hn:n < maxLen) (id:Int) (hI:Wf6 id) (val:Value) (hx:a.eval x= .int .i64 id) (hv:a.eval v=val) (d:DataW Unit) (ps:List MemPlace) (hval:R val=some (d,ps))
  (hK:∀w',bS w' R b (n+1) (fun a=>if a=id then some d else m a)→w.grownBy w' (some b)→wpList Tryz.prog ops Q rest (a.put o.dst undef) w'):
  wpList Tryz.prog ops Q (o :: rest) a w:=by
 obtain⟨D,h1,h2⟩:=hM;refine wpList_mapUpdate_own w hg mo x v t hop 3 e iY ht R b n D hm h1 hn _ val (.int .i64 id) hx hv (keyOf_int_mk Tryz.qh hI) d ps hval fun w' h hgr=>hK w' (bS.put id hI d h2 h1.isMap h) hgr
theorem tR (w:World) (hg:o.guard=none) (mo x:Operand) (t:TypeId) (hop:o.op=Op.lookup t mo x true) (e:TypeId) (ht:Tryz.prog.underlying t=some (.map 3 e)) (R:Rdg) {z:Value} (hz:(zeroValue e).run Tryz.prog w= .ok z w) (zd:DataW Unit) (zp:List MemPlace) (hzd:R z=some (zd,zp))
  (b n:Nat) (m:Int→Option (DataW Unit)) (hm:a.eval mo= .map (some b)) (hM:bS w R b n m) (id:Int) (hI:Wf6 id) (hx:a.eval x= .int .i64 id)
  (hK:∀v ps,R v=some ((m id).getD zd,ps)→wpList Tryz.prog ops Q rest (a.put o.dst (.tuple #[v,.bool (m id).isSome])) w):
  wpList Tryz.prog ops Q (o :: rest) a w:=by
 obtain⟨D,h1,h2⟩:=hM;refine wpList_lookup_own_ok w hg mo x t hop 3 e iY ht R hz zd zp hzd b n D hm h1 _ (.int .i64 id) hx (keyOf_int_mk Tryz.qh hI) fun v ps hv=> ?_;rw [(h2 id hI).1];exact hK v ps (by rw [hv,(h2 id hI).2])
def spotElem:Rdg:=fun v=>match v with
 |.agg ⟨[.int .i64 x,.int .i64 y]⟩=>some (.agg [.lit (.int .i64 x),.lit (.int .i64 y)],[])
 |_=>none
def om (s:Int × Int):DataW Unit:= .agg [.lit (.int .i64 s.1),.lit (.int .i64 s.2)]
theorem Ap (x y:Int):spotElem (.agg #[.int .i64 x,.int .i64 y])=some (om (x,y),[]):=rfl
theorem Fj {v:Value} {s:Int × Int} {ps:List MemPlace} (h:spotElem v=some (om s,ps)):v= .agg #[.int .i64 s.1,.int .i64 s.2]:=by
 unfold spotElem at h;split at h
 ·simp only [Option.some.injEq,Prod.mk.injEq,om,DataW.agg.injEq,List.cons.injEq,DataW.lit.injEq,Lit.int.injEq,true_and,and_true] at h;obtain⟨⟨h1,h2⟩,_⟩:=h;rw [←h1,←h2]
 ·cases h
def SMap (w:World) (b n:Nat) (mk:Int→Option (Int × Int)):Prop:=bS w spotElem b n (fun a=>(mk a).map om)
def Ix (s:Option (Int × Int)):Int × Int:=s.getD (0,0)
theorem gP (w:World) (hg:o.guard=none) (mo x:Operand) (hop:o.op=Op.lookup 109 mo x true) (b n:Nat) (mk:Int→Option (Int × Int)) (hm:a.eval mo= .map (some b)) (hM:SMap w b n mk) (id:Int) (hI:Wf6 id) (hx:a.eval x= .int .i64 id) (s t:Int) (c:Bool) (hs:Ix (mk id)=(s,t)) (hc:(mk id).isSome=c)
  (hK:wpList Tryz.prog ops Q rest (a.put o.dst (.tuple #[.agg #[.int .i64 s,.int .i64 t],.bool c])) w):
  wpList Tryz.prog ops Q (o :: rest) a w:=by
 refine tR w hg mo x 109 hop 113 Tryz.Dv spotElem (Tryz.F0 w) (om (0,0)) [] (Ap 0 0) b n _ hm hM id hI hx fun v ps hv=> ?_;have e:((mk id).map om).getD (om (0,0))=om (Ix (mk id)):=by cases mk id <;> rfl
 rw [e,hs] at hv;rw [Fj hv,Option.isSome_map,hc];exact hK
theorem oJ (w:World) (hg:o.guard=none) (mo x v:Operand) (hop:o.op=Op.mapUpdate 109 mo x v) (b n:Nat) (mk:Int→Option (Int × Int)) (hm:a.eval mo= .map (some b)) (hM:SMap w b n mk) (hn:n < maxLen) (id:Int) (hI:Wf6 id) (s t:Int) (hx:a.eval x= .int .i64 id) (hv:a.eval v= .agg #[.int .i64 s,.int .i64 t])
  (hK:∀w',SMap w' b (n+1) (fun a=>if a=id then some (s,t)else mk a)→w.grownBy w' (some b)→wpList Tryz.prog ops Q rest (a.put o.dst undef) w'):
  wpList Tryz.prog ops Q (o :: rest) a w:=
 oD w hg mo x v 109 hop 113 Tryz.Dv spotElem b n _ hm hM hn id hI _ hx hv _ _ (Ap s t) fun w' h hgr=>hK w' (h.congr fun a=>by by_cases e:a=id <;> simp [e]) hgr
def cI (w:World) (b n:Nat) (ty:Int→Option Int):Prop:=bS w (plainElem Tryz.prog 3) b n (fun a=>(ty a).map fun t=> .lit (.int .i64 t))
theorem ns (w:World) (hg:o.guard=none) (mo x:Operand) (hop:o.op=Op.lookup 40 mo x false) (b n:Nat) (ty:Int→Option Int) (hm:a.eval mo= .map (some b)) (hM:cI w b n ty) (id:Int) (hI:Wf6 id) (hx:a.eval x= .int .i64 id) (t:Int) (hT:(ty id).getD 0=t)
  (hK:wpList Tryz.prog ops Q rest (a.put o.dst (.int .i64 t)) w):
  wpList Tryz.prog ops Q (o :: rest) a w:=by
 obtain⟨D,h1,h2⟩:=hM;refine wpList_lookup_own_int w hg mo x 40 hop 3 3 .i64 iY Tryz.An Tryz.qh (Tryz.IE w) b n D hm h1 _ (.int .i64 id) hx (keyOf_int_mk Tryz.qh hI) fun c hc _=> ?_;rw [(h2 id hI).2] at hc;have e:(ty id).getD 0=c:=by
  cases h:ty id with
  |none=>simp [h] at hc;simpa using hc
  |some t=>simp [h] at hc;simpa using hc
 rw [←e,hT];exact hK
theorem iK (w:World) (hg:o.guard=none) (mo x v:Operand) (hop:o.op=Op.mapUpdate 40 mo x v) (b n:Nat) (ty:Int→Option Int) (hm:a.eval mo= .map (some b)) (hM:cI w b n ty) (hn:n < maxLen) (id:Int) (hI:Wf6 id) (t:Int) (hT:Wf6 t) (hx:a.eval x= .int .i64 id) (hv:a.eval v= .int .i64 t)
  (hK:∀w',cI w' b (n+1) (fun a=>if a=id then some t else ty a)→w.grownBy w' (some b)→wpList Tryz.prog ops Q rest (a.put o.dst undef) w'):
  wpList Tryz.prog ops Q (o :: rest) a w:=
 oD w hg mo x v 40 hop 3 Tryz.An (plainElem Tryz.prog 3) b n _ hm hM hn id hI _ hx hv _ _ (plainElem_int Tryz.qh hT) fun w' h hgr=>hK w' (h.congr fun a=>by by_cases e:a=id <;> simp [e]) hgr
def ki (w:World) (b n N:Nat) (s:Int→Bool):Prop:=∃D,w.ownsMap Tryz.prog 3 (unitElem (H:=Unit)) b n D∧Maps.size D=N∧∀a:Int,Wf6 a→Maps.has D (.int .i64 a)=s a
theorem ki.made (w:World):ki (w.alloc (.map #[] 0)) w.heap.size 0 0 (fun _=>false):=⟨.map [],World.ownsMap_made _ _ _ _,rfl,fun _ _=>rfl⟩
theorem ki.kept {w w':World} {b n N:Nat} {s:Int→Bool} {row:Option Nat} (h:ki w b n N s) (hg:w.grownBy w' row) (hne:some b≠row):ki w' b n N s:=by
 obtain⟨D,h1,h2⟩:=h;exact⟨D,h1.kept hg hne,h2⟩
theorem vP (w:World) (hg:o.guard=none) (mo x v:Operand) (hop:o.op=Op.mapUpdate 158 mo x v) (b n N:Nat) (s:Int→Bool) (hm:a.eval mo= .map (some b)) (hM:ki w b n N s) (hn:n < maxLen) (id:Int) (hI:Wf6 id) (hs:s id=false) (hx:a.eval x= .int .i64 id) (hv:a.eval v= .agg #[])
  (hK:∀w',ki w' b (n+1) (N+1) (fun a=>decide (a=id) || s a)→w.grownBy w' (some b)→wpList Tryz.prog ops Q rest (a.put o.dst undef) w'):
  wpList Tryz.prog ops Q (o :: rest) a w:=by
 obtain⟨D,h1,h0,h2⟩:=hM;refine wpList_mapUpdate_own w hg mo x v 158 hop 3 159 iY Tryz.tA _ b n D hm h1 hn _ _ (.int .i64 id) hx hv (keyOf_int_mk Tryz.qh hI) _ _ unitElem_mk fun w' h hgr=>hK w' ⟨_,h,?_,fun a ha=> ?_⟩ hgr
 ·rw [size_put (h1.tidy iY),h2 id hI,hs,h0];rfl
 ·by_cases e:a=id
  ·subst e;have hk:WideAt.IsKeyLit (Lit.int .i64 a):=trivial;rw [has_put_same h1.isMap hk];simp
  ·have hne:(Lit.int .i64 a)≠ .int .i64 id:=(by intro h;injection h with _ h;exact e h);rw [has_put_other hne,h2 a ha];simp [e]
theorem nk (w:World) (hg:o.guard=none) (mo x:Operand) (hop:o.op=Op.lookup 158 mo x true) (b n N:Nat) (s:Int→Bool) (hm:a.eval mo= .map (some b)) (hM:ki w b n N s) (id:Int) (hI:Wf6 id) (hx:a.eval x= .int .i64 id) (c:Bool) (hc:s id=c)
  (hK:wpList Tryz.prog ops Q rest (a.put o.dst (.tuple #[.agg #[],.bool c])) w):
  wpList Tryz.prog ops Q (o :: rest) a w:=by
 obtain⟨D,h1,_,h2⟩:=hM;refine wpList_lookup_own_unit w hg mo x 158 hop 3 159 iY Tryz.tA (Tryz.Hi w) b n D hm h1 _ (.int .i64 id) hx (keyOf_int_mk Tryz.qh hI) ?_;rw [h2 id hI,hc];exact hK
theorem wH (w:World) (hg:o.guard=none) (mo x:Operand) (hop:o.op=Op.call {callee:=Callee.builtin Builtin.delete,args:= #[mo,x],argTypes:= #[158,3]}) (b n N:Nat) (s:Int→Bool) (hm:a.eval mo= .map (some b)) (hM:ki w b n N s) (id:Int) (hI:Wf6 id) (hs:s id=true) (hx:a.eval x= .int .i64 id)
  (hK:∀w' N',N'+1=N→ki w' b n N' (fun a=> !decide (a=id) && s a)→w.grownBy w' (some b)→wpList Tryz.prog ops Q rest (a.put o.dst (.tuple #[])) w'):
  wpList Tryz.prog ops Q (o :: rest) a w:=by
 obtain⟨D,h1,h0,h2⟩:=hM;refine wpList_delete_own w hg mo x 158 3 hop 159 iY Tryz.tA _ b n D hm h1 _ (.int .i64 id) hx (keyOf_int_mk Tryz.qh hI) fun w' h hgr=>hK w' (Maps.size (D.del (.int .i64 id))) ?_ ⟨_,h,rfl,fun a ha=> ?_⟩ hgr.grown
 ·have:=size_del (k:= .int .i64 id) (h1.tidy iY);rw [h2 id hI,hs] at this;simp at this;omega
 ·by_cases e:a=id
  ·subst e;rw [has_del_same];simp
  ·have hne:(Lit.int .i64 a)≠ .int .i64 id:=(by intro h;injection h with _ h;exact e h);rw [has_del_other hne,h2 a ha];simp [e]
theorem oH (w:World) (hg:o.guard=none) (mo:Operand) (hop:o.op=Op.call {callee:=Callee.builtin Builtin.len,args:= #[mo],argTypes:= #[158]}) (b n N:Nat) (s:Int→Bool) (hm:a.eval mo= .map (some b)) (hM:ki w b n N s)
  (hK:wpList Tryz.prog ops Q rest (a.put o.dst (.int .i64 (N:Int))) w):
  wpList Tryz.prog ops Q (o :: rest) a w:=by
 obtain⟨D,h1,h0,_⟩:=hM;refine wpList_len_own w hg mo 158 hop 3 159 Tryz.tA _ b n D hm h1 ?_;rw [h0];exact hK
end
def kj (p:List Fun) (nm:List UInt8):Option Nat:=bw (fun i=>if(aF p i).1=nm then some i else none) p.length
def stdI (p:List Fun) (nm:List UInt8):Int:=match kj p nm with
 |none=> -1
 |some i=>i
theorem pN (p:List Fun) (nm:List UInt8):findF p nm=(kj p nm).map (aF p):=by
 unfold findF kj
 cases h:bw (fun i=>if(aF p i).1=nm then some i else none) p.length with
 |none=>
  have h1:=fe h;rw [bh]
  ·rfl
  ·intro j hj;have:=h1 j hj;split at this
   ·cases this
   ·rename_i hh;rw [if_neg hh]
 |some i=>
  obtain⟨K,hK,h1,h2⟩:=da h;split at h1
  ·rename_i hh;simp only [Option.some.injEq] at h1;subst h1;refine bN (K:=K) (fun j hj=> ?_) hK (by rw [if_pos hh]);have:=h2 j hj;split at this
   ·cases this
   ·rename_i h3;rw [if_neg h3]
  ·cases h1
theorem zw {p:List Fun} {nm:List UInt8} {i:Nat} (h:kj p nm=some i):i < p.length:=by
 obtain⟨K,hK,h1,_⟩:=da h;split at h1
 ·cases h1;exact hK
 ·cases h1
theorem vO (nm mm:List UInt8) (a1 a3:Value) (rt pl:Int) (ao bo:Option Addr) (n1 c1 n2 c2 g:Nat) (w:World) (e1:a1= .slice ao n1 c1) (e3:a3= .slice bo n2 c2) (hg:g < w.heap.size) (h:w.cell? ⟨g,0,none⟩=some (.string (bs mm))):
  Calls Tryz.prog 49 #[.agg #[.string (bs nm),a1,.int .i64 rt,a3,.int .i64 pl],.pointer (some ⟨g,0,none⟩)] w fun e w'=>e= .returned (.bool (decide (nm=mm)))∧Below w.heap.size w w':=by
 subst e1 e3;have b1:=ah w (.cells #[.string (bs nm),.slice ao n1 c1,.int .i64 rt,.slice bo n2 c2,.int .i64 pl] 36);have h1:=heap_alloc_new w (.cells #[.string (bs nm),.slice ao n1 c1,.int .i64 rt,.slice bo n2 c2,.int .i64 pl] 36);have H1:=ae h1;have B1:=ae b1;have hc:=(b1.cell (p:=⟨g,0,none⟩) hg).trans h;clear b1 h1 h;go_enter Tryz.func49,Tryz.ntmps49
 go_upto_region 1 with fail
 show Code.wp _ _ _ _ (w.alloc (.cells #[.string (bs nm),.slice ao n1 c1,.int .i64 rt,.slice bo n2 c2,.int .i64 pl] 36));generalize w.alloc (.cells #[.string (bs nm),.slice ao n1 c1,.int .i64 rt,.slice bo n2 c2,.int .i64 pl] 36)=W at *;obtain⟨⟨z0,_⟩,_⟩:=bP H1.out;by_cases hnm:nm=mm
 ·have hbq:((bs nm).toList == (bs mm).toList)=true:=by rw [hnm];exact tZ mm
  have HD:Hid (true=decide (nm=mm)):=ae (by simp [hnm]);clear hnm;go_wp2_with fail
  go_ret;exact⟨by rw [←HD.out];rfl,B1.out⟩
 ·have hbq:=DT hnm;have HD:Hid (false=decide (nm=mm)):=ae (by simp [hnm]);clear hnm;go_wp2_with fail
  go_ret;exact⟨by rw [←HD.out];rfl,B1.out⟩
theorem xb (p:List Fun) (nm:List UInt8) (po:Option Addr) (pc g:Nat) (w:World) (hp:bK w p (.slice po p.length pc)) (hl:p.length≤1000000) (hg:g < w.heap.size) (h:w.cell? ⟨g,0,none⟩=some (.string (bs nm))):
  Calls Tryz.prog 48 #[.slice po p.length pc,.func (Fn.func 49) #[] #[.pointer (some ⟨g,0,none⟩)]] w fun e w'=>e= .returned (.int .i64 (stdI p nm))∧Below w.heap.size w w':=by
 have HFd:Hid (kj p nm=bw (fun i=>if(aF p i).1=nm then some i else none) p.length):=ae rfl;have HSt:Hid (stdI p nm=match kj p nm with
  |none=> -1
  |some i=>i):=ae rfl
 obtain⟨r,hr⟩:∃r,stdI p nm=r:=⟨_,rfl⟩;rw [hr] at HSt ⊢;clear hr;have H:=ae h;have HP:=ae hp;clear hp h;have HRd:Hid (∀w' i,Below w.heap.size w w'→i < p.length→∃g o,po=some ⟨g,o,none⟩∧lS w' (aF p i) g (o+i * 5)):=ae (fun w' i b hi=>eh (HP.out.below b) hi);clear HP;generalize hn:p.length=n at *;replace hn:=ae hn;go_enter Tryz.func48,Tryz.ntmps48
 go_wp2_with fail
 go_loopw [8] (fun i wr=>∃k:Nat,i= .int .i64 k∧k≤n∧Below w.heap.size w wr∧Hid (∀j,j < k→¬(aF p j).1=nm)) (fun i _=>n - (intOf i).toNat)
 case atStart=>exact⟨0,rfl,Nat.zero_le _,Below.refl _ _,ae (fun j h=>absurd h (Nat.not_lt_zero _))⟩
 case round=>
  obtain⟨k,rfl,hk,HB,HF⟩:=hrel;have HB:=ae HB;by_cases hlt:k < n
  ·have hlt':(k:Int) < n:=(by omega);obtain⟨q,o,rfl,hfr⟩:=HRd.out wr k HB.out hlt;obtain⟨ao,bo,c,cb,hfv,d0,d1,d2,d3,d4⟩:=hfr.val;have hcg:=ae ((HB.out.cell (p:=⟨g,0,none⟩) hg).trans H.out);have hgs:g < wr.heap.size:=Nat.lt_of_lt_of_le hg HB.out.size;obtain⟨f,hf⟩:∃f,aF p k=f:=⟨_,rfl⟩;rw [hf] at d0 d1 d2 d3 d4;clear hfv hfr;go_wp2_with fail
   refine(vO f.1 nm _ _ f.2.2.1 f.2.2.2.2 ao bo _ _ _ _ g _ rfl rfl hgs hcg.out).mono ?_;rintro e w1 ⟨rfl,b1⟩;by_cases hnm:f.1=nm
   ·have HR:Hid ((k:Int)=r):=ae (by
     rw [HSt.out,HFd.out,bN (K:=k) (a:=k) (fun j hj=>if_neg (HF.out j hj)) hlt (by rw [hf,if_pos hnm])])
    have hdec:decide (f.1=nm)=true:=(by simp [hnm]);have HE:=ae (HB.out.trans ⟨b1.os,b1.tape,b1.output,b1.size,fun i hi=>b1.block i (Nat.lt_of_lt_of_le hi HB.out.size)⟩);rw [hdec];clear hdec hnm b1;go_wp2_with fail
    go_ret;exact⟨by rw [←HR.out];rfl,HE.out⟩
   ·have HF2:Hid (∀j,j < k+1→¬(aF p j).1=nm):=ae (fun j hj=>by
     by_cases e:j=k
     ·rw [e,hf];exact hnm
     ·exact HF.out j (by omega))
    have hdec:decide (f.1=nm)=false:=(by simp [hnm]);have HE:=ae (HB.out.trans ⟨b1.os,b1.tape,b1.output,b1.size,fun i hi=>b1.block i (Nat.lt_of_lt_of_le hi HB.out.size)⟩);rw [hdec];clear hdec hnm b1;go_wp2_with fail
    go_roundw
    case rel=>exact⟨k+1,by go_num,by omega,HE.out,HF2⟩
    case measure=>simp [intOf];omega
  ·obtain rfl:k=n:=(by omega);have HR:Hid ((-1:Int)=r):=ae (by
    rw [HSt.out,HFd.out,bh (fun j hj=>if_neg (HF.out j hj))])
   go_wp2_with fail
   go_ret;exact⟨by rw [←HR.out];rfl,HB.out⟩
theorem gN (p:List Fun) (nm:List UInt8) (po:Option Addr) (pc:Nat) (w:World) (hp:bK w p (.slice po p.length pc)) (hl:p.length≤1000000):
  Calls Tryz.prog 27 #[.slice po p.length pc,.string (bs nm)] w fun e w'=>e= .returned (.int .i64 (stdI p nm))∧Below w.heap.size w w':=by
 have b1:=ah w (.cells #[.string (bs nm)] 9);have h1:=heap_alloc_new w (.cells #[.string (bs nm)] 9);have H1:=ae h1;have B1:=ae b1;have HP:=ae (hp.below b1);clear b1 h1 hp;go_enter Tryz.func27,Tryz.ntmps27
 go_upto_region 1 with fail
 show Code.wp _ _ _ _ (w.alloc (.cells #[.string (bs nm)] 9));generalize w.alloc (.cells #[.string (bs nm)] 9)=W at *;obtain⟨z0,hz⟩:=aV H1.out;have Z0:=ae z0;clear z0;generalize hn:p.length=n at *;replace hn:=ae hn;go_wp2_with fail
 have C:=ae (xb p nm po pc w.heap.size W (by rw [hn.out];exact HP.out) (by rw [hn.out];exact hl) hz Z0.out);rw [hn.out] at C;refine C.out.mono ?_;rintro e w1 ⟨rfl,b1⟩;have HE:=ae (af B1.out b1);clear b1;go_wp2_with fail
 go_ret;exact⟨rfl,HE.out⟩
end Go.Proofs.YtljkgcfnoegibaaGreatDoor
