/- Texts of one chain, joined. -/
import Derived.Test.YtfdhemcahjommaaGreatDoorZAAX
set_option maxHeartbeats 1000000
set_option maxRecDepth 20000
namespace Go.Proofs.YtfdhemcahjommaaGreatDoor
open Go Go.RowKit
open G (Tok Er Ins Fun)
theorem Cz (b:List Ins):∀m,m≤4096→((gO m b).2=0↔(∀x∈b,aX x=0)∧m+b.length≤4096)∧((gO m b).2=0→(gO m b).1=m+b.length):=by
 induction b with
 |nil=>intro m hm;simp [gO,hm]
 |cons x b ih=>
  intro m hm;by_cases h1:m=4096
  ·subst h1;simp only [gO,if_true,List.length_cons];exact⟨⟨fun k=>(by cases k),fun k=>(by omega)⟩,fun k=>(by cases k)⟩
  ·by_cases h2:aX x=0
   ·rw [gO,if_neg h1,if_neg (by simp [h2])];obtain⟨i1,i2⟩:=ih (m+1) (by omega);refine⟨?_,fun k=>by rw [i2 k,List.length_cons];omega⟩;rw [i1];simp only [List.mem_cons,forall_eq_or_imp,h2,true_and,List.length_cons];constructor <;> rintro ⟨a,b⟩ <;> exact⟨a,by omega⟩
   ·rw [gO,if_neg h1,if_pos h2];refine⟨⟨fun k=>absurd k h2,fun k=>absurd (k.1 x (by simp)) h2⟩,fun k=>absurd k h2⟩
def szB (l:List (List Ins)):Nat:=(l.map List.length).sum
theorem Cu (l:List (List Ins)):∀m,m≤4096→((gy m l).2=0↔(∀b∈l,∀x∈b,aX x=0)∧m+szB l≤4096)∧((gy m l).2=0→(gy m l).1=m+szB l):=by
 induction l with
 |nil=>intro m hm;simp [gy,szB,hm]
 |cons b l ih=>
  intro m hm;obtain⟨j1,j2⟩:=Cz b m hm;have hs:szB (b :: l)=b.length+szB l:=by simp [szB]
  by_cases h1:(gO m b).2=0
  ·rw [gy,if_neg (by simp [h1]),j2 h1];obtain⟨k1,k2⟩:=j1.1 h1;obtain⟨i1,i2⟩:=ih (m+b.length) k2;rw [hs];refine⟨?_,fun k=>by rw [i2 k];omega⟩;rw [i1];simp only [List.mem_cons,forall_eq_or_imp];constructor
   ·rintro ⟨a,c⟩;exact⟨⟨k1,a⟩,by omega⟩
   ·rintro ⟨⟨_,a⟩,c⟩;exact⟨a,by omega⟩
  ·rw [gy,if_pos h1,hs];refine⟨⟨fun k=>absurd k h1,fun k=>absurd (j1.2 ⟨k.1 b (by simp),by omega⟩) h1⟩,fun k=>absurd k h1⟩
def szP (p:List Fun):Nat:=(p.map fun x=>szB x.2.2.2.1).sum
theorem qz (p:List Fun):∀i m,i≤32→m≤4096→((aW i m p).1=0↔(∀f∈p,dN f=0∧∀b∈f.2.2.2.1,∀x∈b,aX x=0)∧i+p.length≤32∧m+szP p≤4096)∧((aW i m p).1=0→aW i m p=(0,0)):=by
 induction p with
 |nil=>intro i m h1 h2;simp [aW,szP,h1,h2]
 |cons f p ih=>
  intro i m h1 h2;have hs:szP (f :: p)=szB f.2.2.2.1+szP p:=by simp [szP]
  obtain⟨j1,j2⟩:=Cu f.2.2.2.1 m h2;rw [hs];by_cases k1:i=32
  ·subst k1;rw [kO,List.length_cons];exact⟨⟨fun k=>(by cases k),fun k=>(by omega)⟩,fun k=>(by cases k)⟩
  by_cases k2:dN f=0
  ·by_cases k3:(gy m f.2.2.2.1).2=0
   ·rw [oW p k1 k2 k3,j2 k3];obtain⟨b1,b2⟩:=j1.1 k3;obtain⟨i1,i2⟩:=ih (i+1) (m+szB f.2.2.2.1) (by omega) b2;refine⟨?_,i2⟩;rw [i1];simp only [List.mem_cons,forall_eq_or_imp,List.length_cons];constructor
    ·rintro ⟨a,c,d⟩;exact⟨⟨⟨k2,b1⟩,a⟩,by omega,by omega⟩
    ·rintro ⟨⟨_,a⟩,c,d⟩;exact⟨a,by omega,by omega⟩
   ·rw [oz p k1 k2 k3];refine⟨⟨fun k=>absurd k k3,fun k=>absurd (j1.2 ⟨(k.1 f (by simp)).2,by omega⟩) k3⟩,fun k=>absurd k k3⟩
  ·rw [kP m p k1 k2];refine⟨⟨fun k=>absurd k k2,fun k=>absurd (k.1 f (by simp)).1 k2⟩,fun k=>absurd k k2⟩
def Shp (f:Fun):Prop:=f.2.2.2.1.length≤1000000∧(∀b∈f.2.2.2.1,∀x∈b,x.2.2.2.2.2.1.length≤1000000)∧(aU f).1=0
theorem zf {f:Fun} (h:Shp f):0 < f.2.2.2.1.length:=by
 have h3:=h.2.2;unfold aU at h3;split at h3
 ·cases h3
 ·omega
theorem yM {f:Fun} (h:Shp f):∀b∈f.2.2.2.1,b.length≠0∧eW f.2.2.2.1.length b.length 0 b=0:=by
 have h0:=zf h;have h3:=h.2.2;unfold aU at h3;rw [if_neg (by omega)] at h3;intro b hb;have:=qg _ _ _ h3 b hb;unfold tQ at this;split at this
 ·cases this
 ·exact⟨by assumption,this⟩
theorem yS {f:Fun} (h:Shp f):Ful f:=by
 refine⟨Nat.le_trans h.1 (by omega),fun b hb=>⟨fun e=>(yM h b hb).1 (by rw [e];rfl),fun x hx=> ?_⟩⟩;exact Nat.le_trans (h.2.1 b hb x hx) (by omega)
theorem GL {f:Fun} (h:Shp f):Tos f:=by
 intro j;by_cases hj:j < f.2.2.2.1.length
 ·have hb:f.2.2.2.1[j]? =some f.2.2.2.1[j]:=List.getElem?_eq_getElem hj;obtain⟨h1,h2⟩:=yM h _ (List.mem_of_getElem? hb);obtain⟨x,hx,hl,_⟩:=(yS h).last (List.mem_of_getElem? hb);rw [il hb,hl];obtain⟨k1,k2⟩:=vQ _ _ _ _ h2 _ x hx;have hend:gU x.1=true:=by rw [k1];simp;omega
  have hop:x.1≠20:=by
   intro e;rw [e] at hend;simp [gU] at hend
  have hbt:kR f.2.2.2.1.length x.2.2.2.2.2.1=false:=by
   unfold jr at k2;simpa [hop] using k2
  intro m hm;have hm2:m∈x.2.2.2.2.2.1:=by rw [←aZ,rn,aZ] at hm;exact hm
  unfold kR at hbt;have:=List.any_eq_false.1 hbt m hm2;simp at this;omega
 ·have e:aF f j= []:=by
   unfold aF;rw [List.getD_eq_getElem?_getD,List.getElem?_eq_none (by omega)];rfl
  rw [e];intro m hm
  cases hm
theorem ru {x:Ins} (h:aX x=0):jj x.1 x.2.2.2.2.1.length x.2.2.2.2.2.1.length=true:=by
 cases hc:jj x.1 x.2.2.2.2.1.length x.2.2.2.2.2.1.length with
 |true=>rfl
 |false=>
  exfalso;unfold aX at h;rw [hc] at h;by_cases h1:(xi x.1 && L5.may x.1 x.2.2.2.1)=false
  ·rw [if_pos h1] at h;cases h
  ·rw [if_neg h1] at h;by_cases h2:qP x.1 x.2.1 x.2.2.2.1=false
   ·rw [if_pos h2] at h;cases h
   ·rw [if_neg h2,if_pos rfl] at h;cases h
theorem Cv:(L5.takes (L5.num 27)).length=1:=by decide +kernel
theorem FC {p:List Fun} {f:Fun} {x:Ins} {n:Nat} (hc:aX x=0) (hh:dy p f x=0) (hn:n < x.2.2.2.2.1.length):pB p x n∧(x.1=20→n < x.2.2.2.2.2.1.length):=by
 have hk:=ru hc;refine⟨⟨fun h21=> ?_,fun h20 h24 h28 h21=> ?_⟩,fun h20=> ?_⟩
 ·rw [pH h21] at hh
  cases hs:(findF p x.2.2.2.2.2.2.1).isSome with
  |false=>rw [hs] at hh;simp at hh
  |true=>
   rw [hs,if_pos rfl] at hh;by_cases h1:((findF p x.2.2.2.2.2.2.1).getD js).2.2.1≠x.2.2.2.1
   ·rw [if_pos h1] at hh;cases hh
   ·rw [if_neg h1] at hh;by_cases h2:((findF p x.2.2.2.2.2.2.1).getD js).2.1.length≠x.2.2.2.2.1.length
    ·rw [if_pos h2] at hh;cases hh
    ·have h3:((findF p x.2.2.2.2.2.2.1).getD js).2.1.length=x.2.2.2.2.1.length:=(by simpa using h2);omega
 ·unfold jj at hk;rw [if_neg h20,if_neg h21,if_neg h24] at hk;by_cases h26:x.1=26
  ·rw [if_pos h26] at hk;simp at hk;rw [hk.1] at hn;simp at hn
  ·rw [if_neg h26] at hk;by_cases h27:x.1=27
   ·rw [if_pos h27] at hk;simp at hk;rw [h27,Cv];omega
   ·rw [if_neg h27,if_neg h28] at hk;simp at hk;have:=hk.1;unfold tkN at this;omega
 ·unfold jj at hk;rw [if_pos h20] at hk;simp at hk;omega
theorem FT {p:List Fun} (hW:(aW 0 0 p).1=0) (hN:∀f∈p,f.2.2.2.1.length≤1000000∧∀b∈f.2.2.2.1,∀x∈b,x.2.2.2.2.2.1.length≤1000000):∀f∈p,Kept p f:=by
 intro f hf;have hc:=(((qz p 0 0 (by omega) (by omega)).1.1 hW).1 f hf).2;refine⟨fun hS=> ?_,fun k i hk hi hh n hn=> ?_⟩
 ·have h:Shp f:=⟨(hN f hf).1,(hN f hf).2,hS⟩;exact⟨yS h,GL h,zf h⟩
 ·exact FC (hc _ (List.mem_of_getElem? (dp hk)) _ (List.mem_of_getElem? (ji hi))) hh hn
def plF (f:Fun) (id:Int) (K J:Nat):Option (Int × Int × Int):=if en f id then some (0,-1,f.2.1.getD id.toNat 0)else(jx f id K J).map fun m=>(m.1,m.2.1,m.2.2.1)
theorem tx {f:Fun} {id:Int} {K J:Nat} {m:Plc} (h:jx f id K J=some m):∃k i,k < f.2.2.2.1.length∧i < (ah f k).length∧dm id (ay f k i)=true∧m=((k:Int),(i:Int),mkX (ay f k i),true):=by
 obtain⟨k,hk,h1,_⟩:=fM h;obtain⟨i,hi,h2,_⟩:=fM h1;unfold lx at h2;split at h2
 ·rename_i hh
  cases h2;exact⟨k,i,by omega,by omega,hh,rfl⟩
 ·cases h2
theorem FO (f:Fun) (id:Int) (K J:Nat):ei f id K J=match plF f id K J with
  |some m=>(m.1,m.2.1,m.2.2,true)
  |none=>(0,0,0,false):=by
 unfold ei plF;split
 ·rfl
 ·cases h:jx f id K J with
  |none=>rfl
  |some m=>
   obtain⟨k,i,_,_,_,rfl⟩:=tx h;rfl
theorem Jc {f:Fun} {id:Int} {K J:Nat} {m:Int × Int × Int} (h:plF f id K J=some m):(en f id=true∧m=(0,-1,f.2.1.getD id.toNat 0))∨∃k i,k < f.2.2.2.1.length∧i < (ah f k).length∧dm id (ay f k i)=true∧m=((k:Int),(i:Int),mkX (ay f k i)):=by
 unfold plF at h;split at h
 ·rename_i hp
  cases h;exact .inl ⟨hp,rfl⟩
 ·right
  cases h1:jx f id K J with
  |none=>simp [h1] at h
  |some m'=>
   obtain⟨k,i,a,b,c,rfl⟩:=tx h1;simp [h1] at h;exact⟨k,i,a,b,c,h.symm⟩
theorem kq {id:Int} {x:Ins}:dm id x=true↔x.2.1=id∧mkX x≠0:=by
 unfold dm;simp
theorem lg:∀(l m:List Int),l.Nodup→(∀x∈l,x∈m)→m.length≤l.length→m.Nodup∧∀x∈m,x∈l:=by
 intro l;induction l with
 |nil=>
  intro m _ _ hl;have:m= []:=List.length_eq_zero_iff.1 (by simpa using hl);subst this;simp
 |cons a l ih=>
  intro m hn hs hl;obtain⟨s,t,rfl⟩:=List.append_of_mem (hs a (by simp));rw [List.nodup_cons] at hn;obtain⟨h1,h2⟩:=ih (s ++ t) hn.2 (fun x hx=>by
   have:=hs x (by simp [hx]);simp only [List.mem_append,List.mem_cons] at this ⊢;rcases this with h | h | h
   ·exact .inl h
   ·subst h;exact absurd hx hn.1
   ·exact .inr h) (by simp at hl ⊢;omega)
  have ha:a ∉ s ++ t:=fun h=>hn.1 (h2 a h);refine⟨?_,fun x hx=> ?_⟩
  ·have:(a :: (s ++ t)).Nodup:=List.nodup_cons.2 ⟨ha,h1⟩;exact List.perm_middle.symm.nodup this
  ·simp only [List.mem_append,List.mem_cons] at hx;rcases hx with h | h | h
   ·exact List.mem_cons_of_mem _ (h2 x (by simp [h]))
   ·simp [h]
   ·exact List.mem_cons_of_mem _ (h2 x (by simp [h]))
def BP (ps tt:List Int) (j:Nat):Bool:=aA ps (tt.getD j 0) && !aA (tt.take j) (tt.getD j 0)
def yA (ps tt:List Int):Bool:=(List.range tt.length).all (BP ps tt) && decide (tt.length=ps.length)
theorem xa {tt:List Int} (h:∀j,j < tt.length→aA (tt.take j) (tt.getD j 0)=false):tt.Nodup:=by
 unfold List.Nodup;rw [List.pairwise_iff_getElem];intro i j hi hj hij e;have h1:=h j hj;rw [eN] at h1;apply h1;have h2:tt.getD j 0=tt[j]:=by rw [List.getD_eq_getElem?_getD,List.getElem?_eq_getElem hj];rfl
 rw [h2,←e];exact List.mem_take_iff_getElem.2 ⟨i,by omega,rfl⟩
theorem EH {ps tt:List Int} (hp:ps.Nodup):yA ps tt=(decide (tt.length=ps.length) && ps.all fun b=>aA tt b):=by
 rw [Bool.eq_iff_iff];unfold yA;simp only [Bool.and_eq_true,List.all_eq_true,decide_eq_true_eq,List.mem_range,BP,Bool.not_eq_true'];constructor
 ·rintro ⟨h,hl⟩;have hn:=xa (fun j hj=>(h j hj).2);have hs:∀x∈tt,x∈ps:=by
   intro x hx;obtain⟨j,hj,rfl⟩:=List.mem_iff_getElem.1 hx;have:=aZ.1 (h j hj).1;rwa [List.getD_eq_getElem?_getD,List.getElem?_eq_getElem hj] at this
  obtain⟨_,h2⟩:=lg tt ps hn hs (by omega);exact⟨hl,fun x hx=>aZ.2 (h2 x hx)⟩
 ·rintro ⟨hl,h⟩;obtain⟨h1,h2⟩:=lg ps tt hp (fun x hx=>aZ.1 (h x hx)) (by omega);refine⟨fun j hj=> ?_,hl⟩;have e:tt.getD j 0=tt[j]:=by rw [List.getD_eq_getElem?_getD,List.getElem?_eq_getElem hj];rfl
  exact⟨aZ.2 (h2 _ (by rw [e];exact List.getElem_mem hj)),oG h1 (by rw [List.getElem?_eq_getElem hj,e])⟩
theorem tq {f:Fun} {k:Nat} (hk:k < f.2.2.2.1.length):(aL f)[k]? =some (bg f k f.2.2.2.1.length):=by
 unfold aL;rw [List.getElem?_map,List.getElem?_range hk];rfl
theorem xn {f:Fun} {k:Nat} (hk:k < f.2.2.2.1.length):(aL f).getD k []=bg f k f.2.2.2.1.length:=by
 rw [List.getD_eq_getElem?_getD,tq hk];rfl
theorem sM (f:Fun) (b k:Nat):(bg f b k).Nodup:=by
 unfold bg;unfold List.Nodup;rw [List.pairwise_map];refine List.Pairwise.imp ?_ ((List.pairwise_lt_range (n:=k)).sublist List.filter_sublist);intro a c h e;simp at e;omega
theorem xK (f:Fun) (b k:Nat):Num k (bg f b k):=by
 intro m hm;unfold bg at hm;simp only [List.mem_map,List.mem_filter,List.mem_range] at hm;obtain⟨a,⟨h,_⟩,rfl⟩:=hm;simp;omega
theorem C0 {f:Fun} {k i:Nat} (hk:k < f.2.2.2.1.length):gQ f k i=((decide (i=0) || decide ((ay f k (i - 1)).1=20)) && yA (bg f k f.2.2.2.1.length) (ay f k i).2.2.2.2.2.1):=by
 unfold gQ;rw [EH (sM f k _),xn hk,Bool.and_assoc]
theorem Ag {f:Fun} (hT:Tos f) (h0:0 < f.2.2.2.1.length) (h:fE f=true) {k:Nat} (hk:k < f.2.2.2.1.length):All (aC f) k:=by
 unfold fE at h;simp only [Bool.and_eq_true,decide_eq_true_eq] at h;rw [←rq hT h0];obtain⟨h1,h2⟩:=qL hT h0;refine(lg (aG f) ((List.range f.2.2.2.1.length).map Int.ofNat) h1 (fun x hx=> ?_) (by simp;omega)).2 _ ?_
 ·have:=h2 x hx;simp only [List.mem_map,List.mem_range];exact⟨x.toNat,by omega,by simp;omega⟩
 ·simp only [List.mem_map,List.mem_range];exact⟨k,hk,rfl⟩
theorem J6 {c a:Int} {e:Int × Int} (h:atC c a=some e):e.1≠0:=by
 unfold atC at h;split at h
 ·cases h;assumption
 ·cases h
theorem IG {c a:Int} (h:atC c a=none):c=0:=by
 unfold atC at h;split at h
 ·cases h
 ·rename_i hh;simpa using hh
theorem rh {f:Fun} {c:Nat→Nat→Int} (h:cJ (fun k=>cJ (fun i=>atC (c k i) (ay f k i).2.2.2.2.2.2.2) (ah f k).length) f.2.2.2.1.length=none):∀k,k < f.2.2.2.1.length→∀i,i < (ah f k).length→c k i=0:=
 fun k hk i hi=>IG (gh (gh h k hk) i hi)
theorem qN {f:Fun} {c:Nat→Nat→Int} {e:Int × Int} (h:cJ (fun k=>cJ (fun i=>atC (c k i) (ay f k i).2.2.2.2.2.2.2) (ah f k).length) f.2.2.2.1.length=some e):e.1≠0∧∃k i,k < f.2.2.2.1.length∧i < (ah f k).length∧e.2=(ay f k i).2.2.2.2.2.2.2:=by
 obtain⟨k,hk,h1,_⟩:=fM h;obtain⟨i,hi,h2,_⟩:=fM h1;refine⟨J6 h2,k,i,hk,hi,?_⟩;unfold atC at h2;split at h2
 ·cases h2;rfl
 ·cases h2
theorem yj {p:List Fun} {f:Fun} {src:Bool} (h:(jl p f src).1=0):(aU f).1=0∧fE f=true∧(∀k,k < f.2.2.2.1.length→∀i,i < (ah f k).length→dR f k i src=0)∧∀k,k < f.2.2.2.1.length→∀i,i < (ah f k).length→fA p f k i=0:=by
 unfold jl at h;split at h
 ·rename_i h1;exact absurd h h1
 ·rename_i h1;split at h
  ·simp at h
  ·rename_i h2
   cases hv:gS f src with
   |some e=>rw [hv] at h;exact absurd h (qN hv).1
   |none=>
    rw [hv] at h
    cases hl:jZ p f with
    |some e=>rw [hl] at h;exact absurd h (qN hl).1
    |none=>exact⟨by simpa using h1,by simpa using h2,rh hv,rh hl⟩
theorem ue {p:List Fun} {src:Bool} (h:(iN p src).1=0):(aW 0 0 p).1=0∧(fG p).1=0∧∀i,i < p.length→(jl p (bh p i) src).1=0:=by
 unfold iN at h;split at h
 ·rename_i h1;exact absurd h h1
 ·rename_i h1;split at h
  ·rename_i h2;exact absurd h h2
  ·rename_i h2;refine⟨by simpa using h1,by simpa using h2,fun i hi=> ?_⟩
   cases hf:cJ (kE p src) p.length with
   |some e=>
    rw [hf] at h;obtain⟨K,_,h3,_⟩:=fM hf;unfold kE at h3;split at h3
    ·rename_i h4;cases h3;exact absurd h h4
    ·cases h3
   |none=>
    have h3:=gh hf i hi;unfold kE at h3;split at h3
    ·cases h3
    ·rename_i h4;simpa using h4
theorem fq {f:Fun} {k:Nat} (hk:k < f.2.2.2.1.length):ah f k∈f.2.2.2.1:=List.mem_of_getElem? (dp hk)
theorem pJ {f:Fun} {k i:Nat} (hi:i < (ah f k).length):ay f k i∈ah f k:=List.mem_of_getElem? (ji hi)
theorem uX {p:List Fun} {i:Nat} (hi:i < p.length):bh p i∈p:=List.mem_of_getElem? (kb hi)
theorem zO {p:List Fun} {f:Fun} {k i n:Nat} (h:fA p f k i=0) (hn:n < (ay f k i).2.2.2.2.1.length):dy p f (ay f k i)=0∧fu p f k i n=0:=by
 unfold fA at h;split at h
 ·rename_i h1;exact absurd h h1
 ·rename_i h1;refine⟨by simpa using h1,?_⟩
  cases hf:cJ (vA p f k i) (ay f k i).2.2.2.2.1.length with
  |some e=>
   rw [hf] at h;obtain⟨K,_,h2,_⟩:=fM hf;unfold vA at h2;split at h2
   ·rename_i h3;cases h2;exact absurd h h3
   ·cases h2
  |none=>
   have:=gh hf n hn;unfold vA at this;split at this
   ·cases this
   ·rename_i h3;simpa using h3
theorem mK {p:List Fun} {f:Fun} {k i n:Nat} (hG:Gr (aC f)) (h:fu p f k i n=0):en f ((ay f k i).2.2.2.2.1.getD n 0)=true∨∃b j:Nat,b < f.2.2.2.1.length∧j < (ah f b).length∧(ay f b j).2.1=(ay f k i).2.2.2.2.1.getD n 0∧mkX (ay f b j)≠0∧
  (if(ay f k i).1=20 then Ahd (aC f) b ((ay f k i).2.2.2.2.2.1.getD n 0)else b=k∧j < i∨b≠k∧Ahd (aC f) b k):=by
 unfold fu at h;simp only [FO] at h
 cases hm:plF f ((ay f k i).2.2.2.2.1.getD n 0) f.2.2.2.1.length 0 with
 |none=>
  rw [hm] at h;simp at h
 |some m=>
  rw [hm] at h;simp only [Bool.true_eq_false,if_false] at h;rcases Jc hm with ⟨hp,_⟩ | ⟨b,j,hb,hj,hh,rfl⟩
  ·exact .inl hp
  ·right;obtain⟨g1,g2⟩:=kq.1 hh;refine⟨b,j,hb,hj,g1,g2,?_⟩;split at h
   ·omega
   ·rw [if_neg (show ¬((j:Int) < 0) by omega)] at h;split at h
    ·rename_i h20;rw [if_pos h20];split at h
     ·rename_i ha;exact(dS hG _ _).1 ha
     ·omega
    ·rename_i h20;rw [if_neg h20];split at h
     ·omega
     ·rename_i h1;split at h
      ·omega
      ·rename_i h2;simp only [Bool.and_eq_true,decide_eq_true_eq,Bool.not_eq_true',not_and] at h1 h2;by_cases e:b=k
       ·exact .inl ⟨e,by have:=h1 (by omega);omega⟩
       ·refine .inr ⟨e,(dS hG _ _).1 ?_⟩;have:=h2 (by omega);simpa using this
def DL (f:Fun) (way:List Int) (k:Nat) (from_:Int):Prop:=(way= []∧k=0∧from_= -1)∨(fJ (aC f) way from_∧(k:Int)∈(aC f).getD from_.toNat [])
theorem DL.on {f:Fun} {way:List Int} {k:Nat} {from_:Int} (h:DL f way k from_):fJ (aC f) (way ++ [(k:Int)]) k:=by
 rcases h with ⟨rfl,rfl,_⟩ | ⟨h1,h2⟩
 ·exact fJ.start _
 ·exact h1.step h2 (by omega)
theorem DL.next {f:Fun} {way:List Int} {k k':Nat} {from_:Int} (h:DL f way k from_) (hk:(k':Int)∈(aC f).getD k []):DL f (way ++ [(k:Int)]) k' k:= .inr ⟨h.on,by simpa using hk⟩
def MdW (f:Fun) (way:List Int) (k i:Nat) (made:List Int):Prop:=(∀id,en f id=true→id∈made)∧(∀b:Nat,(b:Int)∈way→∀j,j < (ah f b).length→mkX (ay f b j)≠0→(ay f b j).2.1∈made)∧∀j,j < i→mkX (ay f k j)≠0→(ay f k j).2.1∈made
theorem MdW.first {f:Fun} {made:List Int} (h:∀id,en f id=true→id∈made):MdW f [] 0 0 made:=⟨h,fun b hb=>by simp at hb,fun j hj=>by omega⟩
theorem MdW.stay {f:Fun} {way:List Int} {k i:Nat} {made:List Int} (h:MdW f way k i made) (h0:mkX (ay f k i)=0):MdW f way k (i+1) made:=⟨h.1,h.2.1,fun j hj hm=>by
 by_cases e:j=i
 ·subst e;exact absurd h0 hm
 ·exact h.2.2 j (by omega) hm⟩
theorem MdW.put {f:Fun} {way:List Int} {k i:Nat} {made:List Int} (h:MdW f way k i made):MdW f way k (i+1) (made ++ [(ay f k i).2.1]):=⟨fun id hi=>by simp [h.1 id hi],fun b hb j hj hm=>by simp [h.2.1 b hb j hj hm],fun j hj hm=>by
 by_cases e:j=i
 ·subst e;simp
 ·simp [h.2.2 j (by omega) hm]⟩
theorem MdW.next {f:Fun} {way:List Int} {k k':Nat} {made:List Int} (h:MdW f way k (ah f k).length made):MdW f (way ++ [(k:Int)]) k' 0 made:=⟨h.1,fun b hb j hj hm=>by
 simp only [List.mem_append,List.mem_singleton] at hb;rcases hb with hb | hb
 ·exact h.2.1 b hb j hj hm
 ·have:b=k:=by omega
  subst this;exact h.2.2 j hj hm,fun j hj=>by omega⟩
def tkX (id:Int) (x:Ins):Bool:=decide (x.1≠20) && aA x.2.2.2.2.1 id
def j4 (id:Int):List Ins→Nat
 |[]=>0
 |x :: r=>if tkX id x then 1 else if dm id x then 2 else j4 id r
def eA (f:Fun) (k i:Nat) (id:Int):Nat:=j4 id ((ah f k).drop i)
def pT (fr id:Int) (x:Ins):Bool:=(x.2.2.2.2.2.1.zip x.2.2.2.2.1).any fun q=>decide (q.1=fr) && decide (q.2=id)
def ju (fr id:Int) (b:List Ins):Bool:=(b.takeWhile fun x=>decide (x.1=20)).any (pT fr id)
def dJ (f:Fun) (id:Int):Nat→Nat→Bool
 |0,_=>false
 |n+1,k=>(aF f k).any fun b=>ju k id (ah f b.toNat) || decide (eA f b.toNat 0 id=1) || (decide (eA f b.toNat 0 id=0) && dJ f id n b.toNat)
def eS (f:Fun) (k:Nat) (id:Int):Bool:=dJ f id f.2.2.2.1.length k
def bf (f:Fun) (k i:Nat) (id:Int):Bool:=decide (eA f k i id=1) || (decide (eA f k i id=0) && eS f k id)
theorem ke (f:Fun) (id:Int):∀n k,dJ f id n k=true→dJ f id (n+1) k=true
 |0,_,h=>by simp [dJ] at h
 |n+1,k,h=>by
  rw [dJ,List.any_eq_true] at h;obtain⟨b,hb,h⟩:=h;rw [dJ,List.any_eq_true];refine⟨b,hb,?_⟩;simp only [Bool.or_eq_true,Bool.and_eq_true] at h ⊢;rcases h with h | ⟨h1,h2⟩
  ·exact .inl h
  ·exact .inr ⟨h1,ke f id n _ h2⟩
theorem GD (f:Fun) (id:Int) {n m:Nat} (h:n≤m) {k:Nat} (hk:dJ f id n k=true):dJ f id m k=true:=by
 induction h with
 |refl=>exact hk
 |step _ ih=>exact ke f id _ _ ih
theorem qV {f:Fun} {id:Int} {n:Nat} (hT:Tos f) (h:∀k,k < f.2.2.2.1.length→dJ f id (n+1) k=true→dJ f id n k=true):∀m k,k < f.2.2.2.1.length→dJ f id m k=true→dJ f id n k=true
 |0,_,_,hk=>by simp [dJ] at hk
 |m+1,k,hl,hk=>by
  refine h k hl ?_;rw [dJ,List.any_eq_true] at hk ⊢;obtain⟨b,hb,q⟩:=hk;refine⟨b,hb,?_⟩;simp only [Bool.or_eq_true,Bool.and_eq_true] at q ⊢;rcases q with q | ⟨q1,q2⟩
  ·exact .inl q
  ·have:=hT k b hb;exact .inr ⟨q1,qV hT h m _ (by omega) q2⟩
theorem km {α:Type} (p q:α→Bool):∀l:List α,(∀a∈l,p a=true→q a=true)→(∃a∈l,q a=true∧p a=false)→l.countP p+1≤l.countP q
 |[],_,⟨_,h,_⟩=>by cases h
 |x :: l,h,⟨a,ha,h1,h2⟩=>by
  have hle:l.countP p≤l.countP q:=List.countP_mono_left fun b hb=>h b (List.mem_cons_of_mem _ hb);rw [List.countP_cons,List.countP_cons];rcases List.mem_cons.1 ha with rfl | ha
  ·simp only [h1,h2,if_true];simp only [Bool.false_eq_true,if_false];omega
  ·have ih:=km p q l (fun b hb=>h b (List.mem_cons_of_mem _ hb)) ⟨a,ha,h1,h2⟩;have hx:=h x (List.mem_cons_self ..);by_cases q1:p x=true
   ·simp only [q1,hx q1,if_true];omega
   ·have:p x=false:=(by simpa using q1);simp only [this,Bool.false_eq_true,if_false];split <;> omega
theorem n6 {f:Fun} {id:Int} (hT:Tos f):∀n,(∃m,m≤n∧∀k,k < f.2.2.2.1.length→dJ f id (m+1) k=true→dJ f id m k=true)∨n+1≤((List.range f.2.2.2.1.length).countP (dJ f id (n+1)))
 |0=>by
  by_cases h:∀k,k < f.2.2.2.1.length→dJ f id 1 k=true→dJ f id 0 k=true
  ·exact .inl ⟨0,Nat.le_refl _,h⟩
  ·right;simp only [Classical.not_forall] at h;obtain⟨k,hk,h1,h2⟩:=h;have:=km (dJ f id 0) (dJ f id 1) (List.range f.2.2.2.1.length) (fun a _ q=>by simp [dJ] at q) ⟨k,List.mem_range.2 hk,h1,rfl⟩;exact Nat.le_trans (by omega) this
 |n+1=>by
  rcases n6 hT n with ⟨m,hm,h⟩ | hc
  ·exact .inl ⟨m,by omega,h⟩
  ·by_cases h:∀k,k < f.2.2.2.1.length→dJ f id (n+2) k=true→dJ f id (n+1) k=true
   ·exact .inl ⟨n+1,Nat.le_refl _,h⟩
   ·right;simp only [Classical.not_forall] at h;obtain⟨k,hk,h1,h2⟩:=h;have:=km (dJ f id (n+1)) (dJ f id (n+2)) (List.range f.2.2.2.1.length) (fun a _ q=>ke f id _ _ q) ⟨k,List.mem_range.2 hk,h1,by simpa using h2⟩;exact Nat.le_trans (by omega) this
theorem tK {f:Fun} {id:Int} (hT:Tos f) {m k:Nat} (hk:k < f.2.2.2.1.length) (h:dJ f id m k=true):eS f k id=true:=by
 unfold eS;rcases n6 (id:=id) hT f.2.2.2.1.length with ⟨m',hm,hs⟩ | hc
 ·exact GD f id hm (qV hT hs m k hk h)
 ·have:=List.countP_le_length (p:=dJ f id (f.2.2.2.1.length+1)) (l:=List.range f.2.2.2.1.length);rw [List.length_range] at this;omega
theorem lV {f:Fun} {id:Int} (hT:Tos f) {k:Nat} (hk:k < f.2.2.2.1.length):
  eS f k id=true↔∃b∈aF f k,ju k id (ah f b.toNat)=true∨eA f b.toNat 0 id=1∨(eA f b.toNat 0 id=0∧eS f b.toNat id=true):=by
 constructor
 ·intro h;have h2:=ke f id _ _ (show dJ f id f.2.2.2.1.length k=true from h);rw [dJ,List.any_eq_true] at h2;obtain⟨b,hb,q⟩:=h2;refine⟨b,hb,?_⟩;simp only [Bool.or_eq_true,Bool.and_eq_true,decide_eq_true_eq] at q;rcases q with (q | q) | q
  ·exact .inl q
  ·exact .inr (.inl q)
  ·exact .inr (.inr q)
 ·rintro ⟨b,hb,q⟩;refine tK (m:=f.2.2.2.1.length+1) hT hk ?_;rw [dJ,List.any_eq_true];refine⟨b,hb,?_⟩;simp only [Bool.or_eq_true,Bool.and_eq_true,decide_eq_true_eq];rcases q with q | q | q
  ·exact .inl (.inl q)
  ·exact .inl (.inr q)
  ·exact .inr q
theorem eX {f:Fun} {k i:Nat} {id:Int}:bf f k i id=true↔eA f k i id=1∨(eA f k i id=0∧eS f k id=true):=by
 unfold bf;simp
theorem zx {f:Fun} {id:Int} (hT:Tos f) {k:Nat} (hk:k < f.2.2.2.1.length):eS f k id=true↔∃b∈aF f k,ju k id (ah f b.toNat)=true∨bf f b.toNat 0 id=true:=by
 rw [lV hT hk];refine⟨fun⟨b,hb,q⟩=>⟨b,hb,?_⟩,fun⟨b,hb,q⟩=>⟨b,hb,?_⟩⟩
 ·rcases q with q | q | q
  ·exact .inl q
  ·exact .inr (eX.2 (.inl q))
  ·exact .inr (eX.2 (.inr q))
 ·rcases q with q | q
  ·exact .inl q
  ·exact .inr (eX.1 q)
theorem ja {f:Fun} {id:Int} {S:Nat→Prop} (hS:∀k,(∃b∈aF f k,ju k id (ah f b.toNat)=true∨eA f b.toNat 0 id=1∨(eA f b.toNat 0 id=0∧S b.toNat))→S k) {k:Nat} (h:eS f k id=true):S k:=by
 have key:∀n k,dJ f id n k=true→S k:=by
  intro n;induction n with
  |zero=>intro k h;simp [dJ] at h
  |succ n ih=>
   intro k h;rw [dJ,List.any_eq_true] at h;obtain⟨b,hb,q⟩:=h;refine hS k ⟨b,hb,?_⟩;simp only [Bool.or_eq_true,Bool.and_eq_true,decide_eq_true_eq] at q;rcases q with (q | q) | ⟨q1,q2⟩
   ·exact .inl q
   ·exact .inr (.inl q)
   ·exact .inr (.inr ⟨q1,ih _ q2⟩)
 exact key _ k h
theorem E0 {f:Fun} {id:Int} {op:List Int} (hop:∀o∈op,0≤o) (h:∀o∈op,∀b∈aF f o.toNat,ju o id (ah f b.toNat)=false∧eA f b.toNat 0 id≠1∧(eA f b.toNat 0 id=0→b∈op)):∀o∈op,eS f o.toNat id=false:=by
 have key:∀n,∀o∈op,dJ f id n o.toNat=false:=by
  intro n;induction n with
  |zero=>intro o _;rfl
  |succ n ih=>
   intro o ho;rw [dJ,List.any_eq_false];intro b hb;obtain⟨h1,h2,h3⟩:=h o ho b hb;have e:((o.toNat:Nat):Int)=o:=(by have:=hop o ho;omega);rw [e];simp only [h1,Bool.false_or];by_cases q:eA f b.toNat 0 id=0
   ·simp [q,ih b (h3 q)]
   ·simp [q,h2]
 exact fun o ho=>key _ o ho
theorem tu {f:Fun} {k i:Nat} {id:Int} (h:(ah f k).length≤i):eA f k i id=0:=by unfold eA;rw [List.drop_eq_nil_of_le h];rfl
theorem re {f:Fun} {k i:Nat} {id:Int} (h:i < (ah f k).length):eA f k i id=if tkX id (ay f k i)then 1 else if dm id (ay f k i)then 2 else eA f k (i+1) id:=by
 unfold eA;have e:(ah f k).drop i=ay f k i :: (ah f k).drop (i+1):=by
  rw [List.drop_eq_getElem_cons h];congr 1
  unfold ay;rw [List.getD_eq_getElem?_getD,List.getElem?_eq_getElem h];rfl
 rw [e,j4]
theorem yd {id:Int}:∀ {l:List Ins},j4 id l=1→∃(i:Nat) (x:Ins),l[i]? =some x∧tkX id x=true∧∀j,j < i→∀y,l[j]? =some y→dm id y=false
 |[],h=>by cases h
 |y :: l,h=>by
  rw [j4] at h;split at h
  ·rename_i h1;exact⟨0,y,rfl,h1,fun j hj=>absurd hj (Nat.not_lt_zero _)⟩
  ·split at h
   ·cases h
   ·rename_i h2;obtain⟨i,x,q1,q2,q3⟩:=yd h;refine⟨i+1,x,by simpa using q1,q2,fun j hj z hz=> ?_⟩
    cases j with
    |zero=>simp at hz;subst hz;simpa using h2
    |succ j=>exact q3 j (by omega) z (by simpa using hz)
theorem JF {l:List Int} {id:Int} (h:aA l id=true):∃n,n < l.length∧l.getD n 0=id:=by
 unfold aA at h;obtain⟨m,hm,e⟩:=List.any_eq_true.1 h;obtain⟨n,hn⟩:=List.mem_iff_getElem?.1 hm;refine⟨n,(List.getElem?_eq_some_iff.1 hn).1,?_⟩;rw [List.getD_eq_getElem?_getD,hn];simpa using e
theorem yD {fr id:Int} {x:Ins} (h:pT fr id x=true):∃n,n < x.2.2.2.2.1.length∧n < x.2.2.2.2.2.1.length∧x.2.2.2.2.2.1.getD n 0=fr∧x.2.2.2.2.1.getD n 0=id:=by
 unfold pT at h;obtain⟨⟨a,b⟩,hm,e⟩:=List.any_eq_true.1 h;simp only [Bool.and_eq_true,decide_eq_true_eq] at e;obtain⟨n,hn⟩:=List.mem_iff_getElem?.1 hm;rw [List.getElem?_zip_eq_some] at hn;obtain⟨h1,h2⟩:=hn;refine⟨n,(List.getElem?_eq_some_iff.1 h2).1,(List.getElem?_eq_some_iff.1 h1).1,?_,?_⟩
 ·rw [List.getD_eq_getElem?_getD,h1];exact e.1
 ·rw [List.getD_eq_getElem?_getD,h2];exact e.2
theorem Gf {l:List Ins} {x:Ins}:x∈l.takeWhile (fun x=>decide (x.1=20))→∃i:Nat,l[i]? =some x∧x.1=20:=by
 induction l with
 |nil=>intro h;cases h
 |cons y l ih=>
  intro h;rw [List.takeWhile_cons] at h;split at h
  ·rename_i hy;rcases List.mem_cons.1 h with rfl | h
   ·exact⟨0,rfl,by simpa using hy⟩
   ·obtain⟨i,h1,h2⟩:=ih h;exact⟨i+1,by simpa using h1,h2⟩
  ·cases h
theorem nO {f:Fun} {fr id:Int} {b:Nat} (h:ju fr id (ah f b)=true):∃i n:Nat,i < (ah f b).length∧(ay f b i).1=20∧n < (ay f b i).2.2.2.2.1.length∧n < (ay f b i).2.2.2.2.2.1.length∧(ay f b i).2.2.2.2.2.1.getD n 0=fr∧(ay f b i).2.2.2.2.1.getD n 0=id:=by
 unfold ju at h;obtain⟨x,hx,hp⟩:=List.any_eq_true.1 h;obtain⟨i,hi,h20⟩:=Gf hx;have hl:=(List.getElem?_eq_some_iff.1 hi).1;have e:ay f b i=x:=by unfold ay;rw [List.getD_eq_getElem?_getD,hi];rfl
 obtain⟨n,h1,h2,h3,h4⟩:=yD hp;exact⟨i,n,hl,by rw [e];exact h20,by rw [e];exact h1,by rw [e];exact h2,by rw [e];exact h3,by rw [e];exact h4⟩
theorem Dy {f:Fun} {k i j:Nat} {x:Ins} (h:((ah f k).drop i)[j]? =some x):i+j < (ah f k).length∧ay f k (i+j)=x:=by
 rw [List.getElem?_drop] at h;refine⟨(List.getElem?_eq_some_iff.1 h).1,?_⟩;unfold ay;rw [List.getD_eq_getElem?_getD,h];rfl
theorem jF {f:Fun} {k i:Nat} {id:Int} (h:eA f k i id=1):∃j n:Nat,i≤j∧j < (ah f k).length∧(ay f k j).1≠20∧n < (ay f k j).2.2.2.2.1.length∧(ay f k j).2.2.2.2.1.getD n 0=id∧∀m,i≤m→m < j→dm id (ay f k m)=false:=by
 obtain⟨j,x,h1,h2,h3⟩:=yd h;obtain⟨hl,e⟩:=Dy h1;unfold tkX at h2;simp only [Bool.and_eq_true,decide_eq_true_eq] at h2;obtain⟨n,hn,he⟩:=JF h2.2;refine⟨i+j,n,Nat.le_add_right _ _,hl,by rw [e];exact h2.1,by rw [e];exact hn,by rw [e];exact he,fun m hm1 hm2=> ?_⟩;have hq:((ah f k).drop i)[m - i]? =some (ay f k m):=by
  rw [List.getElem?_drop,show i+(m - i)=m by omega];exact ji (by omega)
 exact h3 (m - i) (by omega) _ hq
def IsV (f:Fun) (id:Int):Prop:=en f id=true∨∃b j:Nat,b < f.2.2.2.1.length∧j < (ah f b).length∧dm id (ay f b j)=true
def TkA (p:List Fun) (f:Fun):Prop:=∀k,k < f.2.2.2.1.length→∀i,i < (ah f k).length→∀n,n < (ay f k i).2.2.2.2.1.length→fu p f k i n=0
theorem pd {p:List Fun} {f:Fun} {k i n:Nat} (hG:Gr (aC f)) (h:fu p f k i n=0):IsV f ((ay f k i).2.2.2.2.1.getD n 0):=by
 rcases mK hG h with q | ⟨b,j,h1,h2,h3,h4,_⟩
 ·exact .inl q
 ·exact .inr ⟨b,j,h1,h2,kq.2 ⟨h3,h4⟩⟩
theorem eE {f:Fun} (hT:Tos f) {k:Nat} {b:Int} (hb:b∈aF f k):b.toNat < f.2.2.2.1.length∧0≤b:=by
 have:=hT k b hb;omega
theorem Hu {p:List Fun} {f:Fun} {k:Nat} {id:Int} (hG:Gr (aC f)) (hT:Tos f) (hA:TkA p f) (h:eS f k id=true):IsV f id:=by
 refine ja (S:=fun _=>IsV f id) (fun k ⟨b,hb,q⟩=> ?_) h;have hl:=(eE hT hb).1;rcases q with q | q | q
 ·obtain⟨i,n,h1,_,h3,_,_,h6⟩:=nO q;have:=pd hG (hA _ hl i h1 n h3);rw [h6] at this;exact this
 ·obtain⟨j,n,_,h2,_,h4,h5,_⟩:=jF q;have:=pd hG (hA _ hl j h2 n h4);rw [h5] at this;exact this
 ·exact q.2
theorem E8 {p:List Fun} {f:Fun} {k i:Nat} {id:Int} (hG:Gr (aC f)) (hT:Tos f) (hA:TkA p f) (hk:k < f.2.2.2.1.length) (h:bf f k i id=true):IsV f id:=by
 rcases eX.1 h with q | ⟨_,q⟩
 ·obtain⟨j,n,_,h2,_,h4,h5,_⟩:=jF q;have:=pd hG (hA _ hk j h2 n h4);rw [h5] at this;exact this
 ·exact Hu hG hT hA q
abbrev iC (x:Ins) (xo zo:Option Addr) (xl zl xc zc:Nat):Array Value:= #[.int .i64 x.1,.int .i64 x.2.1,.int .i64 x.2.2.1,.int .i64 x.2.2.2.1,.slice xo xl xc,.slice zo zl zc,.string (bs x.2.2.2.2.2.2.1),.int .i64 x.2.2.2.2.2.2.2]
theorem iq {w:World} {b t:Nat} {x:Ins} {xo zo:Option Addr} {xl zl xc zc:Nat} (h:w.heap[b]? =some (.cells (iC x xo zo xl zl xc zc) t (0,0))):
  w.cell? ⟨b,0,none⟩=some (.int .i64 x.1)∧w.cell? ⟨b,1,none⟩=some (.int .i64 x.2.1)∧w.cell? ⟨b,2,none⟩=some (.int .i64 x.2.2.1)∧w.cell? ⟨b,3,none⟩=some (.int .i64 x.2.2.2.1)∧w.cell? ⟨b,4,none⟩=some (.slice xo xl xc)∧w.cell? ⟨b,5,none⟩=some (.slice zo zl zc)∧w.cell? ⟨b,6,none⟩=some (.string (bs x.2.2.2.2.2.2.1))∧w.cell? ⟨b,7,none⟩=some (.int .i64 x.2.2.2.2.2.2.2):=by
 refine⟨?_,?_,?_,?_,?_,?_,?_,?_⟩ <;> simp [World.cell?,h,iC]
theorem mR {w:World} {x:Ins} {xo zo:Option Addr} {xc zc:Nat} (h:iB w x (.agg (iC x xo zo x.2.2.2.2.1.length x.2.2.2.2.2.1.length xc zc))):Sl w xo x.2.2.2.2.1∧Sl w zo x.2.2.2.2.2.1:=by
 obtain⟨ao,to,ca,ct,e,s1,s2,_⟩:=h;simp only [iC,Value.agg.injEq,Array.mk.injEq,List.cons.injEq,Value.slice.injEq,true_and,and_true] at e;obtain⟨⟨e1,_⟩,e2,_⟩:=e;subst e1 e2;exact⟨s1,s2⟩
theorem mW {w:World} {b:List Ins} {ao:Option Addr} {n c i:Nat} (h:gR w b (.slice ao n c)) (hi:i < b.length):∃g o,ao=some ⟨g,o,none⟩∧nH w (b.getD i o8) g (o+i * 8):=by
 obtain⟨ao',c',e,_,_,h3⟩:=h;injection e with e1 e2 e3;subst e1;rcases h3 with h3 | ⟨g,o,rfl,h4⟩
 ·rw [h3] at hi;exact absurd hi (Nat.not_lt_zero _)
 ·refine⟨g,o,rfl,h4 i _ ?_⟩;rw [List.getD_eq_getElem?_getD,List.getElem?_eq_getElem hi];rfl
abbrev gI (b:List Ins) (i:Nat):Ins:=b.getD i o8
theorem yV {b:List Ins} {i:Nat} (h:i < b.length):b[i]? =some (gI b i):=by rw [List.getElem?_eq_getElem h];unfold gI;rw [List.getD_eq_getElem?_getD,List.getElem?_eq_getElem h];rfl
def phN (b:List Ins):Nat:=(b.takeWhile fun x=>decide (x.1=20)).length
theorem oh {b:List Ins} {I:Nat} (h:∀j,j < I→j < b.length∧(gI b j).1=20) (he:I=b.length∨(gI b I).1≠20):phN b=I:=by
 unfold phN;induction b generalizing I with
 |nil=>
  cases I with
  |zero=>rfl
  |succ I=>exact absurd (h 0 (Nat.zero_lt_succ _)).1 (Nat.not_lt_zero _)
 |cons x b ih=>
  rw [List.takeWhile_cons]
  cases I with
  |zero=>
   rcases he with he | he
   ·cases he
   ·rw [if_neg (by simpa [gI] using he)];rfl
  |succ I=>
   have h0:x.1=20:=(h 0 (Nat.zero_lt_succ _)).2;rw [if_pos (by simpa using h0),List.length_cons,ih (I:=I) (fun j hj=>by
    have:=h (j+1) (by omega);exact⟨by simpa using this.1,this.2⟩) (by
    rcases he with he | he
    ·exact .inl (by simpa using he)
    ·exact .inr he)]
theorem Ky {b:List Ins} {i:Nat}:i < phN b→i < b.length∧(gI b i).1=20:=by
 unfold phN;induction b generalizing i with
 |nil=>intro h;exact absurd h (Nat.not_lt_zero _)
 |cons x b ih=>
  rw [List.takeWhile_cons];split
  ·rename_i hx;intro h
   cases i with
   |zero=>exact⟨Nat.zero_lt_succ _,by simpa using hx⟩
   |succ i=>
    have:=ih (i:=i) (by simpa using h);exact⟨by simpa using this.1,this.2⟩
  ·intro h;exact absurd h (Nat.not_lt_zero _)
theorem kW (b:List Ins):phN b≤b.length:=(List.takeWhile_sublist _).length_le
theorem cX {w:World} {ao:Option Addr} {l:List Int} (h:Sl w ao l) {i:Nat} (hi:i < l.length):∃g o,ao=some ⟨g,o,none⟩∧w.cell? ⟨g,o+i,none⟩=some (.int .i64 (l.getD i 0)):=by
 rcases h with rfl | ⟨b,o,e,_,hc⟩
 ·exact absurd hi (Nat.not_lt_zero _)
 ·exact⟨b,o,e,hc i _ (by rw [List.getD_eq_getElem?_getD,List.getElem?_eq_getElem hi];rfl)⟩
theorem m9 {f g:Nat→Bool}:∀ {m:Nat},(∀i,i < m→f i=g i)→cS f m=cS g m
 |0,_=>rfl
 |m+1,h=>by rw [cS,cS,h m (Nat.lt_succ_self _),m9 fun i hi=>h i (Nat.lt_succ_of_lt hi)]
def dE (V:List Int) (b:Nat→Bool) (m:Nat):List Int:=((List.range m).filter b).map fun n=>V.getD n 0
theorem kV (V:List Int) (b:Nat→Bool) (m:Nat):dE V b (m+1)=dE V b m ++ if b m then [V.getD m 0] else []:=by
 unfold dE;rw [List.range_succ,List.filter_append,List.map_append];congr 1
 cases h:b m <;> simp [h]
theorem jg {V:List Int} {b:Nat→Bool} {m:Nat}:∀k,(∀i,m≤i→i < m+k→b i=false)→dE V b (m+k)=dE V b m
 |0,_=>rfl
 |k+1,h=>by
  rw [←Nat.add_assoc,kV,h (m+k) (by omega) (by omega),jg k fun i h1 h2=>h i h1 (by omega)];simp
theorem Bm (V:List Int) (b:Nat→Bool) (m:Nat):(dE V b m).length≤m:=by
 unfold dE;rw [List.length_map];exact Nat.le_trans (List.length_filter_le _ _) (by rw [List.length_range];exact Nat.le_refl _)
def gu (b:Nat→Bool) (I k:Nat):Nat→Bool:=fun i=>decide (k≤i) && b (64 * I+i)
theorem wZ (b:Nat→Bool) (I:Nat):cS (gu b I 0) 64=wd b I:=m9 fun i _=>by simp [gu]
theorem xr {b:Nat→Bool} {I k t:Nat} (h:cS (gu b I k) 64≠0) (ht:Lib.ctz 64 (cS (gu b I k) 64)=t) (V:List Int):
  t < 64∧b (64 * I+t)=true∧dE V b (64 * I+(t+1))=dE V b (64 * I+k) ++ [V.getD (64 * I+t) 0]∧cS (gu b I k) 64 &&& (cS (gu b I k) 64 - 1)=cS (gu b I (t+1)) 64:=by
 obtain⟨t',h1,h2,h3,h4,h5⟩:=FR h;rw [ht] at h2;subst h2;unfold gu at h3;simp only [Bool.and_eq_true,decide_eq_true_eq] at h3;refine⟨h1,h3.2,?_,?_⟩
 ·rw [←Nat.add_assoc,kV,h3.2,if_pos rfl];congr 1
  obtain⟨d,hd⟩:∃d,t=k+d:=⟨t - k,by omega⟩;rw [hd,←Nat.add_assoc];refine jg d fun i hi1 hi2=> ?_;have q:=h4 (i - 64 * I) (by omega);unfold gu at q;rw [decide_eq_true (show k≤i - 64 * I by omega),show 64 * I+(i - 64 * I)=i by omega] at q;simpa using q
 ·rw [h5];refine m9 fun i _=> ?_;unfold gu;by_cases q:t < i
  ·rw [decide_eq_true q,decide_eq_true (show k≤i by omega),decide_eq_true (show t+1≤i by omega)];simp
  ·rw [decide_eq_false q,decide_eq_false (show ¬t+1≤i by omega)];simp
theorem AW {b:Nat→Bool} {I k:Nat} (h:cS (gu b I k) 64=0) (hk:k≤64) (V:List Int):dE V b (64 * (I+1))=dE V b (64 * I+k):=by
 obtain⟨d,hd⟩:∃d,64 * (I+1)=64 * I+k+d:=⟨64 - k,by omega⟩;rw [hd];refine jg d fun i hi1 hi2=> ?_;have q:=jA (gu b I k) 64 (i - 64 * I);rw [h,Nat.zero_testBit] at q;unfold gu at q;rw [decide_eq_true (show k≤i - 64 * I by omega),decide_eq_true (show i - 64 * I < 64 by omega),show 64 * I+(i - 64 * I)=i by omega] at q;simpa using q.symm
theorem DV {x:Nat} (h:x≠0):x &&& (x - 1) < x:=Nat.lt_of_le_of_lt Nat.and_le_right (by omega)
theorem KW {x:Nat} (hx:x < 18446744073709551616) (h:x≠0):bits .and .u64 (x:Int) ((x:Int) - 1)=((x &&& (x - 1):Nat):Int):=by
 have e:(x:Int) - 1=((x - 1:Nat):Int):=by omega
 rw [e,sW hx (by omega)]
theorem GN {B g c W cv:Nat} {b:Nat→Bool} {V:List Int} {ao:Option Addr} {w:World} (h:aP w B g c W b) (hV:Sl w ao V) (hb:∀n,n < 64 * W→b n=true→n < V.length) (hT:kQ w) (hW:W≤100000):
  Calls Tryz.prog 50 #[.slice (some ⟨g,0,none⟩) W c,.slice ao V.length cv] w fun e w'=>∃u,e= .returned u∧w'.ownsRow w.heap.size 3 1 u (dE V b (64 * W)).length (ints (dE V b (64 * W)))∧Below w.heap.size w w':=by
 obtain⟨i0,hi0,hz0,hz1,hz2⟩:=info_parts Tryz.dj;have HS:=ae h;have HV:=ae hV;have HT:=ae hT;have HB:=ae hb;have CC:=ae (qA h (by omega));have hcl:=rT b (64 * W);clear h hV hT hb;generalize eU b (64 * W)=C at *;obtain⟨vl,hvl⟩:∃n,V.length=n:=⟨_,rfl⟩;have Hvl:=ae hvl;rw [hvl];clear hvl;go_enter Tryz.func50,Tryz.ntmps50
 go_wp2_with (first | (go_at_call 34;refine CC.out.mono ?_;rintro e w1 ⟨rfl,rfl⟩) | (at_make;refine wpList_make_own _ rfl _ _ 25 rfl w1.heap.size 3 i0 _ 1 Tryz.underlying25 hi0 hz0 hz1 .i64 .i64 C C rfl rfl rfl (by rw [hz2];omega) (by unfold maxLen;omega) (Nat.le_refl _) ?_;intro w2 own2 grow2;refine Hid.out ?_))
 have HG:Hid (Grw w1 (dE V b (64 * 0)) (.slice (some ⟨w1.heap.size,0,none⟩) 0 C) w2):=ae ⟨own2,j5 grow2⟩;clear own2 grow2 CC;refine ae ?_;go_wp2_with fail
 go_loopw [5,13] (fun lv iv wr=>∃I:Nat,I≤W∧iv= .int .i64 I∧Hid (Grw w1 (dE V b (64 * I)) lv wr)) (fun _ iv _=>W - (intOf iv).toNat)
 case atStart=>exact⟨0,Nat.zero_le _,rfl,HG⟩
 case round=>
  clear HG;obtain⟨I,hI,rfl,HG⟩:=hrel;by_cases hit:I < W
  ·have hiI:(I:Int) < W:=(by omega);have c1:=(HS.out.below HG.out.2).cell hit;obtain⟨x,hx⟩:∃x,wd b I=x:=⟨_,rfl⟩;have HX0:Hid (x=cS (gu b I 0) 64):=ae (by rw [wZ,hx]);rw [hx] at c1;clear hx;have HG0:Hid (Grw w1 (dE V b (64 * I+0)) u5 wr):=HG;clear HG;go_wp2_with fail
   go_loopw [5,7] (fun lv xv wr=>∃k x:Nat,k≤64∧xv= .int .u64 x∧Hid (x=cS (gu b I k) 64)∧Hid (Grw w1 (dE V b (64 * I+k)) lv wr)) (fun _ xv _=>(intOf xv).toNat)
   case atStart=>exact⟨0,x,Nat.zero_le _,rfl,HX0,HG0⟩
   case round=>
    clear HG0 HX0;obtain⟨k,x,hk,rfl,HX,HG⟩:=hrel;by_cases hx:x=0
    ·subst hx;have HE:Hid (Grw w1 (dE V b (64 * (I+1))) u5 wr):=ae (by rw [AW HX.out.symm hk];exact HG.out);go_wp2_with fail
     go_roundw
     case rel=>exact⟨I+1,by omega,by go_num,HE⟩
     case measure=>simp [intOf];omega
    ·have hxl:x < 18446744073709551616:=(by rw [HX.out];exact iR _ 64);obtain⟨t,ht⟩:∃t,Lib.ctz 64 x=t:=⟨_,rfl⟩;have CT:=ae (Jb x wr hxl hx (HT.out.below HG.out.2));have hsub:=KW hxl hx;have hless:=DV hx;obtain⟨q1,q2,q3,q4⟩:=xr (b:=b) (I:=I) (k:=k) (t:=t) (by rw [←HX.out];exact hx) (by rw [←HX.out];exact ht) V;rw [←HX.out] at q4;rw [ht] at CT;have hlen:=Bm V b (64 * I+k);have hnV:=HB.out (64 * I+t) (by omega) q2;obtain⟨gV,oV,rfl,cV⟩:=cX (HV.out) (i:=64 * I+t) hnV;have hgV:=World.block_lt_of_cell? _ _ cV;replace cV:=(HG.out.2.cell (p:=⟨gV,oV+(64 * I+t),none⟩) hgV).trans cV;rw [Hvl.out] at hnV;obtain⟨J,hJ⟩:∃J,64 * I+t=J:=⟨_,rfl⟩;have hJI:(64:Int) * I+t=(J:Int):=(by omega);rw [hJ] at hnV cV q3;have hnI:(J:Int) < vl:=(by omega);have hJ2:J≤10000000:=(by omega);have HX2:=ae q4;have HP:=ae q3;generalize V.getD J 0=m at *;generalize x &&& (x - 1)=y at *;have hne:((x:Int) != 0)=true:=(by simp;omega);have hne2:((x:Int) == 0)=false:=(by simp;omega);clear HX q2 q3 q4 ht;have hbs:=HG.out.2.size;clear hJ;go_wp2_with (first | (go_at_call 75;refine CT.out.mono ?_;rintro e w2 ⟨rfl,hw2⟩;subst hw2) | (at_builtin;refine wpList_append_own _ rfl (.tmp 24) (.tmp 33) 25 rfl w1.heap.size 3 i0 _ 1 8 Tryz.underlying25 hi0 hz0 hz1 hz2 rfl (by decide) _ _ _ rfl (HG.out.1.alloc _) ⟨w2.heap.size,0,none⟩ 1 1 [.int .i64 m] rfl rfl one_cell one_one (by unfold maxLen;omega) (by omega) (by simp;omega) ?_;intro v2 w4 own2 grow2 _;refine Hid.out ?_))
     have HE:Hid (Grw w1 (dE V b (64 * I+(t+1))) v2 w4):=ae (by rw [HP.out];exact HG.out.step own2 grow2);clear own2 grow2;refine ae ?_;go_wp2_with fail
     go_roundw
     case rel=>exact⟨t+1,y,by omega,rfl,ae HX2.out,HE⟩
     case measure=>simp [intOf];omega
  ·obtain rfl:I=W:=(by omega);go_wp2_with fail
   go_ret;exact⟨_,rfl,HG.out.1,HG.out.2⟩
end Go.Proofs.YtfdhemcahjommaaGreatDoor
