/- Texts of one chain, joined. -/
import Derived.Test.YtaiaakklokahjaaGreatDoorZWaAX
namespace Go.Proofs.YtaiaakklokahjaaGreatDoor
open Go Go.RowKit
open G (Tok Er Ins Fun)
theorem DT (b:List Ins):∀m,m≤4096→((gJ m b).2=0↔(∀x∈b,aU x=0)∧m+b.length≤4096)∧((gJ m b).2=0→(gJ m b).1=m+b.length):=by
 induction b with
 |nil=>intro m hm;simp [gJ,hm]
 |cons x b ih=>
  intro m hm;by_cases h1:m=4096
  ·subst h1;simp only [gJ,if_true,List.length_cons];exact⟨⟨fun k=>(by cases k),fun k=>(by omega)⟩,fun k=>(by cases k)⟩
  ·by_cases h2:aU x=0
   ·rw [gJ,if_neg h1,if_neg (by simp [h2])];obtain⟨i1,i2⟩:=ih (m+1) (by omega);refine⟨?_,fun k=>by rw [i2 k,List.length_cons];omega⟩;rw [i1];simp only [List.mem_cons,forall_eq_or_imp,h2,true_and,List.length_cons];constructor <;> rintro ⟨a,b⟩ <;> exact⟨a,by omega⟩
   ·rw [gJ,if_neg h1,if_pos h2];refine⟨⟨fun k=>absurd k h2,fun k=>absurd (k.1 x (by simp)) h2⟩,fun k=>absurd k h2⟩
def szB (l:List (List Ins)):Nat:=(l.map List.length).sum
theorem Ca (l:List (List Ins)):∀m,m≤4096→((fT m l).2=0↔(∀b∈l,∀x∈b,aU x=0)∧m+szB l≤4096)∧((fT m l).2=0→(fT m l).1=m+szB l):=by
 induction l with
 |nil=>intro m hm;simp [fT,szB,hm]
 |cons b l ih=>
  intro m hm;obtain⟨j1,j2⟩:=DT b m hm;have hs:szB (b :: l)=b.length+szB l:=by simp [szB]
  by_cases h1:(gJ m b).2=0
  ·rw [fT,if_neg (by simp [h1]),j2 h1];obtain⟨k1,k2⟩:=j1.1 h1;obtain⟨i1,i2⟩:=ih (m+b.length) k2;rw [hs];refine⟨?_,fun k=>by rw [i2 k];omega⟩;rw [i1];simp only [List.mem_cons,forall_eq_or_imp];constructor
   ·rintro ⟨a,c⟩;exact⟨⟨k1,a⟩,by omega⟩
   ·rintro ⟨⟨_,a⟩,c⟩;exact⟨a,by omega⟩
  ·rw [fT,if_pos h1,hs];refine⟨⟨fun k=>absurd k h1,fun k=>absurd (j1.2 ⟨k.1 b (by simp),by omega⟩) h1⟩,fun k=>absurd k h1⟩
def szP (p:List Fun):Nat:=(p.map fun x=>szB x.2.2.2.1).sum
theorem qI (p:List Fun):∀i m,i≤32→m≤4096→((aT i m p).1=0↔(∀f∈p,dE f=0∧∀b∈f.2.2.2.1,∀x∈b,aU x=0)∧i+p.length≤32∧m+szP p≤4096)∧((aT i m p).1=0→aT i m p=(0,0)):=by
 induction p with
 |nil=>intro i m h1 h2;simp [aT,szP,h1,h2]
 |cons f p ih=>
  intro i m h1 h2;have hs:szP (f :: p)=szB f.2.2.2.1+szP p:=by simp [szP]
  obtain⟨j1,j2⟩:=Ca f.2.2.2.1 m h2;rw [hs];by_cases k1:i=32
  ·subst k1;rw [kW,List.length_cons];exact⟨⟨fun k=>(by cases k),fun k=>(by omega)⟩,fun k=>(by cases k)⟩
  by_cases k2:dE f=0
  ·by_cases k3:(fT m f.2.2.2.1).2=0
   ·rw [pr p k1 k2 k3,j2 k3];obtain⟨b1,b2⟩:=j1.1 k3;obtain⟨i1,i2⟩:=ih (i+1) (m+szB f.2.2.2.1) (by omega) b2;refine⟨?_,i2⟩;rw [i1];simp only [List.mem_cons,forall_eq_or_imp,List.length_cons];constructor
    ·rintro ⟨a,c,d⟩;exact⟨⟨⟨k2,b1⟩,a⟩,by omega,by omega⟩
    ·rintro ⟨⟨_,a⟩,c,d⟩;exact⟨a,by omega,by omega⟩
   ·rw [nZ p k1 k2 k3];refine⟨⟨fun k=>absurd k k3,fun k=>absurd (j1.2 ⟨(k.1 f (by simp)).2,by omega⟩) k3⟩,fun k=>absurd k k3⟩
  ·rw [kS m p k1 k2];refine⟨⟨fun k=>absurd k k2,fun k=>absurd (k.1 f (by simp)).1 k2⟩,fun k=>absurd k k2⟩
def Shp (f:Fun):Prop:=f.2.2.2.1.length≤1000000∧(∀b∈f.2.2.2.1,∀x∈b,x.2.2.2.2.2.1.length≤1000000)∧(aS f).1=0
theorem yx {f:Fun} (h:Shp f):0 < f.2.2.2.1.length:=by
 have h3:=h.2.2;unfold aS at h3;split at h3
 ·cases h3
 ·omega
theorem yX {f:Fun} (h:Shp f):∀b∈f.2.2.2.1,b.length≠0∧eN f.2.2.2.1.length b.length 0 b=0:=by
 have h0:=yx h;have h3:=h.2.2;unfold aS at h3;rw [if_neg (by omega)] at h3;intro b hb;have:=pY _ _ _ h3 b hb;unfold uH at this;split at this
 ·cases this
 ·exact⟨by assumption,this⟩
theorem zf {f:Fun} (h:Shp f):Ful f:=by
 refine⟨Nat.le_trans h.1 (by omega),fun b hb=>⟨fun e=>(yX h b hb).1 (by rw [e];rfl),fun x hx=> ?_⟩⟩;exact Nat.le_trans (h.2.1 b hb x hx) (by omega)
theorem Gi {f:Fun} (h:Shp f):Tos f:=by
 intro j;by_cases hj:j < f.2.2.2.1.length
 ·have hb:f.2.2.2.1[j]? =some f.2.2.2.1[j]:=List.getElem?_eq_getElem hj;obtain⟨h1,h2⟩:=yX h _ (List.mem_of_getElem? hb);obtain⟨x,hx,hl,_⟩:=(zf h).last (List.mem_of_getElem? hb);rw [hU hb,hl];obtain⟨k1,k2⟩:=v8 _ _ _ _ h2 _ x hx;have hend:gM x.1=true:=by rw [k1];simp;omega
  have hop:x.1≠20:=by
   intro e;rw [e] at hend;simp [gM] at hend
  have hbt:kF f.2.2.2.1.length x.2.2.2.2.2.1=false:=by
   unfold ji at k2;simpa [hop] using k2
  intro m hm;have hm2:m∈x.2.2.2.2.2.1:=by rw [←aZ,qU,aZ] at hm;exact hm
  unfold kF at hbt;have:=List.any_eq_false.1 hbt m hm2;simp at this;omega
 ·have e:aB f j= []:=by
   unfold aB;rw [List.getD_eq_getElem?_getD,List.getElem?_eq_none (by omega)];rfl
  rw [e];intro m hm
  cases hm
theorem qY {x:Ins} (h:aU x=0):jb x.1 x.2.2.2.2.1.length x.2.2.2.2.2.1.length=true:=by
 cases hc:jb x.1 x.2.2.2.2.1.length x.2.2.2.2.2.1.length with
 |true=>rfl
 |false=>
  exfalso;unfold aU at h;rw [hc] at h;by_cases h1:(wW x.1 && L5.may x.1 x.2.2.2.1)=false
  ·rw [if_pos h1] at h;cases h
  ·rw [if_neg h1] at h;by_cases h2:qj x.1 x.2.1 x.2.2.2.1=false
   ·rw [if_pos h2] at h;cases h
   ·rw [if_neg h2,if_pos rfl] at h;cases h
theorem DY:(L5.takes (L5.num 27)).length=1:=by decide +kernel
theorem Gw {p:List Fun} {f:Fun} {x:Ins} {n:Nat} (hc:aU x=0) (hh:dm p f x=0) (hn:n < x.2.2.2.2.1.length):px p x n∧(x.1=20→n < x.2.2.2.2.2.1.length):=by
 have hk:=qY hc;refine⟨⟨fun h21=> ?_,fun h20 h24 h28 h21=> ?_⟩,fun h20=> ?_⟩
 ·rw [o5 h21] at hh
  cases hs:(findF p x.2.2.2.2.2.2.1).isSome with
  |false=>rw [hs] at hh;simp at hh
  |true=>
   rw [hs,if_pos rfl] at hh;by_cases h1:((findF p x.2.2.2.2.2.2.1).getD jj).2.2.1≠x.2.2.2.1
   ·rw [if_pos h1] at hh;cases hh
   ·rw [if_neg h1] at hh;by_cases h2:((findF p x.2.2.2.2.2.2.1).getD jj).2.1.length≠x.2.2.2.2.1.length
    ·rw [if_pos h2] at hh;cases hh
    ·have h3:((findF p x.2.2.2.2.2.2.1).getD jj).2.1.length=x.2.2.2.2.1.length:=(by simpa using h2);omega
 ·unfold jb at hk;rw [if_neg h20,if_neg h21,if_neg h24] at hk;by_cases h26:x.1=26
  ·rw [if_pos h26] at hk;simp at hk;rw [hk.1] at hn;simp at hn
  ·rw [if_neg h26] at hk;by_cases h27:x.1=27
   ·rw [if_pos h27] at hk;simp at hk;rw [h27,DY];omega
   ·rw [if_neg h27,if_neg h28] at hk;simp at hk;have:=hk.1;unfold tkN at this;omega
 ·unfold jb at hk;rw [if_pos h20] at hk;simp at hk;omega
theorem Hy {p:List Fun} (hW:(aT 0 0 p).1=0) (hN:∀f∈p,f.2.2.2.1.length≤1000000∧∀b∈f.2.2.2.1,∀x∈b,x.2.2.2.2.2.1.length≤1000000):∀f∈p,Kept p f:=by
 intro f hf;have hc:=(((qI p 0 0 (by omega) (by omega)).1.1 hW).1 f hf).2;refine⟨fun hS=> ?_,fun k i hk hi hh n hn=> ?_⟩
 ·have h:Shp f:=⟨(hN f hf).1,(hN f hf).2,hS⟩;exact⟨zf h,Gi h,yx h⟩
 ·exact Gw (hc _ (List.mem_of_getElem? (de hk)) _ (List.mem_of_getElem? (iO hi))) hh hn
def plF (f:Fun) (id:Int) (K J:Nat):Option (Int × Int × Int):=if fF f id then some (0,-1,f.2.1.getD id.toNat 0)else(jr f id K J).map fun m=>(m.1,m.2.1,m.2.2.1)
theorem tE {f:Fun} {id:Int} {K J:Nat} {m:Plc} (h:jr f id K J=some m):∃k i,k < f.2.2.2.1.length∧i < (ag f k).length∧dJ id (au f k i)=true∧m=((k:Int),(i:Int),mkX (au f k i),true):=by
 obtain⟨k,hk,h1,_⟩:=fI h;obtain⟨i,hi,h2,_⟩:=fI h1;unfold mn at h2;split at h2
 ·rename_i hh
  cases h2;exact⟨k,i,by omega,by omega,hh,rfl⟩
 ·cases h2
theorem He (f:Fun) (id:Int) (K J:Nat):dV f id K J=match plF f id K J with
  |some m=>(m.1,m.2.1,m.2.2,true)
  |none=>(0,0,0,false):=by
 unfold dV plF;split
 ·rfl
 ·cases h:jr f id K J with
  |none=>rfl
  |some m=>
   obtain⟨k,i,_,_,_,rfl⟩:=tE h;rfl
theorem Jf {f:Fun} {id:Int} {K J:Nat} {m:Int × Int × Int} (h:plF f id K J=some m):(fF f id=true∧m=(0,-1,f.2.1.getD id.toNat 0))∨∃k i,k < f.2.2.2.1.length∧i < (ag f k).length∧dJ id (au f k i)=true∧m=((k:Int),(i:Int),mkX (au f k i)):=by
 unfold plF at h;split at h
 ·rename_i hp
  cases h;exact .inl ⟨hp,rfl⟩
 ·right
  cases h1:jr f id K J with
  |none=>simp [h1] at h
  |some m'=>
   obtain⟨k,i,a,b,c,rfl⟩:=tE h1;simp [h1] at h;exact⟨k,i,a,b,c,h.symm⟩
theorem j5 {id:Int} {x:Ins}:dJ id x=true↔x.2.1=id∧mkX x≠0:=by
 unfold dJ;simp
theorem kT:∀(l m:List Int),l.Nodup→(∀x∈l,x∈m)→m.length≤l.length→m.Nodup∧∀x∈m,x∈l:=by
 intro l;induction l with
 |nil=>
  intro m _ _ hl;have:m= []:=List.length_eq_zero_iff.1 (by simpa using hl);subst this;simp
 |cons a l ih=>
  intro m hn hs hl;obtain⟨s,t,rfl⟩:=List.append_of_mem (hs a (by simp));rw [List.nodup_cons] at hn;obtain⟨h1,h2⟩:=ih (s ++ t) hn.2 (fun x hx=>by
   have:=hs x (by simp [hx]);simp only [List.mem_append,List.mem_cons] at this ⊢;rcases this with h | h | h
   ·exact .inl h
   ·subst h;exact absurd hx hn.1
   ·exact .inr h) (by simp at hl ⊢;omega)
  have ha:a ∉ s ++ t:=fun h=>hn.1 (h2 a h);refine⟨?_,fun x hx=> ?_⟩
  ·have:(a :: (s ++ t)).Nodup:=List.nodup_cons.2 ⟨ha,h1⟩;exact List.perm_middle.symm.nodup this
  ·simp only [List.mem_append,List.mem_cons] at hx;rcases hx with h | h | h
   ·exact List.mem_cons_of_mem _ (h2 x (by simp [h]))
   ·simp [h]
   ·exact List.mem_cons_of_mem _ (h2 x (by simp [h]))
def EK (ps tt:List Int) (j:Nat):Bool:=ay ps (tt.getD j 0) && !ay (tt.take j) (tt.getD j 0)
def yH (ps tt:List Int):Bool:=(List.range tt.length).all (EK ps tt) && decide (tt.length=ps.length)
theorem wu {tt:List Int} (h:∀j,j < tt.length→ay (tt.take j) (tt.getD j 0)=false):tt.Nodup:=by
 unfold List.Nodup;rw [List.pairwise_iff_getElem];intro i j hi hj hij e;have h1:=h j hj;rw [eE] at h1;apply h1;have h2:tt.getD j 0=tt[j]:=by rw [List.getD_eq_getElem?_getD,List.getElem?_eq_getElem hj];rfl
 rw [h2,←e];exact List.mem_take_iff_getElem.2 ⟨i,by omega,rfl⟩
theorem EL {ps tt:List Int} (hp:ps.Nodup):yH ps tt=(decide (tt.length=ps.length) && ps.all fun b=>ay tt b):=by
 rw [Bool.eq_iff_iff];unfold yH;simp only [Bool.and_eq_true,List.all_eq_true,decide_eq_true_eq,List.mem_range,EK,Bool.not_eq_true'];constructor
 ·rintro ⟨h,hl⟩;have hn:=wu (fun j hj=>(h j hj).2);have hs:∀x∈tt,x∈ps:=by
   intro x hx;obtain⟨j,hj,rfl⟩:=List.mem_iff_getElem.1 hx;have:=aZ.1 (h j hj).1;rwa [List.getD_eq_getElem?_getD,List.getElem?_eq_getElem hj] at this
  obtain⟨_,h2⟩:=kT tt ps hn hs (by omega);exact⟨hl,fun x hx=>aZ.2 (h2 x hx)⟩
 ·rintro ⟨hl,h⟩;obtain⟨h1,h2⟩:=kT ps tt hp (fun x hx=>aZ.1 (h x hx)) (by omega);refine⟨fun j hj=> ?_,hl⟩;have e:tt.getD j 0=tt[j]:=by rw [List.getD_eq_getElem?_getD,List.getElem?_eq_getElem hj];rfl
  exact⟨aZ.2 (h2 _ (by rw [e];exact List.getElem_mem hj)),pz h1 (by rw [List.getElem?_eq_getElem hj,e])⟩
theorem uQ {f:Fun} {k:Nat} (hk:k < f.2.2.2.1.length):(aJ f)[k]? =some (aY f k f.2.2.2.1.length):=by
 unfold aJ;rw [List.getElem?_map,List.getElem?_range hk];rfl
theorem vB {f:Fun} {k:Nat} (hk:k < f.2.2.2.1.length):(aJ f).getD k []=aY f k f.2.2.2.1.length:=by
 rw [List.getD_eq_getElem?_getD,uQ hk];rfl
theorem si (f:Fun) (b k:Nat):(aY f b k).Nodup:=by
 unfold aY;unfold List.Nodup;rw [List.pairwise_map];refine List.Pairwise.imp ?_ ((List.pairwise_lt_range (n:=k)).sublist List.filter_sublist);intro a c h e;simp at e;omega
theorem vE (f:Fun) (b k:Nat):Num k (aY f b k):=by
 intro m hm;unfold aY at hm;simp only [List.mem_map,List.mem_filter,List.mem_range] at hm;obtain⟨a,⟨h,_⟩,rfl⟩:=hm;simp;omega
theorem Cd {f:Fun} {k i:Nat} (hk:k < f.2.2.2.1.length):gG f k i=((decide (i=0) || decide ((au f k (i - 1)).1=20)) && yH (aY f k f.2.2.2.1.length) (au f k i).2.2.2.2.2.1):=by
 unfold gG;rw [EL (si f k _),vB hk,Bool.and_assoc]
theorem Ai {f:Fun} (hT:Tos f) (h0:0 < f.2.2.2.1.length) (h:fB f=true) {k:Nat} (hk:k < f.2.2.2.1.length):All (aC f) k:=by
 unfold fB at h;simp only [Bool.and_eq_true,decide_eq_true_eq] at h;rw [←qv hT h0];obtain⟨h1,h2⟩:=qF hT h0;refine(kT (aE f) ((List.range f.2.2.2.1.length).map Int.ofNat) h1 (fun x hx=> ?_) (by simp;omega)).2 _ ?_
 ·have:=h2 x hx;simp only [List.mem_map,List.mem_range];exact⟨x.toNat,by omega,by simp;omega⟩
 ·simp only [List.mem_map,List.mem_range];exact⟨k,hk,rfl⟩
theorem Kc {c a:Int} {e:Int × Int} (h:atC c a=some e):e.1≠0:=by
 unfold atC at h;split at h
 ·cases h;assumption
 ·cases h
theorem Jv {c a:Int} (h:atC c a=none):c=0:=by
 unfold atC at h;split at h
 ·cases h
 ·rename_i hh;simpa using hh
theorem qE {f:Fun} {c:Nat→Nat→Int} (h:cD (fun k=>cD (fun i=>atC (c k i) (au f k i).2.2.2.2.2.2.2) (ag f k).length) f.2.2.2.1.length=none):∀k,k < f.2.2.2.1.length→∀i,i < (ag f k).length→c k i=0:=
 fun k hk i hi=>Jv (gD (gD h k hk) i hi)
theorem qB {f:Fun} {c:Nat→Nat→Int} {e:Int × Int} (h:cD (fun k=>cD (fun i=>atC (c k i) (au f k i).2.2.2.2.2.2.2) (ag f k).length) f.2.2.2.1.length=some e):e.1≠0∧∃k i,k < f.2.2.2.1.length∧i < (ag f k).length∧e.2=(au f k i).2.2.2.2.2.2.2:=by
 obtain⟨k,hk,h1,_⟩:=fI h;obtain⟨i,hi,h2,_⟩:=fI h1;refine⟨Kc h2,k,i,hk,hi,?_⟩;unfold atC at h2;split at h2
 ·cases h2;rfl
 ·cases h2
theorem yV {p:List Fun} {f:Fun} {src:Bool} (h:(jd p f src).1=0):(aS f).1=0∧fB f=true∧(∀k,k < f.2.2.2.1.length→∀i,i < (ag f k).length→dG f k i src=0)∧∀k,k < f.2.2.2.1.length→∀i,i < (ag f k).length→fm p f k i=0:=by
 unfold jd at h;split at h
 ·rename_i h1;exact absurd h h1
 ·rename_i h1;split at h
  ·simp at h
  ·rename_i h2
   cases hv:gL f src with
   |some e=>rw [hv] at h;exact absurd h (qB hv).1
   |none=>
    rw [hv] at h
    cases hl:jN p f with
    |some e=>rw [hl] at h;exact absurd h (qB hl).1
    |none=>exact⟨by simpa using h1,by simpa using h2,qE hv,qE hl⟩
theorem tJ {p:List Fun} {src:Bool} (h:(iY p src).1=0):(aT 0 0 p).1=0∧(fD p).1=0∧∀i,i < p.length→(jd p (bh p i) src).1=0:=by
 unfold iY at h;split at h
 ·rename_i h1;exact absurd h h1
 ·rename_i h1;split at h
  ·rename_i h2;exact absurd h h2
  ·rename_i h2;refine⟨by simpa using h1,by simpa using h2,fun i hi=> ?_⟩
   cases hf:cD (kq p src) p.length with
   |some e=>
    rw [hf] at h;obtain⟨K,_,h3,_⟩:=fI hf;unfold kq at h3;split at h3
    ·rename_i h4;cases h3;exact absurd h h4
    ·cases h3
   |none=>
    have h3:=gD hf i hi;unfold kq at h3;split at h3
    ·cases h3
    ·rename_i h4;simpa using h4
theorem gY {f:Fun} {k:Nat} (hk:k < f.2.2.2.1.length):ag f k∈f.2.2.2.1:=List.mem_of_getElem? (de hk)
theorem sO {f:Fun} {k i:Nat} (hi:i < (ag f k).length):au f k i∈ag f k:=List.mem_of_getElem? (iO hi)
theorem oz {p:List Fun} {i:Nat} (hi:i < p.length):bh p i∈p:=List.mem_of_getElem? (jS hi)
theorem Ak {p:List Fun} {f:Fun} {k i n:Nat} (h:fm p f k i=0) (hn:n < (au f k i).2.2.2.2.1.length):dm p f (au f k i)=0∧fw p f k i n=0:=by
 unfold fm at h;split at h
 ·rename_i h1;exact absurd h h1
 ·rename_i h1;refine⟨by simpa using h1,?_⟩
  cases hf:cD (tZ p f k i) (au f k i).2.2.2.2.1.length with
  |some e=>
   rw [hf] at h;obtain⟨K,_,h2,_⟩:=fI hf;unfold tZ at h2;split at h2
   ·rename_i h3;cases h2;exact absurd h h3
   ·cases h2
  |none=>
   have:=gD hf n hn;unfold tZ at this;split at this
   ·cases this
   ·rename_i h3;simpa using h3
theorem A5 {p:List Fun} {f:Fun} {k i n:Nat} (hG:Gr (aC f)) (h:fw p f k i n=0):fF f ((au f k i).2.2.2.2.1.getD n 0)=true∨∃b j:Nat,b < f.2.2.2.1.length∧j < (ag f b).length∧(au f b j).2.1=(au f k i).2.2.2.2.1.getD n 0∧mkX (au f b j)≠0∧
  (if(au f k i).1=20 then Ahd (aC f) b ((au f k i).2.2.2.2.2.1.getD n 0)else b=k∧j < i∨b≠k∧Ahd (aC f) b k):=by
 unfold fw at h;simp only [He] at h
 cases hm:plF f ((au f k i).2.2.2.2.1.getD n 0) f.2.2.2.1.length 0 with
 |none=>
  rw [hm] at h;simp at h
 |some m=>
  rw [hm] at h;simp only [Bool.true_eq_false,if_false] at h;rcases Jf hm with ⟨hp,_⟩ | ⟨b,j,hb,hj,hh,rfl⟩
  ·exact .inl hp
  ·right;obtain⟨g1,g2⟩:=j5.1 hh;refine⟨b,j,hb,hj,g1,g2,?_⟩;split at h
   ·omega
   ·rw [if_neg (show ¬((j:Int) < 0) by omega)] at h;split at h
    ·rename_i h20;rw [if_pos h20];split at h
     ·rename_i ha;exact(dU hG _ _).1 ha
     ·omega
    ·rename_i h20;rw [if_neg h20];split at h
     ·omega
     ·rename_i h1;split at h
      ·omega
      ·rename_i h2;simp only [Bool.and_eq_true,decide_eq_true_eq,Bool.not_eq_true',not_and] at h1 h2;by_cases e:b=k
       ·exact .inl ⟨e,by have:=h1 (by omega);omega⟩
       ·refine .inr ⟨e,(dU hG _ _).1 ?_⟩;have:=h2 (by omega);simpa using this
def EO (f:Fun) (way:List Int) (k:Nat) (from_:Int):Prop:=(way= []∧k=0∧from_= -1)∨(kD (aC f) way from_∧(k:Int)∈(aC f).getD from_.toNat [])
theorem EO.on {f:Fun} {way:List Int} {k:Nat} {from_:Int} (h:EO f way k from_):kD (aC f) (way ++ [(k:Int)]) k:=by
 rcases h with ⟨rfl,rfl,_⟩ | ⟨h1,h2⟩
 ·exact kD.start _
 ·exact h1.step h2 (by omega)
theorem EO.next {f:Fun} {way:List Int} {k k':Nat} {from_:Int} (h:EO f way k from_) (hk:(k':Int)∈(aC f).getD k []):EO f (way ++ [(k:Int)]) k' k:= .inr ⟨h.on,by simpa using hk⟩
def MdW (f:Fun) (way:List Int) (k i:Nat) (made:List Int):Prop:=(∀id,fF f id=true→id∈made)∧(∀b:Nat,(b:Int)∈way→∀j,j < (ag f b).length→mkX (au f b j)≠0→(au f b j).2.1∈made)∧∀j,j < i→mkX (au f k j)≠0→(au f k j).2.1∈made
theorem MdW.first {f:Fun} {made:List Int} (h:∀id,fF f id=true→id∈made):MdW f [] 0 0 made:=⟨h,fun b hb=>by simp at hb,fun j hj=>by omega⟩
theorem MdW.stay {f:Fun} {way:List Int} {k i:Nat} {made:List Int} (h:MdW f way k i made) (h0:mkX (au f k i)=0):MdW f way k (i+1) made:=⟨h.1,h.2.1,fun j hj hm=>by
 by_cases e:j=i
 ·subst e;exact absurd h0 hm
 ·exact h.2.2 j (by omega) hm⟩
theorem MdW.put {f:Fun} {way:List Int} {k i:Nat} {made:List Int} (h:MdW f way k i made):MdW f way k (i+1) (made ++ [(au f k i).2.1]):=⟨fun id hi=>by simp [h.1 id hi],fun b hb j hj hm=>by simp [h.2.1 b hb j hj hm],fun j hj hm=>by
 by_cases e:j=i
 ·subst e;simp
 ·simp [h.2.2 j (by omega) hm]⟩
theorem MdW.next {f:Fun} {way:List Int} {k k':Nat} {made:List Int} (h:MdW f way k (ag f k).length made):MdW f (way ++ [(k:Int)]) k' 0 made:=⟨h.1,fun b hb j hj hm=>by
 simp only [List.mem_append,List.mem_singleton] at hb;rcases hb with hb | hb
 ·exact h.2.1 b hb j hj hm
 ·have:b=k:=by omega
  subst this;exact h.2.2 j hj hm,fun j hj=>by omega⟩
def tkX (id:Int) (x:Ins):Bool:=decide (x.1≠20) && ay x.2.2.2.2.1 id
def BJ (id:Int):List Ins→Nat
 |[]=>0
 |x :: r=>if tkX id x then 1 else if dJ id x then 2 else BJ id r
def eR (f:Fun) (k i:Nat) (id:Int):Nat:=BJ id ((ag f k).drop i)
def Fv (fr id:Int) (x:Ins):Bool:=(x.2.2.2.2.2.1.zip x.2.2.2.2.1).any fun q=>decide (q.1=fr) && decide (q.2=id)
def nK (fr id:Int) (b:List Ins):Bool:=(b.takeWhile fun x=>decide (x.1=20)).any (Fv fr id)
def du (f:Fun) (id:Int):Nat→Nat→Bool
 |0,_=>false
 |n+1,k=>(aB f k).any fun b=>nK k id (ag f b.toNat) || decide (eR f b.toNat 0 id=1) || (decide (eR f b.toNat 0 id=0) && du f id n b.toNat)
def fN (f:Fun) (k:Nat) (id:Int):Bool:=du f id f.2.2.2.1.length k
def bw (f:Fun) (k i:Nat) (id:Int):Bool:=decide (eR f k i id=1) || (decide (eR f k i id=0) && fN f k id)
theorem j6 (f:Fun) (id:Int):∀n k,du f id n k=true→du f id (n+1) k=true
 |0,_,h=>by simp [du] at h
 |n+1,k,h=>by
  rw [du,List.any_eq_true] at h;obtain⟨b,hb,h⟩:=h;rw [du,List.any_eq_true];refine⟨b,hb,?_⟩;simp only [Bool.or_eq_true,Bool.and_eq_true] at h ⊢;rcases h with h | ⟨h1,h2⟩
  ·exact .inl h
  ·exact .inr ⟨h1,j6 f id n _ h2⟩
theorem GL (f:Fun) (id:Int) {n m:Nat} (h:n≤m) {k:Nat} (hk:du f id n k=true):du f id m k=true:=by
 induction h with
 |refl=>exact hk
 |step _ ih=>exact j6 f id _ _ ih
theorem qH {f:Fun} {id:Int} {n:Nat} (hT:Tos f) (h:∀k,k < f.2.2.2.1.length→du f id (n+1) k=true→du f id n k=true):∀m k,k < f.2.2.2.1.length→du f id m k=true→du f id n k=true
 |0,_,_,hk=>by simp [du] at hk
 |m+1,k,hl,hk=>by
  refine h k hl ?_;rw [du,List.any_eq_true] at hk ⊢;obtain⟨b,hb,q⟩:=hk;refine⟨b,hb,?_⟩;simp only [Bool.or_eq_true,Bool.and_eq_true] at q ⊢;rcases q with q | ⟨q1,q2⟩
  ·exact .inl q
  ·have:=hT k b hb;exact .inr ⟨q1,qH hT h m _ (by omega) q2⟩
theorem j9 {α:Type} (p q:α→Bool):∀l:List α,(∀a∈l,p a=true→q a=true)→(∃a∈l,q a=true∧p a=false)→l.countP p+1≤l.countP q
 |[],_,⟨_,h,_⟩=>by cases h
 |x :: l,h,⟨a,ha,h1,h2⟩=>by
  have hle:l.countP p≤l.countP q:=List.countP_mono_left fun b hb=>h b (List.mem_cons_of_mem _ hb);rw [List.countP_cons,List.countP_cons];rcases List.mem_cons.1 ha with rfl | ha
  ·simp only [h1,h2,if_true];simp only [Bool.false_eq_true,if_false];omega
  ·have ih:=j9 p q l (fun b hb=>h b (List.mem_cons_of_mem _ hb)) ⟨a,ha,h1,h2⟩;have hx:=h x (List.mem_cons_self ..);by_cases q1:p x=true
   ·simp only [q1,hx q1,if_true];omega
   ·have:p x=false:=(by simpa using q1);simp only [this,Bool.false_eq_true,if_false];split <;> omega
theorem oq {f:Fun} {id:Int} (hT:Tos f):∀n,(∃m,m≤n∧∀k,k < f.2.2.2.1.length→du f id (m+1) k=true→du f id m k=true)∨n+1≤((List.range f.2.2.2.1.length).countP (du f id (n+1)))
 |0=>by
  by_cases h:∀k,k < f.2.2.2.1.length→du f id 1 k=true→du f id 0 k=true
  ·exact .inl ⟨0,Nat.le_refl _,h⟩
  ·right;simp only [Classical.not_forall] at h;obtain⟨k,hk,h1,h2⟩:=h;have:=j9 (du f id 0) (du f id 1) (List.range f.2.2.2.1.length) (fun a _ q=>by simp [du] at q) ⟨k,List.mem_range.2 hk,h1,rfl⟩;exact Nat.le_trans (by omega) this
 |n+1=>by
  rcases oq hT n with ⟨m,hm,h⟩ | hc
  ·exact .inl ⟨m,by omega,h⟩
  ·by_cases h:∀k,k < f.2.2.2.1.length→du f id (n+2) k=true→du f id (n+1) k=true
   ·exact .inl ⟨n+1,Nat.le_refl _,h⟩
   ·right;simp only [Classical.not_forall] at h;obtain⟨k,hk,h1,h2⟩:=h;have:=j9 (du f id (n+1)) (du f id (n+2)) (List.range f.2.2.2.1.length) (fun a _ q=>j6 f id _ _ q) ⟨k,List.mem_range.2 hk,h1,by simpa using h2⟩;exact Nat.le_trans (by omega) this
theorem tq {f:Fun} {id:Int} (hT:Tos f) {m k:Nat} (hk:k < f.2.2.2.1.length) (h:du f id m k=true):fN f k id=true:=by
 unfold fN;rcases oq (id:=id) hT f.2.2.2.1.length with ⟨m',hm,hs⟩ | hc
 ·exact GL f id hm (qH hT hs m k hk h)
 ·have:=List.countP_le_length (p:=du f id (f.2.2.2.1.length+1)) (l:=List.range f.2.2.2.1.length);rw [List.length_range] at this;omega
theorem nV {f:Fun} {id:Int} (hT:Tos f) {k:Nat} (hk:k < f.2.2.2.1.length):
  fN f k id=true↔∃b∈aB f k,nK k id (ag f b.toNat)=true∨eR f b.toNat 0 id=1∨(eR f b.toNat 0 id=0∧fN f b.toNat id=true):=by
 constructor
 ·intro h;have h2:=j6 f id _ _ (show du f id f.2.2.2.1.length k=true from h);rw [du,List.any_eq_true] at h2;obtain⟨b,hb,q⟩:=h2;refine⟨b,hb,?_⟩;simp only [Bool.or_eq_true,Bool.and_eq_true,decide_eq_true_eq] at q;rcases q with (q | q) | q
  ·exact .inl q
  ·exact .inr (.inl q)
  ·exact .inr (.inr q)
 ·rintro ⟨b,hb,q⟩;refine tq (m:=f.2.2.2.1.length+1) hT hk ?_;rw [du,List.any_eq_true];refine⟨b,hb,?_⟩;simp only [Bool.or_eq_true,Bool.and_eq_true,decide_eq_true_eq];rcases q with q | q | q
  ·exact .inl (.inl q)
  ·exact .inl (.inr q)
  ·exact .inr q
theorem dN {f:Fun} {k i:Nat} {id:Int}:bw f k i id=true↔eR f k i id=1∨(eR f k i id=0∧fN f k id=true):=by
 unfold bw;simp
theorem qg {f:Fun} {id:Int} (hT:Tos f) {k:Nat} (hk:k < f.2.2.2.1.length):fN f k id=true↔∃b∈aB f k,nK k id (ag f b.toNat)=true∨bw f b.toNat 0 id=true:=by
 rw [nV hT hk];refine⟨fun⟨b,hb,q⟩=>⟨b,hb,?_⟩,fun⟨b,hb,q⟩=>⟨b,hb,?_⟩⟩
 ·rcases q with q | q | q
  ·exact .inl q
  ·exact .inr (dN.2 (.inl q))
  ·exact .inr (dN.2 (.inr q))
 ·rcases q with q | q
  ·exact .inl q
  ·exact .inr (dN.1 q)
theorem k8 {f:Fun} {id:Int} {S:Nat→Prop} (hS:∀k,(∃b∈aB f k,nK k id (ag f b.toNat)=true∨eR f b.toNat 0 id=1∨(eR f b.toNat 0 id=0∧S b.toNat))→S k) {k:Nat} (h:fN f k id=true):S k:=by
 have key:∀n k,du f id n k=true→S k:=by
  intro n;induction n with
  |zero=>intro k h;simp [du] at h
  |succ n ih=>
   intro k h;rw [du,List.any_eq_true] at h;obtain⟨b,hb,q⟩:=h;refine hS k ⟨b,hb,?_⟩;simp only [Bool.or_eq_true,Bool.and_eq_true,decide_eq_true_eq] at q;rcases q with (q | q) | ⟨q1,q2⟩
   ·exact .inl q
   ·exact .inr (.inl q)
   ·exact .inr (.inr ⟨q1,ih _ q2⟩)
 exact key _ k h
theorem Ef {f:Fun} {id:Int} {op:List Int} (hop:∀o∈op,0≤o) (h:∀o∈op,∀b∈aB f o.toNat,nK o id (ag f b.toNat)=false∧eR f b.toNat 0 id≠1∧(eR f b.toNat 0 id=0→b∈op)):∀o∈op,fN f o.toNat id=false:=by
 have key:∀n,∀o∈op,du f id n o.toNat=false:=by
  intro n;induction n with
  |zero=>intro o _;rfl
  |succ n ih=>
   intro o ho;rw [du,List.any_eq_false];intro b hb;obtain⟨h1,h2,h3⟩:=h o ho b hb;have e:((o.toNat:Nat):Int)=o:=(by have:=hop o ho;omega);rw [e];simp only [h1,Bool.false_or];by_cases q:eR f b.toNat 0 id=0
   ·simp [q,ih b (h3 q)]
   ·simp [q,h2]
 exact fun o ho=>key _ o ho
theorem nY {f:Fun} {k i:Nat} {id:Int} (h:(ag f k).length≤i):eR f k i id=0:=by unfold eR;rw [List.drop_eq_nil_of_le h];rfl
theorem mU {f:Fun} {k i:Nat} {id:Int} (h:i < (ag f k).length):eR f k i id=if tkX id (au f k i)then 1 else if dJ id (au f k i)then 2 else eR f k (i+1) id:=by
 unfold eR;have e:(ag f k).drop i=au f k i :: (ag f k).drop (i+1):=by
  rw [List.drop_eq_getElem_cons h];congr 1
  unfold au;rw [List.getD_eq_getElem?_getD,List.getElem?_eq_getElem h];rfl
 rw [e,BJ]
theorem yP {id:Int}:∀ {l:List Ins},BJ id l=1→∃(i:Nat) (x:Ins),l[i]? =some x∧tkX id x=true∧∀j,j < i→∀y,l[j]? =some y→dJ id y=false
 |[],h=>by cases h
 |y :: l,h=>by
  rw [BJ] at h;split at h
  ·rename_i h1;exact⟨0,y,rfl,h1,fun j hj=>absurd hj (Nat.not_lt_zero _)⟩
  ·split at h
   ·cases h
   ·rename_i h2;obtain⟨i,x,q1,q2,q3⟩:=yP h;refine⟨i+1,x,by simpa using q1,q2,fun j hj z hz=> ?_⟩
    cases j with
    |zero=>simp at hz;subst hz;simpa using h2
    |succ j=>exact q3 j (by omega) z (by simpa using hz)
theorem Ji {l:List Int} {id:Int} (h:ay l id=true):∃n,n < l.length∧l.getD n 0=id:=by
 unfold ay at h;obtain⟨m,hm,e⟩:=List.any_eq_true.1 h;obtain⟨n,hn⟩:=List.mem_iff_getElem?.1 hm;refine⟨n,(List.getElem?_eq_some_iff.1 hn).1,?_⟩;rw [List.getD_eq_getElem?_getD,hn];simpa using e
theorem FX {fr id:Int} {x:Ins} (h:Fv fr id x=true):∃n,n < x.2.2.2.2.1.length∧n < x.2.2.2.2.2.1.length∧x.2.2.2.2.2.1.getD n 0=fr∧x.2.2.2.2.1.getD n 0=id:=by
 unfold Fv at h;obtain⟨⟨a,b⟩,hm,e⟩:=List.any_eq_true.1 h;simp only [Bool.and_eq_true,decide_eq_true_eq] at e;obtain⟨n,hn⟩:=List.mem_iff_getElem?.1 hm;rw [List.getElem?_zip_eq_some] at hn;obtain⟨h1,h2⟩:=hn;refine⟨n,(List.getElem?_eq_some_iff.1 h2).1,(List.getElem?_eq_some_iff.1 h1).1,?_,?_⟩
 ·rw [List.getD_eq_getElem?_getD,h1];exact e.1
 ·rw [List.getD_eq_getElem?_getD,h2];exact e.2
theorem Fz {l:List Ins} {x:Ins}:x∈l.takeWhile (fun x=>decide (x.1=20))→∃i:Nat,l[i]? =some x∧x.1=20:=by
 induction l with
 |nil=>intro h;cases h
 |cons y l ih=>
  intro h;rw [List.takeWhile_cons] at h;split at h
  ·rename_i hy;rcases List.mem_cons.1 h with rfl | h
   ·exact⟨0,rfl,by simpa using hy⟩
   ·obtain⟨i,h1,h2⟩:=ih h;exact⟨i+1,by simpa using h1,h2⟩
  ·cases h
theorem sD {f:Fun} {fr id:Int} {b:Nat} (h:nK fr id (ag f b)=true):∃i n:Nat,i < (ag f b).length∧(au f b i).1=20∧n < (au f b i).2.2.2.2.1.length∧n < (au f b i).2.2.2.2.2.1.length∧(au f b i).2.2.2.2.2.1.getD n 0=fr∧(au f b i).2.2.2.2.1.getD n 0=id:=by
 unfold nK at h;obtain⟨x,hx,hp⟩:=List.any_eq_true.1 h;obtain⟨i,hi,h20⟩:=Fz hx;have hl:=(List.getElem?_eq_some_iff.1 hi).1;have e:au f b i=x:=by unfold au;rw [List.getD_eq_getElem?_getD,hi];rfl
 obtain⟨n,h1,h2,h3,h4⟩:=FX hp;exact⟨i,n,hl,by rw [e];exact h20,by rw [e];exact h1,by rw [e];exact h2,by rw [e];exact h3,by rw [e];exact h4⟩
theorem ER {f:Fun} {k i j:Nat} {x:Ins} (h:((ag f k).drop i)[j]? =some x):i+j < (ag f k).length∧au f k (i+j)=x:=by
 rw [List.getElem?_drop] at h;refine⟨(List.getElem?_eq_some_iff.1 h).1,?_⟩;unfold au;rw [List.getD_eq_getElem?_getD,h];rfl
theorem lU {f:Fun} {k i:Nat} {id:Int} (h:eR f k i id=1):∃j n:Nat,i≤j∧j < (ag f k).length∧(au f k j).1≠20∧n < (au f k j).2.2.2.2.1.length∧(au f k j).2.2.2.2.1.getD n 0=id∧∀m,i≤m→m < j→dJ id (au f k m)=false:=by
 obtain⟨j,x,h1,h2,h3⟩:=yP h;obtain⟨hl,e⟩:=ER h1;unfold tkX at h2;simp only [Bool.and_eq_true,decide_eq_true_eq] at h2;obtain⟨n,hn,he⟩:=Ji h2.2;refine⟨i+j,n,Nat.le_add_right _ _,hl,by rw [e];exact h2.1,by rw [e];exact hn,by rw [e];exact he,fun m hm1 hm2=> ?_⟩;have hq:((ag f k).drop i)[m - i]? =some (au f k m):=by
  rw [List.getElem?_drop,show i+(m - i)=m by omega];exact iO (by omega)
 exact h3 (m - i) (by omega) _ hq
def IsV (f:Fun) (id:Int):Prop:=fF f id=true∨∃b j:Nat,b < f.2.2.2.1.length∧j < (ag f b).length∧dJ id (au f b j)=true
def TkA (p:List Fun) (f:Fun):Prop:=∀k,k < f.2.2.2.1.length→∀i,i < (ag f k).length→∀n,n < (au f k i).2.2.2.2.1.length→fw p f k i n=0
theorem od {p:List Fun} {f:Fun} {k i n:Nat} (hG:Gr (aC f)) (h:fw p f k i n=0):IsV f ((au f k i).2.2.2.2.1.getD n 0):=by
 rcases A5 hG h with q | ⟨b,j,h1,h2,h3,h4,_⟩
 ·exact .inl q
 ·exact .inr ⟨b,j,h1,h2,j5.2 ⟨h3,h4⟩⟩
theorem ei {f:Fun} (hT:Tos f) {k:Nat} {b:Int} (hb:b∈aB f k):b.toNat < f.2.2.2.1.length∧0≤b:=by
 have:=hT k b hb;omega
theorem xU {p:List Fun} {f:Fun} {k:Nat} {id:Int} (hG:Gr (aC f)) (hT:Tos f) (hA:TkA p f) (h:fN f k id=true):IsV f id:=by
 refine k8 (S:=fun _=>IsV f id) (fun k ⟨b,hb,q⟩=> ?_) h;have hl:=(ei hT hb).1;rcases q with q | q | q
 ·obtain⟨i,n,h1,_,h3,_,_,h6⟩:=sD q;have:=od hG (hA _ hl i h1 n h3);rw [h6] at this;exact this
 ·obtain⟨j,n,_,h2,_,h4,h5,_⟩:=lU q;have:=od hG (hA _ hl j h2 n h4);rw [h5] at this;exact this
 ·exact q.2
theorem ph {p:List Fun} {f:Fun} {k i:Nat} {id:Int} (hG:Gr (aC f)) (hT:Tos f) (hA:TkA p f) (hk:k < f.2.2.2.1.length) (h:bw f k i id=true):IsV f id:=by
 rcases dN.1 h with q | ⟨_,q⟩
 ·obtain⟨j,n,_,h2,_,h4,h5,_⟩:=lU q;have:=od hG (hA _ hk j h2 n h4);rw [h5] at this;exact this
 ·exact xU hG hT hA q
abbrev iC (x:Ins) (xo zo:Option Addr) (xl zl xc zc:Nat):Array Value:= #[.int .i64 x.1,.int .i64 x.2.1,.int .i64 x.2.2.1,.int .i64 x.2.2.2.1,.slice xo xl xc,.slice zo zl zc,.string (bs x.2.2.2.2.2.2.1),.int .i64 x.2.2.2.2.2.2.2]
theorem jK {w:World} {b t:Nat} {x:Ins} {xo zo:Option Addr} {xl zl xc zc:Nat} (h:w.heap[b]? =some (.cells (iC x xo zo xl zl xc zc) t (0,0))):
  w.cell? ⟨b,0,none⟩=some (.int .i64 x.1)∧w.cell? ⟨b,1,none⟩=some (.int .i64 x.2.1)∧w.cell? ⟨b,2,none⟩=some (.int .i64 x.2.2.1)∧w.cell? ⟨b,3,none⟩=some (.int .i64 x.2.2.2.1)∧w.cell? ⟨b,4,none⟩=some (.slice xo xl xc)∧w.cell? ⟨b,5,none⟩=some (.slice zo zl zc)∧w.cell? ⟨b,6,none⟩=some (.string (bs x.2.2.2.2.2.2.1))∧w.cell? ⟨b,7,none⟩=some (.int .i64 x.2.2.2.2.2.2.2):=by
 refine⟨?_,?_,?_,?_,?_,?_,?_,?_⟩ <;> simp [World.cell?,h,iC]
theorem nj {w:World} {x:Ins} {xo zo:Option Addr} {xc zc:Nat} (h:ib w x (.agg (iC x xo zo x.2.2.2.2.1.length x.2.2.2.2.2.1.length xc zc))):Sl w xo x.2.2.2.2.1∧Sl w zo x.2.2.2.2.2.1:=by
 obtain⟨ao,to,ca,ct,e,s1,s2,_⟩:=h;simp only [iC,Value.agg.injEq,Array.mk.injEq,List.cons.injEq,Value.slice.injEq,true_and,and_true] at e;obtain⟨⟨e1,_⟩,e2,_⟩:=e;subst e1 e2;exact⟨s1,s2⟩
theorem vZ {w:World} {b:List Ins} {ao:Option Addr} {n c i:Nat} (h:iR w b (.slice ao n c)) (hi:i < b.length):∃g o,ao=some ⟨g,o,none⟩∧nF w (b.getD i Dx) g (o+i * 8):=by
 obtain⟨ao',c',e,_,_,h3⟩:=h;injection e with e1 e2 e3;subst e1;rcases h3 with h3 | ⟨g,o,rfl,h4⟩
 ·rw [h3] at hi;exact absurd hi (Nat.not_lt_zero _)
 ·refine⟨g,o,rfl,h4 i _ ?_⟩;rw [List.getD_eq_getElem?_getD,List.getElem?_eq_getElem hi];rfl
abbrev gI (b:List Ins) (i:Nat):Ins:=b.getD i Dx
theorem yZ {b:List Ins} {i:Nat} (h:i < b.length):b[i]? =some (gI b i):=by rw [List.getElem?_eq_getElem h];unfold gI;rw [List.getD_eq_getElem?_getD,List.getElem?_eq_getElem h];rfl
theorem DZ {b:List Ins} {i:Nat} (h:i < b.length):gI b i∈b:=List.mem_of_getElem? (yZ h)
def phN (b:List Ins):Nat:=(b.takeWhile fun x=>decide (x.1=20)).length
theorem we {b:List Ins} {I:Nat} (h:∀j,j < I→j < b.length∧(gI b j).1=20) (he:I=b.length∨(gI b I).1≠20):phN b=I:=by
 unfold phN;induction b generalizing I with
 |nil=>
  cases I with
  |zero=>rfl
  |succ I=>exact absurd (h 0 (Nat.zero_lt_succ _)).1 (Nat.not_lt_zero _)
 |cons x b ih=>
  rw [List.takeWhile_cons]
  cases I with
  |zero=>
   rcases he with he | he
   ·cases he
   ·rw [if_neg (by simpa [gI] using he)];rfl
  |succ I=>
   have h0:x.1=20:=(h 0 (Nat.zero_lt_succ _)).2;rw [if_pos (by simpa using h0),List.length_cons,ih (I:=I) (fun j hj=>by
    have:=h (j+1) (by omega);exact⟨by simpa using this.1,this.2⟩) (by
    rcases he with he | he
    ·exact .inl (by simpa using he)
    ·exact .inr he)]
theorem tF {b:List Ins} {i:Nat}:i < phN b→i < b.length∧(gI b i).1=20:=by
 unfold phN;induction b generalizing i with
 |nil=>intro h;exact absurd h (Nat.not_lt_zero _)
 |cons x b ih=>
  rw [List.takeWhile_cons];split
  ·rename_i hx;intro h
   cases i with
   |zero=>exact⟨Nat.zero_lt_succ _,by simpa using hx⟩
   |succ i=>
    have:=ih (i:=i) (by simpa using h);exact⟨by simpa using this.1,this.2⟩
  ·intro h;exact absurd h (Nat.not_lt_zero _)
theorem BK {b:List Ins} {I:Nat} (h:∀j,j < I→j < b.length∧(gI b j).1=20):I≤phN b:=by
 unfold phN;induction b generalizing I with
 |nil=>
  cases I with
  |zero=>exact Nat.zero_le _
  |succ I=>exact absurd (h 0 (Nat.zero_lt_succ _)).1 (Nat.not_lt_zero _)
 |cons x b ih=>
  cases I with
  |zero=>exact Nat.zero_le _
  |succ I=>
   have h0:x.1=20:=(h 0 (Nat.zero_lt_succ _)).2;rw [List.takeWhile_cons,if_pos (by simpa using h0),List.length_cons];refine Nat.succ_le_succ (ih fun j hj=> ?_);have:=h (j+1) (by omega);exact⟨by simpa using this.1,this.2⟩
theorem kX (b:List Ins):phN b≤b.length:=(List.takeWhile_sublist _).length_le
theorem dP {w:World} {ao:Option Addr} {l:List Int} (h:Sl w ao l) {i:Nat} (hi:i < l.length):∃g o,ao=some ⟨g,o,none⟩∧w.cell? ⟨g,o+i,none⟩=some (.int .i64 (l.getD i 0)):=by
 rcases h with rfl | ⟨b,o,e,_,hc⟩
 ·exact absurd hi (Nat.not_lt_zero _)
 ·exact⟨b,o,e,hc i _ (by rw [List.getD_eq_getElem?_getD,List.getElem?_eq_getElem hi];rfl)⟩
open Mix (Up)
def BfI (f:Fun) (k:Nat) (id:Int) (op:List Int):Prop:=op.Nodup∧Num f.2.2.2.1.length op∧(k:Int)∈op∧∀o∈op,fN f o.toNat id=true→fN f k id=true
def Gm (f:Fun) (id:Int) (op:List Int) (o b:Int):Prop:=nK o id (ag f b.toNat)=false∧eR f b.toNat 0 id≠1∧(eR f b.toNat 0 id=0→b∈op)
def Cls (f:Fun) (id:Int) (op:List Int) (o:Int):Prop:=∀b∈aB f o.toNat,Gm f id op o b
theorem BfI.one {f:Fun} {k:Nat} (id:Int) (hk:k < f.2.2.2.1.length):BfI f k id [(k:Int)]:=⟨by simp,fun m hm=>by simp only [List.mem_singleton] at hm;omega,by simp,fun o ho h=>by
 simp only [List.mem_singleton] at ho;subst ho;simpa using h⟩
theorem BfI.lt {f:Fun} {k:Nat} {id:Int} {op:List Int} (h:BfI f k id op) {o:Int} (ho:o∈op):o.toNat < f.2.2.2.1.length∧((o.toNat:Nat):Int)=o:=by
 have:=h.2.1 o ho;omega
theorem BfI.first {f:Fun} {k:Nat} {id:Int} {op:List Int} (hT:Tos f) (h:BfI f k id op) {o b:Int} (ho:o∈op) (hb:b∈aB f o.toNat) (he:eR f b.toNat 0 id=1):fN f k id=true:=
 h.2.2.2 o ho ((nV hT (h.lt ho).1).2 ⟨b,hb,.inr (.inl he)⟩)
theorem BfI.add {f:Fun} {k:Nat} {id:Int} {op:List Int} (hT:Tos f) (h:BfI f k id op) {o b:Int} (ho:o∈op) (hb:b∈aB f o.toNat) (he:eR f b.toNat 0 id=0) (hn:b ∉ op):BfI f k id (op ++ [b]):=by
 refine⟨?_,fun m hm=> ?_,List.mem_append_left _ h.2.2.1,fun m hm hl=> ?_⟩
 ·rw [List.nodup_append];exact⟨h.1,by simp,fun x hx y hy=>by simp only [List.mem_singleton] at hy;subst hy;exact fun e=>hn (by rw [←e];exact hx)⟩
 ·rcases List.mem_append.1 hm with q | q
  ·exact h.2.1 m q
  ·simp only [List.mem_singleton] at q;subst q;exact hT _ _ hb
 ·rcases List.mem_append.1 hm with q | q
  ·exact h.2.2.2 m q hl
  ·simp only [List.mem_singleton] at q;subst q;exact h.2.2.2 o ho ((nV hT (h.lt ho).1).2 ⟨m,hb,.inr (.inr ⟨he,hl⟩)⟩)
theorem Gm.more {f:Fun} {id:Int} {op op':List Int} {o b:Int} (h:Gm f id op o b) (hs:∀m∈op,m∈op'):Gm f id op' o b:=⟨h.1,h.2.1,fun e=>hs _ (h.2.2 e)⟩
theorem BfI.none {f:Fun} {k:Nat} {id:Int} {op:List Int} (h:BfI f k id op) (hc:∀j,j < op.length→Cls f id op (op.getD j 0)):fN f k id=false:=by
 have:=Ef (f:=f) (id:=id) (op:=op) (fun o ho=>(h.2.1 o ho).1) (fun o ho b hb=>by
  obtain⟨j,hj⟩:=List.mem_iff_getElem?.1 ho;have e:op.getD j 0=o:=by rw [List.getD_eq_getElem?_getD,hj];rfl
  have:=hc j (List.getElem?_eq_some_iff.1 hj).1;rw [e] at this;exact this b hb) k h.2.2.1
 simpa using this
def vC (B:Nat) (w:World) (l:List Int) (v:Value):Prop:=w.ownsRow B 3 1 v l.length (ints l)
def Up.LK (B:Nat) (l:List Int):Up:=⟨fun v w=>vC B w l v,fun _ _ _ b h=>az b _ _ _ _ _ _ h⟩
def LvF (f:Fun):Prop:=Ful f∧Tos f∧Mod f∧∀b∈f.2.2.2.1,∀x∈b,x.2.2.2.2.1.length≤maxLen∧(x.1=20→x.2.2.2.2.1.length=x.2.2.2.2.2.1.length∧x.2.2.2.2.2.1.length≤1000000)
abbrev fC (nm:ByteArray) (lp lb:Option Addr) (lps cp nb cb:Nat) (rt pl:Int):Array Value:= #[.string nm,.slice lp lps cp,.int .i64 rt,.slice lb nb cb,.int .i64 pl]
def nI (f:Fun) (k i:Nat):Nat:=max (i+1) (phN (ag f k))
end Go.Proofs.YtaiaakklokahjaaGreatDoor
