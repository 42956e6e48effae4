/- Texts of one chain, joined. -/
import Derived.Test.YtfdhemcahjommaaGreatDoorZAAY
import Derived.Lib.SlicesCompact
set_option maxHeartbeats 1000000
set_option maxRecDepth 20000
namespace Go.Proofs.YtfdhemcahjommaaGreatDoor
open Go Go.RowKit
open G (Tok Er Ins Fun)
open Mix (Up)
def BfI (f:Fun) (k:Nat) (id:Int) (op:List Int):Prop:=op.Nodup∧Num f.2.2.2.1.length op∧(k:Int)∈op∧∀o∈op,eS f o.toNat id=true→eS f k id=true
def uq (f:Fun) (id:Int) (op:List Int) (o b:Int):Prop:=ju o id (ah f b.toNat)=false∧eA f b.toNat 0 id≠1∧(eA f b.toNat 0 id=0→b∈op)
def Cls (f:Fun) (id:Int) (op:List Int) (o:Int):Prop:=∀b∈aF f o.toNat,uq f id op o b
theorem BfI.one {f:Fun} {k:Nat} (id:Int) (hk:k < f.2.2.2.1.length):BfI f k id [(k:Int)]:=⟨by simp,fun m hm=>by simp only [List.mem_singleton] at hm;omega,by simp,fun o ho h=>by
 simp only [List.mem_singleton] at ho;subst ho;simpa using h⟩
theorem BfI.lt {f:Fun} {k:Nat} {id:Int} {op:List Int} (h:BfI f k id op) {o:Int} (ho:o∈op):o.toNat < f.2.2.2.1.length∧((o.toNat:Nat):Int)=o:=by
 have:=h.2.1 o ho;omega
theorem BfI.first {f:Fun} {k:Nat} {id:Int} {op:List Int} (hT:Tos f) (h:BfI f k id op) {o b:Int} (ho:o∈op) (hb:b∈aF f o.toNat) (he:eA f b.toNat 0 id=1):eS f k id=true:=
 h.2.2.2 o ho ((lV hT (h.lt ho).1).2 ⟨b,hb,.inr (.inl he)⟩)
theorem BfI.add {f:Fun} {k:Nat} {id:Int} {op:List Int} (hT:Tos f) (h:BfI f k id op) {o b:Int} (ho:o∈op) (hb:b∈aF f o.toNat) (he:eA f b.toNat 0 id=0) (hn:b ∉ op):BfI f k id (op ++ [b]):=by
 refine⟨?_,fun m hm=> ?_,List.mem_append_left _ h.2.2.1,fun m hm hl=> ?_⟩
 ·rw [List.nodup_append];exact⟨h.1,by simp,fun x hx y hy=>by simp only [List.mem_singleton] at hy;subst hy;exact fun e=>hn (by rw [←e];exact hx)⟩
 ·rcases List.mem_append.1 hm with q | q
  ·exact h.2.1 m q
  ·simp only [List.mem_singleton] at q;subst q;exact hT _ _ hb
 ·rcases List.mem_append.1 hm with q | q
  ·exact h.2.2.2 m q hl
  ·simp only [List.mem_singleton] at q;subst q;exact h.2.2.2 o ho ((lV hT (h.lt ho).1).2 ⟨m,hb,.inr (.inr ⟨he,hl⟩)⟩)
theorem uq.more {f:Fun} {id:Int} {op op':List Int} {o b:Int} (h:uq f id op o b) (hs:∀m∈op,m∈op'):uq f id op' o b:=⟨h.1,h.2.1,fun e=>hs _ (h.2.2 e)⟩
theorem BfI.none {f:Fun} {k:Nat} {id:Int} {op:List Int} (h:BfI f k id op) (hc:∀j,j < op.length→Cls f id op (op.getD j 0)):eS f k id=false:=by
 have:=E0 (f:=f) (id:=id) (op:=op) (fun o ho=>(h.2.1 o ho).1) (fun o ho b hb=>by
  obtain⟨j,hj⟩:=List.mem_iff_getElem?.1 ho;have e:op.getD j 0=o:=by rw [List.getD_eq_getElem?_getD,hj];rfl
  have:=hc j (List.getElem?_eq_some_iff.1 hj).1;rw [e] at this;exact this b hb) k h.2.2.1
 simpa using this
def jT (B:Nat) (w:World) (l:List Int) (v:Value):Prop:=w.ownsRow B 3 1 v l.length (ints l)
def Up.Km (B:Nat) (l:List Int):Up:=⟨fun v w=>jT B w l v,fun _ _ _ b h=>aB b _ _ _ _ _ _ h⟩
def LvF (f:Fun):Prop:=Ful f∧Tos f∧Mod f∧∀b∈f.2.2.2.1,∀x∈b,x.2.2.2.2.1.length≤maxLen∧(x.1=20→x.2.2.2.2.1.length=x.2.2.2.2.2.1.length∧x.2.2.2.2.2.1.length≤1000000)
abbrev fC (nm:ByteArray) (lp lb:Option Addr) (lps cp nb cb:Nat) (rt pl:Int):Array Value:= #[.string nm,.slice lp lps cp,.int .i64 rt,.slice lb nb cb,.int .i64 pl]
def gz (f:Fun) (k i:Nat):Nat:=max (i+1) (phN (ah f k))
def Inn (V:List Int) (E:Nat→Bool):Prop:=∀n,V.length≤n→E n=false
def ej (V:List Int) (f:Fun) (k i:Nat) (E:Nat→Bool):Nat→Bool:=fun n=>
 decide (n < V.length) && (decide (eA f k i (V.getD n 0)=1) || (decide (eA f k i (V.getD n 0)=0) && E n))
def ij (V:List Int) (x:Ins) (E:Nat→Bool):Nat→Bool:=fun n=>E n && !dm (V.getD n 0) x
def vY (V:List Int) (x:Ins) (E:Nat→Bool):Nat→Bool:=fun n=>decide (n < V.length) && (aA x.2.2.2.2.1 (V.getD n 0) || (E n && !dm (V.getD n 0) x))
theorem yF (V:List Int) (f:Fun) (k i:Nat) (E:Nat→Bool):Inn V (ej V f k i E):=fun n h=>by unfold ej;rw [decide_eq_false (by omega)];rfl
theorem FB {V:List Int} {f:Fun} {k i:Nat} {E:Nat→Bool} (hE:Inn V E) (h:(ah f k).length≤i):ej V f k i E=E:=by
 funext n;unfold ej;rw [tu h];by_cases hn:n < V.length
 ·simp [hn]
 ·simp [hn,hE n (by omega)]
theorem Ej {V:List Int} {f:Fun} {k i:Nat} (E:Nat→Bool) (hi:i < (ah f k).length) (h20:(ay f k i).1≠20):ej V f k i E=vY V (ay f k i) (ej V f k (i+1) E):=by
 funext n;unfold ej vY;dsimp only
 rw [re hi];have ht:tkX (V.getD n 0) (ay f k i)=aA (ay f k i).2.2.2.2.1 (V.getD n 0):=by unfold tkX;simp [h20]
 rw [ht];generalize eA f k (i+1) (V.getD n 0)=q
 cases decide (n < V.length) <;> cases aA (ay f k i).2.2.2.2.1 (V.getD n 0) <;> cases dm (V.getD n 0) (ay f k i) <;> simp
theorem Hv {V:List Int} {f:Fun} {k i:Nat} (E:Nat→Bool) (hi:i < (ah f k).length) (h20:(ay f k i).1=20):ej V f k i E=ij V (ay f k i) (ej V f k (i+1) E):=by
 funext n;unfold ej ij;dsimp only
 rw [re hi];have ht:tkX (V.getD n 0) (ay f k i)=false:=by unfold tkX;simp [h20]
 rw [ht];generalize eA f k (i+1) (V.getD n 0)=q
 cases decide (n < V.length) <;> cases dm (V.getD n 0) (ay f k i) <;> simp
def lj (V:List Int) (f:Fun) (k m:Nat) (E:Nat→Bool):Nat→Bool:=fun n=>E n && !((ah f k).take m).any (dm (V.getD n 0))
theorem ud (V:List Int) (f:Fun) (k:Nat) (E:Nat→Bool):lj V f k 0 E=E:=by funext n;simp [lj]
theorem uy {V:List Int} {f:Fun} {k m:Nat} (E:Nat→Bool) (h:m < (ah f k).length):lj V f k (m+1) E=ij V (ay f k m) (lj V f k m E):=by
 funext n;unfold lj ij;dsimp only
 rw [aV (ji h),List.any_append,List.any_cons,List.any_nil,Bool.or_false];generalize ((ah f k).take m).any (dm (V.getD n 0))=a;generalize dm (V.getD n 0) (ay f k m)=c
 cases E n <;> cases a <;> cases c <;> simp_all
theorem BF (V:List Int) (f:Fun) (k m:Nat) (x:Ins) (E:Nat→Bool):lj V f k m (ij V x E)=ij V x (lj V f k m E):=by
 funext n;unfold lj ij;dsimp only
 generalize ((ah f k).take m).any (dm (V.getD n 0))=a
 cases E n <;> cases a <;> simp
theorem yn {V:List Int} {f:Fun} {k:Nat} (E:Nat→Bool):∀m,m≤phN (ah f k)→ej V f k 0 E=lj V f k m (ej V f k m E)
 |0,_=>(ud V f k _).symm
 |m+1,h=>by
  have hl:=kW (ah f k);have hm:m < (ah f k).length:=by omega
  rw [yn E m (by omega),Hv E hm (Ky (b:=ah f k) (i:=m) (by omega)).2,BF,uy _ hm]
theorem GJ {V:List Int} {f:Fun} {k m:Nat} {E:Nat→Bool} (h:Inn V E):Inn V (lj V f k m E):=fun n hn=>by unfold lj;rw [h n hn];rfl
def jnS (V:List Int) (f:Fun) (k:Nat):Nat→Bool:=fun n=>decide (n < V.length) && f.2.2.2.1.any fun b=>ju k (V.getD n 0) b
def ie (V:List Int) (f:Fun) (H:Nat→Nat→Bool) (k:Nat):Nat→Bool:=fun n=>jnS V f k n || (aF f k).any fun b=>H b.toNat n
def hU (V:List Int) (f:Fun) (k i:Nat):Nat→Bool:=fun n=>decide (n < V.length) && bf f k i (V.getD n 0)
def Gy (V:List Int) (f:Fun) (k:Nat):Nat→Bool:=fun n=>decide (n < V.length) && eS f k (V.getD n 0)
theorem Jo (V:List Int) (f:Fun) (k:Nat):Inn V (jnS V f k):=fun n h=>by unfold jnS;rw [decide_eq_false (by omega)];rfl
theorem yP (V:List Int) (f:Fun) (k i:Nat):Inn V (hU V f k i):=fun n h=>by unfold hU;rw [decide_eq_false (by omega)];rfl
theorem GW {V:List Int} {f:Fun} {H:Nat→Nat→Bool} (hT:Tos f) (h:∀b,b < f.2.2.2.1.length→Inn V (H b)) (k:Nat):Inn V (ie V f H k):=fun n hn=>by
 unfold ie;rw [Jo V f k n hn,Bool.false_or,List.any_eq_false];intro b hb;rw [h _ (eE hT hb).1 n hn];decide
theorem yc (V:List Int) (f:Fun) (k i:Nat):ej V f k i (Gy V f k)=hU V f k i:=by
 funext n;unfold ej Gy hU bf
 cases decide (n < V.length) <;> simp
def PhF (f:Fun):Prop:=∀b,b < f.2.2.2.1.length→∀i,i < (ah f b).length→(ay f b i).1=20→gQ f b i=true
theorem DJ {f:Fun} (hP:PhF f) {b k:Nat} (hb:b < f.2.2.2.1.length) {id:Int} (h:ju k id (ah f b)=true):(b:Int)∈aF f k:=by
 obtain⟨i,n,h1,h2,_,h4,h5,_⟩:=nO h;have hp:=hP b hb i h1 h2;rw [C0 hb] at hp;simp only [Bool.and_eq_true] at hp;have hj:=hp.2;unfold yA at hj;simp only [Bool.and_eq_true,List.all_eq_true,decide_eq_true_eq,List.mem_range,BP,Bool.not_eq_true'] at hj;have:=aZ.1 (hj.1 n h4).1;rw [h5] at this;unfold bg at this;simp only [List.mem_map,List.mem_filter,List.mem_range] at this;obtain⟨a,⟨_,q⟩,e⟩:=this;have:a=k:=by have e2:((a:Nat):Int)=(k:Int):=e;omega
 subst this;exact aZ.1 q
theorem yx {V:List Int} {f:Fun} (hT:Tos f) (hP:PhF f) {k:Nat} (hk:k < f.2.2.2.1.length):ie V f (fun b=>hU V f b 0) k=Gy V f k:=by
 funext n;unfold ie jnS hU Gy;dsimp only
 cases hn:decide (n < V.length)with
 |false=>simp
 |true=>
  simp only [Bool.true_and];rw [Bool.eq_iff_iff,Bool.or_eq_true,List.any_eq_true,List.any_eq_true,zx hT hk];constructor
  ·rintro (⟨b,hb,h⟩ | ⟨b,hb,h⟩)
   ·obtain⟨j,hj⟩:=List.mem_iff_getElem?.1 hb;have hjl:=(List.getElem?_eq_some_iff.1 hj).1;have e:ah f j=b:=(by have:=dp hjl;rw [hj] at this;exact(Option.some.inj this).symm);rw [←e] at h;exact⟨(j:Int),DJ hP hjl h,.inl (by simpa using h)⟩
   ·exact⟨b,hb,.inr h⟩
  ·rintro ⟨b,hb,h | h⟩
   ·exact .inl ⟨ah f b.toNat,fq (eE hT hb).1,h⟩
   ·exact .inr ⟨b,hb,h⟩
theorem uB {V:List Int} {f:Fun} {k i n:Nat} {E E':Nat→Bool} (h:E n=true→E' n=true):ej V f k i E n=true→ej V f k i E' n=true:=by
 unfold ej;simp only [Bool.and_eq_true,Bool.or_eq_true];rintro ⟨h1,q | ⟨q1,q2⟩⟩
 ·exact⟨h1,.inl q⟩
 ·exact⟨h1,.inr ⟨q1,h q2⟩⟩
theorem uM {V:List Int} {f:Fun} (hT:Tos f) {k n:Nat} {H H':Nat→Nat→Bool} (h:∀b,b < f.2.2.2.1.length→H b n=true→H' b n=true):ie V f H k n=true→ie V f H' k n=true:=by
 unfold ie;simp only [Bool.or_eq_true,List.any_eq_true];rintro (q | ⟨b,hb,q⟩)
 ·exact .inl q
 ·exact .inr ⟨b,hb,h _ (eE hT hb).1 q⟩
theorem vC {V:List Int} {f:Fun} (hT:Tos f) {H:Nat→Nat→Bool} (hH:∀k n,k < f.2.2.2.1.length→ej V f k 0 (ie V f H k) n=true→H k n=true) {k n:Nat} (hk:k < f.2.2.2.1.length) (h:hU V f k 0 n=true):H k n=true:=by
 have hn:n < V.length:=by
  rcases Nat.lt_or_ge n V.length with q | q
  ·exact q
  ·rw [yP V f k 0 n q] at h;cases h
 have key:∀k,eS f k (V.getD n 0)=true→k < f.2.2.2.1.length→ie V f H k n=true:=fun k h=>by
  refine ja (S:=fun k=>k < f.2.2.2.1.length→ie V f H k n=true) (fun k ⟨b,hb,q⟩ hk=> ?_) h;have hl:=(eE hT hb).1;unfold ie;simp only [Bool.or_eq_true,List.any_eq_true];rcases q with q | q | ⟨q1,q2⟩
  ·left;unfold jnS;rw [decide_eq_true hn,Bool.true_and,List.any_eq_true];exact⟨_,fq hl,q⟩
  ·exact .inr ⟨b,hb,hH _ n hl (by unfold ej;rw [q,decide_eq_true hn];rfl)⟩
  ·exact .inr ⟨b,hb,hH _ n hl (by unfold ej;rw [q1,q2 hl,decide_eq_true hn];rfl)⟩
 refine hH k n hk ?_;unfold hU at h;rw [decide_eq_true hn,Bool.true_and] at h;unfold ej;rcases eX.1 h with q | ⟨q1,q2⟩
 ·rw [q,decide_eq_true hn];rfl
 ·rw [q1,key k q2 hk,decide_eq_true hn];rfl
def fH (f:Fun) (k p:Nat):Nat:=if p=0 then 0 else gz f k (p - 1)
def fS (V:List Int) (f:Fun) (H:Nat→Nat→Bool) (k p:Nat):Nat→Bool:=ej V f k (fH f k p) (ie V f H k)
def nI (V:List Int) (f:Fun) (H:Nat→Nat→Nat→Bool) (pend:Nat→Prop):Prop:=
 (∀k,k < f.2.2.2.1.length→∀n,H k 0 n=true→hU V f k 0 n=true)∧
 (∀k,k < f.2.2.2.1.length→∀n,H k 0 n=true→fS V f (fun b=>H b 0) k 0 n=true)∧
 (∀k,k < f.2.2.2.1.length→¬pend k→∀p,p≤(ah f k).length→H k p=fS V f (fun b=>H b 0) k p)
theorem Gq {V:List Int} {f:Fun} {H:Nat→Nat→Nat→Bool} {pend:Nat→Prop} (h:nI V f H pend) {k:Nat} (hk:k < f.2.2.2.1.length):Inn V (H k 0):=fun n hn=>by
 cases q:H k 0 n with
 |false=>rfl
 |true=>have:=h.1 k hk n q;rw [yP V f k 0 n hn] at this;cases this
theorem BR {V:List Int} {f:Fun} (hT:Tos f) (hP:PhF f) {H:Nat→Nat→Nat→Bool} {pend:Nat→Prop} (h:nI V f H pend) {k n:Nat} (hk:k < f.2.2.2.1.length) (q:fS V f (fun b=>H b 0) k 0 n=true):hU V f k 0 n=true:=by
 rw [←yc,←yx hT hP hk];exact uB (uM hT fun b hb=>h.1 b hb n) q
theorem Ev {V:List Int} {f:Fun} (hT:Tos f) (hP:PhF f) {H H':Nat→Nat→Nat→Bool} {pend pend':Nat→Prop} (h:nI V f H pend) {k:Nat} (hk:k < f.2.2.2.1.length) (ho:∀b,b≠k→H' b=H b)
  (hn:∀p,p≤(ah f k).length→H' k p=fS V f (fun b=>H b 0) k p) (hp:∀b,b < f.2.2.2.1.length→¬pend' b→(b=k∨¬pend b)∧(H' k 0=H k 0∨(k:Int) ∉ aF f b)):
  nI V f H' pend'∧∀b,b < f.2.2.2.1.length→∀n,H b 0 n=true→H' b 0 n=true:=by
 have hm:∀b,b < f.2.2.2.1.length→∀n,H b 0 n=true→H' b 0 n=true:=fun b hb n q=>by
  by_cases e:b=k
  ·subst e;rw [hn 0 (Nat.zero_le _)];exact h.2.1 b hb n q
  ·rw [ho b e];exact q
 have hnm:∀b n,fS V f (fun b=>H b 0) b 0 n=true→fS V f (fun b=>H' b 0) b 0 n=true:=fun b n=>uB (uM hT fun c hc=>hm c hc n);refine⟨⟨fun b hb n q=> ?_,fun b hb n q=> ?_,fun b hb hnp p hpl=> ?_⟩,hm⟩
 ·by_cases e:b=k
  ·subst e;rw [hn 0 (Nat.zero_le _)] at q;exact BR hT hP h hb q
  ·rw [ho b e] at q;exact h.1 b hb n q
 ·refine hnm b n ?_;by_cases e:b=k
  ·subst e;rw [hn 0 (Nat.zero_le _)] at q;exact q
  ·rw [ho b e] at q;exact h.2.1 b hb n q
 ·obtain⟨h1,h2⟩:=hp b hb hnp;have he:ie V f (fun c=>H' c 0) b=ie V f (fun c=>H c 0) b:=by
   funext n;unfold ie;congr 1
   rw [Bool.eq_iff_iff,List.any_eq_true,List.any_eq_true];have hq:∀c∈aF f b,H' c.toNat 0=H c.toNat 0:=fun c hc=>by
    by_cases e:c.toNat=k
    ·rcases h2 with q | q
     ·rw [e];exact q
     ·have:=(eE hT hc).2;exact absurd (by rw [←e,Int.toNat_of_nonneg this];exact hc) q
    ·rw [ho _ e]
   constructor
   ·rintro ⟨c,hc,q⟩;exact⟨c,hc,by show H c.toNat 0 n=true;rw [←hq c hc];exact q⟩
   ·rintro ⟨c,hc,q⟩;exact⟨c,hc,by show H' c.toNat 0 n=true;rw [hq c hc];exact q⟩
  unfold fS;rw [he];by_cases e:b=k
  ·subst e;exact hn p hpl
  ·rw [ho b e];rcases h1 with q | q
   ·exact absurd q e
   ·exact h.2.2 b hb q p hpl
theorem ET {V:List Int} {f:Fun} (hT:Tos f) (hP:PhF f) {H:Nat→Nat→Nat→Bool} (h:nI V f H (fun _=>False)) {k p:Nat} (hk:k < f.2.2.2.1.length) (hp:p≤(ah f k).length):H k p=hU V f k (fH f k p):=by
 have h0:∀b,b < f.2.2.2.1.length→H b 0=hU V f b 0:=fun b hb=>by
  funext n;rw [Bool.eq_iff_iff];refine⟨h.1 b hb n,fun q=>vC (H:=fun b=>H b 0) hT (fun c m hc q=> ?_) hb q⟩;have:=h.2.2 c hc (fun q=>q) 0 (Nat.zero_le _);show H c 0 m=true;rw [this];exact q
 rw [h.2.2 k hk (fun q=>q) p hp];unfold fS;rw [←yc,←yx hT hP hk];congr 1
 funext n;unfold ie;congr 1
 rw [Bool.eq_iff_iff,List.any_eq_true,List.any_eq_true];constructor
 ·rintro ⟨c,hc,q⟩;exact⟨c,hc,by show hU V f c.toNat 0 n=true;rw [←h0 _ (eE hT hc).1];exact q⟩
 ·rintro ⟨c,hc,q⟩;exact⟨c,hc,by show H c.toNat 0 n=true;rw [h0 _ (eE hT hc).1];exact q⟩
def JJ (N M:Nat):List (Nat × Nat):=(List.range N).flatMap fun k=>(List.range M).map fun n=>(k,n)
def muS (V:List Int) (f:Fun) (H:Nat→Nat→Nat→Bool):Nat:=(JJ f.2.2.2.1.length V.length).countP fun q=> !H q.1 0 q.2
theorem sR {N M:Nat} {q:Nat × Nat}:q∈JJ N M↔q.1 < N∧q.2 < M:=by
 unfold JJ;simp only [List.mem_flatMap,List.mem_range,List.mem_map];constructor
 ·rintro ⟨k,hk,n,hn,rfl⟩;exact⟨hk,hn⟩
 ·rintro ⟨h1,h2⟩;exact⟨q.1,h1,q.2,h2,rfl⟩
theorem Ka {V:List Int} {f:Fun} {H H':Nat→Nat→Nat→Bool} (h:∀b,b < f.2.2.2.1.length→∀n,H b 0 n=true→H' b 0 n=true):muS V f H'≤muS V f H:=by
 unfold muS;refine List.countP_mono_left fun q hq=> ?_;have:=(sR.1 hq).1;simp only [Bool.not_eq_true'];intro e
 cases e2:H q.1 0 q.2 with
 |false=>rfl
 |true=>rw [h _ this _ e2] at e;cases e
theorem Kc {V:List Int} {f:Fun} {H H':Nat→Nat→Nat→Bool} (h:∀b,b < f.2.2.2.1.length→∀n,H b 0 n=true→H' b 0 n=true) {k:Nat} (hk:k < f.2.2.2.1.length) (hi:Inn V (H' k 0)) (hne:H' k 0≠H k 0):muS V f H' < muS V f H:=by
 obtain⟨n,hn⟩:∃n,H' k 0 n≠H k 0 n:=by
  rcases Classical.em (∃n,H' k 0 n≠H k 0 n)with q | q
  ·exact q
  ·exact absurd (funext fun n=>by rcases Classical.em (H' k 0 n=H k 0 n)with r | r;exact r;exact absurd ⟨n,r⟩ q) hne
 have h1:H k 0 n=false:=by
  cases e:H k 0 n with
  |false=>rfl
  |true=>rw [h k hk n e,e] at hn;exact absurd rfl hn
 have h2:H' k 0 n=true:=by
  cases e:H' k 0 n with
  |true=>rfl
  |false=>rw [e,h1] at hn;exact absurd rfl hn
 have hl:n < V.length:=by
  rcases Nat.lt_or_ge n V.length with q | q
  ·exact q
  ·rw [hi n q] at h2;cases h2
 unfold muS;refine km _ _ _ (fun q hq=> ?_) ⟨(k,n),sR.2 ⟨hk,hl⟩,by simp [h1],by simp [h2]⟩;have:=(sR.1 hq).1;simp only [Bool.not_eq_true'];intro e
 cases e2:H q.1 0 q.2 with
 |false=>rfl
 |true=>rw [h _ this _ e2] at e;cases e
theorem yQ (d:Array Int):∀m,(∀i j,i≤j→j < m→d[i]! ≤d[j]!)→(Lib.compactUpTo d m).Pairwise (· < ·)∧∀x,x∈Lib.compactUpTo d m↔∃j,j < m∧d[j]! =x
 |0,_=>by simp [Lib.compactUpTo]
 |m+1,h=>by
  obtain⟨h1,h2⟩:=yQ d m fun i j hi hj=>h i j hi (by omega);rw [Lib.compactUpTo_succ]
  cases hk:Lib.keeps d m with
  |true=>
   rw [if_pos rfl];refine⟨List.pairwise_append.2 ⟨h1,by simp,fun x hx y hy=> ?_⟩,fun x=> ?_⟩
   ·simp only [List.mem_singleton] at hy;subst hy;obtain⟨j,hj,rfl⟩:=(h2 x).1 hx;unfold Lib.keeps at hk;simp only [decide_eq_true_eq] at hk;have a:=h j (m - 1) (by omega) (by omega);have b:=h (m - 1) m (by omega) (by omega);rcases hk with q | q
    ·omega
    ·omega
   ·rw [List.mem_append,h2,List.mem_singleton];constructor
    ·rintro (⟨j,hj,e⟩ | e)
     ·exact⟨j,by omega,e⟩
     ·exact⟨m,by omega,e.symm⟩
    ·rintro ⟨j,hj,e⟩;by_cases q:j=m
     ·subst q;exact .inr e.symm
     ·exact .inl ⟨j,by omega,e⟩
  |false=>
   simp only [Bool.false_eq_true,if_false,List.append_nil];refine⟨h1,fun x=> ?_⟩;rw [h2];unfold Lib.keeps at hk;simp only [decide_eq_false_iff_not,not_or,Classical.not_not] at hk;constructor
   ·rintro ⟨j,hj,e⟩;exact⟨j,by omega,e⟩
   ·rintro ⟨j,hj,e⟩;by_cases q:j=m
    ·subst q;exact⟨j - 1,by omega,by rw [←e];exact hk.2.symm⟩
    ·exact⟨j,by omega,e⟩
def qb (l:List Int):List Int:=l.mergeSort fun x y=>decide (x≤y)
theorem uS (l:List Int):(qb l).Pairwise (· ≤·):=by
 have:=List.pairwise_mergeSort (le:=fun x y:Int=>decide (x≤y)) (fun a b c=>by simp;omega) (fun a b=>by simp;omega) l;exact this.imp fun h=>by simpa using h
theorem Gu {l:List Int} {x:Int}:x∈qb l↔x∈l:=List.mem_mergeSort
theorem se (l:List Int):(qb l).length=l.length:=List.length_mergeSort l
theorem yG {l:List Int} (h:l.Pairwise (· ≤·)):(Lib.compact l).Pairwise (· < ·)∧∀x,x∈Lib.compact l↔x∈l:=by
 obtain⟨h1,h2⟩:=yQ l.toArray l.length fun i j hij hj=>by
  rw [getElem!_pos l.toArray i (by simp;omega),getElem!_pos l.toArray j (by simpa using hj)];simp only [List.getElem_toArray];rcases Nat.lt_or_ge i j with q | q
  ·exact List.pairwise_iff_getElem.1 h i j _ _ q
  ·obtain rfl:i=j:=(by omega);exact Int.le_refl _
 refine⟨h1,fun x=> ?_⟩;unfold Lib.compact;rw [h2];constructor
 ·rintro ⟨j,hj,rfl⟩;rw [getElem!_pos l.toArray j (by simpa using hj)];simp
 ·intro hx;obtain⟨j,hj,rfl⟩:=List.mem_iff_getElem.1 hx;exact⟨j,hj,by rw [getElem!_pos l.toArray j (by simpa using hj)];simp⟩
def lY (b:List Ins):List Int:=b.flatMap fun x=>x.2.2.2.2.1
def lh (f:Fun):List Int:=f.2.2.2.1.flatMap lY
def aS (f:Fun):List Int:=Lib.compact (qb (lh f))
theorem wJ (f:Fun):(aS f).Pairwise (· < ·):=(yG (uS _)).1
theorem rL {f:Fun} {x:Int}:x∈aS f↔∃b∈f.2.2.2.1,∃y∈b,x∈y.2.2.2.2.1:=by
 unfold aS;rw [(yG (uS _)).2,Gu];unfold lh lY;simp only [List.mem_flatMap]
theorem yE (l:List Int):(Lib.compact l).length≤l.length:=by
 unfold Lib.compact Lib.compactUpTo;rw [List.length_map];exact Nat.le_trans (List.length_filter_le _ _) (by simp)
theorem yX (f:Fun):(aS f).length≤(lh f).length:=by
 unfold aS;exact Nat.le_trans (yE _) (by rw [se];exact Nat.le_refl _)
theorem zd {V:List Int} (h:V.Pairwise (· < ·)) {m:Nat} (hm:m < V.length):V.countP (fun y=>decide (y < V.getD m 0))=m:=by
 have e:V=V.take m ++ V.drop m:=(List.take_append_drop m V).symm;have hx:V.getD m 0=V[m]:=by rw [List.getD_eq_getElem?_getD,List.getElem?_eq_getElem hm];rfl
 rw [hx];have h1:(V.take m).countP (fun y=>decide (y < V[m]))=m:=by
  rw [List.countP_eq_length.2 (fun y hy=> ?_),List.length_take]
  ·omega
  ·obtain⟨j,hj,rfl⟩:=List.mem_iff_getElem.1 hy;rw [List.length_take] at hj;rw [List.getElem_take];simpa using List.pairwise_iff_getElem.1 h j m (by omega) hm (by omega)
 have h2:(V.drop m).countP (fun y=>decide (y < V[m]))=0:=by
  rw [List.countP_eq_zero];intro y hy;obtain⟨j,hj,rfl⟩:=List.mem_iff_getElem.1 hy;rw [List.length_drop] at hj;rw [List.getElem_drop];simp only [decide_eq_true_eq];rcases Nat.eq_zero_or_pos j with q | q
  ·subst q;simp
  ·have:=List.pairwise_iff_getElem.1 h m (m+j) hm (by omega) (by omega);omega
 calc V.countP (fun y=>decide (y < V[m]))=(V.take m ++ V.drop m).countP (fun y=>decide (y < V[m])):=by rw [←e]
  _=m:=by rw [List.countP_append,h1,h2,Nat.add_zero]
def lM (V:List Int) (x:Int):Nat:=V.countP fun y=>decide (y < x)
theorem rA {V:List Int} (h:V.Pairwise (· < ·)) {x:Int} (hx:x∈V):lM V x < V.length∧V.getD (lM V x) 0=x∧∀n,n < V.length→V.getD n 0=x→n=lM V x:=by
 obtain⟨m,hm,e⟩:=List.mem_iff_getElem.1 hx;have hg:V.getD m 0=x:=by rw [List.getD_eq_getElem?_getD,List.getElem?_eq_getElem hm];exact e
 have hi:=zd h hm;rw [hg] at hi;have hi2:lM V x=m:=hi;rw [hi2];refine⟨hm,hg,fun n hn hne=> ?_⟩;have:=zd h hn;rw [hne] at this;rw [←this,hi]
def og (V:List Int) (b:Nat→Bool) (a:Int):Nat→Bool:=fun n=>(decide (n < V.length) && decide (V.getD n 0=a)) || b n
theorem Fs {V:List Int} (h:V.Pairwise (· < ·)) {a:Int} (ha:a∈V) (b:Nat→Bool):gK b (lM V a) true=og V b a:=by
 obtain⟨h1,h2,h3⟩:=rA h ha;funext n;unfold gK og;by_cases e:n=lM V a
 ·rw [if_pos e,e,h2,decide_eq_true h1];simp
 ·rw [if_neg e];by_cases q:n < V.length∧V.getD n 0=a
  ·exact absurd (h3 n q.1 q.2) e
  ·have:(decide (n < V.length) && decide (V.getD n 0=a))=false:=by
    cases r:(decide (n < V.length) && decide (V.getD n 0=a))with
    |false=>rfl
    |true=>simp only [Bool.and_eq_true,decide_eq_true_eq] at r;exact absurd r q
   rw [this,Bool.false_or]
theorem drop_set {V:List Int} (h:V.Pairwise (· < ·)) {x:Ins} (hm:mkX x≠0) (hx:x.2.1∈V) {b:Nat→Bool} (hb:Inn V b):gK b (lM V x.2.1) false=ij V x b:=by
 obtain⟨h1,h2,h3⟩:=rA h hx;funext n;unfold gK ij dm;by_cases e:n=lM V x.2.1
 ·rw [if_pos e,e,h2];simp [hm]
 ·rw [if_neg e];by_cases q:n < V.length
  ·have:¬x.2.1=V.getD n 0:=fun r=>e (h3 n q r.symm);simp only [this,decide_false,Bool.false_and,Bool.not_false,Bool.and_true]
  ·rw [hb n (by omega)];simp
theorem D0 {V:List Int} {x:Ins} (h:mkX x=0∨x.2.1 ∉ V) {b:Nat→Bool} (hb:Inn V b):ij V x b=b:=by
 funext n;unfold ij dm;rcases h with h | h
 ·simp [h]
 ·by_cases q:n < V.length
  ·have:¬x.2.1=V.getD n 0:=fun r=>h (by rw [r,List.getD_eq_getElem?_getD,List.getElem?_eq_getElem q];exact List.getElem_mem q);simp only [this,decide_false,Bool.false_and,Bool.not_false,Bool.and_true]
  ·rw [hb n (by omega)];simp
def pW (V:List Int) (b:Nat→Bool) (l:List Int):Nat→Bool:=fun n=>(decide (n < V.length) && aA l (V.getD n 0)) || b n
theorem EY (V:List Int) (b:Nat→Bool):pW V b []=b:=by funext n;simp [pW,aA]
theorem zQ (V:List Int) (b:Nat→Bool) (l:List Int) (a:Int):pW V b (l ++ [a])=og V (pW V b l) a:=by
 funext n;unfold pW og aA;dsimp only
 rw [List.any_append,List.any_cons,List.any_nil,Bool.or_false,show decide (a=V.getD n 0)=decide (V.getD n 0=a) from by rw [Bool.eq_iff_iff,decide_eq_true_eq,decide_eq_true_eq];exact eq_comm];generalize decide (n < V.length)=d;generalize (l.any fun m=>decide (m=V.getD n 0))=p;generalize decide (V.getD n 0=a)=e
 cases d <;> cases p <;> cases e <;> simp
theorem EB {V:List Int} {x:Ins} {E:Nat→Bool} (hE:Inn V E):pW V (ij V x E) x.2.2.2.2.1=vY V x E:=by
 funext n;unfold pW ij vY;by_cases q:n < V.length
 ·simp [q]
 ·simp [q,hE n (by omega)]
def lL (V:List Int) (L:List (Int × Int)) (k:Nat):Nat→Bool:=fun n=>decide (n < V.length) && L.any fun q=>decide (q.1=(k:Int)) && decide (q.2=V.getD n 0)
theorem G7 (V:List Int) (k:Nat):lL V [] k=noB:=by funext n;simp [lL,noB]
theorem Gh {V:List Int} {L:List (Int × Int)} {k:Nat} {a:Int}:lL V (L ++ [((k:Int),a)]) k=og V (lL V L k) a:=by
 funext n;unfold lL og;dsimp only
 rw [List.any_append,List.any_cons,List.any_nil,Bool.or_false,show decide (a=V.getD n 0)=decide (V.getD n 0=a) from by rw [Bool.eq_iff_iff,decide_eq_true_eq,decide_eq_true_eq];exact eq_comm,decide_eq_true rfl,Bool.true_and];generalize decide (n < V.length)=d;generalize (L.any fun q=>decide (q.1=(k:Int)) && decide (q.2=V.getD n 0))=p;generalize decide (V.getD n 0=a)=e
 cases d <;> cases p <;> cases e <;> simp
theorem uV {V:List Int} {L:List (Int × Int)} {k:Nat} {fr a:Int} (h:fr≠k):lL V (L ++ [(fr,a)]) k=lL V L k:=by
 funext n;unfold lL;rw [List.any_append];simp [h]
def phP (x:Ins):List (Int × Int):=x.2.2.2.2.2.1.zip x.2.2.2.2.1
def jnP (b:List Ins):List (Int × Int):=(b.takeWhile fun x=>decide (x.1=20)).flatMap phP
theorem FN (V:List Int) (f:Fun) (k:Nat):lL V (f.2.2.2.1.flatMap jnP) k=jnS V f k:=by
 funext n;unfold lL jnS;congr 1
 rw [List.any_flatMap];congr 1
 funext b;unfold jnP ju;rw [List.any_flatMap];rfl
theorem yi {V:List Int} {va:Option Addr} {w:World} (hV:Sl w va V) (hs:V.Pairwise (· < ·)) (hl:V.length≤64000000) (x:Int) (cv:Nat):
  Calls Tryz.prog 100 #[.slice va V.length cv,.int .i64 x] w fun e w'=>e= .returned (.tuple #[.int .i64 (lM V x:Nat),.bool (V.contains x)])∧∃q,w'=w.drewN q:=by
 rcases hV with rfl | ⟨b,o,rfl,hb,hc⟩
 ·exact(Tryz.slices_BinarySearch_int_empty va cv x _).mono fun e w' ⟨h1,h2⟩=>⟨h1,0,h2⟩
 ·have q:=Tryz.slices_BinarySearch_int b o V.length cv V x w (Nat.le_refl _) (by omega) (fun j hj=>hc j _ (by rw [List.getElem?_eq_getElem hj,List.getD_eq_getElem?_getD,List.getElem?_eq_getElem hj];rfl)) (by rw [List.take_length];exact hs.imp fun h=>Int.le_of_lt h);rw [List.take_length] at q;exact q
theorem qR {B g c W lp cv:Nat} {b:Nat→Bool} {V:List Int} {va:Option Addr} {a:Int} {w:World} (c5:w.cell? ⟨lp,5,none⟩=some (.slice va V.length cv)) (hV:Sl w va V) (hs:V.Pairwise (· < ·)) (ha:a∈V) (h:aP w B g c W b) (hW:V.length≤64 * W) (hW2:W≤1000000):
  Calls Tryz.prog 68 #[.pointer (some ⟨lp,0,none⟩),.slice (some ⟨g,0,none⟩) W c,.int .i64 a] w fun e w'=>e= .returned (.tuple #[])∧aP w' B g c W (og V b a)∧Kf (· =g) w w':=by
 have CB:=ae (yi hV hs (by omega) a cv);obtain⟨h1,_,_⟩:=rA hs ha;have CA:=ae (fun q=>Gc (w:=w.drewN q) (lP q h) (lM V a) (by omega) hW2);have HE:=ae (Fs hs ha b);clear hV hs ha h h1 hW;generalize lM V a=I at *;generalize V.contains a=u at *;generalize V.length=vl at *;go_enter Tryz.func68,Tryz.ntmps68
 go_wp2_with fail
 refine CB.out.mono ?_;rintro e w1 ⟨rfl,q,rfl⟩;have C1:=ae (CA.out q);clear CB CA;go_wp2_with fail
 refine C1.out.mono ?_;rintro e w2 ⟨rfl,h1,h2⟩;rw [HE.out] at h1;have H1:=ae h1;have H2:=ae h2;clear h1 h2;go_wp2_with fail
 go_end0
 exact⟨rfl,H1.out,H2.out⟩
abbrev th (x:Ins) (ao to:Option Addr) (ca ct:Nat):Array Value:= #[.int .i64 x.1,.int .i64 x.2.1,.int .i64 x.2.2.1,.int .i64 x.2.2.2.1,.slice ao x.2.2.2.2.1.length ca,.slice to x.2.2.2.2.2.1.length ct,.string (bs x.2.2.2.2.2.2.1),.int .i64 x.2.2.2.2.2.2.2]
theorem od {B g c W lp cv:Nat} {b:Nat→Bool} {V:List Int} {va:Option Addr} {x:Ins} {v:Value} {w:World} (hv:iB w x v) (hT:L5.Tab w) (c5:w.cell? ⟨lp,5,none⟩=some (.slice va V.length cv)) (hV:Sl w va V) (hs:V.Pairwise (· < ·)) (h:aP w B g c W b) (hb:Inn V b) (hW:V.length≤64 * W) (hW2:W≤1000000):
  Calls Tryz.prog 73 #[.pointer (some ⟨lp,0,none⟩),.slice (some ⟨g,0,none⟩) W c,v] w fun e w'=>e= .returned (.tuple #[])∧aP w' B g c W (ij V x b)∧Kf (· =g) w w':=by
 obtain⟨ao,to,ca,ct,rfl,_⟩:=hv;have hlp:=World.block_lt_of_cell? _ _ c5;have b1:=ag w (.cells (th x ao to ca ct) 48);have CM:Hid (Calls Tryz.prog 105 #[.agg (th x ao to ca ct)] (w.alloc (.cells (th x ao to ca ct) 48)) fun e w'=>e= .returned (.int .i64 (mkX x))∧Below (w.alloc (.cells (th x ao to ca ct) 48)).heap.size (w.alloc (.cells (th x ao to ca ct) 48)) w'):=ae (L5.Af x.1 x.2.2.2.1 _ _ _ _ _ _ _ (hT.below b1));have HB:=ae (fun w' (k:Below w.heap.size w w') (n:Nat)=>yi (w:=w'.drewN n) (show Sl w' va V from hV.below k) hs (by omega) x.2.1 cv);have HS:=ae (fun w' (k:Below w.heap.size w w') q=>lP q (h.below k));have H0:=ae (heap_alloc_new w (.cells (th x ao to ca ct) 48));have HD:Hid (∀w',mkX x≠0→aP w' B g c W (gK b (lM V x.2.1) false)→V.contains x.2.1=true→aP w' B g c W (ij V x b)):=ae (fun w' hm h2 hc=>by rw [←drop_set hs hm (by simpa using hc) hb];exact h2);have HN:Hid (∀w',mkX x=0∨V.contains x.2.1=false→aP w' B g c W b→aP w' B g c W (ij V x b)):=ae (fun w' hm h2=>by
  rw [D0 (hm.imp id fun q=>by intro q2;have:=List.contains_iff_mem.2 q2;rw [q] at this;cases this) hb];exact h2)
 have HL:Hid (V.contains x.2.1=true→lM V x.2.1 < 64 * W):=ae (fun hc=>by have:=(rA hs (by simpa using hc)).1;omega);have B1:=ae b1;have c51:=(b1.cell (p:=⟨lp,5,none⟩) hlp).trans c5;clear hT hV hs h hb hW b1 c5 hlp;go_enter Tryz.func73,Tryz.ntmps73
 go_upto_region 1 with fail
 show Code.wp _ _ _ _ (w.alloc (.cells (th x ao to ca ct) 48));generalize w.alloc (.cells (th x ao to ca ct) 48)=W1 at *;obtain⟨x0,x1,x2,x3,x4,x5,x6,x7⟩:=pr H0.out;go_wp2_with fail
 refine CM.out.mono ?_;rintro e w1 ⟨rfl,b1⟩;have B2:=ae (af B1.out b1);have c52:=(b1.cell (p:=⟨lp,5,none⟩) (World.block_lt_of_cell? _ _ c51)).trans c51;have H1:=ae ((b1.block _ (Array.getElem?_eq_some_iff.1 H0.out).1).trans H0.out);clear b1 c51 H0 CM x0 x1 x2 x3 x4 x5 x6 x7;obtain⟨x0,x1,x2,x3,x4,x5,x6,x7⟩:=pr H1.out;obtain⟨m,hm⟩:∃m,mkX x=m:=⟨_,rfl⟩;rw [hm] at HD HN ⊢;clear hm;by_cases h0:m=0
 ·subst h0;have HE:=ae (HN.out w1 (.inl rfl) (HS.out w1 B2.out 0));go_wp2_with fail
  refine bodyPost_ret (results_none rfl _ _ _) rfl ?_;exact⟨rfl,HE.out,Kf.bC B2.out⟩
 ·have hb0:(m == 0)=false:=by simpa using h0
  have CB:=ae (HB.out w1 B2.out);obtain⟨I,hI⟩:∃I,lM V x.2.1=I:=⟨_,rfl⟩;obtain⟨u,hu⟩:∃u,V.contains x.2.1=u:=⟨_,rfl⟩;rw [hI,hu] at CB HD HL;rw [hu] at HN;clear hI hu;obtain⟨vl,hvl⟩:∃vl,V.length=vl:=⟨_,rfl⟩;rw [hvl] at CB c52;clear hvl HB;go_wp2_with fail
  go_quiet (first | (go_at_call 100;exact Calls.quiet_of (CB.out _)))
  cases u with
  |false=>
   have HE:=ae (HN.out (w1.drewN nq) (.inr rfl) (HS.out w1 B2.out nq));go_wp2_with fail
   go_end0
   exact⟨rfl,HE.out,(Kf.bC B2.out).drew nq⟩
  |true=>
   have C2:=ae (wO (HS.out w1 B2.out nq) I (HL.out rfl) hW2);go_wp2_with fail
   refine C2.out.mono ?_;rintro e w2 ⟨rfl,h1,h2⟩;have HE:=ae (HD.out w2 h0 h1 trivial);have HK:=ae (((Kf.bC (F:=(· =g)) B2.out).drew nq).trans h2 fun y hy=> .inl hy);clear h1 h2;go_wp2_with fail
   go_end0
   exact⟨rfl,HE.out,HK.out⟩
def pQ (x:Int) (l:List Int):Nat:=(l.takeWhile fun a=>decide (a < x)).length
theorem mS (x a:Int) (l:List Int):pQ x (a :: l)=if a < x then pQ x l+1 else 0:=by
 unfold pQ;rw [List.takeWhile_cons];by_cases h:a < x
 ·simp [h]
 ·simp [h]
def gY (l:List Int) (x:Int):List Int:=l.take (pQ x l) ++ [x] ++ l.drop (pQ x l)
theorem BU (l:List Int) (x:Int):(gY l x).length=l.length+1:=by
 have h:=congrArg List.length (List.take_append_drop (pQ x l) l);unfold gY;simp only [List.length_append,List.length_cons,List.length_nil] at h ⊢;omega
def eV (l:List Int) (b:List Ins):List Int:=b.foldl (fun l x=>if mkX x=0 then l else gY l x.2.1) l
def im (l:List Int) (bs:List (List Ins)):List Int:=bs.foldl eV l
def fX (n:Nat):List Int:=(List.range n).map fun i:Nat=>(i:Int)
def cL (f:Fun):List Int:=im (fX f.2.1.length) f.2.2.2.1
theorem pD (n:Nat):(fX n).length=n:=by simp [fX]
theorem qk {l:List Int} {b:List Ins} {J:Nat} (h:J < b.length):eV l (b.take (J+1))=if mkX (gI b J)=0 then eV l (b.take J)else gY (eV l (b.take J)) (gI b J).2.1:=by
 unfold eV;rw [aV (yV h),List.foldl_append];rfl
theorem qI {l:List Int} {f:Fun} {K:Nat} (h:K < f.2.2.2.1.length):im l (f.2.2.2.1.take (K+1))=eV (im l (f.2.2.2.1.take K)) (ah f K):=by
 have e:f.2.2.2.1[K]? =some (ah f K):=by unfold ah;rw [List.getElem?_eq_getElem h,List.getD_eq_getElem?_getD,List.getElem?_eq_getElem h];rfl
 unfold im;rw [aV e,List.foldl_append];rfl
theorem rY:∀(b:List Ins) (l:List Int),(eV l b).length≤l.length+b.length
 |[],l=>Nat.le_refl _
 |x :: b,l=>by
  have h:=rY b (if mkX x=0 then l else gY l x.2.1);have e:eV l (x :: b)=eV (if mkX x=0 then l else gY l x.2.1) b:=rfl;rw [e];have h2:(if mkX x=0 then l else gY l x.2.1).length≤l.length+1:=by
   split
   ·omega
   ·rw [BU];exact Nat.le_refl _
  simp only [List.length_cons];omega
theorem rC:∀(bs:List (List Ins)) (l:List Int),(im l bs).length≤l.length+(bs.map List.length).sum
 |[],l=>by simp [im]
 |b :: bs,l=>by
  have h:=rC bs (eV l b);have h2:=rY b l;have e:im l (b :: bs)=im (eV l b) bs:=rfl;rw [e];simp only [List.map_cons,List.sum_cons];omega
def wid (f:Fun):Nat:=f.2.1.length+(f.2.2.2.1.map List.length).sum
def Src (w:World) (l:List Int) (v:Value):Prop:=(v= .slice none 0 0∧l= [])∨∃g o c,v= .slice (some ⟨g,o,none⟩) l.length c∧g < w.heap.size∧∀j u,(ints l)[j]? =some u→w.cell? ⟨g,o+j,none⟩=some u
theorem Src.below {w w':World} {l:List Int} {v:Value} (h:Src w l v) (b:Below w.heap.size w w'):Src w' l v:=by
 rcases h with h | ⟨g,o,c,rfl,hg,hc⟩
 ·exact .inl h
 ·exact .inr ⟨g,o,c,rfl,Nat.lt_of_lt_of_le hg b.size,fun j u hj=>(b.cell (p:=⟨g,o+j,none⟩) hg).trans (hc j u hj)⟩
def nG (p:List Fun):Bool:=decide (total p≤100) && p.all fun f=>decide (f.2.2.2.1.length≤12)
theorem ve (p:List Fun) (po:Option Addr) (pc:Nat) (w:World) (hp:eg w p (.slice po p.length pc)) (hl:p.length≤140737488355328) (hS:∀f∈p,ShF f):
  Calls Tryz.prog 23 #[.agg #[.slice po p.length pc]] w fun e w'=>e= .returned (.int .i64 (if nG p then 0 else 1))∧Below w.heap.size w w':=by
 have HL:Hid (nG p=(decide (total p≤100) && p.all fun f=>decide (f.2.2.2.1.length≤12))):=ae rfl;have CS:=ae (fun w' (b:Below w.heap.size w w')=>Bc p po pc w' (hp.below b) hl hS);have HRd:Hid (∀i,i < p.length→∃g o,po=some ⟨g,o,none⟩∧om w (bh p i) g (o+i * 5)):=ae (fun i hi=>gC hp hi);have HSb:Hid (∀i,i < p.length→(bh p i).2.2.2.1.length≤maxLen):=ae (fun i hi=>by
  obtain⟨g,o,_,hfr⟩:=gC hp hi;obtain⟨_,vp,vb,_,_,⟨_,_,_,h1,h2,_⟩⟩:=hfr;exact Nat.le_trans h1 h2)
 have HMm:Hid (∀f∈p,∃i,i < p.length∧bh p i=f):=ae (fun f hf=>by
  obtain⟨i,hi⟩:=List.mem_iff_getElem?.1 hf;exact⟨i,(List.getElem?_eq_some_iff.1 hi).1,Hs hi⟩)
 have HMi:Hid (∀i,i < p.length→bh p i∈p):=ae (fun i hi=>List.mem_of_getElem? (kb hi));clear hp hS;obtain⟨r,hr⟩:∃r,nG p=r:=⟨_,rfl⟩;rw [hr] at HL ⊢;clear hr;obtain⟨rv,HRv⟩:∃rv:Int,Hid ((if r then(0:Int)else 1)=rv):=⟨_,ae rfl⟩;rw [HRv.out];generalize hpn:p.length=pn at *;replace hpn:=ae hpn;have B0:=ae (ag w (.cells #[.slice po pn pc] 24));have H1:=ae (heap_alloc_new w (.cells #[.slice po pn pc] 24));go_enter Tryz.func23,Tryz.ntmps23
 go_upto_region 1 with fail
 show Code.wp _ _ _ _ (w.alloc (.cells #[.slice po pn pc] 24));generalize w.alloc (.cells #[.slice po pn pc] 24)=W at *;have hq0:w.heap.size < W.heap.size:=(bF H1.out).2;have c0:=(bF H1.out).1;have C1:=ae (CS.out W B0.out);go_wp2_with fail
 refine C1.out.mono ?_;rintro e w1 ⟨⟨n,rfl,hcn⟩,b1⟩;have BW1:=ae b1;clear C1 CS c0 b1;by_cases ht:total p≤100
 ·obtain rfl:n=total p:=by
   rcases hcn with h | h
   ·exact h
   ·omega
  have htI:¬(100:Int) < (total p:Int):=by omega
  have HL2:Hid (r=p.all fun f=>decide (f.2.2.2.1.length≤12)):=ae (by rw [HL.out,decide_eq_true ht];simp);clear hcn HL;generalize total p=tp at *;go_wp2_with fail
  go_loopw [3] (fun iv wr=>∃i:Nat,i≤pn∧iv= .int .i64 i∧Hid (∀j,j < i→(bh p j).2.2.2.1.length≤12)∧Hid (Below W.heap.size W wr)) (fun iv _=>pn - (intOf iv).toNat)
  case atStart=>exact⟨0,Nat.zero_le _,rfl,ae (fun j h=>absurd h (Nat.not_lt_zero _)),BW1⟩
  case round=>
   clear BW1;obtain⟨i,hi,rfl,HF,HW⟩:=hrel;have c0:=(HW.out.cell (p:=⟨w.heap.size,0,none⟩) hq0).trans (bF H1.out).1;have Bw:=ae (af B0.out HW.out);by_cases hit:i < pn
   ·have hiI:(i:Int) < pn:=(by omega);obtain⟨g,o,rfl,hfr⟩:=HRd.out i hit;obtain⟨_,bo,_,cb,_,_,_,_,d3,_⟩:=hfr.val;replace d3:=(Bw.out.cell (p:=⟨g,o+i * 5+3,none⟩) hfr.1).trans d3;have hbl:=HSb.out i hit;unfold maxLen at hbl;obtain⟨bn,hbn⟩:∃bn,(bh p i).2.2.2.1.length=bn:=⟨_,rfl⟩;rw [hbn] at d3 hbl;clear hfr;by_cases h12:bn≤12
    ·have h12I:¬(12:Int) < (bn:Int):=(by omega);have HF2:Hid (∀j,j < i+1→(bh p j).2.2.2.1.length≤12):=ae (fun j hj=>by
      by_cases e:j=i
      ·rw [e,hbn];exact h12
      ·exact HF.out j (by omega))
     clear hbn;go_wp2_with fail
     go_roundw
     case rel=>exact⟨i+1,by omega,by go_num,HF2,HW⟩
     case measure=>simp [intOf];omega
    ·have h12I:(12:Int) < (bn:Int):=(by omega);have HR:Hid ((1:Int)=rv):=ae (by
      have:r=false:=by
       rw [HL2.out,Bool.eq_false_iff];intro hall;have:=List.all_eq_true.1 hall _ (HMi.out i hit);rw [hbn] at this;simp at this;omega
      rw [←HRv.out,this];rfl)
     clear hbn;go_wp2_with fail
     go_ret;exact⟨bH HR.out,Bw.out⟩
   ·obtain rfl:i=pn:=(by omega);have HR:Hid ((0:Int)=rv):=ae (by
     have:r=true:=by
      rw [HL2.out];refine List.all_eq_true.2 fun f hf=> ?_;obtain⟨j,hj,rfl⟩:=HMm.out f hf;simpa using HF.out j hj
     rw [←HRv.out,this];rfl)
    go_wp2_with fail
    go_ret;exact⟨bH HR.out,Bw.out⟩
 ·have hn100:(100:Int) < (n:Int):=by
   rcases hcn with h | h <;> omega
  have HR:Hid ((1:Int)=rv):=ae (by rw [←HRv.out,HL.out,decide_eq_false ht];rfl);have HE:=ae (af B0.out BW1.out);clear hcn;go_wp2_with fail
  go_ret;exact⟨bH HR.out,HE.out⟩
end Go.Proofs.YtfdhemcahjommaaGreatDoor
