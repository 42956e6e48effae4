/- Texts of one chain, joined. -/
import Derived.Test.YtaiaakklokahjaaGreatDoorZWaAY
import Derived.Lib.SlicesCompact
set_option maxHeartbeats 1000000
set_option maxRecDepth 20000
namespace Go.Proofs.YtaiaakklokahjaaGreatDoor
open Go Go.RowKit
theorem mC {f g:Nat→Bool}:∀ {m:Nat},(∀i,i < m→f i=g i)→cE f m=cE g m
 |0,_=>rfl
 |m+1,h=>by rw [cE,cE,h m (Nat.lt_succ_self _),mC fun i hi=>h i (Nat.lt_succ_of_lt hi)]
def dp (V:List Int) (b:Nat→Bool) (m:Nat):List Int:=((List.range m).filter b).map fun n=>V.getD n 0
theorem kO (V:List Int) (b:Nat→Bool) (m:Nat):dp V b (m+1)=dp V b m ++ if b m then [V.getD m 0] else []:=by
 unfold dp;rw [List.range_succ,List.filter_append,List.map_append];congr 1
 cases h:b m <;> simp [h]
theorem iJ {V:List Int} {b:Nat→Bool} {m:Nat}:∀k,(∀i,m≤i→i < m+k→b i=false)→dp V b (m+k)=dp V b m
 |0,_=>rfl
 |k+1,h=>by
  rw [←Nat.add_assoc,kO,h (m+k) (by omega) (by omega),iJ k fun i h1 h2=>h i h1 (by omega)];simp
theorem Ba (V:List Int) (b:Nat→Bool) (m:Nat):(dp V b m).length≤m:=by
 unfold dp;rw [List.length_map];exact Nat.le_trans (List.length_filter_le _ _) (by rw [List.length_range];exact Nat.le_refl _)
def gx (b:Nat→Bool) (I k:Nat):Nat→Bool:=fun i=>decide (k≤i) && b (64 * I+i)
theorem vD (b:Nat→Bool) (I:Nat):cE (gx b I 0) 64=wd b I:=mC fun i _=>by simp [gx]
theorem xG {b:Nat→Bool} {I k t:Nat} (h:cE (gx b I k) 64≠0) (ht:Lib.ctz 64 (cE (gx b I k) 64)=t) (V:List Int):
  t < 64∧b (64 * I+t)=true∧dp V b (64 * I+(t+1))=dp V b (64 * I+k) ++ [V.getD (64 * I+t) 0]∧cE (gx b I k) 64 &&& (cE (gx b I k) 64 - 1)=cE (gx b I (t+1)) 64:=by
 obtain⟨t',h1,h2,h3,h4,h5⟩:=Ib h;rw [ht] at h2;subst h2;unfold gx at h3;simp only [Bool.and_eq_true,decide_eq_true_eq] at h3;refine⟨h1,h3.2,?_,?_⟩
 ·rw [←Nat.add_assoc,kO,h3.2,if_pos rfl];congr 1
  obtain⟨d,hd⟩:∃d,t=k+d:=⟨t - k,by omega⟩;rw [hd,←Nat.add_assoc];refine iJ d fun i hi1 hi2=> ?_;have q:=h4 (i - 64 * I) (by omega);unfold gx at q;rw [decide_eq_true (show k≤i - 64 * I by omega),show 64 * I+(i - 64 * I)=i by omega] at q;simpa using q
 ·rw [h5];refine mC fun i _=> ?_;unfold gx;by_cases q:t < i
  ·rw [decide_eq_true q,decide_eq_true (show k≤i by omega),decide_eq_true (show t+1≤i by omega)];simp
  ·rw [decide_eq_false q,decide_eq_false (show ¬t+1≤i by omega)];simp
theorem AZ {b:Nat→Bool} {I k:Nat} (h:cE (gx b I k) 64=0) (hk:k≤64) (V:List Int):dp V b (64 * (I+1))=dp V b (64 * I+k):=by
 obtain⟨d,hd⟩:∃d,64 * (I+1)=64 * I+k+d:=⟨64 - k,by omega⟩;rw [hd];refine iJ d fun i hi1 hi2=> ?_;have q:=jF (gx b I k) 64 (i - 64 * I);rw [h,Nat.zero_testBit] at q;unfold gx at q;rw [decide_eq_true (show k≤i - 64 * I by omega),decide_eq_true (show i - 64 * I < 64 by omega),show 64 * I+(i - 64 * I)=i by omega] at q;simpa using q.symm
theorem EA {x:Nat} (h:x≠0):x &&& (x - 1) < x:=Nat.lt_of_le_of_lt Nat.and_le_right (by omega)
theorem KV {x:Nat} (hx:x < 18446744073709551616) (h:x≠0):bits .and .u64 (x:Int) ((x:Int) - 1)=((x &&& (x - 1):Nat):Int):=by
 have e:(x:Int) - 1=((x - 1:Nat):Int):=by omega
 rw [e,uz hx (by omega)]
theorem Gx {B g c W cv:Nat} {b:Nat→Bool} {V:List Int} {ao:Option Addr} {w:World} (h:aN w B g c W b) (hV:Sl w ao V) (hb:∀n,n < 64 * W→b n=true→n < V.length) (hT:lK w) (hW:W≤100000):
  Calls Tryz.prog 72 #[.slice (some ⟨g,0,none⟩) W c,.slice ao V.length cv] w fun e w'=>∃u,e= .returned u∧w'.ownsRow w.heap.size 3 1 u (dp V b (64 * W)).length (ints (dp V b (64 * W)))∧Below w.heap.size w w':=by
 obtain⟨i0,hi0,hz0,hz1,hz2⟩:=info_parts Tryz.cU;have HS:=aa h;have HV:=aa hV;have HT:=aa hT;have HB:=aa hb;have CC:=aa (qS h (by omega));have hcl:=se b (64 * W);clear h hV hT hb;generalize eK b (64 * W)=C at *;obtain⟨vl,hvl⟩:∃n,V.length=n:=⟨_,rfl⟩;have Hvl:=aa hvl;rw [hvl];clear hvl;go_enter Tryz.func72,Tryz.ntmps72
 go_wp2_with (first | (go_at_call 62;refine CC.out.mono ?_;rintro e w1 ⟨rfl,rfl⟩) | (at_make;refine wpList_make_own _ rfl _ _ 26 rfl w1.heap.size 3 i0 _ 1 Tryz.underlying26 hi0 hz0 hz1 .i64 .i64 C C rfl rfl rfl (by rw [hz2];omega) (by unfold maxLen;omega) (Nat.le_refl _) ?_;intro w2 own2 grow2;refine Hid.out ?_))
 have HG:Hid (Grw w1 (dp V b (64 * 0)) (.slice (some ⟨w1.heap.size,0,none⟩) 0 C) w2):=aa ⟨own2,jX grow2⟩;clear own2 grow2 CC;refine aa ?_;go_wp2_with fail
 go_loopw [5,13] (fun lv iv wr=>∃I:Nat,I≤W∧iv= .int .i64 I∧Hid (Grw w1 (dp V b (64 * I)) lv wr)) (fun _ iv _=>W - (intOf iv).toNat)
 case atStart=>exact⟨0,Nat.zero_le _,rfl,HG⟩
 case round=>
  clear HG;obtain⟨I,hI,rfl,HG⟩:=hrel;by_cases hit:I < W
  ·have hiI:(I:Int) < W:=(by omega);have c1:=(HS.out.below HG.out.2).cell hit;obtain⟨x,hx⟩:∃x,wd b I=x:=⟨_,rfl⟩;have HX0:Hid (x=cE (gx b I 0) 64):=aa (by rw [vD,hx]);rw [hx] at c1;clear hx;have HG0:Hid (Grw w1 (dp V b (64 * I+0)) u5 wr):=HG;clear HG;go_wp2_with fail
   go_loopw [5,7] (fun lv xv wr=>∃k x:Nat,k≤64∧xv= .int .u64 x∧Hid (x=cE (gx b I k) 64)∧Hid (Grw w1 (dp V b (64 * I+k)) lv wr)) (fun _ xv _=>(intOf xv).toNat)
   case atStart=>exact⟨0,x,Nat.zero_le _,rfl,HX0,HG0⟩
   case round=>
    clear HG0 HX0;obtain⟨k,x,hk,rfl,HX,HG⟩:=hrel;by_cases hx:x=0
    ·subst hx;have HE:Hid (Grw w1 (dp V b (64 * (I+1))) u5 wr):=aa (by rw [AZ HX.out.symm hk];exact HG.out);go_wp2_with fail
     go_roundw
     case rel=>exact⟨I+1,by omega,by go_num,HE⟩
     case measure=>simp [intOf];omega
    ·have hxl:x < 18446744073709551616:=(by rw [HX.out];exact iT _ 64);obtain⟨t,ht⟩:∃t,Lib.ctz 64 x=t:=⟨_,rfl⟩;have CT:=aa (JY x wr hxl hx (HT.out.below HG.out.2));have hsub:=KV hxl hx;have hless:=EA hx;obtain⟨q1,q2,q3,q4⟩:=xG (b:=b) (I:=I) (k:=k) (t:=t) (by rw [←HX.out];exact hx) (by rw [←HX.out];exact ht) V;rw [←HX.out] at q4;rw [ht] at CT;have hlen:=Ba V b (64 * I+k);have hnV:=HB.out (64 * I+t) (by omega) q2;obtain⟨gV,oV,rfl,cV⟩:=dP (HV.out) (i:=64 * I+t) hnV;have hgV:=World.block_lt_of_cell? _ _ cV;replace cV:=(HG.out.2.cell (p:=⟨gV,oV+(64 * I+t),none⟩) hgV).trans cV;rw [Hvl.out] at hnV;obtain⟨J,hJ⟩:∃J,64 * I+t=J:=⟨_,rfl⟩;have hJI:(64:Int) * I+t=(J:Int):=(by omega);rw [hJ] at hnV cV q3;have hnI:(J:Int) < vl:=(by omega);have hJ2:J≤10000000:=(by omega);have HX2:=aa q4;have HP:=aa q3;generalize V.getD J 0=m at *;generalize x &&& (x - 1)=y at *;have hne:((x:Int) != 0)=true:=(by simp;omega);have hne2:((x:Int) == 0)=false:=(by simp;omega);clear HX q2 q3 q4 ht;have hbs:=HG.out.2.size;clear hJ;go_wp2_with (first | (go_at_call 108;refine CT.out.mono ?_;rintro e w2 ⟨rfl,hw2⟩;subst hw2) | (at_builtin;refine wpList_append_own _ rfl (.tmp 24) (.tmp 33) 26 rfl w1.heap.size 3 i0 _ 1 8 Tryz.underlying26 hi0 hz0 hz1 hz2 rfl (by decide) _ _ _ rfl (HG.out.1.alloc _) ⟨w2.heap.size,0,none⟩ 1 1 [.int .i64 m] rfl rfl one_cell one_one (by unfold maxLen;omega) (by omega) (by simp;omega) ?_;intro v2 w4 own2 grow2 _;refine Hid.out ?_))
     have HE:Hid (Grw w1 (dp V b (64 * I+(t+1))) v2 w4):=aa (by rw [HP.out];exact HG.out.step own2 grow2);clear own2 grow2;refine aa ?_;go_wp2_with fail
     go_roundw
     case rel=>exact⟨t+1,y,by omega,rfl,aa HX2.out,HE⟩
     case measure=>simp [intOf];omega
  ·obtain rfl:I=W:=(by omega);go_wp2_with fail
   go_ret;exact⟨_,rfl,HG.out.1,HG.out.2⟩
open G (Tok Er Ins Fun)
def Inn (V:List Int) (E:Nat→Bool):Prop:=∀n,V.length≤n→E n=false
def dX (V:List Int) (f:Fun) (k i:Nat) (E:Nat→Bool):Nat→Bool:=fun n=>
 decide (n < V.length) && (decide (eR f k i (V.getD n 0)=1) || (decide (eR f k i (V.getD n 0)=0) && E n))
def il (V:List Int) (x:Ins) (E:Nat→Bool):Nat→Bool:=fun n=>E n && !dJ (V.getD n 0) x
def xE (V:List Int) (x:Ins) (E:Nat→Bool):Nat→Bool:=fun n=>decide (n < V.length) && (ay x.2.2.2.2.1 (V.getD n 0) || (E n && !dJ (V.getD n 0) x))
theorem yp (V:List Int) (f:Fun) (k i:Nat) (E:Nat→Bool):Inn V (dX V f k i E):=fun n h=>by unfold dX;rw [decide_eq_false (by omega)];rfl
theorem Fk {V:List Int} {f:Fun} {k i:Nat} {E:Nat→Bool} (hE:Inn V E) (h:(ag f k).length≤i):dX V f k i E=E:=by
 funext n;unfold dX;rw [nY h];by_cases hn:n < V.length
 ·simp [hn]
 ·simp [hn,hE n (by omega)]
theorem D7 {V:List Int} {f:Fun} {k i:Nat} (E:Nat→Bool) (hi:i < (ag f k).length) (h20:(au f k i).1≠20):dX V f k i E=xE V (au f k i) (dX V f k (i+1) E):=by
 funext n;unfold dX xE;dsimp only
 rw [mU hi];have ht:tkX (V.getD n 0) (au f k i)=ay (au f k i).2.2.2.2.1 (V.getD n 0):=by unfold tkX;simp [h20]
 rw [ht];generalize eR f k (i+1) (V.getD n 0)=q
 cases decide (n < V.length) <;> cases ay (au f k i).2.2.2.2.1 (V.getD n 0) <;> cases dJ (V.getD n 0) (au f k i) <;> simp
theorem FM {V:List Int} {f:Fun} {k i:Nat} (E:Nat→Bool) (hi:i < (ag f k).length) (h20:(au f k i).1=20):dX V f k i E=il V (au f k i) (dX V f k (i+1) E):=by
 funext n;unfold dX il;dsimp only
 rw [mU hi];have ht:tkX (V.getD n 0) (au f k i)=false:=by unfold tkX;simp [h20]
 rw [ht];generalize eR f k (i+1) (V.getD n 0)=q
 cases decide (n < V.length) <;> cases dJ (V.getD n 0) (au f k i) <;> simp
def me (V:List Int) (f:Fun) (k m:Nat) (E:Nat→Bool):Nat→Bool:=fun n=>E n && !((ag f k).take m).any (dJ (V.getD n 0))
theorem uA (V:List Int) (f:Fun) (k:Nat) (E:Nat→Bool):me V f k 0 E=E:=by funext n;simp [me]
theorem tC {V:List Int} {f:Fun} {k m:Nat} (E:Nat→Bool) (h:m < (ag f k).length):me V f k (m+1) E=il V (au f k m) (me V f k m E):=by
 funext n;unfold me il;dsimp only
 rw [aR (iO h),List.any_append,List.any_cons,List.any_nil,Bool.or_false];generalize ((ag f k).take m).any (dJ (V.getD n 0))=a;generalize dJ (V.getD n 0) (au f k m)=c
 cases E n <;> cases a <;> cases c <;> simp_all
theorem BW (V:List Int) (f:Fun) (k m:Nat) (x:Ins) (E:Nat→Bool):me V f k m (il V x E)=il V x (me V f k m E):=by
 funext n;unfold me il;dsimp only
 generalize ((ag f k).take m).any (dJ (V.getD n 0))=a
 cases E n <;> cases a <;> simp
theorem y8 {V:List Int} {f:Fun} {k:Nat} (E:Nat→Bool):∀m,m≤phN (ag f k)→dX V f k 0 E=me V f k m (dX V f k m E)
 |0,_=>(uA V f k _).symm
 |m+1,h=>by
  have hl:=kX (ag f k);have hm:m < (ag f k).length:=by omega
  rw [y8 E m (by omega),FM E hm (tF (b:=ag f k) (i:=m) (by omega)).2,BW,tC _ hm]
theorem Hj {V:List Int} {f:Fun} {k m:Nat} {E:Nat→Bool} (h:Inn V E):Inn V (me V f k m E):=fun n hn=>by unfold me;rw [h n hn];rfl
def jnS (V:List Int) (f:Fun) (k:Nat):Nat→Bool:=fun n=>decide (n < V.length) && f.2.2.2.1.any fun b=>nK k (V.getD n 0) b
def gN (V:List Int) (f:Fun) (H:Nat→Nat→Bool) (k:Nat):Nat→Bool:=fun n=>jnS V f k n || (aB f k).any fun b=>H b.toNat n
def gP (V:List Int) (f:Fun) (k i:Nat):Nat→Bool:=fun n=>decide (n < V.length) && bw f k i (V.getD n 0)
def FW (V:List Int) (f:Fun) (k:Nat):Nat→Bool:=fun n=>decide (n < V.length) && fN f k (V.getD n 0)
theorem JR (V:List Int) (f:Fun) (k:Nat):Inn V (jnS V f k):=fun n h=>by unfold jnS;rw [decide_eq_false (by omega)];rfl
theorem yW (V:List Int) (f:Fun) (k i:Nat):Inn V (gP V f k i):=fun n h=>by unfold gP;rw [decide_eq_false (by omega)];rfl
theorem GH {V:List Int} {f:Fun} {H:Nat→Nat→Bool} (hT:Tos f) (h:∀b,b < f.2.2.2.1.length→Inn V (H b)) (k:Nat):Inn V (gN V f H k):=fun n hn=>by
 unfold gN;rw [JR V f k n hn,Bool.false_or,List.any_eq_false];intro b hb;rw [h _ (ei hT hb).1 n hn];decide
theorem xT (V:List Int) (f:Fun) (k i:Nat):dX V f k i (FW V f k)=gP V f k i:=by
 funext n;unfold dX FW gP bw
 cases decide (n < V.length) <;> simp
def PhF (f:Fun):Prop:=∀b,b < f.2.2.2.1.length→∀i,i < (ag f b).length→(au f b i).1=20→gG f b i=true
theorem DQ {f:Fun} (hP:PhF f) {b k:Nat} (hb:b < f.2.2.2.1.length) {id:Int} (h:nK k id (ag f b)=true):(b:Int)∈aB f k:=by
 obtain⟨i,n,h1,h2,_,h4,h5,_⟩:=sD h;have hp:=hP b hb i h1 h2;rw [Cd hb] at hp;simp only [Bool.and_eq_true] at hp;have hj:=hp.2;unfold yH at hj;simp only [Bool.and_eq_true,List.all_eq_true,decide_eq_true_eq,List.mem_range,EK,Bool.not_eq_true'] at hj;have:=aZ.1 (hj.1 n h4).1;rw [h5] at this;unfold aY at this;simp only [List.mem_map,List.mem_filter,List.mem_range] at this;obtain⟨a,⟨_,q⟩,e⟩:=this;have:a=k:=by have e2:((a:Nat):Int)=(k:Int):=e;omega
 subst this;exact aZ.1 q
theorem yi {V:List Int} {f:Fun} (hT:Tos f) (hP:PhF f) {k:Nat} (hk:k < f.2.2.2.1.length):gN V f (fun b=>gP V f b 0) k=FW V f k:=by
 funext n;unfold gN jnS gP FW;dsimp only
 cases hn:decide (n < V.length)with
 |false=>simp
 |true=>
  simp only [Bool.true_and];rw [Bool.eq_iff_iff,Bool.or_eq_true,List.any_eq_true,List.any_eq_true,qg hT hk];constructor
  ·rintro (⟨b,hb,h⟩ | ⟨b,hb,h⟩)
   ·obtain⟨j,hj⟩:=List.mem_iff_getElem?.1 hb;have hjl:=(List.getElem?_eq_some_iff.1 hj).1;have e:ag f j=b:=(by have:=de hjl;rw [hj] at this;exact(Option.some.inj this).symm);rw [←e] at h;exact⟨(j:Int),DQ hP hjl h,.inl (by simpa using h)⟩
   ·exact⟨b,hb,.inr h⟩
  ·rintro ⟨b,hb,h | h⟩
   ·exact .inl ⟨ag f b.toNat,gY (ei hT hb).1,h⟩
   ·exact .inr ⟨b,hb,h⟩
theorem sX {V:List Int} {f:Fun} {k i n:Nat} {E E':Nat→Bool} (h:E n=true→E' n=true):dX V f k i E n=true→dX V f k i E' n=true:=by
 unfold dX;simp only [Bool.and_eq_true,Bool.or_eq_true];rintro ⟨h1,q | ⟨q1,q2⟩⟩
 ·exact⟨h1,.inl q⟩
 ·exact⟨h1,.inr ⟨q1,h q2⟩⟩
theorem ud {V:List Int} {f:Fun} (hT:Tos f) {k n:Nat} {H H':Nat→Nat→Bool} (h:∀b,b < f.2.2.2.1.length→H b n=true→H' b n=true):gN V f H k n=true→gN V f H' k n=true:=by
 unfold gN;simp only [Bool.or_eq_true,List.any_eq_true];rintro (q | ⟨b,hb,q⟩)
 ·exact .inl q
 ·exact .inr ⟨b,hb,h _ (ei hT hb).1 q⟩
theorem xm {V:List Int} {f:Fun} (hT:Tos f) {H:Nat→Nat→Bool} (hH:∀k n,k < f.2.2.2.1.length→dX V f k 0 (gN V f H k) n=true→H k n=true) {k n:Nat} (hk:k < f.2.2.2.1.length) (h:gP V f k 0 n=true):H k n=true:=by
 have hn:n < V.length:=by
  rcases Nat.lt_or_ge n V.length with q | q
  ·exact q
  ·rw [yW V f k 0 n q] at h;cases h
 have key:∀k,fN f k (V.getD n 0)=true→k < f.2.2.2.1.length→gN V f H k n=true:=fun k h=>by
  refine k8 (S:=fun k=>k < f.2.2.2.1.length→gN V f H k n=true) (fun k ⟨b,hb,q⟩ hk=> ?_) h;have hl:=(ei hT hb).1;unfold gN;simp only [Bool.or_eq_true,List.any_eq_true];rcases q with q | q | ⟨q1,q2⟩
  ·left;unfold jnS;rw [decide_eq_true hn,Bool.true_and,List.any_eq_true];exact⟨_,gY hl,q⟩
  ·exact .inr ⟨b,hb,hH _ n hl (by unfold dX;rw [q,decide_eq_true hn];rfl)⟩
  ·exact .inr ⟨b,hb,hH _ n hl (by unfold dX;rw [q1,q2 hl,decide_eq_true hn];rfl)⟩
 refine hH k n hk ?_;unfold gP at h;rw [decide_eq_true hn,Bool.true_and] at h;unfold dX;rcases dN.1 h with q | ⟨q1,q2⟩
 ·rw [q,decide_eq_true hn];rfl
 ·rw [q1,key k q2 hk,decide_eq_true hn];rfl
def fA (f:Fun) (k p:Nat):Nat:=if p=0 then 0 else nI f k (p - 1)
def fM (V:List Int) (f:Fun) (H:Nat→Nat→Bool) (k p:Nat):Nat→Bool:=dX V f k (fA f k p) (gN V f H k)
def nJ (V:List Int) (f:Fun) (H:Nat→Nat→Nat→Bool) (pend:Nat→Prop):Prop:=
 (∀k,k < f.2.2.2.1.length→∀n,H k 0 n=true→gP V f k 0 n=true)∧
 (∀k,k < f.2.2.2.1.length→∀n,H k 0 n=true→fM V f (fun b=>H b 0) k 0 n=true)∧
 (∀k,k < f.2.2.2.1.length→¬pend k→∀p,p≤(ag f k).length→H k p=fM V f (fun b=>H b 0) k p)
theorem Ic {V:List Int} {f:Fun} {H:Nat→Nat→Nat→Bool} {pend:Nat→Prop} (h:nJ V f H pend) {k:Nat} (hk:k < f.2.2.2.1.length):Inn V (H k 0):=fun n hn=>by
 cases q:H k 0 n with
 |false=>rfl
 |true=>have:=h.1 k hk n q;rw [yW V f k 0 n hn] at this;cases this
theorem Ec {V:List Int} {f:Fun} (hT:Tos f) (hP:PhF f) {H:Nat→Nat→Nat→Bool} {pend:Nat→Prop} (h:nJ V f H pend) {k n:Nat} (hk:k < f.2.2.2.1.length) (q:fM V f (fun b=>H b 0) k 0 n=true):gP V f k 0 n=true:=by
 rw [←xT,←yi hT hP hk];exact sX (ud hT fun b hb=>h.1 b hb n) q
theorem Ce {V:List Int} {f:Fun} (hT:Tos f) (hP:PhF f) {H H':Nat→Nat→Nat→Bool} {pend pend':Nat→Prop} (h:nJ V f H pend) {k:Nat} (hk:k < f.2.2.2.1.length) (ho:∀b,b≠k→H' b=H b)
  (hn:∀p,p≤(ag f k).length→H' k p=fM V f (fun b=>H b 0) k p) (hp:∀b,b < f.2.2.2.1.length→¬pend' b→(b=k∨¬pend b)∧(H' k 0=H k 0∨(k:Int) ∉ aB f b)):
  nJ V f H' pend'∧∀b,b < f.2.2.2.1.length→∀n,H b 0 n=true→H' b 0 n=true:=by
 have hm:∀b,b < f.2.2.2.1.length→∀n,H b 0 n=true→H' b 0 n=true:=fun b hb n q=>by
  by_cases e:b=k
  ·subst e;rw [hn 0 (Nat.zero_le _)];exact h.2.1 b hb n q
  ·rw [ho b e];exact q
 have hnm:∀b n,fM V f (fun b=>H b 0) b 0 n=true→fM V f (fun b=>H' b 0) b 0 n=true:=fun b n=>sX (ud hT fun c hc=>hm c hc n);refine⟨⟨fun b hb n q=> ?_,fun b hb n q=> ?_,fun b hb hnp p hpl=> ?_⟩,hm⟩
 ·by_cases e:b=k
  ·subst e;rw [hn 0 (Nat.zero_le _)] at q;exact Ec hT hP h hb q
  ·rw [ho b e] at q;exact h.1 b hb n q
 ·refine hnm b n ?_;by_cases e:b=k
  ·subst e;rw [hn 0 (Nat.zero_le _)] at q;exact q
  ·rw [ho b e] at q;exact h.2.1 b hb n q
 ·obtain⟨h1,h2⟩:=hp b hb hnp;have he:gN V f (fun c=>H' c 0) b=gN V f (fun c=>H c 0) b:=by
   funext n;unfold gN;congr 1
   rw [Bool.eq_iff_iff,List.any_eq_true,List.any_eq_true];have hq:∀c∈aB f b,H' c.toNat 0=H c.toNat 0:=fun c hc=>by
    by_cases e:c.toNat=k
    ·rcases h2 with q | q
     ·rw [e];exact q
     ·have:=(ei hT hc).2;exact absurd (by rw [←e,Int.toNat_of_nonneg this];exact hc) q
    ·rw [ho _ e]
   constructor
   ·rintro ⟨c,hc,q⟩;exact⟨c,hc,by show H c.toNat 0 n=true;rw [←hq c hc];exact q⟩
   ·rintro ⟨c,hc,q⟩;exact⟨c,hc,by show H' c.toNat 0 n=true;rw [hq c hc];exact q⟩
  unfold fM;rw [he];by_cases e:b=k
  ·subst e;exact hn p hpl
  ·rw [ho b e];rcases h1 with q | q
   ·exact absurd q e
   ·exact h.2.2 b hb q p hpl
theorem Cj {V:List Int} {f:Fun} (hT:Tos f) (hP:PhF f) {H:Nat→Nat→Nat→Bool} (h:nJ V f H (fun _=>False)) {k p:Nat} (hk:k < f.2.2.2.1.length) (hp:p≤(ag f k).length):H k p=gP V f k (fA f k p):=by
 have h0:∀b,b < f.2.2.2.1.length→H b 0=gP V f b 0:=fun b hb=>by
  funext n;rw [Bool.eq_iff_iff];refine⟨h.1 b hb n,fun q=>xm (H:=fun b=>H b 0) hT (fun c m hc q=> ?_) hb q⟩;have:=h.2.2 c hc (fun q=>q) 0 (Nat.zero_le _);show H c 0 m=true;rw [this];exact q
 rw [h.2.2 k hk (fun q=>q) p hp];unfold fM;rw [←xT,←yi hT hP hk];congr 1
 funext n;unfold gN;congr 1
 rw [Bool.eq_iff_iff,List.any_eq_true,List.any_eq_true];constructor
 ·rintro ⟨c,hc,q⟩;exact⟨c,hc,by show gP V f c.toNat 0 n=true;rw [←h0 _ (ei hT hc).1];exact q⟩
 ·rintro ⟨c,hc,q⟩;exact⟨c,hc,by show H c.toNat 0 n=true;rw [h0 _ (ei hT hc).1];exact q⟩
def JG (N M:Nat):List (Nat × Nat):=(List.range N).flatMap fun k=>(List.range M).map fun n=>(k,n)
def muS (V:List Int) (f:Fun) (H:Nat→Nat→Nat→Bool):Nat:=(JG f.2.2.2.1.length V.length).countP fun q=> !H q.1 0 q.2
theorem sC {N M:Nat} {q:Nat × Nat}:q∈JG N M↔q.1 < N∧q.2 < M:=by
 unfold JG;simp only [List.mem_flatMap,List.mem_range,List.mem_map];constructor
 ·rintro ⟨k,hk,n,hn,rfl⟩;exact⟨hk,hn⟩
 ·rintro ⟨h1,h2⟩;exact⟨q.1,h1,q.2,h2,rfl⟩
theorem KU {V:List Int} {f:Fun} {H H':Nat→Nat→Nat→Bool} (h:∀b,b < f.2.2.2.1.length→∀n,H b 0 n=true→H' b 0 n=true):muS V f H'≤muS V f H:=by
 unfold muS;refine List.countP_mono_left fun q hq=> ?_;have:=(sC.1 hq).1;simp only [Bool.not_eq_true'];intro e
 cases e2:H q.1 0 q.2 with
 |false=>rfl
 |true=>rw [h _ this _ e2] at e;cases e
theorem K8 {V:List Int} {f:Fun} {H H':Nat→Nat→Nat→Bool} (h:∀b,b < f.2.2.2.1.length→∀n,H b 0 n=true→H' b 0 n=true) {k:Nat} (hk:k < f.2.2.2.1.length) (hi:Inn V (H' k 0)) (hne:H' k 0≠H k 0):muS V f H' < muS V f H:=by
 obtain⟨n,hn⟩:∃n,H' k 0 n≠H k 0 n:=by
  rcases Classical.em (∃n,H' k 0 n≠H k 0 n)with q | q
  ·exact q
  ·exact absurd (funext fun n=>by rcases Classical.em (H' k 0 n=H k 0 n)with r | r;exact r;exact absurd ⟨n,r⟩ q) hne
 have h1:H k 0 n=false:=by
  cases e:H k 0 n with
  |false=>rfl
  |true=>rw [h k hk n e,e] at hn;exact absurd rfl hn
 have h2:H' k 0 n=true:=by
  cases e:H' k 0 n with
  |true=>rfl
  |false=>rw [e,h1] at hn;exact absurd rfl hn
 have hl:n < V.length:=by
  rcases Nat.lt_or_ge n V.length with q | q
  ·exact q
  ·rw [hi n q] at h2;cases h2
 unfold muS;refine j9 _ _ _ (fun q hq=> ?_) ⟨(k,n),sC.2 ⟨hk,hl⟩,by simp [h1],by simp [h2]⟩;have:=(sC.1 hq).1;simp only [Bool.not_eq_true'];intro e
 cases e2:H q.1 0 q.2 with
 |false=>rfl
 |true=>rw [h _ this _ e2] at e;cases e
theorem xZ (d:Array Int):∀m,(∀i j,i≤j→j < m→d[i]! ≤d[j]!)→(Lib.compactUpTo d m).Pairwise (· < ·)∧∀x,x∈Lib.compactUpTo d m↔∃j,j < m∧d[j]! =x
 |0,_=>by simp [Lib.compactUpTo]
 |m+1,h=>by
  obtain⟨h1,h2⟩:=xZ d m fun i j hi hj=>h i j hi (by omega);rw [Lib.compactUpTo_succ]
  cases hk:Lib.keeps d m with
  |true=>
   rw [if_pos rfl];refine⟨List.pairwise_append.2 ⟨h1,by simp,fun x hx y hy=> ?_⟩,fun x=> ?_⟩
   ·simp only [List.mem_singleton] at hy;subst hy;obtain⟨j,hj,rfl⟩:=(h2 x).1 hx;unfold Lib.keeps at hk;simp only [decide_eq_true_eq] at hk;have a:=h j (m - 1) (by omega) (by omega);have b:=h (m - 1) m (by omega) (by omega);rcases hk with q | q
    ·omega
    ·omega
   ·rw [List.mem_append,h2,List.mem_singleton];constructor
    ·rintro (⟨j,hj,e⟩ | e)
     ·exact⟨j,by omega,e⟩
     ·exact⟨m,by omega,e.symm⟩
    ·rintro ⟨j,hj,e⟩;by_cases q:j=m
     ·subst q;exact .inr e.symm
     ·exact .inl ⟨j,by omega,e⟩
  |false=>
   simp only [Bool.false_eq_true,if_false,List.append_nil];refine⟨h1,fun x=> ?_⟩;rw [h2];unfold Lib.keeps at hk;simp only [decide_eq_false_iff_not,not_or,Classical.not_not] at hk;constructor
   ·rintro ⟨j,hj,e⟩;exact⟨j,by omega,e⟩
   ·rintro ⟨j,hj,e⟩;by_cases q:j=m
    ·subst q;exact⟨j - 1,by omega,by rw [←e];exact hk.2.symm⟩
    ·exact⟨j,by omega,e⟩
def pP (l:List Int):List Int:=l.mergeSort fun x y=>decide (x≤y)
theorem tO (l:List Int):(pP l).Pairwise (· ≤·):=by
 have:=List.pairwise_mergeSort (le:=fun x y:Int=>decide (x≤y)) (fun a b c=>by simp;omega) (fun a b=>by simp;omega) l;exact this.imp fun h=>by simpa using h
theorem Fl {l:List Int} {x:Int}:x∈pP l↔x∈l:=List.mem_mergeSort
theorem sk (l:List Int):(pP l).length=l.length:=List.length_mergeSort l
theorem yF {l:List Int} (h:l.Pairwise (· ≤·)):(Lib.compact l).Pairwise (· < ·)∧∀x,x∈Lib.compact l↔x∈l:=by
 obtain⟨h1,h2⟩:=xZ l.toArray l.length fun i j hij hj=>by
  rw [getElem!_pos l.toArray i (by simp;omega),getElem!_pos l.toArray j (by simpa using hj)];simp only [List.getElem_toArray];rcases Nat.lt_or_ge i j with q | q
  ·exact List.pairwise_iff_getElem.1 h i j _ _ q
  ·obtain rfl:i=j:=(by omega);exact Int.le_refl _
 refine⟨h1,fun x=> ?_⟩;unfold Lib.compact;rw [h2];constructor
 ·rintro ⟨j,hj,rfl⟩;rw [getElem!_pos l.toArray j (by simpa using hj)];simp
 ·intro hx;obtain⟨j,hj,rfl⟩:=List.mem_iff_getElem.1 hx;exact⟨j,hj,by rw [getElem!_pos l.toArray j (by simpa using hj)];simp⟩
def lP (b:List Ins):List Int:=b.flatMap fun x=>x.2.2.2.2.1
def ml (f:Fun):List Int:=f.2.2.2.1.flatMap lP
def aP (f:Fun):List Int:=Lib.compact (pP (ml f))
theorem xD (f:Fun):(aP f).Pairwise (· < ·):=(yF (tO _)).1
theorem ry {f:Fun} {x:Int}:x∈aP f↔∃b∈f.2.2.2.1,∃y∈b,x∈y.2.2.2.2.1:=by
 unfold aP;rw [(yF (tO _)).2,Fl];unfold ml lP;simp only [List.mem_flatMap]
theorem yD (l:List Int):(Lib.compact l).length≤l.length:=by
 unfold Lib.compact Lib.compactUpTo;rw [List.length_map];exact Nat.le_trans (List.length_filter_le _ _) (by simp)
theorem xR (f:Fun):(aP f).length≤(ml f).length:=by
 unfold aP;exact Nat.le_trans (yD _) (by rw [sk];exact Nat.le_refl _)
theorem yg {V:List Int} (h:V.Pairwise (· < ·)) {m:Nat} (hm:m < V.length):V.countP (fun y=>decide (y < V.getD m 0))=m:=by
 have e:V=V.take m ++ V.drop m:=(List.take_append_drop m V).symm;have hx:V.getD m 0=V[m]:=by rw [List.getD_eq_getElem?_getD,List.getElem?_eq_getElem hm];rfl
 rw [hx];have h1:(V.take m).countP (fun y=>decide (y < V[m]))=m:=by
  rw [List.countP_eq_length.2 (fun y hy=> ?_),List.length_take]
  ·omega
  ·obtain⟨j,hj,rfl⟩:=List.mem_iff_getElem.1 hy;rw [List.length_take] at hj;rw [List.getElem_take];simpa using List.pairwise_iff_getElem.1 h j m (by omega) hm (by omega)
 have h2:(V.drop m).countP (fun y=>decide (y < V[m]))=0:=by
  rw [List.countP_eq_zero];intro y hy;obtain⟨j,hj,rfl⟩:=List.mem_iff_getElem.1 hy;rw [List.length_drop] at hj;rw [List.getElem_drop];simp only [decide_eq_true_eq];rcases Nat.eq_zero_or_pos j with q | q
  ·subst q;simp
  ·have:=List.pairwise_iff_getElem.1 h m (m+j) hm (by omega) (by omega);omega
 calc V.countP (fun y=>decide (y < V[m]))=(V.take m ++ V.drop m).countP (fun y=>decide (y < V[m])):=by rw [←e]
  _=m:=by rw [List.countP_append,h1,h2,Nat.add_zero]
def mh (V:List Int) (x:Int):Nat:=V.countP fun y=>decide (y < x)
theorem rB {V:List Int} (h:V.Pairwise (· < ·)) {x:Int} (hx:x∈V):mh V x < V.length∧V.getD (mh V x) 0=x∧∀n,n < V.length→V.getD n 0=x→n=mh V x:=by
 obtain⟨m,hm,e⟩:=List.mem_iff_getElem.1 hx;have hg:V.getD m 0=x:=by rw [List.getD_eq_getElem?_getD,List.getElem?_eq_getElem hm];exact e
 have hi:=yg h hm;rw [hg] at hi;have hi2:mh V x=m:=hi;rw [hi2];refine⟨hm,hg,fun n hn hne=> ?_⟩;have:=yg h hn;rw [hne] at this;rw [←this,hi]
def oO (V:List Int) (b:Nat→Bool) (a:Int):Nat→Bool:=fun n=>(decide (n < V.length) && decide (V.getD n 0=a)) || b n
theorem FZ {V:List Int} (h:V.Pairwise (· < ·)) {a:Int} (ha:a∈V) (b:Nat→Bool):fZ b (mh V a) true=oO V b a:=by
 obtain⟨h1,h2,h3⟩:=rB h ha;funext n;unfold fZ oO;by_cases e:n=mh V a
 ·rw [if_pos e,e,h2,decide_eq_true h1];simp
 ·rw [if_neg e];by_cases q:n < V.length∧V.getD n 0=a
  ·exact absurd (h3 n q.1 q.2) e
  ·have:(decide (n < V.length) && decide (V.getD n 0=a))=false:=by
    cases r:(decide (n < V.length) && decide (V.getD n 0=a))with
    |false=>rfl
    |true=>simp only [Bool.and_eq_true,decide_eq_true_eq] at r;exact absurd r q
   rw [this,Bool.false_or]
theorem drop_set {V:List Int} (h:V.Pairwise (· < ·)) {x:Ins} (hm:mkX x≠0) (hx:x.2.1∈V) {b:Nat→Bool} (hb:Inn V b):fZ b (mh V x.2.1) false=il V x b:=by
 obtain⟨h1,h2,h3⟩:=rB h hx;funext n;unfold fZ il dJ;by_cases e:n=mh V x.2.1
 ·rw [if_pos e,e,h2];simp [hm]
 ·rw [if_neg e];by_cases q:n < V.length
  ·have:¬x.2.1=V.getD n 0:=fun r=>e (h3 n q r.symm);simp only [this,decide_false,Bool.false_and,Bool.not_false,Bool.and_true]
  ·rw [hb n (by omega)];simp
theorem BL {V:List Int} {x:Ins} (h:mkX x=0∨x.2.1 ∉ V) {b:Nat→Bool} (hb:Inn V b):il V x b=b:=by
 funext n;unfold il dJ;rcases h with h | h
 ·simp [h]
 ·by_cases q:n < V.length
  ·have:¬x.2.1=V.getD n 0:=fun r=>h (by rw [r,List.getD_eq_getElem?_getD,List.getElem?_eq_getElem q];exact List.getElem_mem q);simp only [this,decide_false,Bool.false_and,Bool.not_false,Bool.and_true]
  ·rw [hb n (by omega)];simp
def pZ (V:List Int) (b:Nat→Bool) (l:List Int):Nat→Bool:=fun n=>(decide (n < V.length) && ay l (V.getD n 0)) || b n
theorem D8 (V:List Int) (b:Nat→Bool):pZ V b []=b:=by funext n;simp [pZ,ay]
theorem Bn (V:List Int) (b:Nat→Bool) (l:List Int) (a:Int):pZ V b (l ++ [a])=oO V (pZ V b l) a:=by
 funext n;unfold pZ oO ay;dsimp only
 rw [List.any_append,List.any_cons,List.any_nil,Bool.or_false,show decide (a=V.getD n 0)=decide (V.getD n 0=a) from by rw [Bool.eq_iff_iff,decide_eq_true_eq,decide_eq_true_eq];exact eq_comm];generalize decide (n < V.length)=d;generalize (l.any fun m=>decide (m=V.getD n 0))=p;generalize decide (V.getD n 0=a)=e
 cases d <;> cases p <;> cases e <;> simp
theorem Cy {V:List Int} {x:Ins} {E:Nat→Bool} (hE:Inn V E):pZ V (il V x E) x.2.2.2.2.1=xE V x E:=by
 funext n;unfold pZ il xE;by_cases q:n < V.length
 ·simp [q]
 ·simp [q,hE n (by omega)]
def lA (V:List Int) (L:List (Int × Int)) (k:Nat):Nat→Bool:=fun n=>decide (n < V.length) && L.any fun q=>decide (q.1=(k:Int)) && decide (q.2=V.getD n 0)
theorem Gu (V:List Int) (k:Nat):lA V [] k=noB:=by funext n;simp [lA,noB]
theorem GG {V:List Int} {L:List (Int × Int)} {k:Nat} {a:Int}:lA V (L ++ [((k:Int),a)]) k=oO V (lA V L k) a:=by
 funext n;unfold lA oO;dsimp only
 rw [List.any_append,List.any_cons,List.any_nil,Bool.or_false,show decide (a=V.getD n 0)=decide (V.getD n 0=a) from by rw [Bool.eq_iff_iff,decide_eq_true_eq,decide_eq_true_eq];exact eq_comm,decide_eq_true rfl,Bool.true_and];generalize decide (n < V.length)=d;generalize (L.any fun q=>decide (q.1=(k:Int)) && decide (q.2=V.getD n 0))=p;generalize decide (V.getD n 0=a)=e
 cases d <;> cases p <;> cases e <;> simp
theorem uh {V:List Int} {L:List (Int × Int)} {k:Nat} {fr a:Int} (h:fr≠k):lA V (L ++ [(fr,a)]) k=lA V L k:=by
 funext n;unfold lA;rw [List.any_append];simp [h]
def phP (x:Ins):List (Int × Int):=x.2.2.2.2.2.1.zip x.2.2.2.2.1
def jnP (b:List Ins):List (Int × Int):=(b.takeWhile fun x=>decide (x.1=20)).flatMap phP
theorem Gt (V:List Int) (f:Fun) (k:Nat):lA V (f.2.2.2.1.flatMap jnP) k=jnS V f k:=by
 funext n;unfold lA jnS;congr 1
 rw [List.any_flatMap];congr 1
 funext b;unfold jnP nK;rw [List.any_flatMap];rfl
theorem y9 {V:List Int} {va:Option Addr} {w:World} (hV:Sl w va V) (hs:V.Pairwise (· < ·)) (hl:V.length≤64000000) (x:Int) (cv:Nat):
  Calls Tryz.prog 149 #[.slice va V.length cv,.int .i64 x] w fun e w'=>e= .returned (.tuple #[.int .i64 (mh V x:Nat),.bool (V.contains x)])∧∃q,w'=w.drewN q:=by
 rcases hV with rfl | ⟨b,o,rfl,hb,hc⟩
 ·exact(Tryz.slices_BinarySearch_int_empty va cv x _).mono fun e w' ⟨h1,h2⟩=>⟨h1,0,h2⟩
 ·have q:=Tryz.slices_BinarySearch_int b o V.length cv V x w (Nat.le_refl _) (by omega) (fun j hj=>hc j _ (by rw [List.getElem?_eq_getElem hj,List.getD_eq_getElem?_getD,List.getElem?_eq_getElem hj];rfl)) (by rw [List.take_length];exact hs.imp fun h=>Int.le_of_lt h);rw [List.take_length] at q;exact q
theorem qi {B g c W lp cv:Nat} {b:Nat→Bool} {V:List Int} {va:Option Addr} {a:Int} {w:World} (c5:w.cell? ⟨lp,5,none⟩=some (.slice va V.length cv)) (hV:Sl w va V) (hs:V.Pairwise (· < ·)) (ha:a∈V) (h:aN w B g c W b) (hW:V.length≤64 * W) (hW2:W≤1000000):
  Calls Tryz.prog 101 #[.pointer (some ⟨lp,0,none⟩),.slice (some ⟨g,0,none⟩) W c,.int .i64 a] w fun e w'=>e= .returned (.tuple #[])∧aN w' B g c W (oO V b a)∧Kf (· =g) w w':=by
 have CB:=aa (y9 hV hs (by omega) a cv);obtain⟨h1,_,_⟩:=rB hs ha;have CA:=aa (fun q=>Gd (w:=w.drewN q) (lR q h) (mh V a) (by omega) hW2);have HE:=aa (FZ hs ha b);clear hV hs ha h h1 hW;generalize mh V a=I at *;generalize V.contains a=u at *;generalize V.length=vl at *;go_enter Tryz.func101,Tryz.ntmps101
 go_wp2_with fail
 refine CB.out.mono ?_;rintro e w1 ⟨rfl,q,rfl⟩;have C1:=aa (CA.out q);clear CB CA;go_wp2_with fail
 refine C1.out.mono ?_;rintro e w2 ⟨rfl,h1,h2⟩;rw [HE.out] at h1;have H1:=aa h1;have H2:=aa h2;clear h1 h2;go_wp2_with fail
 go_end0
 exact⟨rfl,H1.out,H2.out⟩
abbrev s9 (x:Ins) (ao to:Option Addr) (ca ct:Nat):Array Value:= #[.int .i64 x.1,.int .i64 x.2.1,.int .i64 x.2.2.1,.int .i64 x.2.2.2.1,.slice ao x.2.2.2.2.1.length ca,.slice to x.2.2.2.2.2.1.length ct,.string (bs x.2.2.2.2.2.2.1),.int .i64 x.2.2.2.2.2.2.2]
theorem o8 {B g c W lp cv:Nat} {b:Nat→Bool} {V:List Int} {va:Option Addr} {x:Ins} {v:Value} {w:World} (hv:ib w x v) (hT:L5.Tab w) (c5:w.cell? ⟨lp,5,none⟩=some (.slice va V.length cv)) (hV:Sl w va V) (hs:V.Pairwise (· < ·)) (h:aN w B g c W b) (hb:Inn V b) (hW:V.length≤64 * W) (hW2:W≤1000000):
  Calls Tryz.prog 106 #[.pointer (some ⟨lp,0,none⟩),.slice (some ⟨g,0,none⟩) W c,v] w fun e w'=>e= .returned (.tuple #[])∧aN w' B g c W (il V x b)∧Kf (· =g) w w':=by
 obtain⟨ao,to,ca,ct,rfl,_⟩:=hv;have hlp:=World.block_lt_of_cell? _ _ c5;have b1:=af w (.cells (s9 x ao to ca ct) 41);have CM:Hid (Calls Tryz.prog 76 #[.agg (s9 x ao to ca ct)] (w.alloc (.cells (s9 x ao to ca ct) 41)) fun e w'=>e= .returned (.int .i64 (mkX x))∧Below (w.alloc (.cells (s9 x ao to ca ct) 41)).heap.size (w.alloc (.cells (s9 x ao to ca ct) 41)) w'):=aa (L5.Bb x.1 x.2.2.2.1 _ _ _ _ _ _ _ (hT.below b1));have HB:=aa (fun w' (k:Below w.heap.size w w') (n:Nat)=>y9 (w:=w'.drewN n) (show Sl w' va V from hV.below k) hs (by omega) x.2.1 cv);have HS:=aa (fun w' (k:Below w.heap.size w w') q=>lR q (h.below k));have H0:=aa (heap_alloc_new w (.cells (s9 x ao to ca ct) 41));have HD:Hid (∀w',mkX x≠0→aN w' B g c W (fZ b (mh V x.2.1) false)→V.contains x.2.1=true→aN w' B g c W (il V x b)):=aa (fun w' hm h2 hc=>by rw [←drop_set hs hm (by simpa using hc) hb];exact h2);have HN:Hid (∀w',mkX x=0∨V.contains x.2.1=false→aN w' B g c W b→aN w' B g c W (il V x b)):=aa (fun w' hm h2=>by
  rw [BL (hm.imp id fun q=>by intro q2;have:=List.contains_iff_mem.2 q2;rw [q] at this;cases this) hb];exact h2)
 have HL:Hid (V.contains x.2.1=true→mh V x.2.1 < 64 * W):=aa (fun hc=>by have:=(rB hs (by simpa using hc)).1;omega);have B1:=aa b1;have c51:=(b1.cell (p:=⟨lp,5,none⟩) hlp).trans c5;clear hT hV hs h hb hW b1 c5 hlp;go_enter Tryz.func106,Tryz.ntmps106
 go_upto_region 1 with fail
 show Code.wp _ _ _ _ (w.alloc (.cells (s9 x ao to ca ct) 41));generalize w.alloc (.cells (s9 x ao to ca ct) 41)=W1 at *;obtain⟨x0,x1,x2,x3,x4,x5,x6,x7⟩:=pF H0.out;go_wp2_with fail
 refine CM.out.mono ?_;rintro e w1 ⟨rfl,b1⟩;have B2:=aa (ae B1.out b1);have c52:=(b1.cell (p:=⟨lp,5,none⟩) (World.block_lt_of_cell? _ _ c51)).trans c51;have H1:=aa ((b1.block _ (Array.getElem?_eq_some_iff.1 H0.out).1).trans H0.out);clear b1 c51 H0 CM x0 x1 x2 x3 x4 x5 x6 x7;obtain⟨x0,x1,x2,x3,x4,x5,x6,x7⟩:=pF H1.out;obtain⟨m,hm⟩:∃m,mkX x=m:=⟨_,rfl⟩;rw [hm] at HD HN ⊢;clear hm;by_cases h0:m=0
 ·subst h0;have HE:=aa (HN.out w1 (.inl rfl) (HS.out w1 B2.out 0));go_wp2_with fail
  refine bodyPost_ret (results_none rfl _ _ _) rfl ?_;exact⟨rfl,HE.out,Kf.br B2.out⟩
 ·have hb0:(m == 0)=false:=by simpa using h0
  have CB:=aa (HB.out w1 B2.out);obtain⟨I,hI⟩:∃I,mh V x.2.1=I:=⟨_,rfl⟩;obtain⟨u,hu⟩:∃u,V.contains x.2.1=u:=⟨_,rfl⟩;rw [hI,hu] at CB HD HL;rw [hu] at HN;clear hI hu;obtain⟨vl,hvl⟩:∃vl,V.length=vl:=⟨_,rfl⟩;rw [hvl] at CB c52;clear hvl HB;go_wp2_with fail
  go_quiet (first | (go_at_call 149;exact Calls.quiet_of (CB.out _)))
  cases u with
  |false=>
   have HE:=aa (HN.out (w1.drewN nq) (.inr rfl) (HS.out w1 B2.out nq));go_wp2_with fail
   go_end0
   exact⟨rfl,HE.out,(Kf.br B2.out).drew nq⟩
  |true=>
   have C2:=aa (wJ (HS.out w1 B2.out nq) I (HL.out rfl) hW2);go_wp2_with fail
   refine C2.out.mono ?_;rintro e w2 ⟨rfl,h1,h2⟩;have HE:=aa (HD.out w2 h0 h1 trivial);have HK:=aa (((Kf.br (F:=(· =g)) B2.out).drew nq).trans h2 fun y hy=> .inl hy);clear h1 h2;go_wp2_with fail
   go_end0
   exact⟨rfl,HE.out,HK.out⟩
def gS (l:List Int) (id:Int):List Int:=l.filter fun n=>decide (n≠id)
theorem Ae {l:List Int} {id n:Int} {j:Nat} (h:l[j]? =some n):gS (l.take (j+1)) id=if n≠id then gS (l.take j) id ++ [n] else gS (l.take j) id:=by
 unfold gS;rw [aR h,List.filter_append];by_cases e:n=id
 ·simp [e]
 ·simp [e]
theorem sj (l:List Int) (id:Int):(gS l id).length≤l.length:=List.length_filter_le _ _
theorem tN (l:List Int) (id:Int) (ao:Option Addr) (c:Nat) (w:World) (hs:Sl w ao l) (hl:l.length≤1000000):
  Calls Tryz.prog 14 #[.slice ao l.length c,.int .i64 id] w fun e w'=>∃v,e= .returned v∧Grw w (gS l id) v w':=by
 have HS:=aa hs;obtain⟨n,hn⟩:∃n,l.length=n:=⟨_,rfl⟩;have Hn:=aa hn;rw [hn] at hl ⊢;clear hs hn;obtain⟨i0,hi0,hz0,hz1,hz2⟩:=info_parts Tryz.cU;go_enter Tryz.func14,Tryz.ntmps14
 go_wp2_with fail
 go_loopw [5,6] (fun v i wr=>∃J:Nat,J≤n∧i= .int .i64 J∧Hid (Grw w (gS (l.take J) id) v wr)) (fun _ i _=>n - (intOf i).toNat)
 case atStart=>exact⟨0,Nat.zero_le _,rfl,aa (Grw.start _)⟩
 case round=>
  obtain⟨J,hJ,rfl,HG⟩:=hrel;by_cases hjn:J < n
  ·have hjI:(J:Int) < n:=(by omega);obtain⟨g,o,rfl,cj⟩:=dP HS.out (i:=J) (by rw [Hn.out];exact hjn);obtain⟨x,hx⟩:∃x,l.getD J 0=x:=⟨_,rfl⟩;have hxa:l[J]? =some x:=(by rw [←hx,List.getD_eq_getElem?_getD,List.getElem?_eq_getElem (by rw [Hn.out];exact hjn)];rfl);have HM:=aa (Ae (id:=id) hxa);rw [hx] at cj;replace cj:=(HG.out.2.cell (p:=⟨g,o+J,none⟩) (World.block_lt_of_cell? w _ cj)).trans cj;have hle:(gS (l.take J) id).length≤1000000:=Nat.le_trans (sj _ _) (by rw [List.length_take];omega);have hws:=HG.out.2.size;clear hx hxa;by_cases he:x=id
   ·have k1:(x != id)=false:=(by rw [bne_eq_false_iff_eq];exact he);have HE:Hid (Grw w (gS (l.take (J+1)) id) _ wr):=aa (by rw [HM.out,if_neg (by simpa using he)];exact HG.out);clear he;go_wp2_with fail
    go_roundw
    case rel=>exact⟨J+1,by omega,by go_num,HE⟩
    case measure=>simp [intOf];omega
   ·have k1:(x != id)=true:=bne_iff_ne.2 he;have HM2:Hid (gS (l.take (J+1)) id=gS (l.take J) id ++ [x]):=aa (by rw [HM.out,if_pos he]);clear he;go_wp2_with (at_builtin;refine wpList_append_own _ rfl (.tmp 19) (.tmp 24) 26 rfl w.heap.size 3 i0 _ 1 8 Tryz.underlying26 hi0 hz0 hz1 hz2 rfl (by decide) _ _ _ rfl (HG.out.1.alloc _) ⟨wr.heap.size,0,none⟩ 1 1 [.int .i64 x] rfl rfl one_cell one_one (by unfold maxLen;omega) (by omega) (by simp;omega) ?_;intro v2 w2 own2 grow2 _)
    have HE:Hid (Grw w (gS (l.take (J+1)) id) v2 w2):=aa (by rw [HM2.out];exact HG.out.step own2 grow2);clear own2 grow2;go_wp2_with fail
    go_roundw
    case rel=>exact⟨J+1,by omega,by go_num,HE⟩
    case measure=>simp [intOf];omega
  ·obtain rfl:J=n:=(by omega);have HE:Hid (Grw w (gS l id) _ wr):=aa (by
    have:=HG.out;rw [←Hn.out,List.take_length] at this;exact this)
   go_wp2_with fail
   go_ret;exact⟨_,rfl,HE.out⟩
def tU (l of:List Int):Bool:=l.all fun n=>ay of n
theorem iK (l of:List Int) (ao bo:Option Addr) (c cb:Nat) (w:World) (hs:Sl w ao l) (hb:Sl w bo of) (hl:l.length≤1000000) (hlb:of.length≤maxLen):
  Calls Tryz.prog 10 #[.slice ao l.length c,.slice bo of.length cb] w fun e w'=>e= .returned (.bool (tU l of))∧w'=w:=by
 have HS:=aa hs;have CH:=aa (fun n=>dr of n bo cb w hb hlb);obtain⟨n,hn⟩:∃n,l.length=n:=⟨_,rfl⟩;have Hn:=aa hn;obtain⟨m,hm⟩:∃n,of.length=n:=⟨_,rfl⟩;rw [hm] at CH;rw [hn] at hl;rw [hn,hm];clear hs hn hb hlb hm;obtain⟨r,hr⟩:∃r,tU l of=r:=⟨_,rfl⟩;rw [hr];have HR:=aa hr;clear hr;go_enter Tryz.func10,Tryz.ntmps10
 go_wp2_with fail
 go_loop [5] (fun i=>∃J:Nat,J≤n∧i= .int .i64 J∧Hid (∀j,j < J→ay of (l.getD j 0)=true)) (fun i=>n - (intOf i).toNat)
 case atStart=>exact⟨0,Nat.zero_le _,rfl,aa (fun j h=>absurd h (Nat.not_lt_zero _))⟩
 case round=>
  obtain⟨J,hJ,rfl,HJ⟩:=hrel;by_cases hjn:J < n
  ·have hjI:(J:Int) < n:=(by omega);obtain⟨g,o,rfl,cj⟩:=dP HS.out (i:=J) (by rw [Hn.out];exact hjn);obtain⟨x,hx⟩:∃x,l.getD J 0=x:=⟨_,rfl⟩;rw [hx] at cj;have C1:=aa (CH.out x)
   cases hh:ay of x with
   |true=>
    rw [hh] at C1;have HE:Hid (∀j,j < J+1→ay of (l.getD j 0)=true):=aa (fun j hj=>by
     by_cases e:j=J
     ·rw [e,hx];exact hh
     ·exact HJ.out j (by omega))
    clear hx hh;go_wp2_with (go_at_call 35;refine C1.out.mono ?_;rintro e w1 ⟨rfl,rfl⟩)
    go_round
    case rel=>exact⟨J+1,by omega,by go_num,HE⟩
    case measure=>simp [intOf];omega
   |false=>
    rw [hh] at C1;have HE:Hid (r=false):=aa (by
     rw [←HR.out];unfold tU;rw [List.all_eq_false];exact⟨x,by rw [←hx,List.getD_eq_getElem?_getD,List.getElem?_eq_getElem (by rw [Hn.out];exact hjn)];exact List.getElem_mem _,by rw [hh];exact Bool.false_ne_true⟩)
    clear hx hh;go_wp2_with (go_at_call 35;refine C1.out.mono ?_;rintro e w1 ⟨rfl,rfl⟩)
    go_ret;exact⟨L5.aw HE.out.symm,rfl⟩
  ·obtain rfl:J=n:=(by omega);have HE:Hid (r=true):=aa (by
    rw [←HR.out];unfold tU;rw [List.all_eq_true];intro x hx;obtain⟨j,hj⟩:=List.mem_iff_getElem?.1 hx;have h1:=HJ.out j (by rw [←Hn.out];exact(List.getElem?_eq_some_iff.1 hj).1);rw [List.getD_eq_getElem?_getD,hj] at h1;exact h1)
   go_wp2_with fail
   go_ret;exact⟨L5.aw HE.out.symm,rfl⟩
end Go.Proofs.YtaiaakklokahjaaGreatDoor
