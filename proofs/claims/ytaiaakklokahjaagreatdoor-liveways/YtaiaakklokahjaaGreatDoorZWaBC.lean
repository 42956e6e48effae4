/- Texts of one chain, joined. -/
import Derived.Test.YtaiaakklokahjaaGreatDoorZWaBA
import Derived.Test.YtaiaakklokahjaaGreatDoorZWaBB
import Derived.Lib.OwnBridge
import Derived.Sort.OwnSortedInts
set_option maxHeartbeats 4000000
set_option maxRecDepth 20000
namespace Go.Proofs.YtaiaakklokahjaaGreatDoor
open Go Go.RowKit
open G (Tok Er Ins Fun)
theorem mX (ty:TypeId) (w:World) (base:Nat) (v:Value) (n c:Nat) (xs:List Value) (hown:w.ownsRow base 3 1 v n xs):(Builtin.append_ #[26,26] ty #[v,.slice none 0 c]).run Tryz.prog w= .ok v w:=by
 obtain⟨i0,hi0,_⟩:=info_parts Tryz.cU;rcases hown.2 with ⟨rfl,rfl⟩ | ⟨g,cap,cur,rfl,_,_,hnc,_⟩
 ·simp [Builtin.append_,run_underlying Tryz.underlying26,sizeOf,typeInfo,hi0,Builtin.lenOf,Builtin.firstCells]
 ·simp [Builtin.append_,run_underlying Tryz.underlying26,sizeOf,typeInfo,hi0,Builtin.lenOf,Builtin.firstCells,hnc,storeCells]
theorem qM {w:World} {ops:Array Oper} {rest:List Oper} {o:Oper} {a:Act} {Q:Exit→Act→World→Prop} (hgd:o.guard=none) (s x:Operand)
  (ho:o.op= .call {callee:= .builtin .append,args:= #[s,x],argTypes:= #[26,26]}) (base:Nat) (v:Value) (n c:Nat) (xs:List Value) (l:List Int) (ao:Option Addr)
  (hs:a.eval s=v) (hown:w.ownsRow base 3 1 v n xs) (hx:a.eval x= .slice ao l.length c) (hl:Sl w ao l) (h63:n+l.length≤4000000) (hbase:base≤w.heap.size)
  (h:∀v' w',w'.ownsRow base 3 1 v' (n+l.length) (xs ++ ints l)→w.grownBy w' v.ownBlock→wpList Tryz.prog ops Q rest (a.put o.dst v') w'):wpList Tryz.prog ops Q (o :: rest) a w:=by
 obtain⟨i0,hi0,hz0,hz1,hz2⟩:=info_parts Tryz.cU
 cases ao with
 |none=>
  have hl0:l= []:=by
   rcases hl with h | ⟨b,o,e,_⟩
   ·exact h
   ·cases e
  subst hl0;refine wpList_plain hgd fun K hK=> ?_;have hrun:=mX o.type w base v n c xs hown;unfold Oper.wp;simp [execOp,ho,resolve,invoke,builtin,hs,hx,hrun,Result.andThen];exact hK _ _ (h v w (by simpa [ints] using hown) (World.grownBy.refl _ _))
 |some ad=>
  refine wpList_append_own w hgd s x 26 ho base 3 i0 _ 1 8 Tryz.underlying26 hi0 hz0 hz1 hz2 rfl (by decide) v n xs hs hown ad l.length c (ints l) hx (by simp [ints]) (fun j u hj=> ?_) (lM l) (Nat.le_trans h63 (by unfold maxLen;omega)) (by omega) hbase ?_
  ·rcases hl with rfl | ⟨b,of,e,_,hc⟩
   ·exact absurd hj (by unfold ints;rw [List.map_nil,List.getElem?_nil];intro h;cases h)
   ·injection e with e;subst e;rw [Addr.add_lit];unfold ints at hj;rw [List.getElem?_map] at hj
    cases hq:l[j]? with
    |none=>rw [hq] at hj;cases hj
    |some m=>
     rw [hq] at hj;injection hj with hj;rw [←hj];exact hc j m hq
  ·intro v' w' k1 k2 _;exact h v' w' k1 k2
def iH (f:Fun) (K I:Nat):List Int:=(f.2.2.2.1.take K).flatMap lP ++ lP ((ag f K).take I)
theorem zy (f:Fun):iH f 0 0= []:=by simp [iH,lP]
theorem qw {f:Fun} {K I:Nat} (h:I < (ag f K).length):iH f K (I+1)=iH f K I ++ (au f K I).2.2.2.2.1:=by
 unfold iH;rw [aR (iO h)];unfold lP;rw [List.flatMap_append];simp
theorem A1 {f:Fun} {K:Nat} (h:K < f.2.2.2.1.length):iH f K (ag f K).length=iH f (K+1) 0:=by
 unfold iH;rw [List.take_length,aR (de h),List.flatMap_append];simp [lP]
theorem DV (f:Fun):iH f f.2.2.2.1.length 0=ml f:=by unfold iH ml;rw [List.take_length];simp [lP]
theorem uI {α:Type} (g:α→List Int) (l:List α) (K:Nat):((l.take K).flatMap g).length≤(l.flatMap g).length:=by
 have e:l.flatMap g=(l.take K).flatMap g ++ (l.drop K).flatMap g:=by rw [←List.flatMap_append,List.take_append_drop]
 rw [e,List.length_append];omega
theorem yf {f:Fun} {K:Nat} (hK:K < f.2.2.2.1.length) (I:Nat):(iH f K I).length≤(ml f).length:=by
 have h1:=uI lP f.2.2.2.1 (K+1);rw [aR (de hK),List.flatMap_append,List.length_append] at h1;have h2:=uI (fun x:Ins=>x.2.2.2.2.1) (ag f K) I;unfold iH ml;rw [List.length_append];simp only [List.flatMap_cons,List.flatMap_nil,List.append_nil] at h1;have h3:(lP ((ag f K).take I)).length≤(lP (ag f K)).length:=h2;omega
theorem Gz {B:Nat} {l:List Int} {u:Value} {w:World} (h:w.ownsRow B 3 1 u l.length (ints l)) (hl:l.length≤1000000):
  Calls Tryz.prog 54 #[u] w fun e w'=>e= .returned (.tuple #[])∧w'.ownsRow B 3 1 u (pP l).length (ints (pP l))∧w.grownBy w' u.ownBlock:=by
 rcases h.2 with ⟨rfl,h0⟩ | ⟨g,cap,cur,rfl,hb,hg,hn,hm,hs,ht⟩
 ·have:l= []:=List.eq_nil_of_length_eq_zero h0;subst this;refine(Tryz.slices_Sort_int_none none 0 w).mono ?_;rintro e w' ⟨rfl,rfl⟩;have e0:pP []= []:=by unfold pP;exact List.mergeSort_nil
  rw [e0];exact⟨rfl,World.ownsRow_nil _ _ _ _,World.grownBy.refl _ _⟩
 ·refine(Tryz.slices_Sort_int g 0 cap l w (Go.holds_of_blockI hg (by rw [Nat.mul_one] at ht;exact ht)) (Array.getElem?_eq_some_iff.1 hg).1 (by omega)).mono ?_;rintro e w' ⟨rfl,n,os,rfl⟩;have e1:(pP l).length=l.length:=sk l;refine⟨rfl,?_,Go.grownBy_sortedI _⟩;have q:=Go.ownsRow_sortedI (n:=n) (os:=os) (ts:=pP l) e1 hb hg hn hm hs;rw [e1];exact q
theorem Hd {B:Nat} {l:List Int} {u:Value} {w:World} (h:w.ownsRow B 3 1 u l.length (ints l)) (hl:l.length≤1000000):
  Calls Tryz.prog 55 #[u] w fun e w'=>∃u',e= .returned u'∧w'.ownsRow B 3 1 u' (Lib.compact l).length (ints (Lib.compact l))∧w.grownBy w' u.ownBlock:=by
 rcases h.2 with ⟨rfl,h0⟩ | ⟨g,cap,cur,rfl,hb,hg,hn,hm,hs,ht⟩
 ·have:l= []:=List.eq_nil_of_length_eq_zero h0;subst this;refine(Tryz.slices_Compact_int_empty none 0 w).mono ?_;rintro e w' ⟨rfl,rfl⟩;exact⟨_,rfl,World.ownsRow_nil _ _ _ _,World.grownBy.refl _ _⟩
 ·refine(Tryz.slices_Compact_int g 0 cap l w (Go.holds_of_blockI hg (by rw [Nat.mul_one] at ht;exact ht)) (by omega) hn).mono ?_;rintro e w' ⟨rfl,q,rfl⟩;have hk:=yD l;have hy:(Lib.compact l ++ List.replicate (l.length - (Lib.compact l).length) 0).length=l.length:=by rw [List.length_append,List.length_replicate];omega
  have q1:=Lib.ownsRow_putRow (enc:=Value.int .i64) (q:=q) (k:=(Lib.compact l).length) h hy hk;rw [List.take_left] at q1;refine⟨_,rfl,q1,⟨rfl,rfl,rfl,by simp [Go.Sort.putRow,Go.Sort.mapBlock,Go.Sort.ahead],fun i hi hne=> ?_⟩⟩;have:g≠i:=fun e=>hne (by rw [←e];rfl);simp [Go.Sort.putRow,Go.Sort.mapBlock,Go.Sort.ahead,Array.getElem?_modify,this]
theorem zU (f:Fun) (v:Value) (w:World) (hv:bS w f v) (hM:Mod f) (hA:(ml f).length≤1000000):
  Calls Tryz.prog 63 #[v] w fun e w'=>∃u,e= .returned u∧w'.ownsRow w.heap.size 3 1 u (aP f).length (ints (aP f))∧Below w.heap.size w w':=by
 obtain⟨lp,cp,lb,cb,rfl,_,_⟩:=dx hv;have HRw:=aa (fun k (hk:k < f.2.2.2.1.length)=>eD (ff hv) hk);have HLe:=aa (fun K (hK:K < f.2.2.2.1.length) I=>yf hK I);have HMb:=aa (fun k=>hM.blk k);have hN:=hM.1;have HA:=aa hA;have b1:=af w (.cells (fC (bs f.1) lp lb f.2.1.length cp f.2.2.2.1.length cb f.2.2.1 f.2.2.2.2) 29);have H0:=aa (heap_alloc_new w (.cells (fC (bs f.1) lp lb f.2.1.length cp f.2.2.2.1.length cb f.2.2.1 f.2.2.2.2) 29));have B1:=aa b1;obtain⟨N,hNe⟩:∃N,f.2.2.2.1.length=N:=⟨_,rfl⟩;have HNe:=aa hNe;rw [hNe] at hN B1 H0 HRw HLe ⊢;clear hv hM hA b1 hNe;obtain⟨nm,hnm⟩:∃n,bs f.1=n:=⟨_,rfl⟩;obtain⟨rt,hrt⟩:∃n,f.2.2.1=n:=⟨_,rfl⟩;obtain⟨pl,hpe⟩:∃n,f.2.2.2.2=n:=⟨_,rfl⟩;obtain⟨lps,hlps⟩:∃n,f.2.1.length=n:=⟨_,rfl⟩;rw [hnm,hrt,hpe,hlps] at B1 H0 ⊢;clear hnm hrt hpe hlps;go_enter Tryz.func63,Tryz.ntmps63
 go_upto_region 1 with fail
 show Code.wp _ _ _ _ (w.alloc (.cells (fC nm lp lb lps cp N cb rt pl) 29));generalize w.alloc (.cells (fC nm lp lb lps cp N cb rt pl) 29)=W1 at *;obtain⟨⟨x0,x1,x2,x3,x4⟩,_,_⟩:=eW H0.out;go_wp2_with fail
 have G0:Hid (w.ownsRow w.heap.size 3 1 (.slice none 0 0) 0 []):=aa (World.ownsRow_nil _ _ _ _);have HG0:Hid (Grw w (iH f 0 0) (.slice none 0 0) W1):=aa ⟨by rw [zy];exact World.ownsRow_nil _ _ _ _,B1.out⟩;clear x0 x1 x2 x3 x4 G0;go_loopw [3,11] (fun lv iv wr=>∃K:Nat,K≤N∧iv= .int .i64 K∧Hid (Grw w (iH f K 0) lv wr)) (fun _ iv _=>N - (intOf iv).toNat)
 case atStart=>exact⟨0,Nat.zero_le _,rfl,HG0⟩
 case round=>
  clear HG0;obtain⟨K,hK,rfl,HG⟩:=hrel;by_cases hit:K < N
  ·have hKI:(K:Int) < N:=(by omega);obtain⟨gb,ob,ab,bc,rfl,hgb,cbk,hblk⟩:=HRw.out K hit;replace cbk:=(HG.out.2.cell (p:=⟨gb,ob+K,none⟩) hgb).trans cbk;have HBk:=aa hblk;obtain⟨bl,hble⟩:∃n,(ag f K).length=n:=⟨_,rfl⟩;have Hble:=aa hble;have hbl:=HMb.out K;rw [hble] at cbk hbl HBk;clear hblk hble;go_wp2_with fail
   go_loopw [3,17] (fun lv iv wr'=>∃I:Nat,I≤bl∧iv= .int .i64 I∧Hid (Grw w (iH f K I) lv wr')) (fun _ iv _=>bl - (intOf iv).toNat)
   case atStart=>exact⟨0,Nat.zero_le _,rfl,HG⟩
   case round=>
    clear HG cbk;obtain⟨I,hI,rfl,HG⟩:=hrel;by_cases hit2:I < bl
    ·have hIl:I < (ag f K).length:=(by rw [Hble.out];exact hit2);have hiI:(I:Int) < bl:=(by omega);obtain⟨ga,oa,rfl,hins⟩:=dy HBk.out hIl;have hga:=hins.1;obtain⟨xo,zo,xc,zc,hiv,e0,e1,e2,e3,e4,e5,e6,e7⟩:=hins.val;replace e0:=(HG.out.2.cell (p:=⟨ga,oa+I * 8,none⟩) hga).trans e0;replace e1:=(HG.out.2.cell (p:=⟨ga,oa+I * 8+1,none⟩) hga).trans e1;replace e2:=(HG.out.2.cell (p:=⟨ga,oa+I * 8+2,none⟩) hga).trans e2;replace e3:=(HG.out.2.cell (p:=⟨ga,oa+I * 8+3,none⟩) hga).trans e3;replace e4:=(HG.out.2.cell (p:=⟨ga,oa+I * 8+4,none⟩) hga).trans e4;replace e5:=(HG.out.2.cell (p:=⟨ga,oa+I * 8+5,none⟩) hga).trans e5;replace e6:=(HG.out.2.cell (p:=⟨ga,oa+I * 8+6,none⟩) hga).trans e6;replace e7:=(HG.out.2.cell (p:=⟨ga,oa+I * 8+7,none⟩) hga).trans e7;have hmor:=qw (f:=f) hIl;have hle:=HLe.out K hit (I+1);obtain⟨x,hxe⟩:∃x,au f K I=x:=⟨_,rfl⟩;rw [hxe] at hiv e0 e1 e2 e3 e4 e5 e6 e7 hmor;rw [hmor] at hle;have HMo:=aa hmor;rw [List.length_append] at hle;have hA1:=HA.out;clear hxe hins hmor;have b3:=af wr (.cells (iC x xo zo x.2.2.2.2.1.length x.2.2.2.2.2.1.length xc zc) 41);have Y0:=aa (heap_alloc_new wr (.cells (iC x xo zo x.2.2.2.2.1.length x.2.2.2.2.2.1.length xc zc) 41));have HSl:=aa ((nj hiv).1.below ((HG.out.2.trans (b3.mono HG.out.2.size))));have G2:Hid (Grw w (iH f K I) u3 (wr.alloc (.cells (iC x xo zo x.2.2.2.2.1.length x.2.2.2.2.2.1.length xc zc) 41))):=aa ⟨World.ownsRow.alloc HG.out.1 _,HG.out.2.trans (b3.mono HG.out.2.size)⟩;have hkl:(iH f K I).length+x.2.2.2.2.1.length≤4000000:=(by omega);clear hiv b3 HG hle hA1;obtain⟨xl,hxl1⟩:∃n,x.2.2.2.2.1.length=n:=⟨_,rfl⟩;obtain⟨zl,hzl1⟩:∃n,x.2.2.2.2.2.1.length=n:=⟨_,rfl⟩;have Hxl:=aa hxl1;rw [hxl1] at e4 Y0 HSl G2 hkl;rw [hzl1] at e5 Y0 HSl G2;clear hxl1 hzl1;go_upto_region 8 with fail
     show Code.wp _ _ _ _ (wr.alloc (.cells (iC x xo zo xl zl xc zc) 41));clear e0 e1 e2 e3 e4 e5 e6 e7;generalize wr.alloc (.cells (iC x xo zo xl zl xc zc) 41)=w3 at *;generalize wr.heap.size=q3 at *;obtain⟨y0,y1,y2,y3,y4,y5,y6,y7⟩:=jK Y0.out;have hws:=G2.out.2.size;rw [←Hxl.out] at y4 hkl;go_wp2_with (at_builtin;refine qM rfl (.tmp 21) (.tmp 23) rfl w.heap.size u3 _ xc _ x.2.2.2.2.1 xo rfl G2.out.1 rfl HSl.out hkl hws ?_;intro v2 w4 own2 grow2;refine Hid.out ?_)
     have HE:Hid (Grw w (iH f K (I+1)) v2 w4):=aa (by
      rw [HMo.out];refine⟨?_,Below.grown G2.out.2 grow2 hws fun k hk=>(World.ownsRow.lt G2.out.1 k hk).1⟩;rw [List.length_append];unfold ints at own2 ⊢;rw [List.map_append];exact own2)
     clear own2 grow2 G2 HSl HMo y0 y1 y2 y3 y4 y5 y6 y7 Y0;refine aa ?_;go_wp2_with fail
     go_roundw
     case rel=>exact⟨I+1,by omega,by go_num,HE⟩
     case measure=>simp [intOf];omega
    ·obtain rfl:bl=I:=(by omega);have HE:Hid (Grw w (iH f (K+1) 0) u3 wr):=aa (by have:=HG.out;rw [←Hble.out,A1 (by rw [HNe.out];exact hit)] at this;exact this);clear HG;go_wp2_with fail
     go_roundw
     case rel=>exact⟨K+1,by omega,by go_num,HE⟩
     case measure=>simp [intOf];omega
  ·obtain rfl:N=K:=(by omega);have HF:Hid (Grw w (ml f) u3 wr):=aa (by have:=HG.out;rw [←HNe.out,DV] at this;exact this);clear HG;go_wp2_with fail
   have hal:=HA.out;refine(Gz HF.out.1 (by omega)).mono ?_;rintro e w5 ⟨rfl,h5,g5⟩;have B5:=aa (Below.grown HF.out.2 g5 HF.out.2.size fun k hk=>(World.ownsRow.lt HF.out.1 k hk).1);have C6:=aa (Hd h5 (by rw [sk];omega));have H5:=aa h5;clear h5 g5 HF;go_wp2_with fail
   refine C6.out.mono ?_;rintro e w6 ⟨u6,rfl,h6,g6⟩;have B6:=aa (Below.grown B5.out g6 B5.out.size fun k hk=>(World.ownsRow.lt H5.out k hk).1);have H6:=aa h6;clear h6 g6;go_wp2_with fail
   go_ret;exact⟨u6,rfl,H6.out,B6.out⟩
def BgS (f:Fun) (W B K:Nat) (G C:Nat→Nat→Nat) (R CR J CJ:Nat→Nat) (w:World):Prop:=
 (∀k,k < K→w.ownsRow B 98 1 (.slice (some ⟨R k,0,none⟩) ((ag f k).length+1) (CR k)) ((ag f k).length+1) ((List.range ((ag f k).length+1)).map fun p=>gy (G k p) (C k p) W))∧
 ((∀k,k < K→∀p,p≤(ag f k).length→aN w B (G k p) (C k p) W noB)∧∀k,k < K→aN w B (J k) (CJ k) W noB)∧
 (∀k p k' p',k < K→p≤(ag f k).length→k' < K→p'≤(ag f k').length→G k p=G k' p'→k=k'∧p=p')∧(∀k p k',k < K→p≤(ag f k).length→k' < K→G k p≠J k')∧∀k k',k < K→k' < K→J k=J k'→k=k'
def BgW (f:Fun) (W:Nat) (wB:World) (lp:Nat) (fc:List Value) (K:Nat) (jv rv:Value) (G C:Nat→Nat→Nat) (R CR J CJ:Nat→Nat) (w:World):Prop:=
 (Below wB.heap.size wB w∧wB.heap.size≤lp∧w.heap[lp]? =some (.cells (fc ++ [jv,rv]).toArray 69 (0,0)))∧
 w.ownsRow wB.heap.size 98 1 jv K ((List.range K).map fun k=>gy (J k) (CJ k) W)∧
 w.ownsRow wB.heap.size 66 1 rv K ((List.range K).map fun k=> .slice (some ⟨R k,0,none⟩) ((ag f k).length+1) (CR k))∧BgS f W wB.heap.size K G C R CR J CJ w∧∀k,k < K→jv.ownBlock≠some (R k)
def BgY (f:Fun) (W n0:Nat) (wB:World) (lp:Nat) (fc:List Value) (K:Nat) (jv rv:Value) (G C:Nat→Nat→Nat) (R CR J CJ:Nat→Nat) (j cj:Nat) (w:World):Prop:=
 (Below wB.heap.size wB w∧wB.heap.size≤lp∧w.heap[lp]? =some (.cells (fc ++ [jv,rv]).toArray 69 (0,0)))∧
 w.ownsRow wB.heap.size 98 1 jv (K+1) ((List.range K).map (fun k=>gy (J k) (CJ k) W) ++ [gy j cj W])∧
 w.ownsRow wB.heap.size 66 1 rv K ((List.range K).map fun k=> .slice (some ⟨R k,0,none⟩) ((ag f k).length+1) (CR k))∧BgS f W wB.heap.size K G C R CR J CJ w∧(∀k,k < K→jv.ownBlock≠some (R k))∧aN w wB.heap.size j cj W noB∧n0≤j∧∀k,k < K→(∀p,p≤(ag f k).length→G k p < n0)∧J k < n0
def upF {α:Type} (g:Nat→α) (K:Nat) (x:α):Nat→α:=fun k=>if k=K then x else g k
theorem eA {α:Type} (g:Nat→α) (K:Nat) (x:α):upF g K x K=x:=if_pos rfl
theorem dn {α:Type} {g:Nat→α} {K k:Nat} {x:α} (h:k≠K):upF g K x k=g k:=if_neg h
theorem xk {g:Nat→Value} {h:Nat→Value} {K:Nat} (hl:∀k,k < K→h k=g k):(List.range (K+1)).map h=(List.range K).map g ++ [h K]:=by
 rw [List.range_succ,List.map_append];congr 1
 exact List.map_congr_left fun k hk=>hl k (List.mem_range.1 hk)
theorem BgS.below {f:Fun} {W B K:Nat} {G C:Nat→Nat→Nat} {R CR J CJ:Nat→Nat} {w w':World} (h:BgS f W B K G C R CR J CJ w) (b:Below w.heap.size w w'):BgS f W B K G C R CR J CJ w':=
 ⟨fun k hk=>az b _ _ _ _ _ _ (h.1 k hk),⟨fun k hk p hp=>(h.2.1.1 k hk p hp).below b,fun k hk=>(h.2.1.2 k hk).below b⟩,h.2.2⟩
theorem BgS.kf {f:Fun} {W B K:Nat} {G C:Nat→Nat→Nat} {R CR J CJ:Nat→Nat} {w w':World} {F:Nat→Prop} (h:BgS f W B K G C R CR J CJ w) (k:Kf F w w') (hF:∀b,F b→∀cs t,w.heap[b]? =some (.cells cs t (0,0))→t≠135∧∀k,k < K→b≠R k):BgS f W B K G C R CR J CJ w':=by
 refine⟨fun i hi=>nT k (h.1 i hi) fun g hg hf=> ?_,⟨fun i hi p hp=>(h.2.1.1 i hi p hp).kf k fun hf=> ?_,fun i hi=>(h.2.1.2 i hi).kf k fun hf=> ?_⟩,h.2.2⟩
 ·obtain⟨c,hc⟩:=cz (h.1 i hi) hg;have e:R i=g:=Option.some.inj hg;exact(hF g hf c 98 hc).2 i hi e.symm
 ·obtain⟨c,hc⟩:=(h.2.1.1 i hi p hp).kind;exact(hF _ hf c 135 hc).1 rfl
 ·obtain⟨c,hc⟩:=(h.2.1.2 i hi).kind;exact(hF _ hf c 135 hc).1 rfl
theorem BgS.push {f:Fun} {W B K:Nat} {G C:Nat→Nat→Nat} {R CR J CJ:Nat→Nat} {w0 w:World} (h0:BgS f W B K G C R CR J CJ w0) (h:BgS f W B K G C R CR J CJ w) {Gk Ck:Nat→Nat} {r cr j cj:Nat}
  (hr:w.ownsRow B 98 1 (.slice (some ⟨r,0,none⟩) ((ag f K).length+1) cr) ((ag f K).length+1) ((List.range ((ag f K).length+1)).map fun p=>gy (Gk p) (Ck p) W))
  (hs:∀p,p≤(ag f K).length→aN w B (Gk p) (Ck p) W noB) (hj:aN w B j cj W noB) (hjn:w0.heap.size≤j) (hgn:∀p,p≤(ag f K).length→j < Gk p) (hgi:∀p p',p≤(ag f K).length→p'≤(ag f K).length→Gk p=Gk p'→p=p'):
  BgS f W B (K+1) (upF G K Gk) (upF C K Ck) (upF R K r) (upF CR K cr) (upF J K j) (upF CJ K cj) w:=by
 have lG:∀k,k < K→∀p,p≤(ag f k).length→G k p < w0.heap.size:=fun k hk p hp=>(h0.2.1.1 k hk p hp).lt.2;have lJ:∀k,k < K→J k < w0.heap.size:=fun k hk=>(h0.2.1.2 k hk).lt.2;refine⟨fun k hk=> ?_,⟨fun k hk p hp=> ?_,fun k hk=> ?_⟩,fun k p k' p' hk hp hk' hp' e=> ?_,fun k p k' hk hp hk' e=> ?_,fun k k' hk hk' e=> ?_⟩
 ·by_cases q:k=K
  ·subst q;simp only [eA];exact hr
  ·simp only [dn q];exact h.1 k (by omega)
 ·by_cases q:k=K
  ·subst q;simp only [eA];exact hs p hp
  ·simp only [dn q];exact h.2.1.1 k (by omega) p hp
 ·by_cases q:k=K
  ·subst q;simp only [eA];exact hj
  ·simp only [dn q];exact h.2.1.2 k (by omega)
 ·by_cases q:k=K
  ·by_cases q':k'=K
   ·subst q q';simp only [eA] at e;exact⟨rfl,hgi p p' hp hp' e⟩
   ·subst q;simp only [eA,dn q'] at e;have:=lG k' (by omega) p' hp';have:=hgn p hp;omega
  ·by_cases q':k'=K
   ·subst q';simp only [eA,dn q] at e;have:=lG k (by omega) p hp;have:=hgn p' hp';omega
   ·simp only [dn q,dn q'] at e;exact h.2.2.1 k p k' p' (by omega) hp (by omega) hp' e
 ·by_cases q:k=K
  ·by_cases q':k'=K
   ·subst q q';simp only [eA] at e;have:=hgn p hp;omega
   ·subst q;simp only [eA,dn q'] at e;have:=lJ k' (by omega);have:=hgn p hp;omega
  ·by_cases q':k'=K
   ·subst q';simp only [eA,dn q] at e;have:=lG k (by omega) p hp;omega
   ·simp only [dn q,dn q'] at e;exact h.2.2.2.1 k p k' (by omega) hp (by omega) e
 ·by_cases q:k=K
  ·by_cases q':k'=K
   ·omega
   ·subst q;simp only [eA,dn q'] at e;have:=lJ k' (by omega);omega
  ·by_cases q':k'=K
   ·subst q';simp only [eA,dn q] at e;have:=lJ k (by omega);omega
   ·simp only [dn q,dn q'] at e;exact h.2.2.2.2 k k' (by omega) (by omega) e
theorem BgS.none (f:Fun) (W B:Nat) (G C:Nat→Nat→Nat) (R CR J CJ:Nat→Nat) (w:World):BgS f W B 0 G C R CR J CJ w:=
 ⟨fun _ h=>absurd h (Nat.not_lt_zero _),⟨fun _ h=>absurd h (Nat.not_lt_zero _),fun _ h=>absurd h (Nat.not_lt_zero _)⟩,fun _ _ _ _ h=>absurd h (Nat.not_lt_zero _),fun _ _ _ h=>absurd h (Nat.not_lt_zero _),fun _ _ h=>absurd h (Nat.not_lt_zero _)⟩
theorem BgY.below {f:Fun} {W n0 lp K j cj:Nat} {wB w w':World} {fc:List Value} {jv rv:Value} {G C:Nat→Nat→Nat} {R CR J CJ:Nat→Nat} (h:BgY f W n0 wB lp fc K jv rv G C R CR J CJ j cj w) (b:Below w.heap.size w w'):BgY f W n0 wB lp fc K jv rv G C R CR J CJ j cj w':=by
 obtain⟨⟨h1,h2,h3⟩,h4,h5,h6,h7,h8,h9⟩:=h;exact⟨⟨ae h1 b,h2,(b.block lp (Array.getElem?_eq_some_iff.1 h3).1).trans h3⟩,az b _ _ _ _ _ _ h4,az b _ _ _ _ _ _ h5,h6.below b,h7,h8.below b,h9⟩
theorem BgW.join {f:Fun} {W lp K j cj:Nat} {wB w x w4:World} {fc:List Value} {jv jv2 rv:Value} {G C:Nat→Nat→Nat} {R CR J CJ:Nat→Nat} (h:BgW f W wB lp fc K jv rv G C R CR J CJ w) (b:Below w.heap.size w x) (hs:aN x wB.heap.size j cj W noB) (hj:w.heap.size≤j) (hfc:fc.length=8)
  (own:w4.ownsRow wB.heap.size 98 1 jv2 (K+1) ((List.range K).map (fun k=>gy (J k) (CJ k) W) ++ [gy j cj W])) (gr:x.grownBy w4 jv.ownBlock) (at2:jv2.ownBlock=jv.ownBlock∨jv2.ownBlock=some x.heap.size):
  BgY f W w.heap.size wB lp fc K jv2 rv G C R CR J CJ j cj (w4.setCell ⟨lp,8,none⟩ jv2)∧Below wB.heap.size wB (w4.setCell ⟨lp,8,none⟩ jv2)∧x.heap.size≤w4.heap.size:=by
 obtain⟨⟨h1,h2,h3⟩,h4,h5,h6,h7⟩:=h;have hlpw:=(Array.getElem?_eq_some_iff.1 h3).1;have h4x:=az b _ _ _ _ _ _ h4;have k1:Kf (fun y=>some y=jv.ownBlock) x w4:=⟨gr.os,gr.tape,gr.output,gr.size,fun y hy hf=>gr.block y hy hf⟩;have kA:=(Kf.br (F:=fun y=>some y=jv.ownBlock) b).trans k1 fun y hy=> .inl hy;have k2:=jM (w:=w4) lp 8 jv2;have kk:Kf (fun y=>some y=jv.ownBlock∨y=lp) w (w4.setCell ⟨lp,8,none⟩ jv2):=(kA.more fun _ e=> .inl e).trans k2 fun _ e=> .inl (.inr e);have hjb:∀y,some y=jv.ownBlock→wB.heap.size≤y∧y < w.heap.size∧∃c,w.heap[y]? =some (.cells c 98 (0,0)):=fun y e=>⟨(World.ownsRow.lt h4 y e.symm).1,(World.ownsRow.lt h4 y e.symm).2,cz h4 e.symm⟩;have hlp4:w4.heap[lp]? =w.heap[lp]? :=kA.2.2.2.2 lp hlpw (fun e=>by obtain⟨_,_,c,hc⟩:=hjb lp e;rw [h3] at hc;cases hc);have hB:Below wB.heap.size wB (w4.setCell ⟨lp,8,none⟩ jv2):=⟨kk.1.trans h1.os,kk.2.1.trans h1.tape,kk.2.2.1.trans h1.output,Nat.le_trans h1.size kk.2.2.2.1,fun y hy=>(kk.2.2.2.2 y (Nat.lt_of_lt_of_le hy h1.size) (fun hf=>by
  rcases hf with e | e
  ·have:=(hjb y e).1;omega
  ·omega)).trans (h1.block y hy)⟩
 have hS:=h6.kf kk (fun y hy cs t hc=>by
  rcases hy with e | e
  ·obtain⟨_,_,c,hc2⟩:=hjb y e;rw [hc2] at hc;injection hc with hc;injection hc with _ hc _;exact⟨by rw [←hc];decide,fun k hk e2=>h7 k hk (by rw [←e2,←e])⟩
  ·rw [e,h3] at hc;injection hc with hc;injection hc with _ hc _;refine⟨by rw [←hc];decide,fun k hk e2=> ?_⟩;obtain⟨c,hc2⟩:=cz (h6.1 k hk) (g:=R k) rfl;rw [←e2,e,h3] at hc2;injection hc2 with hc2;injection hc2 with _ hc2 _
   cases hc2)
 refine⟨⟨⟨hB,h2,?_⟩,bI own (fun e=> ?_) jv2,nT kk h5 (fun g hg hf=> ?_),hS,fun k hk e=> ?_,(hs.kf k1 (fun e=> ?_)).kf k2 (fun e=> ?_),hj,fun k hk=>⟨fun p hp=>(h6.2.1.1 k hk p hp).lt.2,(h6.2.1.2 k hk).lt.2⟩⟩,hB,gr.size⟩
 ·rw [heap_setCell_same w4 lp 8 _ 69 jv2 (hlp4.trans h3)];congr 2
  match fc,hfc with
  |[a0,a1,a2,a3,a4,a5,a6,a7],_=>rfl
 ·obtain⟨c,hc⟩:=cz own e;rw [hlp4,h3] at hc;injection hc with hc;injection hc with _ hc _
  cases hc
 ·obtain⟨c,hc⟩:=cz h5 hg;rcases hf with e | e
  ·obtain⟨_,_,c2,hc2⟩:=hjb g e;rw [hc] at hc2;injection hc2 with hc2;injection hc2 with _ hc2 _
   cases hc2
  ·rw [e,h3] at hc;injection hc with hc;injection hc with _ hc _
   cases hc
 ·rcases at2 with q | q
  ·exact h7 k hk (by rw [←q,e])
  ·rw [q] at e;have:=(World.ownsRow.lt (h6.1 k hk) (R k) rfl).2;have hb:=b.size;have:=Option.some.inj e;omega
 ·obtain⟨y1,_⟩:=hjb j e;have:=(hjb j e).2.1;omega
 ·subst e;have:=(Array.getElem?_eq_some_iff.1 h3).1;omega
theorem BgY.row {f:Fun} {W n0 lp K j cj r cr:Nat} {wB w x w4:World} {fc:List Value} {jv rv rv2:Value} {G C:Nat→Nat→Nat} {R CR J CJ:Nat→Nat} {Gk Ck:Nat→Nat} (h:BgY f W n0 wB lp fc K jv rv G C R CR J CJ j cj w) (b:Below w.heap.size w x) (hw0:∃w0,BgS f W wB.heap.size K G C R CR J CJ w0∧w0.heap.size=n0) (hfc:fc.length=8)
  (hr:x.ownsRow wB.heap.size 98 1 (.slice (some ⟨r,0,none⟩) ((ag f K).length+1) cr) ((ag f K).length+1) ((List.range ((ag f K).length+1)).map fun p=>gy (Gk p) (Ck p) W)) (hrn:w.heap.size≤r)
  (hs:∀p,p≤(ag f K).length→aN x wB.heap.size (Gk p) (Ck p) W noB) (hgn:∀p,p≤(ag f K).length→w.heap.size≤Gk p) (hgi:∀p p',p≤(ag f K).length→p'≤(ag f K).length→Gk p=Gk p'→p=p')
  (own:w4.ownsRow wB.heap.size 66 1 rv2 (K+1) ((List.range K).map (fun k=> .slice (some ⟨R k,0,none⟩) ((ag f k).length+1) (CR k)) ++ [.slice (some ⟨r,0,none⟩) ((ag f K).length+1) cr])) (gr:x.grownBy w4 rv.ownBlock):
  BgW f W wB lp fc (K+1) jv rv2 (upF G K Gk) (upF C K Ck) (upF R K r) (upF CR K cr) (upF J K j) (upF CJ K cj) (w4.setCell ⟨lp,9,none⟩ rv2):=by
 obtain⟨w0,hw1,hw2⟩:=hw0;have h':=h.below b;have hjl:=h.2.2.2.2.2.1.lt;have hjw:=fun(g:Nat) (e:jv.ownBlock=some g)=>(World.ownsRow.lt h.2.1 g e).2;obtain⟨⟨h1,h2,h3⟩,h4,h5,h6,h7,h8,h9,h10⟩:=h';have hlpw:=(Array.getElem?_eq_some_iff.1 h3).1;have k1:Kf (fun y=>some y=rv.ownBlock) x w4:=⟨gr.os,gr.tape,gr.output,gr.size,fun y hy hf=>gr.block y hy hf⟩;have k2:=jM (w:=w4) lp 9 rv2;have kk:Kf (fun y=>some y=rv.ownBlock∨y=lp) x (w4.setCell ⟨lp,9,none⟩ rv2):=(k1.more fun _ e=> .inl e).trans k2 fun _ e=> .inl (.inr e);have hrb:∀y,some y=rv.ownBlock→wB.heap.size≤y∧∃c,x.heap[y]? =some (.cells c 66 (0,0)):=fun y e=>⟨(World.ownsRow.lt h5 y e.symm).1,cz h5 e.symm⟩;have hno:∀y,(some y=rv.ownBlock∨y=lp)→∀cs t,x.heap[y]? =some (.cells cs t (0,0))→t=66∨t=69:=fun y hy cs t hc=>by
  rcases hy with e | e
  ·obtain⟨_,c,hc2⟩:=hrb y e;rw [hc2] at hc;injection hc with hc;injection hc with _ hc _;exact .inl hc.symm
  ·rw [e,h3] at hc;injection hc with hc;injection hc with _ hc _;exact .inr hc.symm
 have keep:∀ {e s n:Nat} {v:Value} {xs:List Value},e≠66→e≠69→x.ownsRow wB.heap.size e s v n xs→(w4.setCell ⟨lp,9,none⟩ rv2).ownsRow wB.heap.size e s v n xs:=fun h61 h64 hv=>nT kk hv fun g hg hf=>by
  obtain⟨c,hc⟩:=cz hv hg;rcases hno g hf c _ hc with q | q
  ·exact h61 q
  ·exact h64 q
 have hlp4:w4.heap[lp]? =x.heap[lp]? :=k1.2.2.2.2 lp hlpw (fun e=>by obtain⟨_,c,hc⟩:=hrb lp e;rw [h3] at hc;cases hc);have hB:Below wB.heap.size wB (w4.setCell ⟨lp,9,none⟩ rv2):=⟨kk.1.trans h1.os,kk.2.1.trans h1.tape,kk.2.2.1.trans h1.output,Nat.le_trans h1.size kk.2.2.2.1,fun y hy=>(kk.2.2.2.2 y (Nat.lt_of_lt_of_le hy h1.size) (fun hf=>by
  rcases hf with e | e
  ·have:=(hrb y e).1;omega
  ·omega)).trans (h1.block y hy)⟩
 have hS':BgS f W wB.heap.size K G C R CR J CJ (w4.setCell ⟨lp,9,none⟩ rv2):=⟨fun k hk=>keep (by decide) (by decide) (h6.1 k hk),⟨fun k hk p hp=>keep (by decide) (by decide) (h6.2.1.1 k hk p hp),fun k hk=>keep (by decide) (by decide) (h6.2.1.2 k hk)⟩,h6.2.2⟩;refine⟨⟨hB,h2,?_⟩,?_,?_,hw1.push hS' (keep (by decide) (by decide) hr) (fun p hp=>keep (by decide) (by decide) (hs p hp)) (keep (by decide) (by decide) h8) (by omega) (fun p hp=>by have:=hgn p hp;omega) hgi,fun k hk e=> ?_⟩
 ·rw [heap_setCell_same w4 lp 9 _ 69 rv2 (hlp4.trans h3)];congr 2
  match fc,hfc with
  |[a0,a1,a2,a3,a4,a5,a6,a7],_=>rfl
 ·rw [xk (g:=fun k=>gy (J k) (CJ k) W) (fun k hk=>by simp only [dn (show k≠K by omega)])];simp only [eA];exact keep (by decide) (by decide) h4
 ·rw [xk (g:=fun k=> .slice (some ⟨R k,0,none⟩) ((ag f k).length+1) (CR k)) (fun k hk=>by simp only [dn (show k≠K by omega)])];simp only [eA];refine bI own (fun e=> ?_) rv2;obtain⟨c,hc⟩:=cz own e;rw [hlp4,h3] at hc;injection hc with hc;injection hc with _ hc _
  cases hc
 ·by_cases q:k=K
  ·subst q;rw [eA] at e;have:=hjw r e;omega
  ·rw [dn q] at e;exact h7 k (by omega) e
theorem empty_eq (n:Nat) (w:World) (hn:n≤1000000):Calls Tryz.prog 66 #[.int .i64 n] w fun e w'=>e= .returned (.slice (some ⟨w.heap.size,0,none⟩) ((n+63) / 64:Nat) ((n+63) / 64:Nat))∧w'=w.alloc (.cells (wds noB ((n+63) / 64)).toArray 135):=by
 have hq:Int.tdiv ((n:Int)+63) 64=(((n+63) / 64:Nat):Int):=by rw [Int.tdiv_eq_ediv_of_nonneg (by omega)];omega
 obtain⟨W,hW⟩:∃W,(n+63) / 64=W:=⟨_,rfl⟩;rw [hW] at hq ⊢;have hl:W≤1000000:=by omega
 have hmk:∀w:World,(Instr.makeSlice 98 (.int .i64 (W:Int)) (.int .i64 (W:Int))).run Tryz.prog w= .ok (.slice (some ⟨w.heap.size,0,none⟩) W W) (w.alloc (.cells (wds noB W).toArray 135)):=fun w=>by
  obtain⟨i0,hi0,hz0,hz1,hz2⟩:=info_parts Tryz.Ih;have h:=run_make (P:=Tryz.prog) w 98 135 i0 _ Tryz.Dc hi0 hz0 .i64 .i64 (W:Int) (W:Int) (by omega) (Int.le_refl _) (by rw [hz2];omega) (by omega);rw [hz1] at h;simp only [Int.toNat_natCast] at h;have e:madeCells (Value.int .u64 0).cells (W * 1)=(wds noB W).toArray:=by
   apply Array.ext';rw [GX]
  rw [h,e]
 clear hW;go_enter Tryz.func66,Tryz.ntmps66
 go_wp2_with fail
 go_ret;exact⟨rfl,rfl⟩
theorem yM {W:Nat} (hW:W≤1000000) (w:World):aN (w.alloc (.cells (wds noB W).toArray 135)) w.heap.size w.heap.size W W noB:=
 ⟨by rw [df];omega,.inr ⟨w.heap.size,W,(wds noB W).toArray,rfl,Nat.le_refl _,heap_alloc_new w _,Nat.le_refl _,by unfold maxLen;omega,by rw [List.size_toArray,df];omega,by rw [Nat.mul_one];exact List.take_of_length_le (by rw [df];exact Nat.le_refl _)⟩⟩
def nD (W B n0 r m I:Nat) (Gk Ck:Nat→Nat) (w:World):Prop:=bg w n0 98 r m ((List.range I).map (fun p=>gy (Gk p) (Ck p) W) ++ List.replicate (m - I) (.slice none 0 0))∧(∀p,p < I→aN w B (Gk p) (Ck p) W noB∧n0≤Gk p)∧∀p p',p < I→p' < I→Gk p=Gk p'→p=p'
theorem nD.push {W B n0 r m I:Nat} {Gk Ck:Nat→Nat} {w:World} (h:nD W B n0 r m I Gk Ck w) (hI:I < m) (hW:W≤1000000) (hB:B≤n0) (hn:n0≤w.heap.size):
  nD W B n0 r m (I+1) (upF Gk I w.heap.size) (upF Ck I W) ((w.alloc (.cells (wds noB W).toArray 135)).setCell ⟨r,I,none⟩ (.slice (some ⟨w.heap.size,0,none⟩) W W)):=by
 obtain⟨h1,h2,h3⟩:=h;have b:=af w (.cells (wds noB W).toArray 135);have hr:=h1.lt;obtain⟨cr,hcr⟩:=cz h1 (g:=r) rfl;have k:=jM (w:=w.alloc (.cells (wds noB W).toArray 135)) r I (.slice (some ⟨w.heap.size,0,none⟩) W W);have ne:∀ {g c:Nat} {b':Nat→Bool} {w':World} {B':Nat},aN w' B' g c W b'→w'.heap[r]? =some (.cells cr 98 (0,0))→g≠r:=fun hs hr e=>by
  obtain⟨c,hc⟩:=hs.kind;rw [e,hr] at hc;injection hc with hc;injection hc with _ hc _
  cases hc
 have hcr':=(b.block r hr.2).trans hcr;have hnew:=yM hW w;refine⟨?_,fun p hp=> ?_,fun p p' hp hp' e=> ?_⟩
 ·have q:=(h1.alloc (.cells (wds noB W).toArray 135)).set I (.slice (some ⟨w.heap.size,0,none⟩) W W);have e:((List.range I).map (fun p=>gy (Gk p) (Ck p) W) ++ List.replicate (m - I) (Value.slice none 0 0)).set I (.slice (some ⟨w.heap.size,0,none⟩) W W)=(List.range (I+1)).map (fun p=>gy (upF Gk I w.heap.size p) (upF Ck I W p) W) ++ List.replicate (m - (I+1)) (.slice none 0 0):=by
   rw [xk (g:=fun p=>gy (Gk p) (Ck p) W) (fun p hp=>by simp only [dn (show p≠I by omega)]),eA,eA];obtain⟨d,hd⟩:∃d,m - I=d+1:=⟨m - I - 1,by omega⟩;have hl:((List.range I).map fun p=>gy (Gk p) (Ck p) W).length=I:=(by simp);rw [hd,show m - (I+1)=d by omega,List.replicate_succ,List.set_append_right _ _ (by rw [hl];exact Nat.le_refl _),hl,Nat.sub_self,List.append_assoc];rfl
  rw [e] at q;exact q
 ·by_cases q:p=I
  ·subst q;rw [eA,eA];exact⟨aN.kf (aL hnew (Nat.le_trans hB hn)) k (ne hnew hcr'),hn⟩
  ·rw [dn q,dn q];obtain⟨s1,s2⟩:=h2 p (by omega);exact⟨(s1.below b).kf k (ne (s1.below b) hcr'),s2⟩
 ·by_cases q:p=I
  ·by_cases q':p'=I
   ·omega
   ·subst q;rw [eA,dn q'] at e;have:=(h2 p' (by omega)).1.lt;omega
  ·by_cases q':p'=I
   ·subst q';rw [eA,dn q] at e;have:=(h2 p (by omega)).1.lt;omega
   ·rw [dn q,dn q'] at e;exact h3 p p' (by omega) (by omega) e
theorem Ez {P:Program} {c:Code} {Q:Exit→Act→World→Prop} {a:Act} {w:World} {A:Act} {W:World} (hr:∀(K:Act→World→Prop),K A W→c.wp P (Exit.then K (fun _ _ _=>False)) a w) (h:Q .normal A W):c.wp P Q a w:=
 Code.wp_mono (fun e a w q=>by
  unfold Exit.then at q;split at q
  ·obtain⟨rfl,rfl⟩:=q;exact h
  ·exact q.elim) (hr (fun a' w'=>a'=A∧w'=W) ⟨rfl,rfl⟩)
theorem FK {P:Program} {c:Code} {Q:Exit→Act→World→Prop} {a:Act} {w:World} {A:Act} (R:World→Prop) (hr:∀(K:Act→World→Prop),(∀W,R W→K A W)→c.wp P (Exit.then K (fun _ _ _=>False)) a w) (h:∀W,R W→Q .normal A W):c.wp P Q a w:=
 Code.wp_mono (fun e a w q=>by
  unfold Exit.then at q;split at q
  ·obtain⟨rfl,q⟩:=q;exact h _ q
  ·exact q.elim) (hr (fun a' w'=>a'=A∧R w') fun _ h=>⟨rfl,h⟩)
theorem EE {ops:Array Oper} {o:Oper} {a:Act} {w:World} {K:Act→World→Prop} {Q:Exit→Act→World→Prop} {E:Prop} (hgd:o.guard=none) (x y z:Operand) (t:Array TypeId)
  (ho:o.op= .call {callee:= .value (.func 101),args:= #[x,y,z],argTypes:=t}) (vx vy vz:Value) (R:World→Prop) (hx:a.eval x=vx) (hy:a.eval y=vy) (hz:a.eval z=vz) (h:Calls Tryz.prog 101 #[vx,vy,vz] w fun e w'=>e= .returned (.tuple #[])∧R w') (hk:∀w',R w'→K (a.put o.dst (.tuple #[])) w'):if Region.wanted o (yielded ops a.tmps)=true then Oper.wp Tryz.prog o a w K Q else E:=by
 have hw:Region.wanted o (yielded ops a.tmps)=true:=by simp [Region.wanted,hgd]
 rw [if_pos hw];have hr:(execOp a.eval o).run Tryz.prog w= .ok (.enter 101 #[vx,vy,vz]) w:=by
  subst hx hy hz;simp [execOp,ho,go_sem]
 unfold Oper.wp;rw [hr];exact h.mono fun e w' ⟨he,hk2⟩=>by subst he;exact hk _ hk2
def LkJ (f:Fun) (V:List Int) (W B:Nat) (L:List (Int × Int)) (q:LkQ) (w:World):Prop:=
 (∀k,k < f.2.2.2.1.length→∀p,p≤(ag f k).length→aN w B (q.1 k p) (q.2.1 k p) W noB)∧∀k,k < f.2.2.2.1.length→aN w B (q.2.2.2.2.1 k) (q.2.2.2.2.2.1 k) W (lA V L k)
def LkT (f:Fun) (q:LkQ):Prop:=LkA f q∧∀k k',k < f.2.2.2.1.length→k' < f.2.2.2.1.length→q.2.2.2.2.1 k=q.2.2.2.2.1 k'→k=k'
theorem LkJ.below {f:Fun} {V:List Int} {W B:Nat} {L:List (Int × Int)} {q:LkQ} {w w':World} (h:LkJ f V W B L q w) (b:Below w.heap.size w w'):LkJ f V W B L q w':=
 ⟨fun k hk p hp=>(h.1 k hk p hp).below b,fun k hk=>(h.2 k hk).below b⟩
theorem LkJ.put {f:Fun} {V:List Int} {W B:Nat} {L:List (Int × Int)} {q:LkQ} {w w':World} {k0:Nat} {a:Int} (h:LkJ f V W B L q w) (hT:LkT f q) (hk0:k0 < f.2.2.2.1.length) (kf:Kf (· =q.2.2.2.2.1 k0) w w') (hs:aN w' B (q.2.2.2.2.1 k0) (q.2.2.2.2.2.1 k0) W (oO V (lA V L k0) a)):LkJ f V W B (L ++ [((k0:Int),a)]) q w':=
 ⟨fun k hk p hp=>(h.1 k hk p hp).kf kf (hT.1.2 k p k0 hk hp hk0),fun k hk=>by
  by_cases e:k=k0
  ·subst e;rw [GG];exact hs
  ·rw [uh (fun q=>e (by omega))];exact(h.2 k hk).kf kf (fun q=>e (hT.2 k k0 hk hk0 q))⟩
theorem LkJ.skip {f:Fun} {V:List Int} {W B:Nat} {L:List (Int × Int)} {q:LkQ} {w:World} {fr a:Int} (h:LkJ f V W B L q w) (hf:∀k,k < f.2.2.2.1.length→fr≠k):LkJ f V W B (L ++ [(fr,a)]) q w:=
 ⟨h.1,fun k hk=>by rw [uh (hf k hk)];exact h.2 k hk⟩
theorem EV {T A:List Int} {I:Nat} (h1:I < T.length) (h2:I < A.length):(T.zip A).take (I+1)=(T.zip A).take I ++ [(T.getD I 0,A.getD I 0)]:=by
 have hz:(T.zip A)[I]? =some (T.getD I 0,A.getD I 0):=by
  rw [List.getElem?_eq_getElem (by rw [List.length_zip];omega),List.getElem_zip,List.getD_eq_getElem?_getD,List.getD_eq_getElem?_getD,List.getElem?_eq_getElem h1,List.getElem?_eq_getElem h2];rfl
 exact aR hz
theorem EY {T A:List Int} {I:Nat} (h:A.length≤I):(T.zip A).take (I+1)=(T.zip A).take I:=by
 rw [List.take_of_length_le (by rw [List.length_zip];omega),List.take_of_length_le (by rw [List.length_zip];omega)]
theorem LkW.KJ {f:Fun} {V:List Int} {W lp:Nat} {wB w:World} {q:LkQ} (h:LkW f V W wB lp q w):∃gj cj,w.cell? ⟨lp,8,none⟩=some (.slice (some ⟨gj,0,none⟩) f.2.2.2.1.length cj)∧∀k,k < f.2.2.2.1.length→w.cell? ⟨gj,k,none⟩=some (.slice (some ⟨q.2.2.2.2.1 k,0,none⟩) W (q.2.2.2.2.2.1 k)):=by
 obtain⟨G,C,R,CR,J,CJ,⟨gj,cj,gr,cr⟩,⟨nm,pp,lps,cpp,rt,lb,cb,pl⟩,⟨va,cv,so,cs,po,cp⟩⟩:=q;obtain⟨_,⟨_,hlp⟩,hj,_⟩:=h;exact⟨gj,cj,(jD hlp).2.2.2.2.1,fun k hk=>gR hj hk⟩
theorem ED {f:Fun} {V:List Int} {W lp:Nat} {wB w:World} {q:LkQ} {L:List (Int × Int)} {x:Ins} {v:Value} (hL:LkW f V W wB lp q w) (hD:LkJ f V W wB.heap.size L q w) (hT:LkT f q) (hs:V.Pairwise (· < ·)) (hx:ib wB x v) (hxa:∀a∈x.2.2.2.2.1,a∈V)
  (hl:x.2.2.2.2.1.length≤1000000) (hz:x.2.2.2.2.2.1.length≤1000000) (hW:V.length≤64 * W) (hW2:W≤1000000):
  Calls Tryz.prog 68 #[.pointer (some ⟨lp,0,none⟩),v] w fun e w'=>e= .returned (.tuple #[])∧LkW f V W wB lp q w'∧LkJ f V W wB.heap.size (L ++ phP x) q w':=by
 obtain⟨ao,to,ca,ct,rfl,_⟩:=id hx;obtain⟨xl,hxl⟩:∃n,x.2.2.2.2.1.length=n:=⟨_,rfl⟩;obtain⟨zl,hzl⟩:∃n,x.2.2.2.2.2.1.length=n:=⟨_,rfl⟩;obtain⟨N,hNe⟩:∃n,f.2.2.2.1.length=n:=⟨_,rfl⟩;have Hxl:=aa hxl;have Hzl:=aa hzl;have HNe:=aa hNe;have HI:Hid (∀w',LkW f V W wB lp q w'→Sl w' ao x.2.2.2.2.1∧Sl w' to x.2.2.2.2.2.1):=aa (fun w' k=>⟨(nj hx).1.below k.base,(nj hx).2.below k.base⟩);have HA:=aa hxa;have HT:=aa hT;have CT:=aa (fun(k:Nat) (hk:k < N) (a:Int) (ha:a∈V) (b:Nat→Bool) w' (k':LkW f V W wB lp q w') (h:aN w' wB.heap.size (q.2.2.2.2.1 k) (q.2.2.2.2.2.1 k) W b)=>qi (lp:=lp) k'.val.1 k'.val.2.1 hs ha h hW hW2);have HF:=aa (fun(k:Nat) (hk:k < N) w' (k':LkJ f V W wB.heap.size L q w')=>lB.one (k'.2 k (by rw [hNe];exact hk)) (Nat.le_refl wB.heap.size));have b1:=af w (.cells (iC x ao to xl zl ca ct) 41);have H0:=aa (heap_alloc_new w (.cells (iC x ao to xl zl ca ct) 41));have HL1:=aa (hL.below b1);have HD1:=aa (hD.below b1);have HJb:Hid (∀k,k < N→q.2.2.2.2.1 k < w.heap.size):=aa (fun k hk=>(hD.2 k (by rw [hNe];exact hk)).lt.2);rw [hxl] at hl;rw [hzl] at hz;rw [hxl,hzl];clear hL hD hT hx hxa b1 hs hW hW2 hxl hzl hNe;obtain⟨q0,hq0e⟩:∃n,w.heap.size=n:=⟨_,rfl⟩;have hq0:q0 < (w.alloc (.cells (iC x ao to xl zl ca ct) 41)).heap.size:=by simp [hq0e]
 rw [hq0e] at H0 HJb;go_enter Tryz.func68,Tryz.ntmps68
 go_upto_region 1 with fail
 show Code.wp _ _ _ _ (w.alloc (.cells (iC x ao to xl zl ca ct) 41));generalize w.alloc (.cells (iC x ao to xl zl ca ct) 41)=W1 at *;obtain⟨x0,x1,x2,x3,x4,x5,x6,x7⟩:=jK H0.out;go_wp2_with fail
 clear x0 x1 x2 x3 x4 x5 x6 x7;go_loopw [9] (fun iv wr=>∃I:Nat,I≤zl∧iv= .int .i64 I∧q0 < wr.heap.size∧Hid (LkW f V W wB lp q wr)∧Hid (LkJ f V W wB.heap.size (L ++ (phP x).take I) q wr)∧Hid (wr.heap[q0]? =some (.cells (iC x ao to xl zl ca ct) 41 (0,0)))) (fun iv _=>zl - (intOf iv).toNat)
 case atStart=>exact⟨0,Nat.zero_le _,rfl,hq0,HL1,aa (by rw [List.take_zero,List.append_nil];exact HD1.out),H0⟩
 case round=>
  obtain⟨I,hI,rfl,hq,HL,HD,HX⟩:=hrel;by_cases hit:I < zl
  ·have hiI:(I:Int) < zl:=(by omega);obtain⟨y0,o0,rfl,cI⟩:=dP (HI.out wr HL.out).2 (i:=I) (by rw [Hzl.out];exact hit);obtain⟨x0,x1,x2,x3,x4,x5,x6,x7⟩:=jK HX.out;obtain⟨gj,cj,l8,rj⟩:=HL.out.KJ;rw [HNe.out] at l8 rj;have HZ:=aa (fun(h:I < xl)=>EV (T:=x.2.2.2.2.2.1) (A:=x.2.2.2.2.1) (I:=I) (by rw [Hzl.out];exact hit) (by rw [Hxl.out];exact h));have HZ0:=aa (fun(h:¬I < xl)=>EY (T:=x.2.2.2.2.2.1) (A:=x.2.2.2.2.1) (I:=I) (by rw [Hxl.out];omega));generalize x.2.2.2.2.2.1.getD I 0=fr at *;have HSk:Hid (¬(0≤fr∧fr < N∧I < xl)→LkJ f V W wB.heap.size (L ++ (phP x).take (I+1)) q wr):=aa (fun hn=>by
    by_cases h3:I < xl
    ·show LkJ f V W wB.heap.size (L ++ (x.2.2.2.2.2.1.zip x.2.2.2.2.1).take (I+1)) q wr;rw [HZ.out h3,←List.append_assoc];exact HD.out.skip (fun k hk e=>hn ⟨by omega,by rw [HNe.out] at hk;omega,h3⟩)
    ·show LkJ f V W wB.heap.size (L ++ (x.2.2.2.2.2.1.zip x.2.2.2.2.1).take (I+1)) q wr;rw [HZ0.out h3];exact HD.out)
   by_cases h1:0≤fr
   ·by_cases h2:fr < N
    ·by_cases h3:I < xl
     ·have h3i:(I:Int) < xl:=(by omega);obtain⟨k0,rfl⟩:=Int.eq_ofNat_of_zero_le h1;have hk0:k0 < N:=(by omega);have ck:=rj k0 hk0;obtain⟨y1,o1,rfl,cA⟩:=dP (HI.out wr HL.out).1 (i:=I) (by rw [Hxl.out];exact h3);have ha:x.2.2.2.2.1.getD I 0∈V:=HA.out _ (by rw [List.getD_eq_getElem?_getD,List.getElem?_eq_getElem (by rw [Hxl.out];exact h3)];exact List.getElem_mem _);have HE:=aa (HZ.out h3);clear HZ HZ0 rj;generalize x.2.2.2.2.1.getD I 0=a at *;have HC:=aa (CT.out k0 hk0 a ha _ wr.drew (HL.out.drew 1) ((HD.out.2 k0 (by rw [HNe.out];exact hk0)).below (L5.aW wr)));have HR:Hid (∀w',aN w' wB.heap.size (q.2.2.2.2.1 k0) (q.2.2.2.2.2.1 k0) W (oO V (lA V (L ++ (phP x).take I) k0) a)∧Kf (· =q.2.2.2.2.1 k0) wr.drew w'→q0 < w'.heap.size∧LkW f V W wB lp q w'∧LkJ f V W wB.heap.size (L ++ (phP x).take (I+1)) q w'∧w'.heap[q0]? =some (.cells (iC x (some ⟨y1,o1,none⟩) (some ⟨y0,o0,none⟩) xl zl ca ct) 41 (0,0))):=aa (fun w' ⟨s,k⟩=>by
       have k2:Kf (· =q.2.2.2.2.1 k0) wr w':=k;refine⟨Nat.lt_of_lt_of_le hq k2.2.2.2.1,HL.out.kf k2 (lB.one (HD.out.2 k0 (by rw [HNe.out];exact hk0)) (Nat.le_refl _)),?_,(k2.2.2.2.2 q0 hq (fun e=>by have:=HJb.out k0 hk0;omega)).trans HX.out⟩;show LkJ f V W wB.heap.size (L ++ (x.2.2.2.2.2.1.zip x.2.2.2.2.1).take (I+1)) q w';rw [HE.out,←List.append_assoc];exact HD.out.put HT.out (by rw [HNe.out];exact hk0) k2 s)
      clear ha HL HD HX HE;generalize q.2.2.2.2.1 k0=g0 at *;generalize q.2.2.2.2.2.1 k0=c0 at *;go_upto_region 5 with fail
      apply FK (R:=fun w'=>aN w' wB.heap.size g0 c0 W (oO V (lA V (L ++ (phP x).take I) k0) a)∧Kf (· =g0) wr.drew w')
      ·intro K0 HK0;go_region_law ((refine EE rfl (.tmp 32) (.tmp 39) (.tmp 44) _ rfl (.pointer (some ⟨lp,0,none⟩)) (.slice (some ⟨g0,0,none⟩) W c0) (.int .i64 a) _ rfl rfl rfl HC.out ?_);intro w9 hR9)
       all_goals exact HK0 _ hR9
      intro w2 hw2;have HW2:=aa (HR.out w2 hw2);clear hw2 HR HC;go_wp2_with fail
      go_roundw
      case rel=>exact⟨I+1,by omega,by go_num,HW2.out.1,aa HW2.out.2.1,aa HW2.out.2.2.1,aa HW2.out.2.2.2⟩
      case measure=>simp [intOf];omega
     ·have h3i:¬(I:Int) < xl:=(by omega);clear HZ HZ0 rj;go_wp2_with fail
      go_roundw
      case rel=>exact⟨I+1,by omega,by go_num,hq,HL,aa (HSk.out (fun h=>h3 h.2.2)),HX⟩
      case measure=>simp [intOf];omega
    ·have h2i:decide (fr < (N:Int))=false:=decide_eq_false h2;clear HZ HZ0 rj;go_wp2_with fail
     go_roundw
     case rel=>exact⟨I+1,by omega,by go_num,hq,HL,aa (HSk.out (fun h=>h2 h.2.1)),HX⟩
     case measure=>simp [intOf];omega
   ·have h1i:¬fr ≥ 0:=h1;clear HZ HZ0 rj;go_wp2_with fail
    go_roundw
    case rel=>exact⟨I+1,by omega,by go_num,hq,HL,aa (HSk.out (fun h=>h1 h.1)),HX⟩
    case measure=>simp [intOf];omega
  ·obtain rfl:I=zl:=(by omega);have HE:Hid (LkJ f V W wB.heap.size (L ++ phP x) q wr):=aa (by have h:=HD.out;rw [List.take_of_length_le (by unfold phP;rw [List.length_zip,Hzl.out];omega)] at h;exact h);go_wp2_with fail
   go_end0
   exact⟨rfl,HL.out,HE.out⟩
end Go.Proofs.YtaiaakklokahjaaGreatDoor
