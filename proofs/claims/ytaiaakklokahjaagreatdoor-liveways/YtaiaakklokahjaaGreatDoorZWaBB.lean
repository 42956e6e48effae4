/- Texts of one chain, joined. -/
import Derived.Test.YtaiaakklokahjaaGreatDoorZWaAZ
set_option maxHeartbeats 2000000
set_option maxRecDepth 20000
namespace Go.Proofs.YtaiaakklokahjaaGreatDoor
open Go Go.RowKit
open G (Tok Er Ins Fun)
def uC (x:Int) (l:List Int):Nat:=(l.takeWhile fun a=>decide (a < x)).length
theorem Bf (x a:Int) (l:List Int):uC x (a :: l)=if a < x then uC x l+1 else 0:=by
 unfold uC;rw [List.takeWhile_cons];by_cases h:a < x
 ·simp [h]
 ·simp [h]
def kP (l:List Int) (x:Int):List Int:=l.take (uC x l) ++ [x] ++ l.drop (uC x l)
theorem D6 (l:List Int) (x:Int):(kP l x).length=l.length+1:=by
 have h:=congrArg List.length (List.take_append_drop (uC x l) l);unfold kP;simp only [List.length_append,List.length_cons,List.length_nil] at h ⊢;omega
def jh (l:List Int) (b:List Ins):List Int:=b.foldl (fun l x=>if mkX x=0 then l else kP l x.2.1) l
def lL (l:List Int) (bs:List (List Ins)):List Int:=bs.foldl jh l
def pT (n:Nat):List Int:=(List.range n).map fun i:Nat=>(i:Int)
def jf (f:Fun):List Int:=lL (pT f.2.1.length) f.2.2.2.1
theorem Cf (n:Nat):(pT n).length=n:=by simp [pT]
theorem BC {l:List Int} {b:List Ins} {J:Nat} (h:J < b.length):jh l (b.take (J+1))=if mkX (gI b J)=0 then jh l (b.take J)else kP (jh l (b.take J)) (gI b J).2.1:=by
 unfold jh;rw [aR (yZ h),List.foldl_append];rfl
theorem zS {l:List Int} {f:Fun} {K:Nat} (h:K < f.2.2.2.1.length):lL l (f.2.2.2.1.take (K+1))=jh (lL l (f.2.2.2.1.take K)) (ag f K):=by
 have e:f.2.2.2.1[K]? =some (ag f K):=by unfold ag;rw [List.getElem?_eq_getElem h,List.getD_eq_getElem?_getD,List.getElem?_eq_getElem h];rfl
 unfold lL;rw [aR e,List.foldl_append];rfl
theorem yt:∀(b:List Ins) (l:List Int),(jh l b).length≤l.length+b.length
 |[],l=>Nat.le_refl _
 |x :: b,l=>by
  have h:=yt b (if mkX x=0 then l else kP l x.2.1);have e:jh l (x :: b)=jh (if mkX x=0 then l else kP l x.2.1) b:=rfl;rw [e];have h2:(if mkX x=0 then l else kP l x.2.1).length≤l.length+1:=by
   split
   ·omega
   ·rw [D6];exact Nat.le_refl _
  simp only [List.length_cons];omega
theorem yr:∀(bs:List (List Ins)) (l:List Int),(lL l bs).length≤l.length+(bs.map List.length).sum
 |[],l=>by simp [lL]
 |b :: bs,l=>by
  have h:=yr bs (jh l b);have h2:=yt b l;have e:lL l (b :: bs)=lL (jh l b) bs:=rfl;rw [e];simp only [List.map_cons,List.sum_cons];omega
def wid (f:Fun):Nat:=f.2.1.length+(f.2.2.2.1.map List.length).sum
def Src (w:World) (l:List Int) (v:Value):Prop:=(v= .slice none 0 0∧l= [])∨∃g o c,v= .slice (some ⟨g,o,none⟩) l.length c∧g < w.heap.size∧∀j u,(ints l)[j]? =some u→w.cell? ⟨g,o+j,none⟩=some u
theorem Src.below {w w':World} {l:List Int} {v:Value} (h:Src w l v) (b:Below w.heap.size w w'):Src w' l v:=by
 rcases h with h | ⟨g,o,c,rfl,hg,hc⟩
 ·exact .inl h
 ·exact .inr ⟨g,o,c,rfl,Nat.lt_of_lt_of_le hg b.size,fun j u hj=>(b.cell (p:=⟨g,o+j,none⟩) hg).trans (hc j u hj)⟩
def kV (p:List Fun):Bool:=decide (total p≤100) && p.all fun f=>decide (f.2.2.2.1.length≤12)
theorem tT (p:List Fun) (po:Option Addr) (pc:Nat) (w:World) (hp:eg w p (.slice po p.length pc)) (hl:p.length≤140737488355328) (hS:∀f∈p,ShF f):
  Calls Tryz.prog 29 #[.agg #[.slice po p.length pc]] w fun e w'=>e= .returned (.int .i64 (if kV p then 0 else 1))∧Below w.heap.size w w':=by
 have HL:Hid (kV p=(decide (total p≤100) && p.all fun f=>decide (f.2.2.2.1.length≤12))):=aa rfl;have CS:=aa (fun w' (b:Below w.heap.size w w')=>zq p po pc w' (hp.below b) hl hS);have HRd:Hid (∀i,i < p.length→∃g o,po=some ⟨g,o,none⟩∧pd w (bh p i) g (o+i * 5)):=aa (fun i hi=>gB hp hi);have HSb:Hid (∀i,i < p.length→(bh p i).2.2.2.1.length≤maxLen):=aa (fun i hi=>by
  obtain⟨g,o,_,hfr⟩:=gB hp hi;obtain⟨_,vp,vb,_,_,⟨_,_,_,h1,h2,_⟩⟩:=hfr;exact Nat.le_trans h1 h2)
 have HMm:Hid (∀f∈p,∃i,i < p.length∧bh p i=f):=aa (fun f hf=>by
  obtain⟨i,hi⟩:=List.mem_iff_getElem?.1 hf;exact⟨i,(List.getElem?_eq_some_iff.1 hi).1,Fo hi⟩)
 have HMi:Hid (∀i,i < p.length→bh p i∈p):=aa (fun i hi=>List.mem_of_getElem? (jS hi));clear hp hS;obtain⟨r,hr⟩:∃r,kV p=r:=⟨_,rfl⟩;rw [hr] at HL ⊢;clear hr;obtain⟨rv,HRv⟩:∃rv:Int,Hid ((if r then(0:Int)else 1)=rv):=⟨_,aa rfl⟩;rw [HRv.out];generalize hpn:p.length=pn at *;replace hpn:=aa hpn;have B0:=aa (af w (.cells #[.slice po pn pc] 24));have H1:=aa (heap_alloc_new w (.cells #[.slice po pn pc] 24));go_enter Tryz.func29,Tryz.ntmps29
 go_upto_region 1 with fail
 show Code.wp _ _ _ _ (w.alloc (.cells #[.slice po pn pc] 24));generalize w.alloc (.cells #[.slice po pn pc] 24)=W at *;have hq0:w.heap.size < W.heap.size:=(bC H1.out).2;have c0:=(bC H1.out).1;have C1:=aa (CS.out W B0.out);go_wp2_with fail
 refine C1.out.mono ?_;rintro e w1 ⟨⟨n,rfl,hcn⟩,b1⟩;have BW1:=aa b1;clear C1 CS c0 b1;by_cases ht:total p≤100
 ·obtain rfl:n=total p:=by
   rcases hcn with h | h
   ·exact h
   ·omega
  have htI:¬(100:Int) < (total p:Int):=by omega
  have HL2:Hid (r=p.all fun f=>decide (f.2.2.2.1.length≤12)):=aa (by rw [HL.out,decide_eq_true ht];simp);clear hcn HL;generalize total p=tp at *;go_wp2_with fail
  go_loopw [3] (fun iv wr=>∃i:Nat,i≤pn∧iv= .int .i64 i∧Hid (∀j,j < i→(bh p j).2.2.2.1.length≤12)∧Hid (Below W.heap.size W wr)) (fun iv _=>pn - (intOf iv).toNat)
  case atStart=>exact⟨0,Nat.zero_le _,rfl,aa (fun j h=>absurd h (Nat.not_lt_zero _)),BW1⟩
  case round=>
   clear BW1;obtain⟨i,hi,rfl,HF,HW⟩:=hrel;have c0:=(HW.out.cell (p:=⟨w.heap.size,0,none⟩) hq0).trans (bC H1.out).1;have Bw:=aa (ae B0.out HW.out);by_cases hit:i < pn
   ·have hiI:(i:Int) < pn:=(by omega);obtain⟨g,o,rfl,hfr⟩:=HRd.out i hit;obtain⟨_,bo,_,cb,_,_,_,_,d3,_⟩:=hfr.val;replace d3:=(Bw.out.cell (p:=⟨g,o+i * 5+3,none⟩) hfr.1).trans d3;have hbl:=HSb.out i hit;unfold maxLen at hbl;obtain⟨bn,hbn⟩:∃bn,(bh p i).2.2.2.1.length=bn:=⟨_,rfl⟩;rw [hbn] at d3 hbl;clear hfr;by_cases h12:bn≤12
    ·have h12I:¬(12:Int) < (bn:Int):=(by omega);have HF2:Hid (∀j,j < i+1→(bh p j).2.2.2.1.length≤12):=aa (fun j hj=>by
      by_cases e:j=i
      ·rw [e,hbn];exact h12
      ·exact HF.out j (by omega))
     clear hbn;go_wp2_with fail
     go_roundw
     case rel=>exact⟨i+1,by omega,by go_num,HF2,HW⟩
     case measure=>simp [intOf];omega
    ·have h12I:(12:Int) < (bn:Int):=(by omega);have HR:Hid ((1:Int)=rv):=aa (by
      have:r=false:=by
       rw [HL2.out,Bool.eq_false_iff];intro hall;have:=List.all_eq_true.1 hall _ (HMi.out i hit);rw [hbn] at this;simp at this;omega
      rw [←HRv.out,this];rfl)
     clear hbn;go_wp2_with fail
     go_ret;exact⟨bD HR.out,Bw.out⟩
   ·obtain rfl:i=pn:=(by omega);have HR:Hid ((0:Int)=rv):=aa (by
     have:r=true:=by
      rw [HL2.out];refine List.all_eq_true.2 fun f hf=> ?_;obtain⟨j,hj,rfl⟩:=HMm.out f hf;simpa using HF.out j hj
     rw [←HRv.out,this];rfl)
    go_wp2_with fail
    go_ret;exact⟨bD HR.out,Bw.out⟩
 ·have hn100:(100:Int) < (n:Int):=by
   rcases hcn with h | h <;> omega
  have HR:Hid ((1:Int)=rv):=aa (by rw [←HRv.out,HL.out,decide_eq_false ht];rfl);have HE:=aa (ae B0.out BW1.out);clear hcn;go_wp2_with fail
  go_ret;exact⟨bD HR.out,HE.out⟩
theorem GxF.Lx {f:Fun} (h:GxF f):OkF f:=by
 obtain⟨h1,_,_,h4⟩:=h;unfold Few at h1;refine⟨by unfold maxLen;omega,fun b hb x hx=> ?_⟩;obtain⟨_,k2,_,_,_,_,k7⟩:=h4 b hb x hx;unfold Few at k7;exact⟨k2,by unfold maxLen;omega⟩
theorem GxF.LP {f:Fun} (h:GxF f):ShF f:=by
 obtain⟨h1,h2,h3,h4⟩:=h;refine⟨h1,h2,h3,fun b hb x hx=> ?_⟩;obtain⟨_,_,_,_,k5,k6,k7⟩:=h4 b hb x hx;exact⟨k5,k6,k7⟩
def Ke (p:List Fun):Prop:=∀f∈p,f.2.2.2.1.length≤1000000∧f.2.1.length≤1000000∧∀b∈f.2.2.2.1,b.length≤1000000∧∀x∈b,x.2.2.2.2.1.length≤1000000∧x.2.2.2.2.2.1.length≤1000000
theorem lE {α:Type} (g:α→Nat) {l:List α} {x:α} (h:x∈l):g x≤(l.map g).sum:=by
 induction l with
 |nil=>simp at h
 |cons y l ih=>
  simp only [List.map_cons,List.sum_cons];rcases List.mem_cons.1 h with rfl | h
  ·omega
  ·have:=ih h;omega
theorem Dn (b:List Ins):b.length≤wB b:=by
 unfold wB;induction b with
 |nil=>simp
 |cons x b ih=>
  simp only [List.length_cons,List.map_cons,List.sum_cons];have:1≤wI x:=by unfold wI;omega
  omega
theorem Ii {p:List Fun} (h:kV p=true):p.length≤100∧Ke p:=by
 unfold kV at h;simp only [Bool.and_eq_true,decide_eq_true_eq,List.all_eq_true] at h;obtain⟨h1,h2⟩:=h;unfold total at h1;refine⟨by omega,fun f hf=> ?_⟩;have hf1:wF f≤wFs p:=lE wF hf;have hf2:wF0 f+wBs f.2.2.2.1≤100:=by unfold wF at hf1;omega
 have h3:=h2 f hf;refine⟨by omega,by unfold wF0 at hf2;omega,fun b hb=> ?_⟩;have hb1:wB b≤wBs f.2.2.2.1:=lE wB hb;refine⟨by have:=Dn b;omega,fun x hx=> ?_⟩;have hx1:wI x≤wB b:=lE wI hx;unfold wI at hx1;omega
theorem ie {p:List Fun} (h:kV p=true) (gp:∀y∈p,GxF y):p.length≤1000000∧(∀f∈p,OkF f)∧(∀f∈p,Mod f∧f.2.1.length≤1000000)∧((aT 0 0 p).1=0→∀f∈p,Kept p f):=by
 obtain⟨h1,hS⟩:=Ii h;exact⟨by omega,fun f hf=>(gp f hf).Lx,fun f hf=>⟨⟨(hS f hf).1,fun b hb=>((hS f hf).2.2 b hb).1⟩,(hS f hf).2.1⟩,fun hW=>Hy hW fun g hg=>⟨(hS g hg).1,fun b hb x hx=>(((hS g hg).2.2 b hb).2 x hx).2⟩⟩
def lgQ (p:List Fun):Bool:=kV p && decide ((iY p false).1=0) && decide (0 < p.length)
def Fx (p:List Fun) (wh:Int) (w:World) (e:Ending) (w':World):Prop:=
 (∃lp cp lb cb lps lbs nm rt pl,e= .returned (.tuple #[.agg #[.string nm,.slice lp lps cp,.int .i64 rt,.slice lb lbs cb,.int .i64 pl],.bool (lgQ p)])∧(lgQ p=true→bS w' (bh p (wh % (p.length:Int)).toNat) (.agg #[.string nm,.slice lp lps cp,.int .i64 rt,.slice lb lbs cb,.int .i64 pl])))∧Below w.heap.size w w'
abbrev zF:Array Value:= #[.string ⟨#[]⟩,.slice none 0 0,.int .i64 0,.slice none 0 0,.int .i64 0]
theorem Ix (w:World) (a b:Obj):Below w.heap.size w ((w.alloc a).alloc b)∧((w.alloc a).alloc b).heap[w.heap.size]? =some a∧((w.alloc a).alloc b).heap[w.heap.size+1]? =some b:=by
 have h1:=af w a;have h2:=af (w.alloc a) b;have hs:(w.alloc a).heap.size=w.heap.size+1:=by simp
 refine⟨ae h1 h2,(h2.block _ (by omega)).trans (heap_alloc_new w a),?_⟩;rw [←hs];exact heap_alloc_new _ b
theorem iI {B q:Nat} {w0 w:World} (hq:B≤q) (h:Below B w0 w) (a b c d e:Value):Below B w0 (((((w.setCell ⟨q,0,none⟩ a).setCell ⟨q,1,none⟩ b).setCell ⟨q,2,none⟩ c).setCell ⟨q,3,none⟩ d).setCell ⟨q,4,none⟩ e):=
 ((((h.setCell (p:=⟨q,0,none⟩) hq _).setCell (p:=⟨q,1,none⟩) hq _).setCell (p:=⟨q,2,none⟩) hq _).setCell (p:=⟨q,3,none⟩) hq _).setCell (p:=⟨q,4,none⟩) hq _
def KH (q g o R n pc:Nat) (wh:Int) (fv:Value) (t:Tmp):Mix.Up:=match t with
 |22 | 26=>Mix.Up.eq (.pointer (some ⟨q,0,none⟩))
 |23 | 27=>Mix.Up.eq (.slice (some ⟨g,o,none⟩) n pc)
 |24=>Mix.Up.eq (.int .u8 wh)
 |25=>Mix.Up.eq (.int .i64 wh)
 |28=>Mix.Up.eq (.int .i64 n)
 |29=>Mix.Up.eq (.int .i64 R)
 |30=>Mix.Up.eq (.pointer (some ⟨g,o+R * 5,none⟩))
 |31=>Mix.Up.eq fv
 |_=>Mix.Up.any
theorem Bj (p:List Fun) (wh:Int) (po:Option Addr) (pc:Nat) (w:World) (hp:eg w p (.slice po p.length pc)) (gp:∀y∈p,GxF y) (fp:Few p.length) (hwb:0≤wh∧wh < 256):
  Calls Tryz.prog 5 #[.agg #[.slice po p.length pc],.int .u8 wh] w (Fx p wh w):=by
 have CL:=aa (fun w' (b:Below w.heap.size w w')=>tT p po pc w' (hp.below b) fp (fun f hf=>(gp f hf).LP));have CC:=aa (fun(h:kV p=true) w' (b:Below w.heap.size w w')=>uw p false po pc w' (hp.below b) (ie h gp).1 (ie h gp).2.1 (ie h gp).2.2.1 (ie h gp).2.2.2);have HP:=aa hp;have HQ:Hid (lgQ p=(kV p && decide ((iY p false).1=0) && decide (0 < p.length))):=aa rfl;have HO:Hid (Fx p wh w=fun e w'=>(∃lp cp lb cb lps lbs nm rt pl,e= .returned (.tuple #[.agg #[.string nm,.slice lp lps cp,.int .i64 rt,.slice lb lbs cb,.int .i64 pl],.bool (lgQ p)])∧(lgQ p=true→bS w' (bh p (wh % (p.length:Int)).toNat) (.agg #[.string nm,.slice lp lps cp,.int .i64 rt,.slice lb lbs cb,.int .i64 pl])))∧Below w.heap.size w w'):=aa rfl;clear gp fp;obtain⟨⟨c1,c2⟩,hc⟩:∃c,iY p false=c:=⟨_,rfl⟩;rw [hc] at CC HQ;obtain⟨n,hn⟩:∃n,p.length=n:=⟨_,rfl⟩;rw [hn] at CL CC HQ HO ⊢;have Hn:=aa hn;clear hc hn hp;obtain⟨b0,h1,h2⟩:=Ix w (.cells #[.slice po n pc] 24) (.cells zF 29);have H1:=aa h1;have H2:=aa h2;have B0:=aa b0;clear b0 h1 h2;have hfl:∀(a b:Value) (w:World),(Instr.field 59 (.agg #[a,b]) 0).run Tryz.prog w= .ok a w:=fun _ _ _=>rfl;rw [HO.out];go_enter Tryz.func5,Tryz.ntmps5
 go_upto_region 1 with fail
 show Code.wp _ _ _ _ ((w.alloc (.cells #[.slice po n pc] 24)).alloc (.cells zF 29));generalize (w.alloc (.cells #[.slice po n pc] 24)).alloc (.cells zF 29)=W at *;have x0:=(bC H1.out).1;have C1:=aa (CL.out W B0.out);go_wp2_with fail
 refine C1.out.mono ?_;rintro e w1 ⟨rfl,b1⟩;have B1:=aa (ae B0.out b1);have K1:=aa ((b1.block _ (Array.getElem?_eq_some_iff.1 H1.out).1).trans H1.out);have K2:=aa ((b1.block _ (Array.getElem?_eq_some_iff.1 H2.out).1).trans H2.out);clear b1 x0 C1 CL H1 H2 B0;have x0:=(bC K1.out).1;obtain⟨⟨z0,z1,z2,z3,z4⟩,⟨f0,f1,f2,f3,f4⟩,_⟩:=eW K2.out
 cases hL:kV p with
 |false=>
  have HF:Hid (lgQ p=false):=aa (by rw [HQ.out,hL];rfl);clear hL CC;have HE:=aa (iI (q:=w.heap.size+1) (Nat.le_succ _) B1.out (.string ⟨#[]⟩) (.slice none 0 0) (.int .i64 0) (.slice none 0 0) (.int .i64 0));go_wp2_with fail
  exact bodyPost_ret (v:= .tuple #[.agg zF,.bool false]) (by simp [results,Tryz.results5,go_sem,zF,z0,z1,z2,z3,z4]) rfl ⟨⟨none,0,none,0,0,0,⟨#[]⟩,0,0,by rw [HF.out],fun h=>by rw [HF.out] at h;cases h⟩,HE.out⟩
 |true=>
  have C2:=aa (CC.out hL w1 B1.out);replace HQ:Hid (lgQ p=(decide (c1=0) && decide (0 < n))):=aa (by rw [HQ.out,hL];rfl);clear hL CC z0 z1 z2 z3 z4 f0 f1 f2 f3 f4;go_wp2_with fail
  refine C2.out.mono ?_;rintro e w2 ⟨rfl,b2⟩;have B2:=aa (ae B1.out b2);have K3:=aa ((b2.block _ (Array.getElem?_eq_some_iff.1 K1.out).1).trans K1.out);have K4:=aa ((b2.block _ (Array.getElem?_eq_some_iff.1 K2.out).1).trans K2.out);clear b2 x0 C2 K1 K2 B1;have x0:=(bC K3.out).1;obtain⟨⟨z0,z1,z2,z3,z4⟩,⟨f0,f1,f2,f3,f4⟩,_⟩:=eW K4.out;by_cases hc0:c1=0
  ·have g1:(c1 != 0)=false:=(by rw [bne_eq_false_iff_eq];exact hc0);by_cases hn0:n=0
   ·subst hn0;have HF:Hid (lgQ p=false):=aa (by rw [HQ.out];simp);clear hc0;have HE:=aa (iI (q:=w.heap.size+1) (Nat.le_succ _) B2.out (.string ⟨#[]⟩) (.slice none 0 0) (.int .i64 0) (.slice none 0 0) (.int .i64 0));go_wp2_with fail
    exact bodyPost_ret (v:= .tuple #[.agg zF,.bool false]) (by simp [results,Tryz.results5,go_sem,zF,z0,z1,z2,z3,z4]) rfl ⟨⟨none,0,none,0,0,0,⟨#[]⟩,0,0,by rw [HF.out],fun h=>by rw [HF.out] at h;cases h⟩,HE.out⟩
   ·have HF:Hid (lgQ p=true):=aa (by rw [HQ.out];simp [hc0];omega);have k2:((n:Int) == 0)=false:=beq_eq_false_iff_ne.2 (by omega);have hwh:IntKind.i64.wrap wh=wh:=IntWalk.i64_in _ ⟨by omega,by omega⟩;have hpn0:(n:Int)≠0:=(by omega);have hr0:0≤wh % (n:Int):=Int.emod_nonneg _ hpn0;have hr1:wh % (n:Int) < n:=Int.emod_lt_of_pos _ (by omega);obtain⟨R,hR⟩:∃R:Nat,wh % (n:Int)=(R:Int):=⟨(wh % (n:Int)).toNat,by omega⟩;have hRn:R < n:=(by omega);have hR2:(R:Int) < (n:Int):=(by omega);have hrm:Int.tmod wh n=(R:Int):=(by rw [←hR];exact Int.tmod_eq_emod_of_nonneg hwb.1);obtain⟨g,o,rfl,hfr⟩:=gB HP.out (i:=R) (by rw [Hn.out];exact hRn);obtain⟨ha,hb,hc,hdd,hfv,d0,d1,d2,d3,d4⟩:=hfr.val;have hgl:=hfr.1;obtain⟨nm,hnm⟩:∃x,bs (bh p R).1=x:=⟨_,rfl⟩;obtain⟨fl,hfl2⟩:∃x,(bh p R).2.1.length=x:=⟨_,rfl⟩;obtain⟨rt,hrt⟩:∃x,(bh p R).2.2.1=x:=⟨_,rfl⟩;obtain⟨fb,hfb⟩:∃x,(bh p R).2.2.2.1.length=x:=⟨_,rfl⟩;obtain⟨pl,hpl⟩:∃x,(bh p R).2.2.2.2=x:=⟨_,rfl⟩;have HFv:Hid (bS w (bh p R) (.agg #[.string nm,.slice ha fl hc,.int .i64 rt,.slice hb fb hdd,.int .i64 pl])):=aa (by
     rw [hnm,hfl2,hrt,hfb,hpl] at hfv;exact hfv)
    rw [hnm] at d0;rw [hfl2] at d1;rw [hrt] at d2;rw [hfb] at d3;rw [hpl] at d4;have HRe:Hid ((wh % (n:Int)).toNat=R):=aa (by rw [hR];rfl);have ds:=fun(w':World) (b:Below w2.heap.size w2 w')=>(⟨((ae B2.out b).cell (p:=⟨g,o+R * 5,none⟩) hgl).trans d0,((ae B2.out b).cell (p:=⟨g,o+R * 5+1,none⟩) hgl).trans d1,((ae B2.out b).cell (p:=⟨g,o+R * 5+2,none⟩) hgl).trans d2,((ae B2.out b).cell (p:=⟨g,o+R * 5+3,none⟩) hgl).trans d3,((ae B2.out b).cell (p:=⟨g,o+R * 5+4,none⟩) hgl).trans d4⟩:_∧_∧_∧_∧_);have xs:=fun(w':World) (b:Below w2.heap.size w2 w')=>(bC ((b.block _ (Array.getElem?_eq_some_iff.1 K3.out).1).trans K3.out)).1;replace ds:=aa ds;replace xs:=aa xs;clear hfr hfv d0 d1 d2 d3 d4 hnm hfl2 hrt hfb hpl hc0 hR z0 z1 z2 z3 z4 f0 f1 f2 f3 f4 hr0 hr1;go_wp2_with fail
    replace ds:=ds.out;replace xs:=xs.out;refine Mix.oL (KH w.heap.size g o R n pc wh (.agg #[.string nm,.slice ha fl hc,.int .i64 rt,.slice hb fb hdd,.int .i64 pl])) 10 1 _ rfl rfl (by kernel_rfl) (by kernel_rfl) (by kernel_rfl) (by kernel_rfl) ?_;refine Mix.aj rfl (aq (.pointer (some ⟨w.heap.size,0,none⟩)) rfl) ?_ ?_
    ·intro w b k;clear k;simp [go_sem];exact⟨Below.refl _ _,fun d hd=>by cases hd;rfl⟩
    rintro v ⟨_,_,h⟩;obtain rfl:v=(.pointer (some ⟨w.heap.size,0,none⟩)):=h _ rfl;clear h;simp only [Act.put,sU1,sU2,sU3];refine Mix.aj rfl (aq (.slice (some ⟨g,o,none⟩) n pc) rfl) ?_ ?_
    ·intro w b k;have y0:=xs w b;clear k;simp [go_sem,y0];exact⟨Below.refl _ _,fun d hd=>by cases hd;rfl⟩
    rintro v ⟨_,_,h⟩;obtain rfl:v=(.slice (some ⟨g,o,none⟩) n pc):=h _ rfl;clear h;simp only [Act.put,sU1,sU2,sU3];refine Mix.aj rfl (aq (.int .u8 wh) rfl) ?_ ?_
    ·intro w b k;clear k;simp [go_sem];exact⟨Below.refl _ _,fun d hd=>by cases hd;rfl⟩
    rintro v ⟨_,_,h⟩;obtain rfl:v=(.int .u8 wh):=h _ rfl;clear h;simp only [Act.put,sU1,sU2,sU3];refine Mix.aj rfl (aq (.int .i64 wh) rfl) ?_ ?_
    ·intro w b k;clear k;simp [go_sem,hwh];exact⟨Below.refl _ _,fun d hd=>by cases hd;rfl⟩
    rintro v ⟨_,_,h⟩;obtain rfl:v=(.int .i64 wh):=h _ rfl;clear h;simp only [Act.put,sU1,sU2,sU3];refine Mix.aj rfl (aq (.pointer (some ⟨w.heap.size,0,none⟩)) rfl) ?_ ?_
    ·intro w b k;clear k;simp [go_sem];exact⟨Below.refl _ _,fun d hd=>by cases hd;rfl⟩
    rintro v ⟨_,_,h⟩;obtain rfl:v=(.pointer (some ⟨w.heap.size,0,none⟩)):=h _ rfl;clear h;simp only [Act.put,sU1,sU2,sU3];refine Mix.aj rfl (aq (.slice (some ⟨g,o,none⟩) n pc) rfl) ?_ ?_
    ·intro w b k;have y0:=xs w b;clear k;simp [go_sem,y0];exact⟨Below.refl _ _,fun d hd=>by cases hd;rfl⟩
    rintro v ⟨_,_,h⟩;obtain rfl:v=(.slice (some ⟨g,o,none⟩) n pc):=h _ rfl;clear h;simp only [Act.put,sU1,sU2,sU3];refine Mix.aj rfl (aq (.int .i64 n) rfl) ?_ ?_
    ·intro w b k;clear k;simp [go_sem];exact⟨Below.refl _ _,fun d hd=>by cases hd;rfl⟩
    rintro v ⟨_,_,h⟩;obtain rfl:v=(.int .i64 n):=h _ rfl;clear h;simp only [Act.put,sU1,sU2,sU3];refine Mix.aj rfl (aq (.int .i64 R) rfl) ?_ ?_
    ·intro w b k;clear k;simp [go_sem,hn0,hrm];exact⟨Below.refl _ _,fun d hd=>by cases hd;rfl⟩
    rintro v ⟨_,_,h⟩;obtain rfl:v=(.int .i64 R):=h _ rfl;clear h;simp only [Act.put,sU1,sU2,sU3];refine Mix.aj rfl (aq (.pointer (some ⟨g,o+R * 5,none⟩)) rfl) ?_ ?_
    ·intro w b k;clear k;simp [go_sem,hR2];exact⟨Below.refl _ _,fun d hd=>by cases hd;rfl⟩
    rintro v ⟨_,_,h⟩;obtain rfl:v=(.pointer (some ⟨g,o+R * 5,none⟩)):=h _ rfl;clear h;simp only [Act.put,sU1,sU2,sU3];refine Mix.aj rfl (aq (.agg #[.string nm,.slice ha fl hc,.int .i64 rt,.slice hb fb hdd,.int .i64 pl]) rfl) ?_ ?_
    ·intro w b k;obtain⟨d0,d1,d2,d3,d4⟩:=ds w b;clear k;simp [go_sem,d0,d1,d2,d3,d4];exact⟨Below.refl _ _,fun d hd=>by cases hd;rfl⟩
    rintro v ⟨_,_,h⟩;obtain rfl:v=(.agg #[.string nm,.slice ha fl hc,.int .i64 rt,.slice hb fb hdd,.int .i64 pl]):=h _ rfl;clear h;simp only [Act.put,sU1,sU2,sU3];refine Mix.iG ?_;intro w4 b4 hk;clear hk;obtain⟨⟨z0,z1,z2,z3,z4⟩,⟨f0,f1,f2,f3,f4⟩,_⟩:=eW ((b4.block _ (Array.getElem?_eq_some_iff.1 K4.out).1).trans K4.out);refine⟨rfl,fun K hK=> ?_⟩;unfold Oper.wp;simp [go_sem,z0,z1,z2,z3,z4,f0,f1,f2,f3,f4];refine hK _ _ ?_;clear hK;refine Mix.Bx (i:=11) (by kernel_rfl) rfl rfl ?_;intro K hK;unfold Oper.wp;simp [go_sem];refine hK _ _ ?_;clear hK;refine Mix.Ap (by kernel_rfl) ?_;have HE:=aa (iI (q:=w.heap.size+1) (Nat.le_succ _) (ae B2.out b4) (.string nm) (.slice ha fl hc) (.int .i64 rt) (.slice hb fb hdd) (.int .i64 pl));clear ds xs;go_wp2_with fail
    exact bodyPost_ret (v:= .tuple #[.agg #[.string nm,.slice ha fl hc,.int .i64 rt,.slice hb fb hdd,.int .i64 pl],.bool true]) (by simp [results,Tryz.results5,go_sem,z0,z1,z2,z3,z4]) rfl ⟨⟨ha,hc,hb,hdd,fl,fb,nm,rt,pl,by rw [HF.out],fun _=>by rw [HRe.out];exact HFv.out.below HE.out⟩,HE.out⟩
  ·have g1:(c1 != 0)=true:=bne_iff_ne.2 hc0;have HF:Hid (lgQ p=false):=aa (by rw [HQ.out];simp [hc0]);clear hc0;have HE:=aa (iI (q:=w.heap.size+1) (Nat.le_succ _) B2.out (.string ⟨#[]⟩) (.slice none 0 0) (.int .i64 0) (.slice none 0 0) (.int .i64 0));go_wp2_with fail
   exact bodyPost_ret (v:= .tuple #[.agg zF,.bool false]) (by simp [results,Tryz.results5,go_sem,zF,z0,z1,z2,z3,z4]) rfl ⟨⟨none,0,none,0,0,0,⟨#[]⟩,0,0,by rw [HF.out],fun h=>by rw [HF.out] at h;cases h⟩,HE.out⟩
def inL (f:Fun) (k:Nat):List Int:=(jf f).filter fun id=>bw f k 0 id
theorem Gf {w:World} {f:Fun} {nm:ByteArray} {lp lb:Option Addr} {lps cp lbs cb:Nat} {rt pl:Int} (h:bS w f (.agg #[.string nm,.slice lp lps cp,.int .i64 rt,.slice lb lbs cb,.int .i64 pl])):lps=f.2.1.length∧lbs=f.2.2.2.1.length:=by
 obtain⟨lp',cp',lb',cb',e,_⟩:=dx h;injection e with e;have e1:=congrArg (fun a=>a[1]?) e;have e3:=congrArg (fun a=>a[3]?) e;simp at e1 e3;exact⟨e1.2.1,e3.2.1⟩
def iE (fr:Int) (x:Ins) (m:Nat):List Int:=((x.2.2.2.2.2.1.zip x.2.2.2.2.1).take m).filterMap fun q=>if q.1=fr then some q.2 else none
def fg (fr:Int) (b:List Ins) (l:List Int) (j:Nat):List Int:=l ++ (b.take j).flatMap fun x=>iE fr x x.2.2.2.2.1.length
theorem AD {fr:Int} {x:Ins} {m:Nat} (h1:m < x.2.2.2.2.1.length) (h2:m < x.2.2.2.2.2.1.length):iE fr x (m+1)=if x.2.2.2.2.2.1.getD m 0=fr then iE fr x m ++ [x.2.2.2.2.1.getD m 0] else iE fr x m:=by
 unfold iE;obtain⟨tv,htv⟩:∃t,x.2.2.2.2.2.1.getD m 0=t:=⟨_,rfl⟩;obtain⟨av,hav⟩:∃t,x.2.2.2.2.1.getD m 0=t:=⟨_,rfl⟩;have e1:x.2.2.2.2.2.1[m]? =some tv:=by rw [←htv,List.getD_eq_getElem?_getD,List.getElem?_eq_getElem h2];rfl
 have e2:x.2.2.2.2.1[m]? =some av:=by rw [←hav,List.getD_eq_getElem?_getD,List.getElem?_eq_getElem h1];rfl
 have h:(x.2.2.2.2.2.1.zip x.2.2.2.2.1)[m]? =some (tv,av):=List.getElem?_zip_eq_some.2 ⟨e1,e2⟩;rw [htv,hav,aR h,List.filterMap_append];by_cases e:tv=fr
 ·rw [if_pos e];simp [e]
 ·rw [if_neg e];simp [e]
theorem rJ (fr:Int) (x:Ins) (m:Nat):(iE fr x m).length≤m:=by
 unfold iE;refine Nat.le_trans (List.length_filterMap_le _ _) ?_;rw [List.length_take];exact Nat.min_le_left _ _
theorem qx {fr:Int} {b:List Ins} {l:List Int} {j:Nat} (h:j < b.length):fg fr b l (j+1)=fg fr b l j ++ iE fr (gI b j) (gI b j).2.2.2.2.1.length:=by
 unfold fg;rw [aR (yZ h),List.flatMap_append];simp
theorem yd {fr:Int} {b:List Ins} {l:List Int} {T:Nat} (hx:∀x∈b,x.1=20→x.2.2.2.2.1.length≤T):∀j,j≤phN b→(fg fr b l j).length≤l.length+j * T
 |0,_=>by simp [fg]
 |j+1,h=>by
  have ht:=tF (b:=b) (i:=j) (by omega);rw [qx ht.1,List.length_append,Nat.add_mul];have h1:=yd (fr:=fr) (l:=l) hx j (by omega);have h2:=rJ fr (gI b j) (gI b j).2.2.2.2.1.length;have h3:=hx _ (DZ ht.1) ht.2;omega
theorem Jh {b:List Ins} {J:Nat} (h:J≤phN b) (hl:J < b.length) (h20:(gI b J).1=20):J+1≤phN b:=BK fun j hj=>by
 by_cases e:j=J
 ·rw [e];exact⟨hl,h20⟩
 ·exact tF (by omega)
theorem x9 {b:List Ins} {J:Nat} (h:J≤phN b) (he:J=b.length∨(gI b J).1≠20):phN b=J:=we (fun j hj=>tF (by omega)) he
theorem A7 (b:List Ins) (fr:Int) (l:List Int) (T B:Nat) (lv:Value) (ao:Option Addr) (c:Nat) (w:World) (hb:iR w b (.slice ao b.length c)) (hl:b.length≤1000000) (hx:∀x∈b,x.1=20→x.2.2.2.2.1.length=x.2.2.2.2.2.1.length∧x.2.2.2.2.1.length≤T) (hv:w.ownsRow B 3 1 lv l.length (ints l)) (hT:l.length+b.length * T≤1000000) (hT1:T≤1000000):
  Calls Tryz.prog 9 #[.slice ao b.length c,.int .i64 fr,lv] w fun e w'=>∃v,e= .returned v∧Grw w (fg fr b l (phN b)) v w':=by
 have HB:=aa hb;have HX:=aa hx;have HL:=aa hv;have HLe:Hid (∀j,j≤phN b→(fg fr b l j).length≤1000000):=aa (fun j hj=>by
  have h1:=yd (fr:=fr) (l:=l) (T:=T) (fun x hx' h20=>(hx x hx' h20).2) j hj;have h2:=kX b;have h3:j * T≤b.length * T:=Nat.mul_le_mul_right _ (by omega);omega)
 have hll:l.length≤1000000:=by omega
 have HT1:=aa hT1;obtain⟨n,hn⟩:∃n,b.length=n:=⟨_,rfl⟩;have Hn:=aa hn;rw [hn] at hl ⊢;clear hb hn hx hv hT hT1;obtain⟨i0,hi0,hz0,hz1,hz2⟩:=info_parts Tryz.cU;go_enter Tryz.func9,Tryz.ntmps9
 go_wp2_with (at_builtin;refine jJ rfl (.tmp 10) (.tmp 11) rfl w.heap.size B (.slice none 0 0) _ 0 [] l rfl (World.ownsRow_nil _ _ _ _) rfl HL.out (by omega) (Nat.le_refl _) ?_;intro v1 w1 own1 grow1;refine Hid.out ?_)
 have HG1:Hid (Grw w (fg fr b l 0) v1 w1):=aa (by
  refine⟨?_,Below.grown (Below.refl _ _) grow1 (Nat.le_refl _) (by intro b hb;simp [Value.ownBlock] at hb)⟩;have e:fg fr b l 0=l:=by simp [fg]
  rw [e];simpa using own1)
 clear own1 grow1;refine aa ?_;go_wp2_with fail
 go_loopw [7,8] (fun v i wr=>∃J:Nat,J≤n∧i= .int .i64 J∧Hid (J≤phN b)∧Hid (Grw w (fg fr b l J) v wr)) (fun _ i _=>n - (intOf i).toNat)
 case atStart=>exact⟨0,Nat.zero_le _,rfl,aa (Nat.zero_le _),HG1⟩
 case round=>
  clear HG1;obtain⟨J,hJ,rfl,HJ,HG⟩:=hrel;by_cases hjn:J < n
  ·have hjI:(J:Int) < n:=(by omega);have hjl:J < b.length:=(by rw [Hn.out];exact hjn);have Hjl:=aa hjl;obtain⟨g,o,rfl,hins⟩:=vZ HB.out hjl;have HIn:=aa hins;obtain⟨xo,zo,xc,zc,_,e0,_⟩:=(hins.below HG.out.2).val;obtain⟨op,hop⟩:∃op,(gI b J).1=op:=⟨_,rfl⟩;rw [hop] at e0;clear hins;by_cases h20:op=20
   ·have k1:(op == 20)=true:=(by simpa using h20);obtain⟨hxl,hx6⟩:=HX.out _ (DZ hjl) (hop.trans h20);have HJn:=aa (Jh HJ.out hjl (hop.trans h20));have HPm:=aa (qx (fr:=fr) (l:=l) hjl);have hlen:=HLe.out (J+1) HJn.out;rw [HPm.out,List.length_append] at hlen;obtain⟨tl,htl⟩:∃n,(gI b J).2.2.2.2.2.1.length=n:=⟨_,rfl⟩;have Htl:=aa htl;have Hxl:=aa hxl;rw [hxl,htl] at hx6 HPm;have hlj:=HLe.out J HJ.out;have htT:tl≤1000000:=Nat.le_trans hx6 HT1.out;have HG0:Hid (Grw w (fg fr b l J ++ iE fr (gI b J) 0) _ wr):=aa (by
     have e:iE fr (gI b J) 0= []:=(by simp [iE]);rw [e,List.append_nil];exact HG.out)
    clear h20 hop hjl hxl htl hlen HG hx6;go_wp2_with fail
    go_loopw [7,9] (fun v mv wr=>∃M:Nat,M≤tl∧mv= .int .i64 M∧Hid (Grw w (fg fr b l J ++ iE fr (gI b J) M) v wr)) (fun _ mv _=>tl - (intOf mv).toNat)
    case atStart=>exact⟨0,Nat.zero_le _,rfl,HG0⟩
    case round=>
     clear HG0 e0;obtain⟨M,hM,rfl,HG⟩:=hrel;obtain⟨xo,zo,xc,zc,hiv,e0,_,_,_,e4,e5,_,_⟩:=(HIn.out.below HG.out.2).val;obtain⟨hsA,hsT⟩:=nj hiv;have hA:=aa hsA;have hTt:=aa hsT;rw [Hxl.out,Htl.out] at e4;rw [Htl.out] at e5;clear hiv hsA hsT;by_cases hmt:M < tl
     ·have hmI:(M:Int) < tl:=(by omega);obtain⟨tv,htv⟩:∃v,(gI b J).2.2.2.2.2.1.getD M 0=v:=⟨_,rfl⟩;obtain⟨av,hav⟩:∃v,(gI b J).2.2.2.2.1.getD M 0=v:=⟨_,rfl⟩;obtain⟨g1,o1,rfl,c1⟩:=dP hTt.out (i:=M) (by rw [Htl.out];exact hmt);obtain⟨g2,o2,rfl,c2⟩:=dP hA.out (i:=M) (by rw [Hxl.out,Htl.out];exact hmt);have HMo:=aa (AD (fr:=fr) (x:=gI b J) (m:=M) (by rw [Hxl.out,Htl.out];exact hmt) (by rw [Htl.out];exact hmt));rw [htv] at c1 HMo;rw [hav] at c2 HMo;clear htv hav;have hle:=rJ fr (gI b J) M;have hws:=HG.out.2.size;have hlap:(fg fr b l J ++ iE fr (gI b J) M).length≤2000000:=(by rw [List.length_append];omega);by_cases h1:tv=fr
      ·have k2:(tv == fr)=true:=(by simpa using h1);have HM2:Hid (iE fr (gI b J) (M+1)=iE fr (gI b J) M ++ [av]):=aa (by rw [HMo.out,if_pos h1]);clear h1 HMo;go_wp2_with (at_builtin;refine wpList_append_own _ rfl (.tmp 57) (.tmp 66) 26 rfl w.heap.size 3 i0 _ 1 8 Tryz.underlying26 hi0 hz0 hz1 hz2 rfl (by decide) _ _ _ rfl (HG.out.1.alloc _) ⟨wr.heap.size,0,none⟩ 1 1 [.int .i64 av] rfl rfl one_cell one_one (by unfold maxLen;omega) (by omega) (by simp;omega) ?_;intro v2 w2 own2 grow2 _)
       have HE:Hid (Grw w (fg fr b l J ++ iE fr (gI b J) (M+1)) v2 w2):=aa (by
        rw [HM2.out,←List.append_assoc];exact HG.out.step own2 grow2)
       clear own2 grow2;go_wp2_with fail
       go_roundw
       case rel=>exact⟨M+1,by omega,by go_num,HE⟩
       case measure=>simp [intOf];omega
      ·have k2:(tv == fr)=false:=beq_eq_false_iff_ne.2 h1;have HE:Hid (Grw w (fg fr b l J ++ iE fr (gI b J) (M+1)) _ wr):=aa (by rw [HMo.out,if_neg h1];exact HG.out);clear h1 HMo;go_wp2_with fail
       go_roundw
       case rel=>exact⟨M+1,by omega,by go_num,HE⟩
       case measure=>simp [intOf];omega
     ·obtain rfl:M=tl:=(by omega);have HE:Hid (Grw w (fg fr b l (J+1)) _ wr):=aa (by rw [HPm.out];exact HG.out);go_wp2_with fail
      go_roundw
      case rel=>exact⟨J+1,by omega,by go_num,HJn,HE⟩
      case measure=>simp [intOf];omega
   ·have k1:(op == 20)=false:=beq_eq_false_iff_ne.2 h20;have HE:Hid (Grw w (fg fr b l (phN b)) _ wr):=aa (by rw [x9 HJ.out (.inr (by rw [hop];exact h20))];exact HG.out);clear h20 hop hjl;go_wp2_with fail
    go_ret;exact⟨_,rfl,HE.out⟩
  ·obtain rfl:J=n:=(by omega);have HE:Hid (Grw w (fg fr b l (phN b)) _ wr):=aa (by rw [x9 HJ.out (.inl Hn.out.symm)];exact HG.out);go_wp2_with fail
   go_ret;exact⟨_,rfl,HE.out⟩
theorem uP {l:List Int} {x a:Int}:a∈kP l x↔a=x∨a∈l:=by
 unfold kP;have h:a∈l↔a∈l.take (uC x l)∨a∈l.drop (uC x l):=by rw [←List.mem_append,List.take_append_drop]
 rw [h];simp only [List.mem_append,List.mem_singleton];constructor
 ·rintro ((q | q) | q)
  ·exact .inr (.inl q)
  ·exact .inl q
  ·exact .inr (.inr q)
 ·rintro (q | q | q)
  ·exact .inl (.inr q)
  ·exact .inl (.inl q)
  ·exact .inr q
theorem oY {a:Int}:∀ {b:List Ins} {l:List Int},a∈jh l b↔a∈l∨∃x∈b,dJ a x=true
 |[],l=>by simp [jh]
 |x :: b,l=>by
  have e:jh l (x :: b)=jh (if mkX x=0 then l else kP l x.2.1) b:=rfl;rw [e,oY];by_cases hm:mkX x=0
  ·rw [if_pos hm];have hh:∀a,dJ a x=false:=fun a=>by cases q:dJ a x with | false=>rfl | true=>exact absurd hm (j5.1 q).2
   simp [hh]
  ·rw [if_neg hm,uP];have hh:dJ a x=true↔a=x.2.1:=(by rw [j5];exact⟨fun h=>h.1.symm,fun h=>⟨h.symm,hm⟩⟩);simp only [List.mem_cons,exists_eq_or_imp,hh];constructor
   ·rintro ((q | q) | q)
    ·exact .inr (.inl q)
    ·exact .inl q
    ·exact .inr (.inr q)
   ·rintro (q | q | q)
    ·exact .inl (.inr q)
    ·exact .inl (.inl q)
    ·exact .inr q
theorem oI {a:Int}:∀ {bs:List (List Ins)} {l:List Int},a∈lL l bs↔a∈l∨∃b∈bs,∃x∈b,dJ a x=true
 |[],l=>by simp [lL]
 |b :: bs,l=>by
  have e:lL l (b :: bs)=lL (jh l b) bs:=rfl;rw [e,oI,oY];simp only [List.mem_cons,exists_eq_or_imp,or_assoc]
theorem lu {f:Fun} {id:Int} (h:IsV f id):id∈jf f:=by
 unfold jf;rw [oI];rcases h with h | ⟨b,j,hb,hj,hx⟩
 ·left;unfold fF at h;simp only [Bool.and_eq_true,decide_eq_true_eq] at h;unfold pT;exact List.mem_map.2 ⟨id.toNat,List.mem_range.2 (by omega),by omega⟩
 ·exact .inr ⟨ag f b,gY hb,au f b j,sO hj,hx⟩
def rn (f:Fun) (k:Nat):List Int:=(jf f).filter fun id=>fN f k id
def mV (f:Fun) (k i:Nat):List Int:=(jf f).filter fun id=>bw f k (nI f k i) id
theorem I5 {p:List Fun} {f:Fun} {k:Nat} {id:Int} (hG:Gr (aC f)) (hT:Tos f) (hA:TkA p f) (hk:k < f.2.2.2.1.length) (h:bw f k 0 id=true):id∈inL f k:=List.mem_filter.2 ⟨lu (ph hG hT hA hk h),h⟩
theorem FY {p:List Fun} {f:Fun} {k:Nat} {id:Int} (hG:Gr (aC f)) (hT:Tos f) (hA:TkA p f) (h:fN f k id=true):id∈rn f k:=List.mem_filter.2 ⟨lu (xU hG hT hA h),h⟩
theorem Hv {f:Fun} {k i:Nat} (h:(au f k i).1≠20):nI f k i=i+1:=by
 unfold nI;have:phN (ag f k)≤i:=by
  rcases Nat.lt_or_ge i (phN (ag f k))with q | q
  ·exact absurd (tF q).2 h
  ·exact q
 omega
theorem Gj {p:List Fun} {f:Fun} {k i:Nat} {id:Int} (hG:Gr (aC f)) (hT:Tos f) (hA:TkA p f) (hk:k < f.2.2.2.1.length) (hx:(au f k i).1≠20) (h:bw f k (i+1) id=true):id∈mV f k i:=by
 refine List.mem_filter.2 ⟨lu (ph hG hT hA hk h),?_⟩;rw [Hv hx];exact h
def tkS (T:List Int) (x:Ins):List Int:=(if mkX x=0 then T else gS T x.2.1) ++ (if x.1=20 then [] else x.2.2.2.2.1)
theorem FP {f:Fun} {k i:Nat} {T:List Int} (hi:i < (ag f k).length) (h:∀id∈T,bw f k (i+1) id=true):∀id∈tkS T (au f k i),bw f k i id=true:=by
 intro id hid;rw [dN,mU hi];by_cases ht:tkX id (au f k i)=true
 ·rw [if_pos ht];exact .inl rfl
 ·rw [if_neg ht];unfold tkS at hid;rcases List.mem_append.1 hid with q | q
  ·have hn:dJ id (au f k i)=false∧id∈T:=by
    split at q
    ·rename_i hm;refine⟨?_,q⟩
     cases e:dJ id (au f k i)with
     |false=>rfl
     |true=>exact absurd hm (j5.1 e).2
    ·unfold gS at q;obtain⟨q1,q2⟩:=List.mem_filter.1 q;refine⟨?_,q1⟩
     cases e:dJ id (au f k i)with
     |false=>rfl
     |true=>
      have:=(j5.1 e).1;simp only [decide_eq_true_eq] at q2;exact absurd this.symm q2
   rw [hn.1];have:=dN.1 (h id hn.2);simpa using this
  ·exfalso;split at q
   ·cases q
   ·rename_i h20;refine ht ?_;unfold tkX;simp only [Bool.and_eq_true,decide_eq_true_eq];refine⟨h20,?_⟩;unfold ay;exact List.any_eq_true.2 ⟨id,q,by simp⟩
theorem D0 {f:Fun} {k:Nat} {id:Int} (h:fN f k id=true):bw f k (ag f k).length id=true:=dN.2 (.inr ⟨nY (Nat.le_refl _),h⟩)
theorem DR {f:Fun} {k:Nat} {b:Int} {T:List Int} (hT:Tos f) (hk:k < f.2.2.2.1.length) (hb:b∈aB f k) (h:∀id∈T,bw f b.toNat 0 id=true):∀id∈fg k (ag f b.toNat) T (phN (ag f b.toNat)),fN f k id=true:=by
 intro id hid;refine(qg hT hk).2 ⟨b,hb,?_⟩;unfold fg at hid;rcases List.mem_append.1 hid with q | q
 ·exact .inr (h id q)
 ·left;obtain⟨x,hx,hp⟩:=List.mem_flatMap.1 q;unfold nK;refine List.any_eq_true.2 ⟨x,?_,?_⟩
  ·have e:(ag f b.toNat).take (phN (ag f b.toNat))=(ag f b.toNat).takeWhile fun x=>decide (x.1=20):=by
    obtain⟨t,ht⟩:=List.takeWhile_prefix (l:=ag f b.toNat) (fun x=>decide (x.1=20));unfold phN;conv=>lhs;rw [←ht]
    rw [ht];conv=>lhs;arg 2;rw [←ht]
    exact List.take_left
   rw [←e];exact hx
  ·unfold iE at hp;obtain⟨⟨t,a⟩,hm,he⟩:=List.mem_filterMap.1 hp;simp only at he;split at he
   ·rename_i ht;injection he with he;unfold Fv;exact List.any_eq_true.2 ⟨(t,a),List.mem_of_mem_take hm,by simp [ht,he]⟩
   ·cases he
theorem DA (l:List (List Ins)):(l.map List.length).sum≤wBs l:=by
 unfold wBs;induction l with
 |nil=>simp
 |cons b l ih=>
  simp only [List.map_cons,List.sum_cons];have:=Dn b;omega
theorem En {p:List Fun} (hq:lgQ p=true) (gp:∀y∈p,GxF y) {i:Nat} (hi:i < p.length):LvF (bh p i)∧Gr (aC (bh p i))∧TkA p (bh p i)∧wid (bh p i)≤1000000∧0 < (bh p i).2.2.2.1.length:=by
 unfold lgQ at hq;simp only [Bool.and_eq_true,decide_eq_true_eq] at hq;obtain⟨⟨hL,hc⟩,_⟩:=hq;obtain⟨a,_,c⟩:=tJ hc;obtain⟨s1,_,_,s4⟩:=yV (c i hi);have hm:=oz hi;obtain⟨_,_,C3,C4⟩:=ie hL gp;have k1:=C4 a _ hm;obtain⟨q1,q2,q3⟩:=k1.1 s1;obtain⟨_,hS⟩:=Ii hL;have hx:=(((qI p 0 0 (by omega) (by omega)).1.1 a).1 _ hm).2;refine⟨⟨q1,q2,(C3 _ hm).1,fun b hb x hxm=>⟨?_,fun h20=> ?_⟩⟩,lx q2 q3,fun k hk j hj n hn=>(Ak (s4 k hk j hj) hn).2,?_,q3⟩
 ·have:=(((hS _ hm).2.2 b hb).2 x hxm).1;unfold maxLen;omega
 ·have hk:=qY (hx b hb x hxm);unfold jb at hk;rw [if_pos h20] at hk;simp at hk;exact⟨by omega,(((hS _ hm).2.2 b hb).2 x hxm).2⟩
 ·unfold kV at hL;simp only [Bool.and_eq_true,decide_eq_true_eq] at hL;have h1:=hL.1;unfold total at h1;have h2:wF (bh p i)≤wFs p:=lE wF hm;have h3:=DA (bh p i).2.2.2.1;unfold wF wF0 at h2;unfold wid;omega
def WyF (f:Fun) (wy:List Int) (K:Nat):Prop:=0 < wy.length∧K < f.2.2.2.1.length∧wy.getD (wy.length - 1) 0=(K:Int)∧(∀n,n < wy.length→0≤wy.getD n 0∧(wy.getD n 0).toNat < f.2.2.2.1.length)∧∀n,n+1 < wy.length→wy.getD (n+1) 0∈aB f (wy.getD n 0).toNat
theorem WyF.one {f:Fun} (h:0 < f.2.2.2.1.length):WyF f [0] 0:=⟨Nat.zero_lt_succ _,h,rfl,fun n hn=>by
 obtain rfl:n=0:=by simpa using hn
 exact⟨Int.le_refl _,h⟩,fun n hn=>by simp at hn⟩
theorem sw {l:List Int} {b:Int} {n:Nat} (h:n < l.length):(l ++ [b]).getD n 0=l.getD n 0:=by
 rw [List.getD_eq_getElem?_getD,List.getD_eq_getElem?_getD,List.getElem?_append_left h]
theorem wN {l:List Int} {b:Int}:(l ++ [b]).getD l.length 0=b:=by
 rw [List.getD_eq_getElem?_getD,List.getElem?_append_right (Nat.le_refl _),Nat.sub_self];rfl
theorem WyF.step {f:Fun} {wy:List Int} {K:Nat} {b:Int} (hT:Tos f) (h:WyF f wy K) (hb:b∈aB f K):WyF f (wy ++ [b]) b.toNat:=by
 obtain⟨h1,h2,h3,h4,h5⟩:=h;obtain⟨hl,h0⟩:=ei hT hb;have hlen:(wy ++ [b]).length=wy.length+1:=by simp
 refine⟨by omega,hl,?_,fun n hn=> ?_,fun n hn=> ?_⟩
 ·rw [hlen,Nat.add_sub_cancel,wN];omega
 ·rw [hlen] at hn;by_cases e:n < wy.length
  ·rw [sw e];exact h4 n e
  ·obtain rfl:n=wy.length:=(by omega);rw [wN];exact⟨h0,hl⟩
 ·rw [hlen] at hn;by_cases e:n+1 < wy.length
  ·rw [sw e,sw (by omega)];exact h5 n e
  ·obtain⟨m,rfl⟩:∃m,n=m:=⟨n,rfl⟩;have e2:n+1=wy.length:=(by omega);rw [e2,wN,sw (by omega)];have e3:wy.length - 1=n:=(by omega);rw [e3] at h3;rw [h3,Int.toNat_natCast];exact hb
def eL (b:List Ins):Nat:=(b.map fun x=>x.2.2.2.2.1.length).sum
theorem yI (b:List Ins):eL b≤4 * wB b:=by
 unfold eL wB;induction b with
 |nil=>simp
 |cons x b ih=>
  simp only [List.map_cons,List.sum_cons];have:x.2.2.2.2.1.length≤4 * wI x:=by unfold wI;omega
  omega
theorem AY {b:List Ins} {i:Nat} (h:i < b.length):eL (b.drop i)=(gI b i).2.2.2.2.1.length+eL (b.drop (i+1)):=by
 have e:b.drop i=gI b i :: b.drop (i+1):=by
  rw [List.drop_eq_getElem_cons h];congr 1
  unfold gI;rw [List.getD_eq_getElem?_getD,List.getElem?_eq_getElem h];rfl
 rw [e];rfl
theorem Ga (T:List Int) (x:Ins):(tkS T x).length≤T.length+x.2.2.2.2.1.length:=by
 unfold tkS;rw [List.length_append];have h1:(if mkX x=0 then T else gS T x.2.1).length≤T.length:=by
  split
  ·exact Nat.le_refl _
  ·exact sj _ _
 have h2:(if x.1=20 then([]:List Int)else x.2.2.2.2.1).length≤x.2.2.2.2.1.length:=by
  split
  ·exact Nat.zero_le _
  ·exact Nat.le_refl _
 omega
theorem uJ (fr:Int):∀b:List Ins,(b.flatMap fun x=>iE fr x x.2.2.2.2.1.length).length≤eL b
 |[]=>Nat.le_refl _
 |x :: b=>by
  have h:=uJ fr b;have h1:=rJ fr x x.2.2.2.2.1.length;unfold eL at h ⊢;simp only [List.flatMap_cons,List.length_append,List.map_cons,List.sum_cons];omega
theorem Bm (b:List Ins) (j:Nat):eL (b.take j)≤eL b:=by
 have e:eL b=eL (b.take j)+eL (b.drop j):=by
  unfold eL;rw [←List.sum_append,←List.map_append,List.take_append_drop]
 omega
theorem Gs (fr:Int) (b:List Ins) (T:List Int) (j:Nat):(fg fr b T j).length≤T.length+eL b:=by
 unfold fg;rw [List.length_append];have:=uJ fr (b.take j);have:=Bm b j;omega
theorem AU {p:List Fun} (hL:kV p=true) {f:Fun} (hf:f∈p) {k:Nat} (hk:k < f.2.2.2.1.length):(ag f k).length≤100∧eL (ag f k)≤400∧∀x∈ag f k,x.2.2.2.2.1.length≤400:=by
 unfold kV at hL;simp only [Bool.and_eq_true,decide_eq_true_eq] at hL;have h1:=hL.1;unfold total at h1;have h2:wF f≤wFs p:=lE wF hf;have h3:wB (ag f k)≤wBs f.2.2.2.1:=lE wB (gY hk);unfold wF at h2;have h4:=Dn (ag f k);have h5:=yI (ag f k);refine⟨by omega,by omega,fun x hx=> ?_⟩;have h6:x.2.2.2.2.1.length≤eL (ag f k):=lE (fun x:Ins=>x.2.2.2.2.1.length) hx;omega
end Go.Proofs.YtaiaakklokahjaaGreatDoor
