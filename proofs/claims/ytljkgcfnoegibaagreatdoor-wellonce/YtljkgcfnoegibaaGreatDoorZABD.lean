/- Texts of one chain, joined. -/
import Derived.Test.YtljkgcfnoegibaaGreatDoorZABC
import Derived.ChangeKeysEq
set_option maxHeartbeats 4000000
set_option maxRecDepth 20000
namespace Go.Proofs.YtljkgcfnoegibaaGreatDoor
open Go Go.RowKit
open G (Tok Er Ins Fun)
def Cnd (p:List Fun):Prop:=p.length≤1000000∧(∀f∈p,OkF f)∧(∀f∈p,Mod f∧f.2.1.length≤1000000)∧((wholeF 0 0 p).1=0→∀f∈p,Kept p f∧tM f∧∀k,k < f.2.2.2.1.length→∀i,i < (aG f k).length→uw (au f k i)∧aJ (au f k i)=0)
def Siz (p:List Fun):Prop:=∀f∈p,f.2.2.2.1.length≤1000000∧f.2.1.length≤1000000∧∀b∈f.2.2.2.1,b.length≤1000000∧∀x∈b,x.2.2.2.2.1.length≤1000000∧x.2.2.2.2.2.1.length≤1000000
theorem Ff:∀k,k < 30→0≤L5.mk k∧L5.mk k≤3:=by decide +kernel
theorem Jb (op:Int):L5.num op < 30:=by
 unfold L5.num;split <;> omega
theorem BS {op t:Int} (h:L5.may op t=true):0≤t∧t≤3:=by
 unfold L5.may at h;split at h
 ·simp at h;omega
 ·split at h
  ·simp at h;omega
  ·split at h
   ·simp at h;omega
   ·simp at h;omega
theorem vI {x:Ins} (h:aJ x=0):L5.may x.1 x.2.2.2.1=true∧iE x.1 x.2.1 x.2.2.2.1=true∧x.2.2.2.2.1.any (byd 1048576)=false∧x.2.2.2.2.2.1.any (byd 255)=false:=by
 unfold aJ at h;by_cases h1:(kh x.1 && L5.may x.1 x.2.2.2.1)=false
 ·rw [if_pos h1] at h;cases h
 rw [if_neg h1] at h;by_cases h2:iE x.1 x.2.1 x.2.2.2.1=false
 ·rw [if_pos h2] at h;cases h
 rw [if_neg h2] at h;by_cases h3:eU x.1 x.2.2.2.2.1.length x.2.2.2.2.2.1.length=false
 ·rw [if_pos h3] at h;cases h
 rw [if_neg h3] at h;by_cases h4:kf x.1 x.2.2.1=false
 ·rw [if_pos h4] at h;cases h
 rw [if_neg h4] at h;by_cases h5:x.2.2.2.2.1.any (byd 1048576)=true
 ·rw [if_pos h5] at h;cases h
 rw [if_neg h5] at h;by_cases h6:x.2.2.2.2.2.1.any (byd 255)=true
 ·rw [if_pos h6] at h;cases h
 refine⟨?_,by simpa using h2,by simpa using h5,by simpa using h6⟩;have:(kh x.1 && L5.may x.1 x.2.2.2.1)=true:=by simpa using h1
 rw [Bool.and_eq_true] at this;exact this.2
theorem tO {m n:Int} (h:byd m n=false):0≤n∧n≤m:=by
 unfold byd at h;simp at h;omega
theorem Gn {x:Ins} (h:aJ x=0) (ha:x.2.2.2.2.1.length≤1000000) (ht:x.2.2.2.2.2.1.length≤1000000):uw x∧(mkX x≠0→I64 (mkX x)):=by
 obtain⟨h1,h2,h3,h4⟩:=vI h;rw [List.any_eq_false] at h3 h4;refine⟨⟨fun hm=> ?_,fun a ha'=> ?_,fun a ha'=> ?_,ha,ht⟩,fun _=> ?_⟩
 ·unfold iE at h2;unfold mkX at hm;rw [if_neg hm] at h2;have:=tO (m:=1048576) (n:=x.2.1) (by simpa using h2);exact⟨by omega,by omega⟩
 ·have:=tO (by simpa using h3 a ha');exact⟨by omega,by omega⟩
 ·have:=tO (by simpa using h4 a ha');exact⟨by omega,by omega⟩
 ·unfold mkX L5.bD;split
  ·have:=BS h1;exact⟨by omega,by omega⟩
  ·have:=Ff _ (Jb x.1);exact⟨by omega,by omega⟩
theorem Dt (f:Fun):(bB f f.2.2.2.1.length 0).length=szB f.2.2.2.1:=by
 unfold bB szB;simp only [List.take_length,List.take_zero,List.append_nil,List.length_flatten]
theorem Jv {p:List Fun} {f:Fun} (hf:f∈p):szB f.2.2.2.1≤szP p:=by
 unfold szP;induction p with
 |nil=>simp at hf
 |cons g p ih=>
  simp only [List.map_cons,List.sum_cons];rcases List.mem_cons.1 hf with rfl | hf
  ·omega
  ·have:=ih hf;omega
theorem Fp {p:List Fun} (hl:p.length≤1000000) (hO:∀f∈p,OkF f) (hS:Siz p):Cnd p:=by
 refine⟨hl,hO,fun f hf=>⟨⟨(hS f hf).1,fun b hb=>((hS f hf).2.2 b hb).1⟩,(hS f hf).2.1⟩,fun hW f hf=> ?_⟩;have hw:=((rN p 0 0 (by omega) (by omega)).1.1 hW);obtain⟨h1,h2⟩:=hw.1 f hf;have hsz:=hw.2.2;have hx:∀b∈f.2.2.2.1,∀x∈b,uw x∧(mkX x≠0→I64 (mkX x)):=fun b hb x hx=>Gn (h2 b hb x hx) (((hS f hf).2.2 b hb).2 x hx).1 (((hS f hf).2.2 b hb).2 x hx).2;refine⟨Hn hW (fun g hg=>⟨(hS g hg).1,fun b hb x hx=>(((hS g hg).2.2 b hb).2 x hx).2⟩) f hf,⟨fun t ht=> ?_,fun b hb x hx' hm=>⟨(hx b hb x hx').1.1 hm,(hx b hb x hx').2 hm⟩,?_⟩,fun k hk i hi=> ?_⟩
 ·unfold bZ at h1;split at h1
  ·cases h1
  ·split at h1
   ·cases h1
   ·split at h1
    ·cases h1
    ·rename_i h3;have hpb:km f.2.1=false:=by
      cases hp:km f.2.1 with
      |false=>rfl
      |true=>exact absurd (.inr hp) h3
     unfold km at hpb;rw [List.any_eq_false] at hpb;have:=hpb t ht;unfold gF at this;simp at this;exact⟨by omega,by omega⟩
 ·have hp8:f.2.1.length≤8:=by
   unfold bZ at h1;split at h1
   ·cases h1
   ·rename_i h3;omega
  have:=Jv hf;rw [Dt];omega
 ·have hb:aG f k∈f.2.2.2.1:=List.mem_of_getElem? (eS hk);have hxm:au f k i∈aG f k:=List.mem_of_getElem? (gR hi);exact⟨(hx _ hb _ hxm).1,h2 _ hb _ hxm⟩
theorem sW {α:Type} (g:α→Nat) {l:List α} {x:α} (h:x∈l):g x≤(l.map g).sum:=by
 induction l with
 |nil=>simp at h
 |cons y l ih=>
  simp only [List.map_cons,List.sum_cons];rcases List.mem_cons.1 h with rfl | h
  ·omega
  ·have:=ih h;omega
theorem JZ (b:List Ins):b.length≤wB b:=by
 unfold wB;induction b with
 |nil=>simp
 |cons x b ih=>
  simp only [List.length_cons,List.map_cons,List.sum_cons];have:1≤wI x:=by unfold wI;omega
  omega
theorem oY {p:List Fun} (h:iV p=true):p.length≤100∧Siz p:=by
 unfold iV at h;simp only [Bool.and_eq_true,decide_eq_true_eq,List.all_eq_true] at h;obtain⟨h1,h2⟩:=h;unfold total at h1;refine⟨by omega,fun f hf=> ?_⟩;have hf1:wF f≤wFs p:=sW wF hf;have hf2:wF0 f+wBs f.2.2.2.1≤100:=by unfold wF at hf1;omega
 have h3:=h2 f hf;refine⟨by omega,by unfold wF0 at hf2;omega,fun b hb=> ?_⟩;have hb1:wB b≤wBs f.2.2.2.1:=sW wB hb;refine⟨by have:=JZ b;omega,fun x hx=> ?_⟩;have hx1:wI x≤wB b:=sW wI hx;unfold wI at hx1;omega
theorem jI {w:World} (h:L5.Tab w):Tab w:=h
theorem Ft {p:List Fun} (hS:Siz p) (hK:∀f∈p,(aH f).1=0∧Kept p f):∀f∈p,ApF f:=fun f hf=>by
 obtain⟨h1,h2⟩:=hK f hf;obtain⟨q1,q2,q3⟩:=h2.1 h1;exact⟨q3,⟨(hS f hf).1,fun b hb=>((hS f hf).2.2 b hb).1⟩,(hS f hf).2.1,fun b hb=>⟨(q1.2 b hb).1,fun x hx=>((hS f hf).2.2 b hb).2 x hx⟩⟩
open Go Go.RowKit Go.Maps
def mkL (l:List Ins):List Ins:=l.filter fun x=>decide (mkX x≠0)
theorem JA (l:List Ins):(mkL l).length≤l.length:=List.length_filter_le _ _
theorem Jf {l:List Ins} {x:Ins} (h:mkX x=0):(mkL (l ++ [x])).length=(mkL l).length:=by
 unfold mkL;rw [List.filter_append];simp [h]
theorem GA {l:List Ins} {x:Ins} (h:mkX x≠0):(mkL (l ++ [x])).length=(mkL l).length+1:=by
 unfold mkL;rw [List.filter_append];simp [h]
theorem oC (f:Fun) (v:Value) (w:World) (hv:cg w f v) (hT:L5.Tab w) (hM:Mod f) (hKey:tM f):
  Calls Tryz.prog 15 #[v] w fun e w'=>∃b,e= .returned (.map (some b))∧w.heap.size≤b∧cI w' b (f.2.1.length+(mkL (bB f f.2.2.2.1.length 0)).length) (fun a=>tyL f a (bB f f.2.2.2.1.length 0))∧Below w.heap.size w w':=by
 obtain⟨lp,cp,lb,cb,rfl,X,b0⟩:=de hv;have X0:=ae X;have B0:=ae b0;have HPs:Hid (Sl w lp f.2.1):=ae (by
  obtain⟨vp,vb,e,⟨ao',c',e2,hs,_⟩,_⟩:=hv;simp only [Value.agg.injEq,Array.mk.injEq,List.cons.injEq] at e;obtain⟨_,e3,_⟩:=e;rw [e2] at e3;injection e3 with e3;subst e3;exact hs)
 have HRd:Hid (∀k,k < f.2.2.2.1.length→∃g o ao ac,lb=some ⟨g,o,none⟩∧(∀w',Below w.heap.size w w'→w'.cell? ⟨g,o+k,none⟩=some (.slice ao (aG f k).length ac))∧∀w',Below w.heap.size w w'→∀i,i < (aG f k).length→∃g2 o2,ao=some ⟨g2,o2,none⟩∧my w' (au f k i) g2 (o2+i * 8)):=ae (fun k hk=>by
  obtain⟨g,o,ao,ac,h1,h2,h3,h4⟩:=eD (fN hv) hk;exact⟨g,o,ao,ac,h1,fun w' b=>(b.cell (p:=⟨g,o+k,none⟩) h2).trans h3,fun w' b i hi=>eR (h4.below b) hi⟩)
 have HTb:=ae (fun w' (b:Below w.heap.size w w')=>hT.below b);have HMb:=ae (fun k=>hM.blk k);have HKx:Hid (∀k i,k < f.2.2.2.1.length→i < (aG f k).length→mkX (au f k i)≠0→Wf6 (au f k i).2.1∧Wf6 (mkX (au f k i))):=ae (fun k i hk hi h0=>by
  have hb:aG f k∈f.2.2.2.1:=List.mem_of_getElem? (eS hk);have hx:au f k i∈aG f k:=List.mem_of_getElem? (gR hi);have:=hKey.2.1 _ hb _ hx h0;exact⟨fJ this.1,fJ this.2⟩)
 have HKp:Hid (∀j,j < f.2.1.length→Wf6 (f.2.1.getD j 0)):=ae (fun j hj=>fJ (hKey.1 _ (by
  rw [List.getD_eq_getElem?_getD,List.getElem?_eq_getElem hj];exact List.getElem_mem hj)))
 have HLe:Hid (∀K I,K < f.2.2.2.1.length→I≤(aG f K).length→f.2.1.length+(bB f K I).length≤1000000):=ae (fun K I hK hI=>by
  have:=th hK hI;have:=hKey.2.2;omega)
 have hPl:f.2.1.length≤1000000:=by have:=hKey.2.2;omega
 have hN:=hM.1;clear hv X b0 hT hM hKey;generalize hnm:bs f.1=nm at *;obtain⟨lps,hlps⟩:∃n,f.2.1.length=n:=⟨_,rfl⟩;obtain⟨lbs,hlbs⟩:∃n,f.2.2.2.1.length=n:=⟨_,rfl⟩;rw [hlps,hlbs] at X0 B0 ⊢;rw [hlps] at HKp hPl HLe;rw [hlbs] at HRd HKx HLe hN;generalize f.2.2.1=rt at *;generalize f.2.2.2.2=pl at *;clear hnm;replace hlps:=ae hlps;replace hlbs:=ae hlbs;have b1:=ah (w.alloc (.cells #[.string nm,.slice lp lps cp,.int .i64 rt,.slice lb lbs cb,.int .i64 pl] 36)) (.map #[] 0);have HM1:Hid (cI ((w.alloc (.cells #[.string nm,.slice lp lps cp,.int .i64 rt,.slice lb lbs cb,.int .i64 pl] 36)).alloc (.map #[] 0)) (w.alloc (.cells #[.string nm,.slice lp lps cp,.int .i64 rt,.slice lb lbs cb,.int .i64 pl] 36)).heap.size 0 (qs f.2.1 0)):=ae ((bS.made _ _).congr fun a=>by
  unfold qs;rw [if_neg (by omega)];rfl)
 have X1:=ae (X0.out.below b1);have B1:=ae (af B0.out b1);have hmm:= @run_makeMap Tryz.prog;have hs1:(w.alloc (.cells #[.string nm,.slice lp lps cp,.int .i64 rt,.slice lb lbs cb,.int .i64 pl] 36)).heap.size=w.heap.size+1:=by simp
 rw [hs1] at HM1;go_enter Tryz.func15,Tryz.ntmps15
 go_upto_region 2 with fail
 show Code.wp _ _ _ _ ((w.alloc (.cells #[.string nm,.slice lp lps cp,.int .i64 rt,.slice lb lbs cb,.int .i64 pl] 36)).alloc (.map #[] 0));generalize (w.alloc (.cells #[.string nm,.slice lp lps cp,.int .i64 rt,.slice lb lbs cb,.int .i64 pl] 36)).alloc (.map #[] 0)=W at *;clear hmm hs1 b1 B0 X0;obtain⟨x0,x1,x2,x3,x4⟩:_∧_∧_∧_∧_:=⟨X1.out.2 0 _ rfl,X1.out.2 1 _ rfl,X1.out.2 2 _ rfl,X1.out.2 3 _ rfl,X1.out.2 4 _ rfl⟩;go_wp2_with fail
 clear x0 x1 x2 x3 x4;go_loopw [15] (fun jv wr=>∃j:Nat,j≤lps∧jv= .int .i64 j∧Hid (cI wr (w.heap.size+1) j (qs f.2.1 j))∧Hid (Below w.heap.size w wr)∧Hid (L5.Box wr w.heap.size [.string nm,.slice lp lps cp,.int .i64 rt,.slice lb lbs cb,.int .i64 pl])) (fun jv _=>lps - (intOf jv).toNat)
 case atStart=>exact⟨0,Nat.zero_le _,rfl,HM1,B1,X1⟩
 case round=>
  clear HM1 B1 X1;obtain⟨j,hj,rfl,HM,HB,HX⟩:=hrel;by_cases hjt:j < lps
  ·have hjI:(j:Int) < lps:=(by omega);obtain⟨g,o,rfl,hg,hc⟩:=oq HPs.out (n:=j) (by rw [hlps.out];exact hjt);have hc1:=(HB.out.cell (p:=⟨g,o+j,none⟩) hg).trans hc;have HWt:=ae (HKp.out j hjt);have hWj:Wf6 (j:Int):=fJ ⟨by omega,by omega⟩;have HSt:=ae (rX f.2.1 j);obtain⟨tv,htv⟩:∃tv,f.2.1.getD j 0=tv:=⟨_,rfl⟩;simp only [htv] at hc1 HWt HSt;have hjm:j < maxLen:=(by unfold maxLen;omega);have HMap:=ae (bS.isMap HM.out);clear hc htv;go_wp2_with (first | (at_mapUpdate;refine iK _ rfl _ _ _ rfl (w.heap.size+1) j _ rfl HM.out hjm (j:Int) hWj tv HWt.out rfl rfl ?_;intro w1 own1 grow1) | fail)
   go_roundw
   case rel=>exact⟨j+1,by omega,by go_num,ae (cI.congr own1 HSt.out),ae (HB.out.trans (cx grow1 HB.out.size (Nat.le_succ _))),ae ⟨Nat.lt_of_lt_of_le HX.out.1 grow1.size,fun i v hi=>vw grow1 HMap.out (HX.out.2 i v hi)⟩⟩
   case measure=>simp [intOf];omega
  ·obtain rfl:j=lps:=(by omega);obtain⟨x0,x1,x2,x3,x4⟩:_∧_∧_∧_∧_:=⟨HX.out.2 0 _ rfl,HX.out.2 1 _ rfl,HX.out.2 2 _ rfl,HX.out.2 3 _ rfl,HX.out.2 4 _ rfl⟩;have HM2:Hid (cI wr (w.heap.size+1) (j+(mkL (bB f 0 0)).length) (fun a=>tyL f a (bB f 0 0))):=ae (cI.congr (cI.mono HM.out (Nat.le_add_right _ _)) fun a=>by rw [←vg,hlps.out]);go_wp2_with fail
   clear x0 x1 x2 x3 x4;go_loopw [27] (fun kv wr2=>∃K:Nat,K≤lbs∧kv= .int .i64 K∧Hid (cI wr2 (w.heap.size+1) (j+(mkL (bB f K 0)).length) (fun a=>tyL f a (bB f K 0)))∧Hid (Below w.heap.size w wr2)) (fun kv _=>lbs - (intOf kv).toNat)
   case atStart=>exact⟨0,Nat.zero_le _,rfl,HM2,HB⟩
   case round=>
    clear HM2 HM HB HX;obtain⟨K,hK,rfl,HM,HB⟩:=hrel;by_cases hkt:K < lbs
    ·have hkI:(K:Int) < lbs:=(by omega);obtain⟨g,o,ao,ac,rfl,cu,hins⟩:=HRd.out K hkt;replace cu:=cu wr HB.out;replace hins:=ae hins;have hlb:=HMb.out K;obtain⟨bl,hble⟩:∃bl,(aG f K).length=bl:=⟨_,rfl⟩;rw [hble] at cu hlb;replace hble:=ae hble;go_wp2_with fail
     clear cu;go_loopw [33] (fun iv wr3=>∃I:Nat,I≤bl∧iv= .int .i64 I∧Hid (cI wr3 (w.heap.size+1) (j+(mkL (bB f K I)).length) (fun a=>tyL f a (bB f K I)))∧Hid (Below w.heap.size w wr3)) (fun iv _=>bl - (intOf iv).toNat)
     case atStart=>exact⟨0,Nat.zero_le _,rfl,HM,HB⟩
     case round=>
      clear HM HB;obtain⟨I,hI,rfl,HM,HB⟩:=hrel;by_cases hit:I < bl
      ·have hiI:(I:Int) < bl:=(by omega);have hiB:I < (aG f K).length:=(by rw [hble.out];exact hit);obtain⟨g2,o2,e2,hxr⟩:=hins.out wr HB.out I hiB;subst e2;obtain⟨xo,zo,xc,zc,hxv,e0,e1,e2,e3,e4,e5,e6,e7⟩:=hxr.val;have HKy:=ae (HKx.out K I hkt hiB);have HBg:=ae (lB hiB);have HLl:=ae (HLe.out K I hkt (Nat.le_of_lt hiB));obtain⟨x,hx⟩:∃x,au f K I=x:=⟨_,rfl⟩;rw [hx] at e0 e1 e2 e3 e4 e5 e6 e7 HKy HBg;clear hx hxv hxr;have HMx:Hid (mkX x=L5.bD x.1 x.2.2.2.1):=ae rfl;generalize x.2.2.2.2.1.length=xl at *;generalize x.2.2.2.2.2.1.length=zl at *;have b3:=ah wr (.cells #[.int .i64 x.1,.int .i64 x.2.1,.int .i64 x.2.2.1,.int .i64 x.2.2.2.1,.slice xo xl xc,.slice zo zl zc,.string (bs x.2.2.2.2.2.2.1),.int .i64 x.2.2.2.2.2.2.2] 47);have Y3:=ae (heap_alloc_new wr (.cells #[.int .i64 x.1,.int .i64 x.2.1,.int .i64 x.2.2.1,.int .i64 x.2.2.2.1,.slice xo xl xc,.slice zo zl zc,.string (bs x.2.2.2.2.2.2.1),.int .i64 x.2.2.2.2.2.2.2] 47));have HM3:=ae (cI.below HM.out b3);have HB3:=ae (af HB.out b3);clear b3;go_upto_region 13 with fail
       show Code.wp _ _ _ _ (wr.alloc (.cells #[.int .i64 x.1,.int .i64 x.2.1,.int .i64 x.2.2.1,.int .i64 x.2.2.2.1,.slice xo xl xc,.slice zo zl zc,.string (bs x.2.2.2.2.2.2.1),.int .i64 x.2.2.2.2.2.2.2] 47));generalize wr.alloc (.cells #[.int .i64 x.1,.int .i64 x.2.1,.int .i64 x.2.2.1,.int .i64 x.2.2.2.1,.slice xo xl xc,.slice zo zl zc,.string (bs x.2.2.2.2.2.2.1),.int .i64 x.2.2.2.2.2.2.2] 47)=w3 at *;generalize wr.heap.size=q3 at *;clear e0 e1 e2 e3 e4 e5 e6 e7;obtain⟨⟨y0,y1,y2,y3,y4,y5,y6,y7⟩,_⟩:=cH Y3.out;have HCm:=ae (L5.lQ x.1 x.2.2.2.1 (.int .i64 x.2.1) (.int .i64 x.2.2.1) (.slice xo xl xc) (.slice zo zl zc) (.string (bs x.2.2.2.2.2.2.1)) (.int .i64 x.2.2.2.2.2.2.2) w3 (HTb.out w3 HB3.out));rw [←HMx.out] at HCm;go_wp2_with fail
       refine HCm.out.mono ?_;rintro e w4 ⟨rfl,b4⟩;have HM4:=ae (cI.below HM3.out b4);have HB4:=ae (af HB3.out b4);have Y4:=ae ((b4.block _ (Array.getElem?_eq_some_iff.1 Y3.out).1).trans Y3.out);clear b4 y0 y1 y2 y3 y4 y5 y6 y7 HCm HM3 HB3 Y3;obtain⟨⟨y0,y1,y2,y3,y4,y5,y6,y7⟩,_⟩:=cH Y4.out;have HSn:=ae (fun a=>qQ f a (bB f K I) x);have HHit:=ae (fun a=>iL (id:=a) (x:=x));obtain⟨mt,hmt⟩:∃mt,mkX x=mt:=⟨_,rfl⟩;have HMk:=ae hmt;simp only [hmt] at HKy HSn HHit ⊢;clear hmt HMx;by_cases hm0:mt=0
       ·have HM5:Hid (cI w4 (w.heap.size+1) (j+(mkL (bB f K (I+1))).length) (fun a=>tyL f a (bB f K (I+1)))):=ae (cI.congr (cI.mono HM4.out (by rw [HBg.out,Jf (by rw [HMk.out];exact hm0)];omega)) fun a=>by
         rw [HBg.out,HSn.out,if_neg (fun h=>((HHit.out a).1 h).2 hm0)])
        subst hm0;go_wp2_with fail
        go_roundw
        case rel=>exact⟨I+1,by omega,by go_num,HM5,HB4⟩
        case measure=>simp [intOf];omega
       ·obtain⟨hk1,hk2⟩:=HKy.out hm0;have hnm:j+(mkL (bB f K I)).length < maxLen:=(by have:=HLl.out;have:=JA (bB f K I);unfold maxLen;omega);go_wp2_with (first | (at_mapUpdate;refine iK _ rfl _ _ _ rfl (w.heap.size+1) (j+(mkL (bB f K I)).length) _ rfl HM4.out hnm x.2.1 hk1 mt hk2 rfl rfl ?_;intro w1 own1 grow1) | fail)
        go_roundw
        case rel=>
         refine⟨I+1,by omega,by go_num,ae (cI.congr (cI.mono own1 (by rw [HBg.out,GA (by rw [HMk.out];exact hm0)];omega)) fun a=> ?_),ae (HB4.out.trans (cx grow1 HB4.out.size (Nat.le_succ _)))⟩;rw [HBg.out,HSn.out];by_cases e:a=x.2.1
         ·rw [if_pos e,if_pos ((HHit.out a).2 ⟨e.symm,hm0⟩)]
         ·rw [if_neg e,if_neg (fun h=>e ((HHit.out a).1 h).1.symm)]
        case measure=>simp [intOf];omega
      ·obtain rfl:I=bl:=(by omega);have HM5:Hid (cI wr (w.heap.size+1) (j+(mkL (bB f (K+1) 0)).length) (fun a=>tyL f a (bB f (K+1) 0))):=ae (by
        rw [jl (by rw [hlbs.out];exact hkt),hble.out];exact HM.out)
       go_wp2_with fail
       go_roundw
       case rel=>exact⟨K+1,by omega,by go_num,HM5,HB⟩
       case measure=>simp [intOf];omega
    ·obtain rfl:K=lbs:=(by omega);have HM5:=ae HM.out;go_wp2_with fail
     go_ret;exact⟨w.heap.size+1,rfl,Nat.le_succ _,HM5.out,HB.out⟩
def sTp:ByteArray:={data:= #[102,117,110,99,32,109,97,105,110,40,105,41,32,105,32,123,32,98,48,58,32,37,50,32,61,32,110,101,119,32,105,112,32,115,116,111,114,101,46,112,32,37,50,32,49,32,37,50,32,98,114,32,98,49,32,98,49,58,32,37,51,32,61,32,112,104,105,46,105,32,98,48,32,37,48,32,98,49,32,37,52,32,37,52,32,61,32,99,97,108,108,46,105,32,102,32,37,50,32,105,102,32,37,51,32,98,49,32,98,50,32,98,50,58,32,114,101,116,32,37,52,32,125,32,102,117,110,99,32,102,40,112,41,32,105,32,123,32,98,48,58,32,37,49,32,61,32,108,111,97,100,46,105,32,37,48,32,48,32,114,101,116,32,37,49,32,125]}
def sTq:ByteArray:={data:= #[102,117,110,99,32,109,97,105,110,40,41,32,110,32,123,32,98,48,58,32,111,117,116,32,37,49,32,37,49,32,61,32,99,111,110,115,116,32,50,32,114,101,116,32,125]}
def sTr:ByteArray:={data:= #[102,117,110,99,32,109,97,105,110,40,41,32,110,32,123,32,98,48,58,32,112,111,108,108,32,49,32,114,101,116,32,125]}
def eE:Fun:=([102],[2],1,[[(11,1,0,0,[0],[],[],142),(28,-1,0,0,[1],[],[],159)]],124)
def pTp:List Fun:= [([109,97,105,110],[1],1,[[(10,2,0,0,[],[],[105,112],21),(14,-1,1,0,[2,2],[],[],33),(26,-1,0,0,[],[1],[],49)],[(20,3,0,1,[0,4],[0,1],[],59),(21,4,0,1,[2],[],[102],82),(27,-1,0,0,[3],[1,2],[],99)],[(28,-1,0,0,[4],[],[],115)]],0),eE]
def pTq:List Fun:= [([109,97,105,110],[],0,[[(22,-1,0,0,[1],[],[],20),(1,1,2,0,[],[],[],27),(28,-1,0,0,[],[],[],40)]],0)]
def pTr:List Fun:= [([109,97,105,110],[],0,[[(23,-1,1,0,[],[],[],20),(28,-1,0,0,[],[],[],27)]],0)]
theorem pQ {r q:Except Er (List Fun)} (h:same r q=true):r=q:=by
 unfold same at h;split at h
 ·rename_i xs ys;rw [@of_decide_eq_true _ (KQ xs ys) h]
 ·rw [of_decide_eq_true h]
 ·exact absurd h (by simp)
theorem Lk:wW sTp= .ok pTp:=pQ (by decide +kernel)
theorem KS:wW sTq= .ok pTq:=pQ (by decide +kernel)
theorem LC:wW sTr= .ok pTr:=pQ (by decide +kernel)
theorem Gl (w:World):Calls Tryz.prog 20 #[.string sTp] w fun e w'=>∃v,e= .returned (.tuple #[.agg #[v],.agg #[.int .i64 0,.int .i64 0]])∧bK w' pTp v∧Below w.heap.size w w':=
 (nS sTp (by decide +kernel) (by decide +kernel) Lk w).mono fun _ _ ⟨v,e,h,b⟩=>⟨v,e,oP h,b⟩
theorem Gh (w:World):Calls Tryz.prog 20 #[.string sTq] w fun e w'=>∃v,e= .returned (.tuple #[.agg #[v],.agg #[.int .i64 0,.int .i64 0]])∧bK w' pTq v∧Below w.heap.size w w':=
 (nS sTq (by decide +kernel) (by decide +kernel) KS w).mono fun _ _ ⟨v,e,h,b⟩=>⟨v,e,oP h,b⟩
theorem Ia (w:World):Calls Tryz.prog 20 #[.string sTr] w fun e w'=>∃v,e= .returned (.tuple #[.agg #[v],.agg #[.int .i64 0,.int .i64 0]])∧bK w' pTr v∧Below w.heap.size w w':=
 (nS sTr (by decide +kernel) (by decide +kernel) LC w).mono fun _ _ ⟨v,e,h,b⟩=>⟨v,e,oP h,b⟩
theorem zr:bj pTp true=(0,0):=by decide +kernel
theorem JT:(bj pTq true).1=10:=by decide +kernel
theorem IP:(bj pTr true).1=2:=by decide +kernel
theorem IW:bj pTr false=(0,0):=by decide +kernel
theorem JU:(bj [] true).1=12:=by decide +kernel
theorem Gj:findF pTp [102]=some eE:=by rfl
def Lb (p:List Fun):Bool:=decide (p.length≤100) && p.all fun f=>decide (f.1.length≤100) && decide (f.2.2.2.1.length≤100) && decide (f.2.1.length≤100) && f.2.2.2.1.all fun b=>decide (b.length≤100) && b.all fun x=>decide (x.2.2.2.2.1.length≤100) && decide (x.2.2.2.2.2.1.length≤100) && decide (x.2.2.2.2.2.2.1.length≤100) && decide (-100≤x.2.2.1) && decide (x.2.2.1≤100)
theorem oZ {p:List Fun} (h:Lb p=true):Cnd p∧Siz p:=by
 unfold Lb at h;simp only [Bool.and_eq_true,decide_eq_true_eq,List.all_eq_true] at h;obtain⟨h1,h2⟩:=h;have hS:Siz p:=fun f hf=>by
  obtain⟨⟨⟨q1,q2⟩,q3⟩,q4⟩:=h2 f hf;refine⟨by omega,by omega,fun b hb=>⟨by have:=(q4 b hb).1;omega,fun x hx=> ?_⟩⟩;obtain⟨⟨⟨⟨a1,a2⟩,a3⟩,a4⟩,a5⟩:=(q4 b hb).2 x hx;exact⟨by omega,by omega⟩
 refine⟨Fp (by omega) (fun f hf=> ?_) hS,hS⟩;obtain⟨⟨⟨q1,q2⟩,q3⟩,q4⟩:=h2 f hf;refine⟨by unfold maxLen;omega,fun b hb x hx=> ?_⟩;obtain⟨⟨⟨⟨a1,a2⟩,a3⟩,a4⟩,a5⟩:=(q4 b hb).2 x hx;exact⟨⟨by omega,by omega⟩,by unfold maxLen;omega⟩
theorem ka:Cnd pTp∧Siz pTp:=oZ (by decide +kernel)
theorem tC:Cnd pTq∧Siz pTq:=oZ (by decide +kernel)
theorem kT:Cnd pTr∧Siz pTr:=oZ (by decide +kernel)
theorem tJ:Cnd []∧Siz []:=oZ (by decide +kernel)
theorem KR:∀f∈pTp,ApF f:=by
 have hc:=mM (show(bj pTp true).1=0 by rw [zr]);refine Ft ka.2 (fun f hf=>⟨?_,(ka.1.2.2.2 hc.1 f hf).1⟩);obtain⟨i,hi⟩:=List.mem_iff_getElem?.1 hf;have hl:=(List.getElem?_eq_some_iff.1 hi).1;have:=tx (hc.2.2 i hl);rw [Aj hi] at this;exact this.1
theorem AX:tM eE∧Mod eE:=by
 have hc:=mM (show(bj pTp true).1=0 by rw [zr]);have hm:eE∈pTp:=by simp [pTp]
 exact⟨(ka.1.2.2.2 hc.1 eE hm).2.1,(ka.1.2.2.1 eE hm).1⟩
theorem Kk:(tyL eE 0 (bB eE 1 0)).getD 0=2:=by decide +kernel
theorem Jz:(tyL eE 1 (bB eE 1 0)).getD 0=1:=by decide +kernel
theorem Ld:eE.2.1.length+(mkL (bB eE 1 0)).length=2:=by decide +kernel
theorem EG {w:World} {R:Rdg} {b:Nat} {m:Int→Option (DataW Unit)} (h:bS w R b 2 m) (h0:(m 0).isSome=true) (h1:(m 1).isSome=true):∃D,w.ownsMap Tryz.prog 3 R b 2 D∧Maps.size D=2:=by
 obtain⟨D,q1,q2⟩:=h;refine⟨D,q1,?_⟩;have hle:=q1.size_le;have ht:=q1.tidy iY;have s0:=size_del (k:= .int .i64 0) ht;rw [(q2 0 (fJ ⟨by omega,by omega⟩)).1,h0] at s0;have s1:=size_del (k:= .int .i64 1) (ht.del (.int .i64 0));rw [has_del_other (by intro e;injection e with _ e;omega),(q2 1 (fJ ⟨by omega,by omega⟩)).1,h1] at s1;simp at s0 s1;omega
theorem pJ {w:World} {b n:Nat} {ty:Int→Option Int} (hM:cI w b n ty) (id:Int) (hI:Wf6 id) (t:Int) (hT:(ty id).getD 0=t):(Instr.lookup 40 (.map (some b)) (.int .i64 id) false).run Tryz.prog w= .ok (.int .i64 t) w:=by
 obtain⟨D,h1,h2⟩:=hM;obtain⟨c,hr,hc,_⟩:=h1.lookup_int iY Tryz.An Tryz.qh (Tryz.IE w) (keyOf_int_mk Tryz.qh hI);rw [(h2 id hI).2] at hc;have e:(ty id).getD 0=c:=by
  cases h:ty id with
  |none=>simp [h] at hc;simpa using hc
  |some t=>simp [h] at hc;simpa using hc
 rw [hr,←e,hT]
theorem En {w:World} {b n N:Nat} (hM:∃D,w.ownsMap Tryz.prog 3 (plainElem (H:=Unit) Tryz.prog 3) b n D∧Maps.size D=N) (t:TypeId):(Builtin.len_ #[40] t #[.map (some b)]).run Tryz.prog w= .ok (.int .i64 (N:Int)) w:=by
 obtain⟨D,h1,h0⟩:=hM;rw [h1.len Tryz.An t,h0]
theorem EZ (w:World):Sem.run Tryz.prog (binOp BinOp.eql 29 (.agg #[.int .i64 0,.int .i64 0]) (.agg #[.int .i64 0,.int .i64 0])) w= .ok (.bool true) w:=by kernel_rfl
theorem EC (w:World):bK w [] (.slice none ([]:List Fun).length 0):=⟨none,0,rfl,by simp,by unfold maxLen;simp,.inl rfl⟩
theorem kM (w:World) (hT:Tb w):Calls Tryz.prog 8 #[] w fun e w'=>e= .returned (.bool true)∧Below w.heap.size w w':=by
 have hfl:∀(a b:Value) (w:World),(Instr.field 29 (.agg #[a,b]) 0).run Tryz.prog w= .ok a w:=fun _ _ _=>rfl;have heq:=EZ;have HT:=ae hT;clear hT;go_enter Tryz.func8,Tryz.ntmps8
 go_wp2_with fail
 refine(Gl _).mono ?_;rintro e w1 ⟨v1,rfl,P1,b1⟩;obtain⟨b2,d1,_⟩:=kK w1 (.cells #[v1] 24) (.cells #[.int .i64 0,.int .i64 0] 29);obtain⟨ao,c,rfl,hc1,hc2,hc3⟩:=P1;have P2:Hid (bK ((w1.alloc (.cells #[.slice ao pTp.length c] 24)).alloc (.cells #[.int .i64 0,.int .i64 0] 29)) pTp (.slice ao pTp.length c)):=ae (bK.below ⟨ao,c,rfl,hc1,hc2,hc3⟩ b2);have B2:=ae (af b1 b2);have D1:=ae d1;clear b1 b2 d1 hc1 hc2 hc3;obtain⟨n1,hn1⟩:∃n,pTp.length=n:=⟨_,rfl⟩;rw [hn1] at P2 B2 D1 ⊢;replace hn1:=ae hn1;go_upto_region 2 with fail
 show Code.wp _ _ _ _ ((w1.alloc (.cells #[.slice ao n1 c] 24)).alloc (.cells #[.int .i64 0,.int .i64 0] 29));generalize (w1.alloc (.cells #[.slice ao n1 c] 24)).alloc (.cells #[.int .i64 0,.int .i64 0] 29)=W2 at *;generalize w1.heap.size=q1 at *;go_wp2_with fail
 refine(Gh _).mono ?_;rintro e w3 ⟨v3,rfl,P3,b3⟩;obtain⟨b4,d3,_⟩:=kK w3 (.cells #[v3] 24) (.cells #[.int .i64 0,.int .i64 0] 29);obtain⟨ao3,c3,rfl,hc1,hc2,hc3⟩:=P3;have P4:Hid (bK ((w3.alloc (.cells #[.slice ao3 pTq.length c3] 24)).alloc (.cells #[.int .i64 0,.int .i64 0] 29)) pTq (.slice ao3 pTq.length c3)):=ae (bK.below ⟨ao3,c3,rfl,hc1,hc2,hc3⟩ b4);have B34:=ae (af b3 b4);have D3:=ae d3;clear b3 b4 d3 hc1 hc2 hc3;obtain⟨n3,hn3⟩:∃n,pTq.length=n:=⟨_,rfl⟩;rw [hn3] at P4 B34 D3 ⊢;replace hn3:=ae hn3;go_upto_region 3 with fail
 show Code.wp _ _ _ _ ((w3.alloc (.cells #[.slice ao3 n3 c3] 24)).alloc (.cells #[.int .i64 0,.int .i64 0] 29));generalize (w3.alloc (.cells #[.slice ao3 n3 c3] 24)).alloc (.cells #[.int .i64 0,.int .i64 0] 29)=W4 at *;generalize w3.heap.size=q3 at *;go_wp2_with fail
 refine(Ia _).mono ?_;rintro e w5 ⟨v5,rfl,P5,b5⟩;obtain⟨b6,d5,_⟩:=kK w5 (.cells #[v5] 24) (.cells #[.int .i64 0,.int .i64 0] 29);obtain⟨ao5,c5,rfl,hc1,hc2,hc3⟩:=P5;have P6:Hid (bK ((w5.alloc (.cells #[.slice ao5 pTr.length c5] 24)).alloc (.cells #[.int .i64 0,.int .i64 0] 29)) pTr (.slice ao5 pTr.length c5)):=ae (bK.below ⟨ao5,c5,rfl,hc1,hc2,hc3⟩ b6);have B56:=ae (af b5 b6);have D5:=ae d5;clear b5 b6 d5 hc1 hc2 hc3;obtain⟨n5,hn5⟩:∃n,pTr.length=n:=⟨_,rfl⟩;rw [hn5] at P6 B56 D5 ⊢;replace hn5:=ae hn5;go_upto_region 4 with fail
 show Code.wp _ _ _ _ ((w5.alloc (.cells #[.slice ao5 n5 c5] 24)).alloc (.cells #[.int .i64 0,.int .i64 0] 29));generalize (w5.alloc (.cells #[.slice ao5 n5 c5] 24)).alloc (.cells #[.int .i64 0,.int .i64 0] 29)=W6 at *;generalize w5.heap.size=q5 at *;have E1:=ae ((af B34.out B56.out).block _ (Array.getElem?_eq_some_iff.1 D1.out).1 |>.trans D1.out);have E3:=ae (B56.out.block _ (Array.getElem?_eq_some_iff.1 D3.out).1 |>.trans D3.out);have B6:=ae (af (af B2.out B34.out) B56.out);have P26:=ae (P2.out.below (af B34.out B56.out));have P46:=ae (P4.out.below B56.out);have HT6:=ae (HT.out.below B6.out);clear D1 D3 P2 P4 B2 B34 B56 HT;have CF:Hid (∀w',Below W6.heap.size W6 w'→Calls Tryz.prog 12 #[.agg #[.slice ao n1 c],.string ⟨#[102]⟩] w' fun e w''=>(∃fv,e= .returned (.tuple #[fv,.bool true])∧cg w'' eE fv)∧Below w'.heap.size w' w''):=ae (fun w' b=>by
  have h:=qw pTp [102] ao c w' (by rw [hn1.out];exact P26.out.below b) ka.1.1 KR;rw [Gj,hn1.out] at h;exact h)
 have c1:=(aV E1.out).1;go_wp2_with fail
 refine(CF.out _ (Below.refl _ _)).mono ?_;rintro e w7 ⟨⟨fv,rfl,hfv⟩,b7⟩;obtain⟨lp,cp,lb,cb,rfl,_,_⟩:=de hfv;have b8:=ah w7 (.cells #[.string (bs eE.1),.slice lp eE.2.1.length cp,.int .i64 eE.2.2.1,.slice lb eE.2.2.2.1.length cb,.int .i64 eE.2.2.2.2] 36);have D8:=ae (heap_alloc_new w7 (.cells #[.string (bs eE.1),.slice lp eE.2.1.length cp,.int .i64 eE.2.2.1,.slice lb eE.2.2.2.1.length cb,.int .i64 eE.2.2.2.2] 36));have HF8:=ae (hfv.below b8);have B68:=ae (af b7 b8);clear b7 b8 hfv c1 CF;obtain⟨fnm,hfn⟩:∃n,bs eE.1=n:=⟨_,rfl⟩;obtain⟨fl,hfl2⟩:∃n,eE.2.1.length=n:=⟨_,rfl⟩;obtain⟨fr,hfr⟩:∃n,eE.2.2.1=n:=⟨_,rfl⟩;obtain⟨fb,hfb⟩:∃n,eE.2.2.2.1.length=n:=⟨_,rfl⟩;obtain⟨fp,hfp⟩:∃n,eE.2.2.2.2=n:=⟨_,rfl⟩;rw [hfn,hfl2,hfr,hfb,hfp] at D8 HF8 B68 ⊢;clear hfn hfl2 hfr hfb hfp;go_upto_region 5 with fail
 show Code.wp _ _ _ _ (w7.alloc (.cells #[.string fnm,.slice lp fl cp,.int .i64 fr,.slice lb fb cb,.int .i64 fp] 36));generalize w7.alloc (.cells #[.string fnm,.slice lp fl cp,.int .i64 fr,.slice lb fb cb,.int .i64 fp] 36)=W8 at *;generalize w7.heap.size=q7 at *;have CT:=ae (oC eE _ W8 HF8.out (HT6.out.below B68.out).2.2 AX.2 AX.1);obtain⟨⟨x0,x1,x2,x3,x4⟩,_,_⟩:=bP D8.out;go_wp2_with fail
 refine CT.out.mono ?_;rintro e w9 ⟨bm,rfl,hbm,hI9,b9⟩;have HI9:Hid (cI w9 bm 2 (fun a=>tyL eE a (bB eE 1 0))):=ae (by
  have:=hI9;rw [show eE.2.1.length+(mkL (bB eE eE.2.2.2.1.length 0)).length=2 from Ld] at this;exact this)
 have B69:=ae (af B68.out b9);clear hI9 b9 hbm CT x0 x1 x2 x3 x4 D8 HF8 B68;have CS:Hid (∀w',Below w9.heap.size w9 w'→Calls Tryz.prog 9 #[.agg #[.slice ao n1 c]] w' fun e w''=>e= .returned (.agg #[.int .i64 0,.int .i64 0])∧Below w'.heap.size w' w''):=ae (fun w' b=>by
  have hb:=af B69.out b;have h:=eM pTp ao c w' (by rw [hn1.out];exact P26.out.below hb) ka.1.1 ka.1.2.1 ka.1.2.2.1 (HT6.out.below hb) (HT6.out.below hb).2.2 (jI (HT6.out.below hb).2.2) ka.1.2.2.2;rw [zr,hn1.out] at h;exact h)
 have CQ:Hid (∃y,∀w',Below w9.heap.size w9 w'→Calls Tryz.prog 9 #[.agg #[.slice ao3 n3 c3]] w' fun e w''=>e= .returned (.agg #[.int .i64 10,.int .i64 y])∧Below w'.heap.size w' w''):=ae ⟨(bj pTq true).2,fun w' b=>by
  have hb:=af B69.out b;have h:=eM pTq ao3 c3 w' (by rw [hn3.out];exact P46.out.below hb) tC.1.1 tC.1.2.1 tC.1.2.2.1 (HT6.out.below hb) (HT6.out.below hb).2.2 (jI (HT6.out.below hb).2.2) tC.1.2.2.2;rw [JT,hn3.out] at h;exact h⟩
 have CR:Hid (∃y,∀w',Below w9.heap.size w9 w'→Calls Tryz.prog 9 #[.agg #[.slice ao5 n5 c5]] w' fun e w''=>e= .returned (.agg #[.int .i64 2,.int .i64 y])∧Below w'.heap.size w' w''):=ae ⟨(bj pTr true).2,fun w' b=>by
  have hb:=af B69.out b;have h:=eM pTr ao5 c5 w' (by rw [hn5.out];exact P6.out.below hb) kT.1.1 kT.1.2.1 kT.1.2.2.1 (HT6.out.below hb) (HT6.out.below hb).2.2 (jI (HT6.out.below hb).2.2) kT.1.2.2.2;rw [IP,hn5.out] at h;exact h⟩
 have CM:Hid (∀w',Below w9.heap.size w9 w'→Calls Tryz.prog 11 #[.agg #[.slice ao5 n5 c5]] w' fun e w''=>e= .returned (.agg #[.int .i64 0,.int .i64 0])∧Below w'.heap.size w' w''):=ae (fun w' b=>by
  have hb:=af B69.out b;have h:=mB pTr ao5 c5 w' (by rw [hn5.out];exact P6.out.below hb) kT.1.1 kT.1.2.1 kT.1.2.2.1 (HT6.out.below hb) (HT6.out.below hb).2.2 (jI (HT6.out.below hb).2.2) kT.1.2.2.2;rw [IW,hn5.out] at h;exact h)
 have CN:Hid (∃y,∀w',Below w9.heap.size w9 w'→Calls Tryz.prog 9 #[.agg #[.slice none 0 0]] w' fun e w''=>e= .returned (.agg #[.int .i64 12,.int .i64 y])∧Below w'.heap.size w' w''):=ae ⟨(bj [] true).2,fun w' b=>by
  have hb:=af B69.out b;have h:=eM [] none 0 w' (EC w') tJ.1.1 tJ.1.2.1 tJ.1.2.2.1 (HT6.out.below hb) (HT6.out.below hb).2.2 (jI (HT6.out.below hb).2.2) tJ.1.2.2.2;rw [JU] at h;exact h⟩
 obtain⟨yq,hCQ⟩:=CQ.out;obtain⟨yr,hCR⟩:=CR.out;obtain⟨yn,hCN⟩:=CN.out;replace hCQ:=ae hCQ;replace hCR:=ae hCR;replace hCN:=ae hCN;have F1:=ae ((B69.out.block _ (Array.getElem?_eq_some_iff.1 E1.out).1).trans E1.out);have F3:=ae ((B69.out.block _ (Array.getElem?_eq_some_iff.1 E3.out).1).trans E3.out);have F5:=ae ((B69.out.block _ (Array.getElem?_eq_some_iff.1 D5.out).1).trans D5.out);have B9:=ae (af B6.out B69.out);clear CQ CR CN E1 E3 D5 P26 P46 P6 HT6 B6 B69;have c1:=(aV F1.out).1;go_wp2_with fail
 refine(CS.out _ (Below.refl _ _)).mono ?_;rintro e wa ⟨rfl,ba⟩;have c3':=(aV ((ba.block _ (Array.getElem?_eq_some_iff.1 F3.out).1).trans F3.out)).1;have BA:=ae ba;clear ba c1;go_wp2_with fail
 refine(hCQ.out _ BA.out).mono ?_;rintro e wb ⟨rfl,bb⟩;have BB:=ae (af BA.out bb);have c5':=(aV ((BB.out.block _ (Array.getElem?_eq_some_iff.1 F5.out).1).trans F5.out)).1;clear bb c3';go_wp2_with fail
 refine(hCR.out _ BB.out).mono ?_;rintro e wc ⟨rfl,bc⟩;have BC:=ae (af BB.out bc);have c6':=(aV ((BC.out.block _ (Array.getElem?_eq_some_iff.1 F5.out).1).trans F5.out)).1;clear bc c5';go_wp2_with fail
 refine(CM.out _ BC.out).mono ?_;rintro e wd ⟨rfl,bd⟩;have BD:=ae (af BC.out bd);clear bd c6';have hID:=bS.below HI9.out BD.out;have hl0:=pJ hID 0 (fJ ⟨by omega,by omega⟩) 2 Kk;have hl1:=pJ hID 1 (fJ ⟨by omega,by omega⟩) 1 Jz;have hln:=fun t=>En (EG hID (by rfl) (by rfl)) t;clear hID;go_wp2_with fail
 refine(hCN.out _ BD.out).mono ?_;rintro e we ⟨rfl,be⟩;have HE:=ae (af B9.out (af BD.out be));clear be hl0 hl1 hln;go_wp2_with fail
 go_ret;exact⟨rfl,HE.out⟩
theorem GxF.Mx {f:Fun} (h:GxF f):OkF f:=by
 obtain⟨h1,_,_,h4⟩:=h;unfold Few at h1;refine⟨by unfold maxLen;omega,fun b hb x hx=> ?_⟩;obtain⟨_,k2,_,_,_,_,k7⟩:=h4 b hb x hx;unfold Few at k7;exact⟨k2,by unfold maxLen;omega⟩
theorem GxF.Ke {f:Fun} (h:GxF f):ShF f:=by
 obtain⟨h1,h2,h3,h4⟩:=h;refine⟨h1,h2,h3,fun b hb x hx=> ?_⟩;obtain⟨_,_,_,_,k5,k6,k7⟩:=h4 b hb x hx;exact⟨k5,k6,k7⟩
theorem bH {p:List Fun} (h:iV p=true) (gp:∀y∈p,GxF y):Cnd p∧Siz p:=⟨Fp (by have:=(oY h).1;omega) (fun f hf=>(gp f hf).Mx) (oY h).2,(oY h).2⟩
end Go.Proofs.YtljkgcfnoegibaaGreatDoor
