/- Texts of one chain, joined. -/
import Derived.Test.YtfdhemcahjommaaGreatDoorZABG
set_option maxHeartbeats 2000000
set_option maxRecDepth 20000
namespace Go.Proofs.YtfdhemcahjommaaGreatDoor
open Go Go.RowKit
open G (Tok Er Ins Fun)
theorem ye {id:Int}:∀ {l:List Ins},j4 id l=0→∀x∈l,tkX id x=false∧dm id x=false
 |[],_,x,hx=>by cases hx
 |y :: l,h,x,hx=>by
  rw [j4] at h;split at h
  ·cases h
  ·rename_i h1;split at h
   ·cases h
   ·rename_i h2;rcases List.mem_cons.1 hx with rfl | hx
    ·exact⟨by simpa using h1,by simpa using h2⟩
    ·exact ye h x hx
theorem q7 {f:Fun} {k:Nat} {id:Int} (h:eA f k 0 id=0):∀j,j < (ah f k).length→dm id (ay f k j)=false:=fun j hj=>(ye h (ay f k j) (by rw [List.drop_zero];exact pJ hj)).2
theorem AH (f:Fun) (k:Nat):aF f k=(aC f).getD k []:=by
 unfold aF aC;rw [List.getD_eq_getElem?_getD,List.getD_eq_getElem?_getD,List.getElem?_map]
 cases f.2.2.2.1[k]? with
 |none=>rfl
 |some b=>rfl
theorem uE {p:List Fun} {f:Fun} {id:Int} (hG:Gr (aC f)) (hA:TkA p f) (hn:en f id=false) {way:List Int} {k:Nat} (hk:k < f.2.2.2.1.length) (hW:fJ (aC f) (way ++ [(k:Int)]) k) (hm:∀b:Nat,(b:Int)∈way→∀j,j < (ah f b).length→dm id (ay f b j)=false):eA f k 0 id≠1:=fun h=>by
 obtain⟨j,n,_,h2,h3,h4,h5,h6⟩:=jF h;rcases mK hG (hA k hk j h2 n h4)with q | ⟨b,i,hb,hi,g1,g2,g3⟩
 ·rw [h5,hn] at q;cases q
 ·rw [h5] at g1;have hh:dm id (ay f b i)=true:=kq.2 ⟨g1,g2⟩;rw [if_neg h3] at g3;rcases g3 with ⟨rfl,g4⟩ | ⟨g4,g5⟩
  ·rw [h6 i (Nat.zero_le _) g4] at hh;cases hh
  ·have:=hW.ahead g5;simp only [List.mem_append,List.mem_singleton] at this;rcases this with q | q
   ·rw [hm b q i hi] at hh;cases hh
   ·omega
theorem Hr {p:List Fun} {f:Fun} {id:Int} (hG:Gr (aC f)) (hT:Tos f) (hA:TkA p f) (hn:en f id=false) {k:Nat} (h:eS f k id=true):∀way:List Int,fJ (aC f) (way ++ [(k:Int)]) k→(∀b:Nat,(b:Int)∈way ++ [(k:Int)]→∀j,j < (ah f b).length→dm id (ay f b j)=false)→False:=by
 refine ja (S:=fun k=>∀way:List Int,fJ (aC f) (way ++ [(k:Int)]) k→(∀b:Nat,(b:Int)∈way ++ [(k:Int)]→∀j,j < (ah f b).length→dm id (ay f b j)=false)→False) (fun k ⟨b,hb,q⟩ way hW hm=> ?_) h;obtain⟨hl,h0⟩:=eE hT hb;have e:((b.toNat:Nat):Int)=b:=by omega
 have hst:fJ (aC f) ((way ++ [(k:Int)]) ++ [((b.toNat:Nat):Int)]) (b.toNat:Nat):=by
  rw [e];exact hW.step (by rw [←AH];exact hb) h0
 rcases q with q | q | ⟨q1,q2⟩
 ·obtain⟨i,n,h1,h2,h3,h4,h5,h6⟩:=nO q;rcases mK hG (hA _ hl i h1 n h3)with r | ⟨c,j,hc,hj,g1,g2,g3⟩
  ·rw [h6,hn] at r;cases r
  ·rw [h6] at g1;rw [if_pos h2,h5] at g3;have:=hm c (hW.ahead g3) j hj;rw [kq.2 ⟨g1,g2⟩] at this
   cases this
 ·exact uE hG hA hn hl hst hm q
 ·refine q2 (way ++ [(k:Int)]) hst fun c hc=> ?_;rcases List.mem_append.1 hc with hc | hc
  ·exact hm c hc
  ·simp only [List.mem_singleton] at hc;have:c=b.toNat:=(by omega);subst this;exact q7 q1
theorem wP {p:List Fun} {f:Fun} {id:Int} (hG:Gr (aC f)) (hT:Tos f) (hA:TkA p f) (h0:0 < f.2.2.2.1.length) (h:bf f 0 0 id=true):en f id=true:=by
 cases hn:en f id with
 |true=>rfl
 |false=>
  exfalso;have hs:fJ (aC f) ([] ++ [((0:Nat):Int)]) (0:Nat):=fJ.start _;rcases eX.1 h with q | ⟨q1,q2⟩
  ·exact uE hG hA hn h0 hs (fun b hb=>by cases hb) q
  ·refine Hr hG hT hA hn q2 [] hs fun b hb=> ?_;simp only [List.nil_append,List.mem_singleton] at hb;have:b=0:=(by omega);subst this;exact q7 q1
theorem sL (p:List Fun) (wh:Int) (po:Option Addr) (pc:Nat) (w:World) (LV:Nat→World→Prop) (f:Fun) (L:List Int)
  (C6:∀w',Below w.heap.size w w'→Calls Tryz.prog 6 #[.agg #[.slice po p.length pc],.int .u8 wh] w' (An p wh w'))
  (C7:∀w',Below w.heap.size w w'→Calls Tryz.prog 7 #[] w' fun e w''=>e= .returned (.bool true)∧Below w'.heap.size w' w'')
  (hf:bh p (wh % (p.length:Int)).toNat=f)
  (C8:lgQ p=true→∀w' v,Below w.heap.size w w'→bG w' f v→Calls Tryz.prog 8 #[v] w' fun e w''=>∃b,e= .returned (.pointer (some ⟨b,0,none⟩))∧LV b w''∧Below w'.heap.size w' w'')
  (C10:lgQ p=true→∀w' b,Below w.heap.size w w'→LV b w'→Calls Tryz.prog 10 #[.pointer (some ⟨b,0,none⟩),.int .i64 0] w' fun e w''=>∃ao c,e= .returned (.slice ao L.length c)∧Sl w'' ao L∧LV b w''∧Below w'.heap.size w' w'')
  (hpar:lgQ p=true→∀id∈L,0≤id∧id < f.2.1.length) (hlen:L.length≤1000000):
  Calls Tryz.prog 5 #[.agg #[.slice po p.length pc],.int .u8 wh] w fun e w'=>e= .returned (.bool true)∧Below w.heap.size w w':=by
 replace C6:=ae C6;replace C7:=ae C7;replace C8:=ae C8;replace C10:=ae C10;replace hpar:=ae hpar;have HO:Hid (∀w1 e w',An p wh w1 e w'→(∃lp cp lb cb lps lbs nm rt pl,e= .returned (.tuple #[.agg #[.string nm,.slice lp lps cp,.int .i64 rt,.slice lb lbs cb,.int .i64 pl],.bool (lgQ p)])∧(lgQ p=true→bG w' f (.agg #[.string nm,.slice lp lps cp,.int .i64 rt,.slice lb lbs cb,.int .i64 pl])))∧Below w1.heap.size w1 w'):=ae (fun w1 e w' h=>by rw [←hf];exact h);obtain⟨n,hn⟩:∃n,p.length=n:=⟨_,rfl⟩;obtain⟨Q,hQ⟩:∃q,lgQ p=q:=⟨_,rfl⟩;rw [hQ] at C8 C10 hpar HO;rw [hn] at C6 ⊢;clear hf hn hQ;have b0:=ag w (.cells #[.slice po n pc] 24);have H0:=ae (heap_alloc_new w (.cells #[.slice po n pc] 24));have B0:=ae b0;clear b0;go_enter Tryz.func5,Tryz.ntmps5
 go_upto_region 1 with fail
 show Code.wp _ _ _ _ (w.alloc (.cells #[.slice po n pc] 24));generalize w.alloc (.cells #[.slice po n pc] 24)=W at *;have x0:=(bF H0.out).1;have C1:=ae (C6.out W B0.out);go_wp2_with fail
 refine C1.out.mono ?_;intro e w1 h;obtain⟨⟨lp,cp,lb,cb,lps,lbs,nm,rt,pl,rfl,hv⟩,b1⟩:=HO.out _ _ _ h;have B1:=ae (af B0.out b1);have HV:=ae hv;clear h b1 hv x0 C1 HO;have b2:=ag w1 (.cells #[.string nm,.slice lp lps cp,.int .i64 rt,.slice lb lbs cb,.int .i64 pl] 28);have H2:=ae (heap_alloc_new w1 (.cells #[.string nm,.slice lp lps cp,.int .i64 rt,.slice lb lbs cb,.int .i64 pl] 28));have B2:=ae (af B1.out b2);have HV2:Hid (Q=true→bG (w1.alloc (.cells #[.string nm,.slice lp lps cp,.int .i64 rt,.slice lb lbs cb,.int .i64 pl] 28)) f (.agg #[.string nm,.slice lp lps cp,.int .i64 rt,.slice lb lbs cb,.int .i64 pl])):=ae (fun q=>(HV.out q).below b2);clear b2 HV;have hfl:∀(a b:Value) (w:World),(Instr.field 55 (.agg #[a,b]) 0).run Tryz.prog w= .ok a w:=fun _ _ _=>rfl;go_upto_region 2 with fail
 show Code.wp _ _ _ _ (w1.alloc (.cells #[.string nm,.slice lp lps cp,.int .i64 rt,.slice lb lbs cb,.int .i64 pl] 28));generalize w1.alloc (.cells #[.string nm,.slice lp lps cp,.int .i64 rt,.slice lb lbs cb,.int .i64 pl] 28)=w2 at *;generalize w1.heap.size=q1 at *
 cases Q with
 |false=>
  have C2:=ae (C7.out w2 B2.out);go_wp2_with fail
  refine C2.out.mono ?_;rintro e w3 ⟨rfl,b3⟩;have B3:=ae (af B2.out b3);clear b3;go_wp2_with fail
  go_ret;exact⟨rfl,B3.out⟩
 |true=>
  have hl1:=(yR (HV2.out rfl)).1;replace C10:=ae (C10.out rfl);have HP:=ae (hpar.out rfl);rw [←hl1] at HP;have C2:=ae (C8.out rfl w2 _ B2.out (HV2.out rfl));clear hl1 HV2 hpar;obtain⟨⟨x0,x1,x2,x3,x4⟩,_,_⟩:=bW H2.out;go_wp2_with fail
  refine C2.out.mono ?_;rintro e w3 ⟨lv,rfl,h3,b3⟩;have B3:=ae (af B2.out b3);have H3:=ae ((b3.block _ (Array.getElem?_eq_some_iff.1 H2.out).1).trans H2.out);have C3:=ae (C10.out w3 lv B3.out h3);clear b3 h3 x0 x1 x2 x3 x4 C2 C8 C10 H2;go_wp2_with fail
  refine C3.out.mono ?_;rintro e w4 ⟨ao,c,rfl,hs,_,b4⟩;have B4:=ae (af B3.out b4);have HS:=ae hs;have H4:=ae ((b4.block _ (Array.getElem?_eq_some_iff.1 H3.out).1).trans H3.out);clear b4 hs C3 H3;obtain⟨ll,hll⟩:∃n,L.length=n:=⟨_,rfl⟩;have Hll:=ae hll;rw [hll] at hlen ⊢;clear hll;go_wp2_with fail
  go_loopw [9] (fun iv wr=>∃I:Nat,I≤ll∧iv= .int .i64 I∧Hid (Below w4.heap.size w4 wr)) (fun iv _=>ll - (intOf iv).toNat)
  case atStart=>exact⟨0,Nat.zero_le _,rfl,ae (Below.refl _ _)⟩
  case round=>
   obtain⟨I,hI,rfl,HW⟩:=hrel;by_cases hit:I < ll
   ·have hiI:(I:Int) < ll:=(by omega);obtain⟨g,o,rfl,cI⟩:=cX (HS.out.below HW.out) (i:=I) (by rw [Hll.out];exact hit);obtain⟨v,hv⟩:∃v,L.getD I 0=v:=⟨_,rfl⟩;have hvm:v∈L:=(by rw [←hv,List.getD_eq_getElem?_getD,List.getElem?_eq_getElem (by rw [Hll.out];exact hit)];exact List.getElem_mem _);obtain⟨hv1,hv2⟩:=HP.out v hvm;rw [hv] at cI;have hd1:decide (v < 0)=false:=decide_eq_false (by omega);have hd2:decide ((lps:Int)≤v)=false:=decide_eq_false (by omega);obtain⟨⟨_,x1,_⟩,_,_⟩:=bW ((HW.out.block _ (Array.getElem?_eq_some_iff.1 H4.out).1).trans H4.out);clear hv hvm hv1 hv2;go_wp2_with fail
    go_quiet (fail)
    go_wp2_with fail
    go_roundw
    case rel=>exact⟨I+1,by omega,by go_num,ae (below_drewN HW.out _)⟩
    case measure=>simp [intOf];omega
   ·obtain rfl:I=ll:=(by omega);have B5:=ae (af B4.out HW.out);have C5:=ae (C7.out wr B5.out);go_wp2_with fail
    refine C5.out.mono ?_;rintro e w5 ⟨rfl,b5⟩;have B6:=ae (af B5.out b5);clear b5;go_wp2_with fail
    go_ret;exact⟨rfl,B6.out⟩
theorem tF (p:List Fun) (wh:Int) (po:Option Addr) (pc:Nat) (w:World) (hp:eg w p (.slice po p.length pc)) (gp:∀y∈p,GxF y) (fp:Few p.length) (hwb:0≤wh∧wh < 256) (hT:L5.Tab w) (hZ:kQ w):
  Calls Tryz.prog 5 #[.agg #[.slice po p.length pc],.int .u8 wh] w fun e w'=>e= .returned (.bool true)∧Below w.heap.size w w':=by
 have hR:lgQ p=true→iA p (bh p (wh % (p.length:Int)).toNat):=fun q=>mw q gp (Im q);refine sL p wh po pc w (eL (bh p (wh % (p.length:Int)).toNat)) (bh p (wh % (p.length:Int)).toNat) (if lgQ p=true then inL (bh p (wh % (p.length:Int)).toNat) 0 else []) (fun w' b=>qp p wh po pc w' (hp.below b) gp fp hwb) (fun w' b=>nw w' (hT.below b) (hZ.below b)) rfl
  (fun q w' v b hv=>JE (hR q) v w' hv (hT.below b) (hZ.below b)) (fun q w' b _ h=> ?_) (fun q id hid=> ?_) ?_
 ·rw [if_pos q];refine(JW (hR q) h (k:=0) (hR q).1.2.2.2.2).mono ?_;rintro e w'' ⟨u,he,⟨ao,c,hu,hs,_⟩,h1,h2⟩;exact⟨ao,c,by rw [he,hu],hs,h1,h2⟩
 ·rw [if_pos q] at hid;have hf:=(List.mem_filter.1 hid).2;have hi:=wP (hR q).1.2.1 (hR q).tos (hR q).1.2.2.1 (hR q).1.2.2.2.2 hf;unfold en at hi;simpa using hi
 ·split
  ·rename_i q;exact Nat.le_trans (List.length_filter_le _ _) (yq (hR q))
  ·exact Nat.zero_le _
end Go.Proofs.YtfdhemcahjommaaGreatDoor
