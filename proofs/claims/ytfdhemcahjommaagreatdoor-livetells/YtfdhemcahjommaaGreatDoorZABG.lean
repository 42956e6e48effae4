/- Texts of one chain, joined. -/
import Derived.Test.YtfdhemcahjommaaGreatDoorZABF
set_option maxHeartbeats 4000000
set_option maxRecDepth 20000
namespace Go.Proofs.YtfdhemcahjommaaGreatDoor
open Go Go.RowKit
open G (Tok Er Ins Fun)
theorem DN:∀ {l m:List Int},l.Pairwise (· < ·)→m.Pairwise (· < ·)→(∀x,x∈l↔x∈m)→l=m
 |[],[],_,_,_=>rfl
 |[],b :: m,_,_,h=>absurd ((h b).2 (List.mem_cons_self ..)) List.not_mem_nil
 |a :: l,[],_,_,h=>absurd ((h a).1 (List.mem_cons_self ..)) List.not_mem_nil
 |a :: l,b :: m,h1,h2,h=>by
  obtain⟨a1,a2⟩:=List.pairwise_cons.1 h1;obtain⟨b1,b2⟩:=List.pairwise_cons.1 h2;have e:a=b:=by
   rcases List.mem_cons.1 ((h a).1 (List.mem_cons_self ..))with e | q
   ·exact e
   ·rcases List.mem_cons.1 ((h b).2 (List.mem_cons_self ..))with e | q2
    ·exact e.symm
    ·have:=b1 a q;have:=a1 b q2;omega
  subst e;rw [DN a2 b2 fun x=> ?_];constructor
  ·intro hx;rcases List.mem_cons.1 ((h x).1 (List.mem_cons_of_mem _ hx))with e | q
   ·have:=a1 x hx;omega
   ·exact q
  ·intro hx;rcases List.mem_cons.1 ((h x).2 (List.mem_cons_of_mem _ hx))with e | q
   ·have:=b1 x hx;omega
   ·exact q
theorem As (x a:Int) (l:List Int):gY (a :: l) x=if a < x then a :: gY l x else x :: a :: l:=by
 unfold gY;rw [mS];split <;> simp
theorem tG {x:Int}:∀ {l:List Int},l.Pairwise (· < ·)→x ∉ l→(gY l x).Pairwise (· < ·)
 |[],_,_=>by simp [gY]
 |a :: l,h,hx=>by
  obtain⟨h1,h2⟩:=List.pairwise_cons.1 h;have hx1:x≠a:=fun e=>hx (by rw [e];exact List.mem_cons_self ..);have hx2:x ∉ l:=fun e=>hx (List.mem_cons_of_mem _ e);rw [As];split
  ·refine List.pairwise_cons.2 ⟨fun y hy=> ?_,tG h2 hx2⟩;rcases tw.1 hy with e | e
   ·omega
   ·exact h1 y e
  ·refine List.pairwise_cons.2 ⟨fun y hy=> ?_,h⟩;rcases List.mem_cons.1 hy with e | e
   ·omega
   ·have:=h1 y e;omega
theorem val_one {f:Fun} {k i:Nat} (h:dR f k i false=0) (hm:mkX (ay f k i)≠0) (hk:k < f.2.2.2.1.length):en f (ay f k i).2.1=false∧(∀b,b < k→∀j,j < (ah f b).length→dm (ay f k i).2.1 (ay f b j)=false)∧∀j,j < i→j < (ah f k).length→dm (ay f k i).2.1 (ay f k j)=false:=by
 generalize hid:(ay f k i).2.1=id;have h1:(ei f id k i).2.2.2=false:=by
  cases q:(ei f id k i).2.2.2 with
  |false=>rfl
  |true=>
   unfold dR at h;rw [hid,q,decide_eq_true hm] at h;simp at h
 unfold ei at h1;by_cases hp:en f id=true
 ·rw [if_pos hp] at h1;cases h1
 ·rw [if_neg hp] at h1;have hn:jx f id k i=none:=by
   cases q:jx f id k i with
   |none=>rfl
   |some a=>
    rw [q] at h1;unfold jx at q;obtain⟨K,_,q1,_⟩:=fM q;unfold lS at q1;obtain⟨J,_,q2,_⟩:=fM q1;unfold lx at q2;split at q2
    ·injection q2 with q2;rw [←q2] at h1
     cases h1
    ·cases q2
  have all:∀b,b≤k→∀j,j < min (jz f k i b) (ah f b).length→dm id (ay f b j)=false:=fun b hb j hj=>by
   have q1:=gh hn b (by omega);have q2:=gh q1 j hj;unfold lx at q2;split at q2
   ·cases q2
   ·rename_i q;simpa using q
  refine⟨by simpa using hp,fun b hb j hj=>all b (by omega) j (by unfold jz;rw [if_pos hb];omega),fun j hj hl=>all k (Nat.le_refl _) j (by unfold jz;rw [if_neg (Nat.lt_irrefl _)];omega)⟩
theorem n8 {l:List Int} {b:List Ins} (hl:l.Pairwise (· < ·)) (h:∀J,J < b.length→mkX (gI b J)≠0→(gI b J).2.1 ∉ l∧∀j,j < J→dm (gI b J).2.1 (gI b j)=false):∀J,J≤b.length→(eV l (b.take J)).Pairwise (· < ·)
 |0,_=>by simpa [eV] using hl
 |J+1,hJ=>by
  rw [qk (by omega)];split
  ·exact n8 hl h J (by omega)
  ·rename_i hm;obtain⟨h1,h2⟩:=h J (by omega) hm;refine tG (n8 hl h J (by omega)) fun hx=> ?_;rcases oJ.1 hx with q | ⟨x,hx,q⟩
   ·exact h1 q
   ·obtain⟨j,hj,e⟩:=List.mem_iff_getElem.1 hx;rw [List.length_take] at hj;have:gI b j=x:=by
     have q:=yV (b:=b) (i:=j) (by omega);rw [List.getElem_take] at e;rw [List.getElem?_eq_getElem (by omega),e] at q;exact(Option.some.inj q).symm
    rw [←this,h2 j (by omega)] at q
    cases q
theorem Cb (n:Nat):(fX n).Pairwise (· < ·):=by
 unfold fX;rw [List.pairwise_map];exact List.pairwise_lt_range.imp fun h=>by omega
theorem FE {a:Int} {n:Nat}:a∈fX n↔0≤a∧a < n:=by
 unfold fX;simp only [List.mem_map,List.mem_range];constructor
 ·rintro ⟨i,h,rfl⟩;omega
 ·intro h;exact⟨a.toNat,by omega,by omega⟩
theorem DE {f:Fun} (h:∀k,k < f.2.2.2.1.length→∀i,i < (ah f k).length→dR f k i false=0):(cL f).Pairwise (· < ·):=by
 have key:∀K,K≤f.2.2.2.1.length→(im (fX f.2.1.length) (f.2.2.2.1.take K)).Pairwise (· < ·):=by
  intro K;induction K with
  |zero=>intro _;simpa [im] using Cb f.2.1.length
  |succ K ih=>
   intro hK;rw [qI (by omega)];have q:=n8 (b:=ah f K) (ih (by omega)) (fun J hJ hm=>by
    obtain⟨h1,h2,h3⟩:=val_one (h K (by omega) J hJ) hm (by omega);refine⟨fun hx=> ?_,fun j hj=>h3 j hj (by omega)⟩;rcases oK.1 hx with q | ⟨b,hb,x,hx,q⟩
    ·have:=FE.1 q;have h1':en f (gI (ah f K) J).2.1=false:=h1;unfold en at h1';rw [decide_eq_true this.1,decide_eq_true this.2] at h1'
     cases h1'
    ·obtain⟨k,hk,e⟩:=List.mem_iff_getElem.1 hb;rw [List.length_take] at hk;have eb:ah f k=b:=by
      have q:=dp (f:=f) (k:=k) (by omega);rw [List.getElem_take] at e;rw [List.getElem?_eq_getElem (by omega),e] at q;exact(Option.some.inj q).symm
     obtain⟨j,hj,e2⟩:=List.mem_iff_getElem.1 hx;rw [←eb] at hj;have ex:ay f k j=x:=by
      have q:=ji (f:=f) (k:=k) (i:=j) hj;subst eb;rw [List.getElem?_eq_getElem hj,e2] at q;exact(Option.some.inj q).symm
     rw [←ex] at q;have:=h2 k (by omega) j hj;rw [show(ay f K J).2.1=(gI (ah f K) J).2.1 from rfl] at this;rw [this] at q
     cases q)
   have:=q (ah f K).length (Nat.le_refl _);rwa [List.take_of_length_le (Nat.le_refl _)] at this
 have:=key f.2.2.2.1.length (Nat.le_refl _);rwa [List.take_of_length_le (Nat.le_refl _)] at this
theorem wg {f:Fun} {k j n:Nat} (hk:k < f.2.2.2.1.length) (hj:j < (ah f k).length) (hn:n < (ay f k j).2.2.2.2.1.length):(ay f k j).2.2.2.2.1.getD n 0∈aS f:=
 rL.2 ⟨_,List.mem_of_getElem? (dp hk),_,rI hj,by rw [List.getD_eq_getElem?_getD,List.getElem?_eq_getElem hn];exact List.getElem_mem _⟩
theorem FK {f:Fun} {k:Nat} {id:Int} (hT:Tos f) (h:eS f k id=true):id∈aS f:=by
 refine ja (S:=fun _=>id∈aS f) (fun k ⟨b,hb,q⟩=> ?_) h;have hl:=(eE hT hb).1;rcases q with q | q | q
 ·obtain⟨i,n,h1,_,h3,_,_,h6⟩:=nO q;have:=wg hl (show i < (ah f b.toNat).length from h1) h3;rw [h6] at this;exact this
 ·obtain⟨j,n,_,h2,_,h4,h5,_⟩:=jF q;have:=wg hl h2 h4;rw [h5] at this;exact this
 ·exact q.2
theorem BK {f:Fun} {k i:Nat} {id:Int} (hT:Tos f) (hk:k < f.2.2.2.1.length) (h:bf f k i id=true):id∈aS f:=by
 rcases eX.1 h with q | ⟨_,q⟩
 ·obtain⟨j,n,_,h2,_,h4,h5,_⟩:=jF q;have:=wg hk h2 h4;rw [h5] at this;exact this
 ·exact FK hT q
theorem xw {p:List Fun} {f:Fun} {k i:Nat} (hG:Gr (aC f)) (hT:Tos f) (hA:TkA p f) (hV:∀k,k < f.2.2.2.1.length→∀i,i < (ah f k).length→dR f k i false=0) (hk:k < f.2.2.2.1.length):(aS f).filter (bf f k i)=(cL f).filter fun id=>bf f k i id:=by
 refine DN ((wJ f).filter _) ((DE hV).filter _) fun x=> ?_;rw [List.mem_filter,List.mem_filter];exact⟨fun h=>⟨Ex (E8 hG hT hA hk h.2),h.2⟩,fun h=>⟨BK hT hk h.2,h.2⟩⟩
theorem FL {f:Fun} {k:Nat} (h0:0 < (ah f k).length):fH f k (ah f k).length=(ah f k).length:=by
 unfold fH gz;have:=kW (ah f k);rw [if_neg (by omega)];omega
theorem Cs (f:Fun) (k:Nat) (id:Int):bf f k (ah f k).length id=eS f k id:=by
 unfold bf;rw [tu (Nat.le_refl _)];simp
def zv (f:Fun) (k p:Nat):Nat:=((aS f).filter (bf f k (fH f k p))).length
def vr (f:Fun) (k:Nat):Nat→Nat
 |0=>fI f k
 |i+1=>max (vr f k i) (zv f k i)
theorem uP {f:Fun} {k:Nat} (hI:inL f k=(aS f).filter (bf f k 0)) (hA:∀i,i < (ah f k).length→lX f k i=(aS f).filter (bf f k (gz f k i))):∀i,i≤(ah f k).length→vr f k (i+1)=max (fI f k) (gW f k i)
 |0,_=>by
  show max (fI f k) (zv f k 0)=max (fI f k) (inL f k).length;rw [hI];rfl
 |i+1,h=>by
  show max (vr f k (i+1)) (zv f k (i+1))=max (fI f k) (max (gW f k i) (lX f k i).length);rw [uP hI hA i (by omega),hA i h,Nat.max_assoc];rfl
theorem BN (V:List Int) (b:Nat→Bool) (m:Nat):eU b m=(dE V b m).length:=by
 unfold eU dE;rw [List.length_map,←List.countP_eq_length_filter]
theorem FG {f:Fun} {k p W:Nat} (h:(aS f).length≤64 * W):eU (hU (aS f) f k (fH f k p)) (64 * W)=zv f k p:=by
 rw [BN (aS f)];exact congrArg List.length (nC (aS f) (bf f k (fH f k p)) (64 * W) h)
theorem xq {f:Fun} {b:Nat} {w:World} (h:eL f b w) (hI:∀k,k < f.2.2.2.1.length→inL f k=(aS f).filter (bf f k 0)) (hA:∀k,k < f.2.2.2.1.length→∀i,i < (ah f k).length→lX f k i=(aS f).filter (bf f k (gz f k i)))
  (hN:f.2.2.2.1.length≤1000000) (hM:∀k,(ah f k).length≤1000000):
  Calls Tryz.prog 17 #[.pointer (some ⟨b,0,none⟩)] w fun e w'=>e= .returned (.int .i64 (oO f:Nat))∧w'=w:=by
 obtain⟨B,W,G,C,R,CR,gr,cr,va,cv,h1,_,_,⟨hW1,hW2⟩,h5,h6,h7⟩:=h;have c1:w.cell? ⟨b,1,none⟩=some (.slice (some ⟨gr,0,none⟩) f.2.2.2.1.length cr):=by simp [World.cell?,h1]
 have HR:=ae (fun K (hK:K < f.2.2.2.1.length)=>gX h5 hK);have HS:=ae (fun K (hK:K < f.2.2.2.1.length) p (hp:p < (ah f K).length+1)=>gX (h6 K hK) hp);have HC:=ae (fun K (hK:K < f.2.2.2.1.length) p (hp:p < (ah f K).length+1)=>qA (h7 K hK p (by omega)) (by omega));have HE:=ae (fun K p=>FG (f:=f) (k:=K) (p:=p) hW2);have HM:=ae (fun K (hK:K < f.2.2.2.1.length)=>uP (hI K hK) (hA K hK) (ah f K).length (Nat.le_refl _));have HB:=ae hM;have HF:Hid (oO f=fI f f.2.2.2.1.length):=ae rfl;clear h1 h5 h6 h7 hI hA hM hW1 hW2;obtain⟨N,hNe⟩:∃N,f.2.2.2.1.length=N:=⟨_,rfl⟩;rw [hNe] at c1 HR HS HC HM HF hN;clear hNe;go_enter Tryz.func17,Tryz.ntmps17
 go_wp2_with fail
 go_loopw [3,15] (fun mv iv wr=>∃K:Nat,K≤N∧iv= .int .i64 K∧mv= .int .i64 (fI f K:Nat)∧wr=w) (fun _ iv _=>N - (intOf iv).toNat)
 case atStart=>exact⟨0,Nat.zero_le _,rfl,rfl,rfl⟩
 case round=>
  obtain⟨K,hK,rfl,rfl,rfl⟩:=hrel;by_cases hit:K < N
  ·have hKI:(K:Int) < N:=(by omega);have ck:=HR.out K hit;obtain⟨m,hm⟩:∃m,(ah f K).length+1=m:=⟨_,rfl⟩;have Hm:=ae hm;have hml:m≤1000001:=(by have:=HB.out K;omega);rw [hm] at ck;clear hm;go_wp2_with fail
   go_loopw [3,21] (fun mv iv wr'=>∃I:Nat,I≤m∧iv= .int .i64 I∧mv= .int .i64 (vr f K I:Nat)∧wr'=wr) (fun _ iv _=>m - (intOf iv).toNat)
   case atStart=>exact⟨0,Nat.zero_le _,rfl,rfl,rfl⟩
   case round=>
    obtain⟨I,hI,rfl,rfl,rfl⟩:=hrel;by_cases hit2:I < m
    ·have hiI:(I:Int) < m:=(by omega);have cp:=HS.out K hit I (by rw [Hm.out];exact hit2);have CC:=HC.out K hit I (by rw [Hm.out];exact hit2);rw [HE.out] at CC;have HX:Hid (vr f K (I+1)=max (vr f K I) (zv f K I)):=ae rfl;unfold gG at cp;generalize G K I=g at *;generalize C K I=c at *;generalize zv f K I=n at *;generalize vr f K I=x at *;clear ck c1;go_wp2_with fail
     refine CC.mono ?_;rintro e w2 ⟨rfl,rfl⟩;go_wp2_with fail
     go_roundw
     case rel=>exact⟨I+1,by omega,by go_num,by rw [HX.out];congr 1;omega,trivial⟩
     case measure=>simp [intOf];omega
    ·obtain rfl:m=I:=(by omega);have HX:Hid (vr f K m=fI f (K+1)):=ae (by rw [←Hm.out,HM.out K hit];rfl);go_wp2_with fail
     go_roundw
     case rel=>exact⟨K+1,by omega,by go_num,by rw [HX.out],trivial⟩
     case measure=>simp [intOf];omega
  ·obtain rfl:N=K:=(by omega);go_wp2_with fail
   go_ret;exact⟨by rw [HF.out];rfl,rfl⟩
theorem BG (f:Fun) (v:Value) (w:World) (hv:bG w f v) (hF:Ful f) (hT:Tos f) (hP:PhF f) (hM:Mod f) (h0:0 < f.2.2.2.1.length) (hR:∀k:Nat,k < f.2.2.2.1.length→(k:Int)∈aG f) (hA:(lh f).length≤1000000) (hTb:L5.Tab w) (hTz:kQ w):
  Calls Tryz.prog 8 #[v] w fun e w'=>∃b,e= .returned (.pointer (some ⟨b,0,none⟩))∧eL f b w'∧Below w.heap.size w w':=by
 obtain⟨lp0,cp,lb,cb,rfl,_,_⟩:=cG hv;have b1:=ag w (.cells (fC (bs f.1) lp0 lb f.2.1.length cp f.2.2.2.1.length cb f.2.2.1 f.2.2.2.2) 28);have H0:=ae (heap_alloc_new w (.cells (fC (bs f.1) lp0 lb f.2.1.length cp f.2.2.2.1.length cb f.2.2.1 f.2.2.2.2) 28));have HC:=ae (zS f _ _ (hv.below b1) hF hT hM hA (hTb.below b1) h0);have hAV:∀k,k < f.2.2.2.1.length→∀x∈ah f k,∀a∈x.2.2.2.2.1,a∈aS f:=fun k hk x hx a ha=>rL.2 ⟨_,List.mem_of_getElem? (dp hk),x,hx,ha⟩;have hAl:∀k,k < f.2.2.2.1.length→∀x∈ah f k,x.2.2.2.2.1.length≤1000000:=fun k hk x hx=>by
  obtain⟨i,hi,e⟩:=List.mem_iff_getElem.1 hx;have h:=zi (f:=f) hk hi;unfold ay at h;rw [List.getD_eq_getElem?_getD,List.getElem?_eq_getElem hi,e] at h;exact Nat.le_trans h hA
 have hvl:(aS f).length≤1000000:=Nat.le_trans (yX f) hA;have HS:=ae (fun lp W wB q w' (hW:W=((aS f).length+63) / 64) (hL:LkW f (aS f) W wB lp q w') (hD:LkD f (aS f) W wB.heap.size (fun _ _=>noB) q w') (hAp:LkA f q)=>callsIn_wide.1 (A6 hL hD (fun _ _ _=>rfl) hAp hF hT hP hM h0 hR (wJ f) hAV hAl (by omega) (by omega)));have B1:=ae b1;have HZ:=ae hTz;have Hvl:=ae hvl;clear hv b1 hF hT hP hM h0 hR hA hTb hTz hAV hAl hvl;obtain⟨N,hNe⟩:∃N,f.2.2.2.1.length=N:=⟨_,rfl⟩;obtain⟨nm,hnm⟩:∃n,bs f.1=n:=⟨_,rfl⟩;obtain⟨rt,hrt⟩:∃n,f.2.2.1=n:=⟨_,rfl⟩;obtain⟨pl,hpe⟩:∃n,f.2.2.2.2=n:=⟨_,rfl⟩;obtain⟨lps,hlps⟩:∃n,f.2.1.length=n:=⟨_,rfl⟩;rw [hNe,hnm,hrt,hpe,hlps] at B1 H0 HC ⊢;clear hNe hnm hrt hpe hlps;go_enter Tryz.func8,Tryz.ntmps8
 go_upto_region 1 with fail
 show Code.wp _ _ _ _ (w.alloc (.cells (fC nm lp0 lb lps cp N cb rt pl) 28));generalize w.alloc (.cells (fC nm lp0 lb lps cp N cb rt pl) 28)=W1 at *;obtain⟨⟨x0,x1,x2,x3,x4⟩,_,_⟩:=bW H0.out;go_wp2_with fail
 refine HC.out.mono ?_;rintro e w1 ⟨lp,W,wB,q,rfl,hW,hB,hL,hD,hAp⟩;have HS2:=ae (HS.out lp W wB q w1 hW hL hD hAp);have HB:=ae hB;have HL:=ae hL;have HD:=ae hD.Md;have hW1:W≤100000∧(aS f).length≤64 * W:=by have:=Hvl.out;omega
 have HW:=ae hW1;clear hW hB hL hD hAp HS HC H0 x0 x1 x2 x3 x4 hW1;go_wp2_with fail
 refine HS2.out.mono ?_;rintro e w2 ⟨rfl,Hf,hHf,hD2,kf⟩;have hL2:=HL.out.kf kf HD.out;have hb2:Below w.heap.size w w2:=af B1.out (af HB.out hL2.base);have hL3:LkW f (aS f) W wB lp q w2.drew:=hL2.drew 1;obtain⟨va,cv,gr,cr,c5,c9,hlv⟩:=hL3.live (hD2.below (L5.bu w2)) hHf (HZ.out.below (af hb2 (L5.bu w2))) HW.out.1 HW.out.2;have HLv:=ae hlv;have HB2:=ae (af (af hb2 (L5.bu w2)) (ag w2.drew (.cells #[.slice va (aS f).length cv,.slice (some ⟨gr,0,none⟩) f.2.2.2.1.length cr] 66)));clear hHf hD2 kf hL2 hb2 hL3 hlv HS2 HL HD HW HZ Hvl;replace c5:w2.cell? ⟨lp,5,none⟩=some (.slice va (aS f).length cv):=c5;replace c9:w2.cell? ⟨lp,9,none⟩=some (.slice (some ⟨gr,0,none⟩) f.2.2.2.1.length cr):=c9;obtain⟨vl,hvl⟩:∃n,(aS f).length=n:=⟨_,rfl⟩;obtain⟨N2,hN2⟩:∃n,f.2.2.2.1.length=n:=⟨_,rfl⟩;rw [hvl] at c5;rw [hN2] at c9;rw [hvl,hN2] at HLv HB2;clear hvl hN2;go_upto_region 3 with fail
 apply Et
 ·intro K0 HK0;go_region_law (fail)
  all_goals exact HK0
 go_wp2_with fail
 go_ret;exact⟨_,rfl,HLv.out,HB2.out⟩
theorem DW (b:List Ins):(lY b).length=GU b:=by
 unfold lY GU;induction b with
 |nil=>rfl
 |cons x b ih=>simp only [List.flatMap_cons,List.length_append,List.map_cons,List.sum_cons,ih]
theorem Hl (l:List (List Ins)):(l.flatMap lY).length≤4 * wBs l:=by
 unfold wBs;induction l with
 |nil=>simp
 |cons b l ih=>
  simp only [List.flatMap_cons,List.length_append,List.map_cons,List.sum_cons];have h1:=DW b;have h2:=He b;omega
theorem GH {f:Fun} (h:∀k,k < f.2.2.2.1.length→∀i,i < (ah f k).length→dR f k i false=0):PhF f:=fun k hk i hi h20=>by
 have q:=h k hk i hi
 cases e:gQ f k i with
 |true=>rfl
 |false=>
  unfold dR at q;split at q
  ·simp at q
  ·rw [if_pos (by rw [e,decide_eq_true h20];rfl)] at q;simp at q
def iA (p:List Fun) (f:Fun):Prop:=(LvF f∧Gr (aC f)∧TkA p f∧wid f≤1000000∧0 < f.2.2.2.1.length)∧PhF f∧(∀k:Nat,k < f.2.2.2.1.length→(k:Int)∈aG f)∧(lh f).length≤1000000∧∀k,k < f.2.2.2.1.length→∀i,i < (ah f k).length→dR f k i false=0
theorem mw {p:List Fun} (hq:lgQ p=true) (gp:∀y∈p,GxF y) {i:Nat} (hi:i < p.length):iA p (bh p i):=by
 have h:=EZ hq gp hi;have hq':=hq;unfold lgQ at hq';simp only [Bool.and_eq_true,decide_eq_true_eq] at hq';obtain⟨⟨hL,hc⟩,_⟩:=hq';obtain⟨_,_,c⟩:=ue hc;obtain⟨_,s2,s3,_⟩:=yj (c i hi);refine⟨h,GH s3,fun k hk=>(rq h.1.2.1 h.2.2.2.2 _).2 (Ag h.1.2.1 h.2.2.2.2 s2 hk),?_,s3⟩;unfold nG at hL;simp only [Bool.and_eq_true,decide_eq_true_eq] at hL;have h1:=hL.1;unfold total at h1;have h2:wF (bh p i)≤wFs p:=uf wF (uX hi);have h3:=Hl (bh p i).2.2.2.1;unfold wF at h2;unfold lh;omega
theorem iA.ful {p:List Fun} {f:Fun} (h:iA p f):Ful f:=h.1.1.1
theorem iA.tos {p:List Fun} {f:Fun} (h:iA p f):Tos f:=h.1.1.2.1
theorem iA.mod {p:List Fun} {f:Fun} (h:iA p f):Mod f:=h.1.1.2.2.1
theorem iA.same {p:List Fun} {f:Fun} (h:iA p f) {k:Nat} (hk:k < f.2.2.2.1.length) (i:Nat):(aS f).filter (bf f k i)=(cL f).filter fun id=>bf f k i id:=xw h.1.2.1 h.tos h.1.2.2.1 h.2.2.2.2 hk
theorem iA.LF {p:List Fun} {f:Fun} (h:iA p f) {k:Nat} (hk:k < f.2.2.2.1.length):0 < (ah f k).length:=List.length_pos_iff.2 (h.ful.2 _ (List.mem_of_getElem? (dp hk))).1
theorem JE {p:List Fun} {f:Fun} (h:iA p f) (v:Value) (w:World) (hv:bG w f v) (hT:L5.Tab w) (hZ:kQ w):Calls Tryz.prog 8 #[v] w fun e w'=>∃b,e= .returned (.pointer (some ⟨b,0,none⟩))∧eL f b w'∧Below w.heap.size w w':=
 BG f v w hv h.ful h.tos h.2.1 h.mod h.1.2.2.2.2 h.2.2.1 h.2.2.2.1 hT hZ
theorem JW {p:List Fun} {f:Fun} (h:iA p f) {b k:Nat} {w:World} (hL:eL f b w) (hk:k < f.2.2.2.1.length):Calls Tryz.prog 10 #[.pointer (some ⟨b,0,none⟩),.int .i64 k] w (ky w (inL f k) (eL f b)):=by
 have q:=Iv hL hk;rwa [h.same hk] at q
theorem Cf {p:List Fun} {f:Fun} (h:iA p f) {b k:Nat} {w:World} (hL:eL f b w) (hk:k < f.2.2.2.1.length):Calls Tryz.prog 11 #[.pointer (some ⟨b,0,none⟩),.int .i64 k] w (ky w (sG f k) (eL f b)):=by
 have q:=Gn hL hk (h.mod.blk k);rw [h.same hk,FL (h.LF hk)] at q;have e:((cL f).filter fun id=>bf f k (ah f k).length id)=sG f k:=by
  unfold sG;congr 1
  funext id;exact Cs f k id
 rwa [e] at q
theorem yk {p:List Fun} {f:Fun} (h:iA p f) {b k i:Nat} {w:World} (hL:eL f b w) (hk:k < f.2.2.2.1.length) (hi:i < (ah f k).length):Calls Tryz.prog 15 #[.pointer (some ⟨b,0,none⟩),.int .i64 k,.int .i64 i] w (ky w (lX f k i) (eL f b)):=by
 have q:=Hg hL hk hi (h.mod.blk k);rwa [h.same hk] at q
theorem Fi {p:List Fun} {f:Fun} (h:iA p f) {b:Nat} {w:World} (hL:eL f b w):Calls Tryz.prog 17 #[.pointer (some ⟨b,0,none⟩)] w fun e w'=>e= .returned (.int .i64 (oO f:Nat))∧eL f b w'∧Below w.heap.size w w':=
 (xq hL (fun k hk=>(h.same hk 0).symm) (fun k hk i _=>(h.same hk (gz f k i)).symm) h.mod.1 fun k=>h.mod.blk k).mono fun e w' ⟨he,hw⟩=>⟨he,by rw [hw];exact hL,by rw [hw];exact Below.refl _ _⟩
def Lb:ByteArray:={data:= #[102,117,110,99,32,109,97,105,110,40,105,41,32,105,32,123,32,98,48,58,32,37,49,32,61,32,99,111,110,115,116,32,49,32,37,50,32,61,32,110,105,108,32,98,114,32,98,49,32,98,49,58,32,37,51,32,61,32,112,104,105,46,105,32,98,48,32,37,48,32,98,50,32,37,53,32,37,52,32,61,32,112,104,105,46,112,32,98,48,32,37,50,32,98,50,32,37,54,32,105,102,32,37,51,32,98,50,32,98,51,32,98,50,58,32,37,53,32,61,32,115,117,98,32,37,51,32,37,49,32,37,54,32,61,32,99,97,108,108,46,112,32,99,111,110,115,32,37,51,32,37,52,32,111,117,116,32,37,53,32,98,114,32,98,49,32,98,51,58,32,37,55,32,61,32,108,111,97,100,46,105,32,37,52,32,48,32,114,101,116,32,37,55,32,125,32,102,117,110,99,32,99,111,110,115,40,105,32,112,41,32,112,32,123,32,98,48,58,32,37,50,32,61,32,110,101,119,32,105,112,32,115,116,111,114,101,46,105,32,37,50,32,48,32,37,48,32,115,116,111,114,101,46,112,32,37,50,32,49,32,37,49,32,114,101,116,32,37,50,32,125]}
def iH:List Fun:= [([109,97,105,110],[1],1,[[(1,1,1,0,[],[],[],21),(8,2,0,0,[],[],[],34),(26,-1,0,0,[],[1],[],43)],[(20,3,0,1,[0,5],[0,2],[],53),(20,4,0,2,[2,6],[0,2],[],76),(27,-1,0,0,[3],[2,3],[],99)],[(3,5,0,0,[3,1],[],[],115),(21,6,0,2,[3,4],[],[99,111,110,115],130),(22,-1,0,0,[5],[],[],153),(26,-1,0,0,[],[1],[],160)],[(11,7,0,0,[4],[],[],170),(28,-1,0,0,[7],[],[],187)]],0),([99,111,110,115],[1,2],2,[[(10,2,0,0,[],[],[105,112],219),(13,-1,0,0,[2,0],[],[],231),(14,-1,1,0,[2,1],[],[],247),(28,-1,0,0,[2],[],[],263)]],196)]
theorem BZ {r q:Except Er (List Fun)} (h:same r q=true):r=q:=by
 unfold same at h;split at h
 ·rename_i xs ys;rw [@of_decide_eq_true _ (Kw xs ys) h]
 ·rw [of_decide_eq_true h]
 ·exact absurd h (by simp)
theorem IY:Cd Lb= .ok iH:=BZ (by decide +kernel)
theorem qn {B e s n q:Nat} {v u:Value} {xs:List Value} {w:World} (h:w.ownsRow B e s v n xs) (hq:q < B):(w.setCell ⟨q,0,none⟩ u).ownsRow B e s v n xs:=by
 refine⟨h.1,?_⟩;rcases h.2 with hn | ⟨g,cap,cur,hv2,hbb,hg,rest⟩
 ·exact .inl hn
 ·exact .inr ⟨g,cap,cur,hv2,hbb,(Below.heap_setCell w ⟨q,0,none⟩ u g (by show g≠q;omega)).trans hg,rest⟩
theorem eQ.KX {B q:Nat} {xs:List Fun} {v u:Value} {w:World} (h:eQ B xs v w) (hq:q < B):eQ B xs v (w.setCell ⟨q,0,none⟩ u):=by
 obtain⟨cs,h0,hR⟩:=h;exact⟨cs,qn h0 hq,jM.stay (fun e s v n xs _ h=>qn h hq) _ _ hR⟩
theorem yv {B e s n:Nat} {v:Value} {xs:List Value} {w w':World} (h:w.ownsRow B e s v n xs) (b:Below w.heap.size w w'):w'.ownsRow B e s v n xs:=aB b B e s v n xs h
theorem eQ.Fz {B:Nat} {xs:List Fun} {v:Value} {w w':World} (h:eQ B xs v w) (b:Below w.heap.size w w'):eQ B xs v w':=by
 obtain⟨cs,h0,hR⟩:=h;exact⟨cs,yv h0 b,jM.stay (fun e s v n xs _ h=>yv h b) _ _ hR⟩
theorem zu (w:World):Calls Tryz.prog 25 #[] w fun e w'=>∃ao c,e= .returned (.agg #[.slice ao iH.length c])∧eg w' iH (.slice ao iH.length c)∧Below w.heap.size w w':=by
 have b0:=ag w (.cells #[.slice none 0 0] 24);have h0:=heap_alloc_new w (.cells #[.slice none 0 0] 24);have CT:=ae (Av Lb (by decide +kernel) (by decide +kernel) IY (w.alloc (.cells #[.slice none 0 0] 24)));have hz0:(w.alloc (.cells #[.slice none 0 0] 24)).heap.size=w.heap.size+1:=by simp
 have HZ0:=ae hz0;have H0:=ae h0;have B0:=ae b0;clear b0 h0 hz0;go_enter Tryz.func25,Tryz.ntmps25
 go_upto_region 1 with fail
 show Code.wp _ _ _ _ (w.alloc (.cells #[.slice none 0 0] 24));generalize w.alloc (.cells #[.slice none 0 0] 24)=W at *;go_wp2_with fail
 refine CT.out.mono ?_;rintro e w1 ⟨v1,rfl,P1,b1⟩;obtain⟨b2,d1,_⟩:=Ie w1 (.cells #[v1] 24) (.cells #[.int .i64 0,.int .i64 0] 55);obtain⟨ao,c,rfl,_,_,_⟩:=yH P1;have P2:=ae (P1.Fz b2);have B2:=ae (af b1 b2);have D1:=ae d1;clear b1 b2 d1 P1 CT;obtain⟨n1,hn1⟩:∃n,iH.length=n:=⟨_,rfl⟩;rw [hn1] at P2 B2 D1 ⊢;replace hn1:=ae hn1;go_upto_region 2 with fail
 show Code.wp _ _ _ _ ((w1.alloc (.cells #[.slice ao n1 c] 24)).alloc (.cells #[.int .i64 0,.int .i64 0] 55));generalize (w1.alloc (.cells #[.slice ao n1 c] 24)).alloc (.cells #[.int .i64 0,.int .i64 0] 55)=W2 at *;generalize w1.heap.size=q1 at *;have x1:=(bF D1.out).1;have h2:=(B2.out.block _ (Array.getElem?_eq_some_iff.1 H0.out).1).trans H0.out;have x0:=(bF h2).1;have f0:W2.frozen? ⟨w.heap.size,0,none⟩=false:=by simp [World.frozen?,h2]
 have PE:=ae (yH (P2.out.KX (q:=w.heap.size) (u:= .slice ao n1 c) (by have:=HZ0.out;omega)));have BE:=ae ((af B0.out B2.out).setCell (p:=⟨w.heap.size,0,none⟩) (Nat.le_refl _) (.slice ao n1 c));have hE:(W2.setCell ⟨w.heap.size,0,none⟩ (.slice ao n1 c)).cell? ⟨w.heap.size,0,none⟩=some (.slice ao n1 c):=by
  have:=heap_setCell_same W2 w.heap.size 0 _ 24 (.slice ao n1 c) h2;exact(bF (this.trans rfl)).1
 clear h2;go_wp2_with fail
 exact bodyPost_ret (v:= .agg #[.slice ao n1 c]) (by simp [results,Tryz.results25,go_sem,hE]) rfl ⟨ao,c,by rw [hn1.out],by rw [hn1.out];exact PE.out,BE.out⟩
theorem IP:lgQ iH=true:=by decide +kernel
theorem Jy:∀y∈iH,GxF y:=by
 have h:∀y∈iH,y.1.length≤140737488355328∧y.2.1.length≤140737488355328∧y.2.2.2.1.length≤140737488355328∧∀b∈y.2.2.2.1,∀x∈b,(-9223372036854775808≤x.2.1∧x.2.1≤9223372036854775807)∧(-9223372036854775808≤x.2.2.1∧x.2.2.1≤9223372036854775807)∧(∀i∈x.2.2.2.2.1,(-9223372036854775808≤i∧i≤9223372036854775807))∧(∀i∈x.2.2.2.2.2.1,(-9223372036854775808≤i∧i≤9223372036854775807))∧x.2.2.2.2.1.length≤140737488355328∧x.2.2.2.2.2.1.length≤140737488355328∧x.2.2.2.2.2.2.1.length≤140737488355328:=by decide +kernel
 exact h
theorem GY:iA iH (bh iH 0):=mw IP Jy (by decide)
theorem I7:inL (bh iH 0) 1= [1]:=by decide +kernel
theorem Fg:sG (bh iH 0) 0= [0,1,2]:=by decide +kernel
theorem DH:sG (bh iH 0) 2= [1,5,6]:=by decide +kernel
theorem Ay:lX (bh iH 0) 2 1= [1,5,6]:=by decide +kernel
theorem zN:lX (bh iH 0) 1 0= [1,3,4]:=by decide +kernel
theorem Bp:lX (bh iH 0) 3 0= [7]:=by decide +kernel
theorem Db:oO (bh iH 0)=4:=by decide +kernel
theorem nw (w:World) (hT:L5.Tab w) (hZ:kQ w):Calls Tryz.prog 7 #[] w fun e w'=>e= .returned (.bool true)∧Below w.heap.size w w':=by
 have hR:=GY;refine rQ iH (bh iH 0) w (eL (bh iH 0)) rfl rfl rfl (zu w) (fun b w w' h k=>h.below k) (fun w' v b hv=>JE hR v w' hv (hT.below b) (hZ.below b)) (fun w' b _ h=> ?_) (fun w' b _ h=> ?_) (fun w' b _ h=> ?_) (fun w' b _ h=> ?_) (fun w' b _ h=> ?_) (fun w' b _ h=> ?_) (fun w' b _ h=> ?_)
 ·have q:=JW hR h (k:=1) (by decide);rw [I7] at q;exact q
 ·have q:=Cf hR h (k:=0) (by decide);rw [Fg] at q;exact q
 ·have q:=Cf hR h (k:=2) (by decide);rw [DH] at q;exact q
 ·have q:=yk hR h (k:=2) (i:=1) (by decide) (by decide);rw [Ay] at q;exact q
 ·have q:=yk hR h (k:=1) (i:=0) (by decide) (by decide);rw [zN] at q;exact q
 ·have q:=yk hR h (k:=3) (i:=0) (by decide) (by decide);rw [Bp] at q;exact q
 ·have q:=Fi hR h;rw [Db] at q;exact q
theorem ID {p:List Fun} (h:lgQ p=true):0 < p.length:=by
 unfold lgQ at h;simp only [Bool.and_eq_true,decide_eq_true_eq] at h;exact h.2
theorem Im {p:List Fun} {wh:Int} (h:lgQ p=true):(wh % (p.length:Int)).toNat < p.length:=by
 have h0:=ID h;have h1:=Int.emod_nonneg wh (show(p.length:Int)≠0 by omega);have h2:=Int.emod_lt_of_pos wh (show(0:Int) < p.length by omega);omega
theorem yq {p:List Fun} {f:Fun} (h:iA p f):(cL f).length≤1000000:=by
 have h1:=rC f.2.2.2.1 (fX f.2.1.length);rw [pD] at h1;have h2:=h.1.2.2.2.1;unfold wid at h2;unfold cL;omega
end Go.Proofs.YtfdhemcahjommaaGreatDoor
