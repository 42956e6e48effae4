/- Texts of one chain, joined. -/
import Derived.Test.YtaiaakklokahjaaGreatDoorZWaAZ
set_option maxHeartbeats 4000000
set_option maxRecDepth 20000
namespace Go.Proofs.YtaiaakklokahjaaGreatDoor
open Go Go.RowKit
open G (Tok Er Ins Fun)
abbrev lkA (nm:ByteArray) (pp:Option Addr) (lps cpp:Nat) (rt:Int) (lb:Option Addr) (N cb:Nat) (pl:Int) (va:Option Addr) (vl cv:Nat) (so:Option Addr) (cs:Nat) (po:Option Addr) (cp:Nat) (jv rv:Value):Array Value:=
 #[.string nm,.slice pp lps cpp,.int .i64 rt,.slice lb N cb,.int .i64 pl,.slice va vl cv,.slice so N cs,.slice po N cp,jv,rv]
theorem jD {w:World} {b t:Nat} {nm:ByteArray} {pp:Option Addr} {lps cpp:Nat} {rt:Int} {lb:Option Addr} {N cb:Nat} {pl:Int} {va:Option Addr} {vl cv:Nat} {so:Option Addr} {cs:Nat} {po:Option Addr} {cp:Nat} {jv rv:Value} (h:w.heap[b]? =some (.cells (lkA nm pp lps cpp rt lb N cb pl va vl cv so cs po cp jv rv) t (0,0))):
  w.cell? ⟨b,3,none⟩=some (.slice lb N cb)∧w.cell? ⟨b,5,none⟩=some (.slice va vl cv)∧w.cell? ⟨b,6,none⟩=some (.slice so N cs)∧w.cell? ⟨b,7,none⟩=some (.slice po N cp)∧w.cell? ⟨b,8,none⟩=some jv∧w.cell? ⟨b,9,none⟩=some rv:=by
 refine⟨?_,?_,?_,?_,?_,?_⟩ <;> simp [World.cell?,h,lkA]
def gy (g c W:Nat):Value:= .slice (some ⟨g,0,none⟩) W c
abbrev LkQ:=(Nat→Nat→Nat) × (Nat→Nat→Nat) × (Nat→Nat) × (Nat→Nat) × (Nat→Nat) × (Nat→Nat) × (Nat × Nat × Nat × Nat) × (ByteArray × Option Addr × Nat × Nat × Int × Option Addr × Nat × Int) × (Option Addr × Nat × Option Addr × Nat × Option Addr × Nat)
def LkW (f:Fun) (V:List Int) (W:Nat) (wB:World) (lp:Nat):LkQ→World→Prop:=fun⟨G,C,R,CR,J,CJ,⟨gj,cj,gr,cr⟩,⟨nm,pp,lps,cpp,rt,lb,cb,pl⟩,⟨va,cv,so,cs,po,cp⟩⟩ w=>
 (Below wB.heap.size wB w∧bS wB f (.agg #[.string nm,.slice pp lps cpp,.int .i64 rt,.slice lb f.2.2.2.1.length cb,.int .i64 pl])∧Sl wB va V∧jL wB so (aC f)∧jL wB po (aJ f)∧L5.Tab wB)∧
 (wB.heap.size≤lp∧w.heap[lp]? =some (.cells (lkA nm pp lps cpp rt lb f.2.2.2.1.length cb pl va V.length cv so cs po cp (.slice (some ⟨gj,0,none⟩) f.2.2.2.1.length cj) (.slice (some ⟨gr,0,none⟩) f.2.2.2.1.length cr)) 69 (0,0)))∧
 w.ownsRow wB.heap.size 98 1 (.slice (some ⟨gj,0,none⟩) f.2.2.2.1.length cj) f.2.2.2.1.length ((List.range f.2.2.2.1.length).map fun k=>gy (J k) (CJ k) W)∧
 w.ownsRow wB.heap.size 66 1 (.slice (some ⟨gr,0,none⟩) f.2.2.2.1.length cr) f.2.2.2.1.length ((List.range f.2.2.2.1.length).map fun k=> .slice (some ⟨R k,0,none⟩) ((ag f k).length+1) (CR k))∧
 ∀k,k < f.2.2.2.1.length→w.ownsRow wB.heap.size 98 1 (.slice (some ⟨R k,0,none⟩) ((ag f k).length+1) (CR k)) ((ag f k).length+1) ((List.range ((ag f k).length+1)).map fun p=>gy (G k p) (C k p) W)
def LkD (f:Fun) (V:List Int) (W B:Nat) (H:Nat→Nat→Nat→Bool) (q:LkQ) (w:World):Prop:=
 (∀k,k < f.2.2.2.1.length→∀p,p≤(ag f k).length→aN w B (q.1 k p) (q.2.1 k p) W (H k p))∧∀k,k < f.2.2.2.1.length→aN w B (q.2.2.2.2.1 k) (q.2.2.2.2.2.1 k) W (jnS V f k)
def LkA (f:Fun) (q:LkQ):Prop:=
 (∀k p k' p',k < f.2.2.2.1.length→p≤(ag f k).length→k' < f.2.2.2.1.length→p'≤(ag f k').length→q.1 k p=q.1 k' p'→k=k'∧p=p')∧
 ∀k p k',k < f.2.2.2.1.length→p≤(ag f k).length→k' < f.2.2.2.1.length→q.1 k p≠q.2.2.2.2.1 k'
def iV (f:Fun) (q:LkQ) (b:Nat):Prop:=∃k p,k < f.2.2.2.1.length∧p≤(ag f k).length∧q.1 k p=b
def lB (B:Nat) (w:World) (F:Nat→Prop):Prop:=∀b,F b→b < w.heap.size→B≤b∧∀cs t,w.heap[b]? =some (.cells cs t (0,0))→t=135
theorem sd {w:World} {b:Nat} {x:Array Value} (h:w.heap[b]? =some (.cells x 135 (0,0))):∀cs t,w.heap[b]? =some (.cells cs t (0,0))→t=135:=fun cs t e=>by
 rw [h] at e;injection e with e;injection e with _ e _;exact e.symm
theorem lB.one {B B' g c W:Nat} {b:Nat→Bool} {w:World} (h:aN w B' g c W b) (hB:B≤B'):lB B w (· =g):=by
 rintro x rfl _;obtain⟨cs,hk⟩:=h.kind;exact⟨Nat.le_trans hB h.lt.1,sd hk⟩
theorem lB.new (B:Nat) (w:World):lB B w (fun b=>w.heap.size≤b):=fun b h h2=>by omega
theorem yN {B:Nat} {w:World} {F:Nat→Prop} (h:lB B w F) {g t:Nat} {cs:Array Value} (hg:w.heap[g]? =some (.cells cs t (0,0))) (ht:t≠135):¬F g:=fun hF=>ht ((h g hF (Array.getElem?_eq_some_iff.1 hg).1).2 cs t hg)
theorem rR {B B' e s n:Nat} {v:Value} {xs:List Value} {w w':World} {F:Nat→Prop} (h:w.ownsRow B' e s v n xs) (k:Kf F w w') (hF:lB B w F) (he:e≠135):w'.ownsRow B' e s v n xs:=nT k h fun g hg=>by
 obtain⟨c,hc⟩:=cz h hg;exact yN hF hc he
theorem uj {B:Nat} {F:Nat→Prop} {wB w w':World} (b:Below B wB w) (k:Kf F w w') (hF:lB B w F) (hB:B≤wB.heap.size):Below B wB w':=
 ⟨k.1.trans b.os,k.2.1.trans b.tape,k.2.2.1.trans b.output,Nat.le_trans b.size k.2.2.2.1,fun x hx=>by
  have hl:x < w.heap.size:=Nat.lt_of_lt_of_le (Nat.lt_of_lt_of_le hx hB) b.size;exact(k.2.2.2.2 x hl (fun f=>by have:=(hF x f hl).1;omega)).trans (b.block x hx)⟩
theorem LkW.kf {f:Fun} {V:List Int} {W lp:Nat} {wB w w':World} {q:LkQ} {F:Nat→Prop} (h:LkW f V W wB lp q w) (k:Kf F w w') (hF:lB wB.heap.size w F):LkW f V W wB lp q w':=by
 obtain⟨G,C,R,CR,J,CJ,⟨gj,cj,gr,cr⟩,⟨nm,pp,lps,cpp,rt,lb,cb,pl⟩,⟨va,cv,so,cs,po,cp⟩⟩:=q;obtain⟨⟨h1,h2⟩,⟨h3,h4⟩,h5,h6,h7⟩:=h;refine⟨⟨uj h1 k hF (Nat.le_refl _),h2⟩,⟨h3,?_⟩,rR h5 k hF (by decide),rR h6 k hF (by decide),fun b hb=>rR (h7 b hb) k hF (by decide)⟩;exact(k.2.2.2.2 lp (Array.getElem?_eq_some_iff.1 h4).1 (yN hF h4 (by decide))).trans h4
theorem kK {w w':World} (b:Below w.heap.size w w'):Kf (fun _=>False) w w':=Kf.br b
theorem vg (B:Nat) (w:World):lB B w (fun _=>False):=fun _ h=>h.elim
theorem LkW.below {f:Fun} {V:List Int} {W lp:Nat} {wB w w':World} {q:LkQ} (h:LkW f V W wB lp q w) (b:Below w.heap.size w w'):LkW f V W wB lp q w':=h.kf (kK b) (vg _ _)
theorem LkD.below {f:Fun} {V:List Int} {W B:Nat} {H:Nat→Nat→Nat→Bool} {q:LkQ} {w w':World} (h:LkD f V W B H q w) (b:Below w.heap.size w w'):LkD f V W B H q w':=
 ⟨fun k hk p hp=>(h.1 k hk p hp).below b,fun k hk=>(h.2 k hk).below b⟩
theorem Cz {α:Type} {n j:Nat} (g:Nat→α) (h:j < n):((List.range n).map g)[j]? =some (g j):=by rw [List.getElem?_map,List.getElem?_range h];rfl
theorem gR {B e n c g:Nat} {g':Nat→Value} {w:World} (h:w.ownsRow B e 1 (.slice (some ⟨g,0,none⟩) n c) n ((List.range n).map g')) {j:Nat} (hj:j < n):w.cell? ⟨g,j,none⟩=some (g' j):=by
 rw [World.ownsRow.cellAt h j (by simpa using hj),Cz g' hj]
theorem xS {w:World} {ao:Option Addr} {ll:List (List Int)} (h:jL w ao ll) {k:Nat} {l:List Int} (hl:ll[k]? =some l):∃b o lo lc,ao=some ⟨b,o,none⟩∧b < w.heap.size∧w.cell? ⟨b,o+k,none⟩=some (.slice lo l.length lc)∧Sl w lo l:=by
 rcases h with h | ⟨b,o,rfl,hb,hc⟩
 ·rw [h] at hl;simp at hl
 ·obtain⟨u,hu,lo,lc,rfl,hs,_⟩:=hc k l hl;exact⟨b,o,lo,lc,rfl,hb,hu,hs⟩
theorem pA (b:List Ins) (ao:Option Addr) (c:Nat) (w:World) (hb:iR w b (.slice ao b.length c)) (hl:b.length≤1000000) (h0:0 < b.length):
  Calls Tryz.prog 67 #[.slice ao b.length c] w fun e w'=>e= .returned (.slice ao (phN b) c)∧w'=w:=by
 have hbc:b.length≤c∧c≤maxLen:=by
  obtain⟨_,c',e,h1,h2,_⟩:=hb;injection e with _ _ e;subst e;exact⟨h1,h2⟩
 obtain⟨g0,o0,rfl,_⟩:=vZ hb h0;have HB:=aa hb;obtain⟨n,hn⟩:∃n,b.length=n:=⟨_,rfl⟩;have Hn:=aa hn;rw [hn] at hl hbc h0 ⊢;obtain⟨hc1,hc2⟩:=hbc;unfold maxLen at hc2;clear hb hn;obtain⟨r,hr⟩:∃r,phN b=r:=⟨_,rfl⟩;rw [hr];have HR:=aa hr;clear hr;go_enter Tryz.func67,Tryz.ntmps67
 go_wp2_with fail
 go_loopw [3] (fun iv wr=>∃J:Nat,J≤n∧iv= .int .i64 J∧Hid (∀j,j < J→j < b.length∧(gI b j).1=20)∧wr=w) (fun iv _=>n - (intOf iv).toNat)
 case atStart=>exact⟨0,Nat.zero_le _,rfl,aa (fun j h=>absurd h (Nat.not_lt_zero _)),rfl⟩
 case round=>
  obtain⟨J,hJ,rfl,HJ,rfl⟩:=hrel;by_cases hjn:J < n
  ·have hjI:(J:Int) < n:=(by omega);have hjl:J < b.length:=(by rw [Hn.out];exact hjn);obtain⟨g,o,ea,hins⟩:=vZ HB.out hjl;injection ea with ea;injection ea with ea1 ea2;subst ea1 ea2;obtain⟨xo,zo,xc,zc,_,e0,_⟩:=hins.val;obtain⟨op,hop⟩:∃op,(gI b J).1=op:=⟨_,rfl⟩;rw [hop] at e0;clear hins;by_cases h20:op=20
   ·have k1:(op == 20)=true:=(by simpa using h20);have HE:Hid (∀j,j < J+1→j < b.length∧(gI b j).1=20):=aa (fun j hj=>by
     by_cases e:j=J
     ·rw [e];exact⟨hjl,hop.trans h20⟩
     ·exact HJ.out j (by omega))
    clear h20 hop hjl;go_wp2_with fail
    go_roundw
    case rel=>exact⟨J+1,by omega,by go_num,HE,trivial⟩
    case measure=>simp [intOf];omega
   ·have k1:(op == 20)=false:=beq_eq_false_iff_ne.2 h20;have HE:Hid (r=J):=aa (by rw [←HR.out,we HJ.out (.inr (by rw [hop];exact h20))]);have hJc:(J:Int)≤c:=(by omega);clear h20 hop hjl;go_wp2_with fail
    go_ret;exact⟨by rw [HE.out];rfl,rfl⟩
  ·obtain rfl:J=n:=(by omega);have HE:Hid (r=J):=aa (by rw [←HR.out,we HJ.out (.inl Hn.out.symm)]);have hJc:(J:Int)≤c:=(by omega);go_wp2_with fail
   go_ret;exact⟨by rw [HE.out];rfl,rfl⟩
def sV (V:List Int) (f:Fun) (H:Nat→Nat→Bool) (k j:Nat):Nat→Bool:=fun n=>jnS V f k n || ((aB f k).take j).any fun b=>H b.toNat n
theorem Bd (V:List Int) (f:Fun) (H:Nat→Nat→Bool) (k:Nat):sV V f H k 0=jnS V f k:=by funext n;simp [sV]
theorem AW {V:List Int} {f:Fun} {H:Nat→Nat→Bool} {k j:Nat} {b:Int} (h:(aB f k)[j]? =some b):orB (sV V f H k j) (H b.toNat)=sV V f H k (j+1):=by
 funext n;unfold sV orB;rw [aR h,List.any_append];simp [Bool.or_assoc]
theorem Du (V:List Int) (f:Fun) (H:Nat→Nat→Bool) (k:Nat):sV V f H k (aB f k).length=gN V f H k:=by
 funext n;unfold sV gN;rw [List.take_length]
theorem DD {f:Fun} {V:List Int} {W lp:Nat} {wB w:World} {q:LkQ} {H:Nat→Nat→Nat→Bool} (hL:LkW f V W wB lp q w) (hD:LkD f V W wB.heap.size H q w) (hT:Tos f) {k:Nat} (hk:k < f.2.2.2.1.length) (hN:f.2.2.2.1.length≤1000000) (hW:W≤1000000):
  Calls Tryz.prog 104 #[.pointer (some ⟨lp,0,none⟩),.int .i64 k] w fun e w'=>∃g c,e= .returned (gy g c W)∧aN w' w.heap.size g c W (gN V f (fun b=>H b 0) k)∧Below w.heap.size w w':=by
 obtain⟨G,C,R,CR,J,CJ,⟨gj,cj,gr,cr⟩,⟨nm,pp,lps,cpp,rt,lb,cb,pl⟩,⟨va,cv,so,cs,po,cp⟩⟩:=q;obtain⟨⟨hB,_,_,hS,_,_⟩,⟨hlB,hlp⟩,hj,hr,hR⟩:=hL;have hlpw:=(Array.getElem?_eq_some_iff.1 hlp).1;obtain⟨_,_,c6,_,c8,c9⟩:=jD hlp;have cj1:=gR hj hk;have hgj:=(World.ownsRow.lt hj gj rfl).2;have hgr:=(World.ownsRow.lt hr gr rfl).2;have CL:=aa (xx (hD.2 k hk) hW);obtain⟨sb,sq,lo,lc,rfl,hsb,csk,hsl⟩:=xS hS (k:=k) (l:=aB f k) (eU hk);have csk2:=(hB.cell (p:=⟨sb,sq+k,none⟩) hsb).trans csk;have hsb2:=Nat.lt_of_lt_of_le hsb hB.size;have HSl:=aa (fun w' (b:Below w.heap.size w w')=>hsl.below (hB.trans (b.mono hB.size)));have HR:=aa (fun M (hM:M < f.2.2.2.1.length)=>gR hr hM);have HR2:=aa (fun M (hM:M < f.2.2.2.1.length)=>gR (hR M hM) (j:=0) (Nat.zero_lt_succ _));have HR3:=aa (fun M (hM:M < f.2.2.2.1.length)=>(World.ownsRow.lt (hR M hM) (R M) rfl).2);have HSet:=aa (fun M (hM:M < f.2.2.2.1.length)=>hD.1 M hM 0 (Nat.zero_le _));have HG:=aa (fun M (hM:M < f.2.2.2.1.length)=>(hD.1 M hM 0 (Nat.zero_le _)).lt.2);have HNx:=aa (fun j (hj:j < (aB f k).length)=>by
  have hm:(aB f k)[j]? =some ((aB f k).getD j 0):=by rw [List.getD_eq_getElem?_getD,List.getElem?_eq_getElem hj];rfl
  exact(⟨hm,ei hT (List.mem_of_getElem? hm)⟩:(aB f k)[j]? =some ((aB f k).getD j 0)∧((aB f k).getD j 0).toNat < f.2.2.2.1.length∧0≤(aB f k).getD j 0))
 have HLp:=aa hlp;have hnx:(aB f k).length≤f.2.2.2.1.length:=cH _ _ (oZ _) (hT k);obtain⟨N,hNe⟩:∃N,f.2.2.2.1.length=N:=⟨_,rfl⟩;obtain⟨nl,hnl⟩:∃nl,(aB f k).length=nl:=⟨_,rfl⟩;have Hnl:=aa hnl;have hkN:(k:Int) < N:=by omega
 have HN:=aa hNe;rw [hNe] at c6 c8 c9 HR HR2 HR3 HSet HG HNx hN hk hnx;rw [hnl] at csk2 HNx hnx;clear hB hS hlB hlp hj hr hR hD hT hsl csk hnl hNe;unfold gy at cj1;go_enter Tryz.func104,Tryz.ntmps104
 go_wp2_with fail
 refine CL.out.mono ?_;rintro e w1 ⟨g,c,rfl,h1,b1⟩;have hg1:=h1.lt;have H1:=aa h1;have B1:=aa b1;replace c6:=(b1.cell (p:=⟨lp,6,none⟩) hlpw).trans c6;replace csk2:=(b1.cell (p:=⟨sb,sq+k,none⟩) hsb2).trans csk2;clear h1 b1 CL c8 c9 cj1;go_wp2_with fail
 go_loopw [24] (fun iv wr=>∃I:Nat,I≤nl∧iv= .int .i64 I∧Hid (aN wr w.heap.size g c W (sV V f (fun b=>H b 0) k I))∧Hid (Below w.heap.size w wr)) (fun iv _=>nl - (intOf iv).toNat)
 case atStart=>exact⟨0,Nat.zero_le _,rfl,aa (by rw [Bd];exact H1.out),B1⟩
 case round=>
  obtain⟨I,hI,rfl,HS,HB⟩:=hrel;clear c6 csk2;by_cases hit:I < nl
  ·have hiI:(I:Int) < nl:=(by omega);obtain⟨h1,h2,h3⟩:=HNx.out I hit;obtain⟨x0,o0,rfl,cI⟩:=dP (HSl.out wr HB.out) (i:=I) (by rw [Hnl.out];exact hit);have HMr:=aa (AW (V:=V) (H:=fun b=>H b 0) h1);obtain⟨M,hM⟩:∃M:Nat,(aB f k).getD I 0=(M:Int):=⟨_,(Int.toNat_of_nonneg h3).symm⟩;rw [hM] at cI HMr h2;simp only [Int.toNat_natCast] at HMr h2;have hMI:(M:Int) < N:=(by omega);obtain⟨_,_,_,_,_,c9⟩:=jD ((HB.out.block _ hlpw).trans HLp.out);rw [HN.out] at c9;have cR:=(HB.out.cell (p:=⟨gr,M,none⟩) hgr).trans (HR.out M h2);have cR2:=(HB.out.cell (p:=⟨R M,0,none⟩) (HR3.out M h2)).trans (HR2.out M h2);have CJn:=aa (Ad HS.out ((HSet.out M h2).below HB.out) (by have:=HG.out M h2;have:=HS.out.lt;omega) hW);rw [HMr.out] at CJn;unfold gy at cR2;clear h1 h3 hM HMr;go_wp2_with fail
   refine CJn.out.mono ?_;rintro e w2 ⟨rfl,q1,q2⟩;have Q1:=aa q1;have Q2:=aa (uj HB.out q2 (by rintro x rfl _;obtain⟨cs,hk⟩:=HS.out.kind;exact⟨HS.out.lt.1,sd hk⟩) (Nat.le_refl _));clear q1 q2;go_wp2_with fail
   go_roundw
   case rel=>exact⟨I+1,by omega,by go_num,Q1,Q2⟩
   case measure=>simp [intOf];omega
  ·obtain rfl:I=nl:=(by omega);have HE:Hid (aN wr w.heap.size g c W (gN V f (fun b=>H b 0) k)):=aa (by rw [←Du,Hnl.out];exact HS.out);go_wp2_with fail
   go_ret;exact⟨g,c,rfl,HE.out,HB.out⟩
theorem Kf.refl (F:Nat→Prop) (w:World):Kf F w w:=⟨rfl,rfl,rfl,Nat.le_refl _,fun _ _ _=>rfl⟩
theorem Cx {B g c W lp cv:Nat} {E:Nat→Bool} {V:List Int} {va:Option Addr} {x:Ins} {v:Value} {w:World} (hs:V.Pairwise (· < ·)) (hA:∀a∈x.2.2.2.2.1,a∈V) (hl:x.2.2.2.2.1.length≤1000000) (hT:L5.Tab w)
  (hst:∀w',Kf (· =g) w w'→w'.cell? ⟨lp,5,none⟩=some (.slice va V.length cv)∧Sl w' va V∧ib w' x v) (h:aN w B g c W E) (hE:Inn V E) (hW:V.length≤64 * W) (hW2:W≤1000000):
  Calls Tryz.prog 105 #[.pointer (some ⟨lp,0,none⟩),.slice (some ⟨g,0,none⟩) W c,v] w fun e w'=>e= .returned (.tuple #[])∧aN w' B g c W (xE V x E)∧Kf (· =g) w w':=by
 obtain⟨c5,hV,ao,to,ca,ct,rfl,_⟩:=hst w (Kf.refl _ _);have hgw:=h.lt.2;obtain⟨xl,hxl⟩:∃n,x.2.2.2.2.1.length=n:=⟨_,rfl⟩;obtain⟨zl,hzl⟩:∃n,x.2.2.2.2.2.1.length=n:=⟨_,rfl⟩;have Hxl:=aa hxl;have HI:Hid (∀w',Kf (· =g) w w'→ib w' x (.agg (iC x ao to xl zl ca ct))∧Sl w' ao x.2.2.2.2.1):=aa (fun w' k=>by
  have q:=(hst w' k).2.2;have q2:ib w' x (.agg (iC x ao to x.2.2.2.2.1.length x.2.2.2.2.2.1.length ca ct)):=q;refine⟨by rw [←hxl,←hzl];exact q2,(nj q2).1⟩)
 have HC:=aa (fun w' (k:Kf (· =g) w w')=>(⟨(hst w' k).1,(hst w' k).2.1⟩:w'.cell? ⟨lp,5,none⟩=some (.slice va V.length cv)∧Sl w' va V));have HA:=aa hA;rw [hxl] at hl;rw [hxl,hzl];have b1:=af w (.cells (iC x ao to xl zl ca ct) 41);have H0:=aa (heap_alloc_new w (.cells (iC x ao to xl zl ca ct) 41));have hq0:w.heap.size < (w.alloc (.cells (iC x ao to xl zl ca ct) 41)).heap.size:=by simp
 have CU:=aa (o8 (lp:=lp) ((HI.out _ (Kf.br b1)).1) (hT.below b1) (HC.out _ (Kf.br b1)).1 (HC.out _ (Kf.br b1)).2 hs (h.below b1) hE hW hW2);have K1:=aa (Kf.br (F:=(· =g)) b1);have CT:=aa (fun(a:Int) (ha:a∈V) (b:Nat→Bool) w' (k:Kf (· =g) w w') (h:aN w' B g c W b)=>qi (HC.out w' k).1 (HC.out w' k).2 hs ha h hW hW2);have HU:=aa (Cy (x:=x) hE);clear hst c5 hV h hE hW hA hT b1 hxl hzl hs;obtain⟨q0,hq0e⟩:∃n,w.heap.size=n:=⟨_,rfl⟩;rw [hq0e] at H0 hq0 hgw;go_enter Tryz.func105,Tryz.ntmps105
 go_upto_region 1 with fail
 show Code.wp _ _ _ _ (w.alloc (.cells (iC x ao to xl zl ca ct) 41));generalize w.alloc (.cells (iC x ao to xl zl ca ct) 41)=W1 at *;obtain⟨x0,x1,x2,x3,x4,x5,x6,x7⟩:=jK H0.out;go_wp2_with fail
 refine CU.out.mono ?_;rintro e w1 ⟨rfl,q1,k1⟩;have HX:Hid (∀w',Kf (· =g) w1 w'→w'.heap[q0]? =some (.cells (iC x ao to xl zl ca ct) 41 (0,0))):=aa (fun w' k=>(k.2.2.2.2 q0 (Nat.lt_of_lt_of_le hq0 k1.2.2.2.1) (by show ¬q0=g;omega)).trans ((k1.2.2.2.2 q0 hq0 (by show ¬q0=g;omega)).trans H0.out));have Q1:=aa q1;have K2:=aa (K1.out.trans k1 fun y hy=> .inl hy);clear q1 k1 CU x0 x1 x2 x3 x4 x5 x6 x7 H0 hq0;obtain⟨x0,x1,x2,x3,x4,x5,x6,x7⟩:=jK (HX.out w1 (Kf.refl _ _));go_wp2_with fail
 go_loopw [15] (fun iv wr=>∃I:Nat,I≤xl∧iv= .int .i64 I∧Hid (aN wr B g c W (pZ V (il V x E) (x.2.2.2.2.1.take I)))∧Hid (Kf (· =g) w wr)) (fun iv _=>xl - (intOf iv).toNat)
 case atStart=>exact⟨0,Nat.zero_le _,rfl,aa (by rw [List.take_zero,D8];exact Q1.out),K2⟩
 case round=>
  obtain⟨I,hI,rfl,HS,HK⟩:=hrel;clear x0 x1 x2 x3 x4 x5 x6 x7;by_cases hit:I < xl
  ·have hiI:(I:Int) < xl:=(by omega);obtain⟨y0,o0,rfl,cI⟩:=dP (HI.out wr HK.out).2 (i:=I) (by rw [Hxl.out];exact hit);have ha:x.2.2.2.2.1[I]? =some (x.2.2.2.2.1.getD I 0):=(by rw [List.getD_eq_getElem?_getD,List.getElem?_eq_getElem (by rw [Hxl.out];exact hit)];rfl);have HN:Hid (oO V (pZ V (il V x E) (x.2.2.2.2.1.take I)) (x.2.2.2.2.1.getD I 0)=pZ V (il V x E) (x.2.2.2.2.1.take (I+1))):=aa (by rw [aR ha,Bn]);have C1:=aa (CT.out (x.2.2.2.2.1.getD I 0) (HA.out _ (List.mem_of_getElem? ha)) _ wr HK.out HS.out);rw [HN.out] at C1;generalize x.2.2.2.2.1.getD I 0=a at *;clear ha HN;go_wp2_with fail
   refine C1.out.mono ?_;rintro e w2 ⟨rfl,q1,k1⟩;have Q2:=aa q1;have K3:=aa (HK.out.trans k1 fun y hy=> .inl hy);clear q1 k1;go_wp2_with fail
   go_roundw
   case rel=>exact⟨I+1,by omega,by go_num,Q2,K3⟩
   case measure=>simp [intOf];omega
  ·obtain rfl:I=xl:=(by omega);have HE:Hid (aN wr B g c W (xE V x E)):=aa (by have q:=HS.out;rw [List.take_of_length_le (by rw [Hxl.out];exact Nat.le_refl _),HU.out] at q;exact q);go_wp2_with fail
   go_end0
   exact⟨rfl,HE.out,HK.out⟩
theorem Tryz.szU:(Tryz.prog.info? 135).map (·.size)=some 1:=by kernel_rfl
theorem FR {B g c W:Nat} {a b:Nat→Bool} {w:World} (h:aN w B g c W a):∃cur,w.heap[g]? =some (.cells cur 135 (0,0))∧W≤cur.size∧aN (w.setRow g (cur.toList.take 0 ++ (wds b W ++ cur.toList.drop (0+(wds b W).length))).toArray) B g c W b:=by
 rcases h.2 with ⟨hn,_⟩ | ⟨g',cap,cur,hv,hb,hg,hc1,hc2,hc3,_⟩
 ·cases hn
 ·injection hv with e1 e2 e3;injection e1 with e1;injection e1 with e1;subst e1 e3;refine⟨cur,hg,by omega,⟨by rw [df];omega,.inr ⟨g,c,_,rfl,hb,setRow_heap w g cur _ 135 (0,0) hg,hc1,hc2,?_,?_⟩⟩⟩
  ·simp [df];omega
  ·simp only [List.take_zero,List.nil_append,Nat.mul_one];have e:W=(wds b W).length:=(df b W).symm;conv=>lhs;arg 1;rw [e]
   exact List.take_left
theorem IY {w:World} (g:Nat) (cs:Array Value):Kf (· =g) w (w.setRow g cs):=⟨rfl,rfl,rfl,by simp,fun q _ hf=>setRow_other w g q cs hf⟩
theorem fE {P:Program} {w:World} {ops:Array Oper} {rest:List Oper} {o:Oper} {a:Act} {Q:Exit→Act→World→Prop} (hgd:o.guard=none) (d s:Operand) (dT sT:TypeId)
  (ho:o.op= .call {callee:= .builtin .copy,args:= #[d,s],argTypes:= #[dT,sT]}) (hu:P.underlying dT=some (.slice 135)) (hsz:(P.info? 135).map (·.size)=some 1)
  {B g c W B2 g2 c2:Nat} {x y:Nat→Bool} (hd:a.eval d= .slice (some ⟨g,0,none⟩) W c) (hs:a.eval s= .slice (some ⟨g2,0,none⟩) W c2) (h1:aN w B g c W x) (h2:aN w B2 g2 c2 W y)
  (h:∀w',Hid (aN w' B g c W y∧Kf (· =g) w w')→wpList P ops Q rest (a.put o.dst (goInt (wds y W).length)) w'):wpList P ops Q (o :: rest) a w:=by
 obtain⟨cur,hg,hc,hS⟩:=FR (b:=y) h1;refine wpList_copy_own hgd d s dT sT ho 135 hu hsz g 0 W c ⟨g2,0,none⟩ W c2 hd hs cur 135 hg (wds y W) (by rw [df];exact(Nat.min_self W).symm) (fun j v hj=> ?_) (by rw [df];omega) (fun v hv=> ?_) (h _ (aa ⟨hS,IY g _⟩))
 ·have hjW:j < W:=by have:=(List.getElem?_eq_some_iff.1 hj).1;rw [df] at this;exact this
  rw [mS y hjW] at hj;injection hj with hj;subst hj;rw [Addr.add_lit,Nat.zero_add];exact h2.cell hjW
 ·obtain⟨j,_,rfl⟩:=List.mem_map.1 hv;rfl
def fS (V:List Int) (f:Fun) (H:Nat→Nat→Nat→Bool) (k:Nat) (m:Nat→Bool):Nat→Nat→Nat→Bool:=fun b p=>if b=k∧m p=true then fM V f (fun b=>H b 0) k p else H b p
def GrW (f:Fun) (V:List Int) (W B:Nat) (q:LkQ) (w:World) (g c:Nat) (E:Nat→Bool) (H:Nat→Nat→Nat→Bool) (wr:World):Prop:=aN wr w.heap.size g c W E∧LkD f V W B H q wr∧Kf (iV f q) w wr
def LkL (f:Fun) (q:LkQ) (w:World):Prop:=(∀k p,k < f.2.2.2.1.length→p≤(ag f k).length→q.1 k p < w.heap.size)∧∀k,k < f.2.2.2.1.length→q.2.2.2.2.1 k < w.heap.size
theorem LkD.lt {f:Fun} {V:List Int} {W B:Nat} {q:LkQ} {H:Nat→Nat→Nat→Bool} {w:World} (h:LkD f V W B H q w):LkL f q w:=⟨fun k p hk hp=>(h.1 k hk p hp).lt.2,fun k hk=>(h.2 k hk).lt.2⟩
theorem LkD.set {f:Fun} {V:List Int} {W B:Nat} {q:LkQ} {H:Nat→Nat→Nat→Bool} {w:World} (h:LkD f V W B H q w):lB B w (iV f q):=by
 rintro b ⟨k,p,hk,hp,rfl⟩ _;obtain⟨cs,h2⟩:=(h.1 k hk p hp).kind;exact⟨(h.1 k hk p hp).lt.1,sd h2⟩
theorem GrW.now {f:Fun} {V:List Int} {W B g c:Nat} {q:LkQ} {E E':Nat→Bool} {H:Nat→Nat→Nat→Bool} {w wr w2:World} (hl:LkL f q w) (h:GrW f V W B q w g c E H wr) (s:aN w2 w.heap.size g c W E') (k:Kf (· =g) wr w2):GrW f V W B q w g c E' H w2:=by
 have hg:=h.1.lt;refine⟨s,⟨fun b hb p hp=>(h.2.1.1 b hb p hp).kf k ?_,fun b hb=>(h.2.1.2 b hb).kf k ?_⟩,h.2.2.trans k fun x hx=> .inr (by subst hx;exact hg.1)⟩
 ·have:=hl.1 b p hb hp;show ¬_=g;omega
 ·have:=hl.2 b hb;show ¬_=g;omega
theorem GrW.below {f:Fun} {V:List Int} {W B g c:Nat} {q:LkQ} {E:Nat→Bool} {H:Nat→Nat→Nat→Bool} {w wr w2:World} (h:GrW f V W B q w g c E H wr) (b:Below wr.heap.size wr w2):GrW f V W B q w g c E H w2:=
 ⟨h.1.below b,h.2.1.below b,h.2.2.trans (Kf.br (F:=iV f q) b) fun _ hx=> .inl hx⟩
theorem GrW.put {f:Fun} {V:List Int} {W B g c:Nat} {q:LkQ} {E:Nat→Bool} {H H':Nat→Nat→Nat→Bool} {w wr w2:World} (hl:LkL f q w) (hA:LkA f q) (h:GrW f V W B q w g c E H wr) {k p:Nat} (hk:k < f.2.2.2.1.length) (hp:p≤(ag f k).length)
  (s:aN w2 B (q.1 k p) (q.2.1 k p) W E) (kf:Kf (· =q.1 k p) wr w2) (h1:H' k p=E) (h2:∀b r,b≠k∨r≠p→H' b r=H b r):GrW f V W B q w g c E H' w2:=by
 have hg:=h.1.lt;have hq:=hl.1 k p hk hp;refine⟨h.1.kf kf (by show ¬g=_;omega),⟨fun b hb r hr=> ?_,fun b hb=>(h.2.1.2 b hb).kf kf (fun e=>hA.2 k p b hk hp hb e.symm)⟩,h.2.2.trans kf fun x hx=> .inl ⟨k,p,hk,hp,hx.symm⟩⟩;by_cases e:b=k∧r=p
 ·obtain⟨rfl,rfl⟩:=e;rw [h1];exact s
 ·rw [h2 b r (by omega)];exact(h.2.1.1 b hb r hr).kf kf (fun e2=>e (hA.1 b r k p hb hr hk hp e2))
theorem LkD.same {f:Fun} {V:List Int} {W B:Nat} {q:LkQ} {H H':Nat→Nat→Nat→Bool} {w:World} (h:LkD f V W B H q w) (e:∀k,k < f.2.2.2.1.length→∀p,p≤(ag f k).length→H' k p=H k p):LkD f V W B H' q w:=
 ⟨fun k hk p hp=>by rw [e k hk p hp];exact h.1 k hk p hp,h.2⟩
theorem Ct {f:Fun} {k p:Nat} (h:phN (ag f k)≤p):fA f k (p+1)=p+1:=by unfold fA nI;simp;omega
theorem FB {f:Fun} {k p:Nat} (h:p < phN (ag f k)):fA f k (p+1)=phN (ag f k):=by unfold fA nI;simp;omega
theorem E8 (f:Fun) (k:Nat):fA f k 0=0:=rfl
theorem sL {V:List Int} {f:Fun} {H:Nat→Nat→Nat→Bool} {k p:Nat} {m m':Nat→Bool} (h:∀r,r≠p→m' r=m r):∀b r,b≠k∨r≠p→fS V f H k m' b r=fS V f H k m b r:=by
 intro b r hbr;unfold fS;by_cases e:b=k
 ·rw [h r (by omega)]
 ·rw [if_neg (fun q=>e q.1),if_neg (fun q=>e q.1)]
theorem pC {V:List Int} {f:Fun} {H:Nat→Nat→Nat→Bool} {k p:Nat} {m:Nat→Bool} (h:m p=true):fS V f H k m k p=fM V f (fun b=>H b 0) k p:=if_pos ⟨rfl,h⟩
theorem Ht {f:Fun} (hP:PhF f) {k:Nat} (hk:k < f.2.2.2.1.length):∀i,i < (ag f k).length→phN (ag f k)≤i→(au f k i).1≠20:=by
 have key:∀i,i < (ag f k).length→(au f k i).1=20→∀j,j≤i→(au f k j).1=20:=by
  intro i;induction i with
  |zero=>
   intro _ h j hj;obtain rfl:j=0:=(by omega);exact h
  |succ i ih=>
   intro hi h j hj;by_cases e:j=i+1
   ·rw [e];exact h
   ·have hp:=hP k hk (i+1) hi h;unfold gG at hp;simp only [Bool.and_eq_true,Bool.or_eq_true,decide_eq_true_eq,Nat.add_sub_cancel] at hp;rcases hp.1.1 with q | q
    ·omega
    ·exact ih (by omega) q j (by omega)
 intro i hi hpi h20;have hall:=key i hi h20;have hle:=kX (ag f k);have h2:∀j,j < i+1→j < (ag f k).length∧(gI (ag f k) j).1=20:=fun j hj=>⟨by omega,hall j (by omega)⟩;have h3:phN (ag f k) ≥ i+1:=by
  unfold phN;have e:(ag f k)=(ag f k).take (i+1) ++ (ag f k).drop (i+1):=(List.take_append_drop _ _).symm;rw [e,List.takeWhile_append_of_pos]
  ·rw [List.length_append,List.length_take];omega
  ·intro x hx;obtain⟨j,hj,rfl⟩:=List.mem_iff_getElem.1 hx;rw [List.length_take] at hj;rw [List.getElem_take];have q:=(h2 j (by omega)).2;have e2:gI (ag f k) j=(ag f k)[j]:=(by unfold gI;rw [List.getD_eq_getElem?_getD,List.getElem?_eq_getElem (by omega)];rfl);rw [e2] at q;simpa using q
 omega
theorem yT (w:World) (n:Nat):Kf (fun _=>False) w (w.drewN n):=⟨rfl,rfl,rfl,Nat.le_refl _,fun _ _ _=>rfl⟩
theorem LkW.drew {f:Fun} {V:List Int} {W lp:Nat} {wB w:World} {q:LkQ} (h:LkW f V W wB lp q w) (n:Nat):LkW f V W wB lp q (w.drewN n):=h.kf (yT w n) (vg _ _)
def qVa (q:LkQ):Option Addr:=q.2.2.2.2.2.2.2.2.1
def qCv (q:LkQ):Nat:=q.2.2.2.2.2.2.2.2.2.1
theorem LkW.base {f:Fun} {V:List Int} {W lp:Nat} {wB w:World} {q:LkQ} (h:LkW f V W wB lp q w):Below wB.heap.size wB w:=h.1.1
theorem LkW.val {f:Fun} {V:List Int} {W lp:Nat} {wB w:World} {q:LkQ} (h:LkW f V W wB lp q w):w.cell? ⟨lp,5,none⟩=some (.slice (qVa q) V.length (qCv q))∧Sl w (qVa q) V∧L5.Tab w:=by
 obtain⟨G,C,R,CR,J,CJ,⟨gj,cj,gr,cr⟩,⟨nm,pp,lps,cpp,rt,lb,cb,pl⟩,⟨va,cv,so,cs,po,cp⟩⟩:=q;obtain⟨⟨hB,_,hV,_,_,hT⟩,⟨_,hlp⟩,_⟩:=h;exact⟨(jD hlp).2.1,hV.below hB,hT.below hB⟩
theorem LkW.row {f:Fun} {V:List Int} {W lp:Nat} {wB w:World} {q:LkQ} (h:LkW f V W wB lp q w) {k p:Nat} (hk:k < f.2.2.2.1.length) (hp:p≤(ag f k).length):w.cell? ⟨q.2.2.1 k,p,none⟩=some (.slice (some ⟨q.1 k p,0,none⟩) W (q.2.1 k p)):=by
 obtain⟨G,C,R,CR,J,CJ,⟨gj,cj,gr,cr⟩,⟨nm,pp,lps,cpp,rt,lb,cb,pl⟩,⟨va,cv,so,cs,po,cp⟩⟩:=q;obtain⟨_,_,_,_,h5⟩:=h;exact gR (h5 k hk) (by omega)
theorem LkW.main {f:Fun} {V:List Int} {W lp:Nat} {wB w:World} {q:LkQ} (h:LkW f V W wB lp q w) {k:Nat} (hk:k < f.2.2.2.1.length):∃gb ob cb ab bc gr cr,w.cell? ⟨lp,3,none⟩=some (.slice (some ⟨gb,ob,none⟩) f.2.2.2.1.length cb)∧w.cell? ⟨gb,ob+k,none⟩=some (.slice ab (ag f k).length bc)∧
  iR wB (ag f k) (.slice ab (ag f k).length bc)∧w.cell? ⟨lp,9,none⟩=some (.slice (some ⟨gr,0,none⟩) f.2.2.2.1.length cr)∧w.cell? ⟨gr,k,none⟩=some (.slice (some ⟨q.2.2.1 k,0,none⟩) ((ag f k).length+1) (q.2.2.2.1 k)):=by
 obtain⟨G,C,R,CR,J,CJ,⟨gj,cj,gr,cr⟩,⟨nm,pp,lps,cpp,rt,lb,cb,pl⟩,⟨va,cv,so,cs,po,cp⟩⟩:=q;obtain⟨⟨hB,hfv,_⟩,⟨_,hlp⟩,_,hr,_⟩:=h;obtain⟨gb,ob,ab,bc,rfl,hgb,cbk,hblk⟩:=eD (ff hfv) hk;exact⟨gb,ob,cb,ab,bc,gr,cr,(jD hlp).1,(hB.cell (p:=⟨gb,ob+k,none⟩) hgb).trans cbk,hblk,(jD hlp).2.2.2.2.2,gR hr hk⟩
theorem Bo {f:Fun} {V:List Int} {W lp:Nat} {wB w:World} {q:LkQ} {H:Nat→Nat→Nat→Bool} (hL:LkW f V W wB lp q w) (hD:LkD f V W wB.heap.size H q w) (hA:LkA f q) (hT:Tos f) (hP:PhF f) (hM:Mod f) {k:Nat} (hk:k < f.2.2.2.1.length) (h0:0 < (ag f k).length)
  (hs:V.Pairwise (· < ·)) (hAV:∀x∈ag f k,∀a∈x.2.2.2.2.1,a∈V) (hAl:∀x∈ag f k,x.2.2.2.2.1.length≤1000000) (hI:∀b,b < f.2.2.2.1.length→Inn V (H b 0)) (hWV:V.length≤64 * W) (hW2:W≤1000000):
  Calls Tryz.prog 71 #[.pointer (some ⟨lp,0,none⟩),.int .i64 k] w fun e w'=>∃r:Bool,e= .returned (.bool r)∧(r=false→fM V f (fun b=>H b 0) k 0=H k 0)∧(r=true→fM V f (fun b=>H b 0) k 0≠H k 0)∧
   LkD f V W wB.heap.size (fS V f H k (fun _=>true)) q w'∧Kf (iV f q) w w':=by
 have hN:=hM.1;have CE:=aa (fun n=>DD (w:=w.drewN n) (LkW.drew hL n) (show LkD f V W wB.heap.size H q (w.drewN n) from hD) hT hk hN hW2);have HLt:=aa hD.lt;have HLW:=aa (fun w' (K:Kf (iV f q) w w')=>hL.kf K hD.set);have HA:=aa hA;have HD:=aa hD;have hbl:=hM.blk k;have hpl:=kX (ag f k);have HPh:=aa (Ht hP hk);have hIn:=GH (H:=fun b=>H b 0) (V:=V) hT hI k;have hIk:=aa (hI k hk);have HIk:=aa (hI k hk);obtain⟨E,hEe⟩:∃E,gN V f (fun b=>H b 0) k=E:=⟨_,rfl⟩;have HNw:Hid (∀p,fM V f (fun b=>H b 0) k p=dX V f k (fA f k p) E):=aa (fun p=>by unfold fM;rw [hEe]);rw [hEe] at CE hIn;unfold gy at CE;have HE0:=aa (Fk (f:=f) (k:=k) (i:=(ag f k).length) hIn (Nat.le_refl _));have HIp:=aa (yp V f k);have HUp:=aa (fun m=>y8 (V:=V) (f:=f) (k:=k) E m);have HUn:Hid (∀w' g c E' x v,Kf (iV f q) w w'→aN w' w.heap.size g c W E'→Inn V E'→x∈ag f k→ib wB x v→
   Calls Tryz.prog 106 #[.pointer (some ⟨lp,0,none⟩),.slice (some ⟨g,0,none⟩) W c,v] w' fun e w''=>e= .returned (.tuple #[])∧aN w'' w.heap.size g c W (il V x E')∧Kf (· =g) w' w''):=aa (fun w' g c E' x v K hS hE' _ hv=>by
  obtain⟨h1,h2,h3⟩:=(HLW.out w' K).val;exact o8 (hv.below (HLW.out w' K).base) h3 h1 h2 hs hS hE' hWV hW2)
 have HUd:Hid (∀w' g c E' x v,Kf (iV f q) w w'→aN w' w.heap.size g c W E'→Inn V E'→x∈ag f k→ib wB x v→
   Calls Tryz.prog 105 #[.pointer (some ⟨lp,0,none⟩),.slice (some ⟨g,0,none⟩) W c,v] w' fun e w''=>e= .returned (.tuple #[])∧aN w'' w.heap.size g c W (xE V x E')∧Kf (· =g) w' w''):=aa (fun w' g c E' x v K hS hE' hx hv=>by
  have hLw:=HLW.out w' K;refine Cx (va:=qVa q) (cv:=qCv q) hs (hAV x hx) (hAl x hx) hLw.val.2.2 (fun w'' K2=> ?_) hS hE' hWV hW2;have hLw2:=hLw.kf K2 (lB.one hS hL.base.size);exact⟨hLw2.val.1,hLw2.val.2.1,hv.below hLw2.base⟩)
 obtain⟨gb,ob,cb,ab,bc,gr,cr,c3,ck,hblk,c9,cR⟩:=hL.main hk;obtain⟨ga,oa,rfl,_⟩:=dy hblk h0;have HRow:=aa (fun w' K p (hp:p≤(ag f k).length)=>(HLW.out w' K).row hk hp);have HBel:=aa (fun w' K=>(HLW.out w' K).base);have HBk:=aa hblk;have HPc:=aa (fun w' (b:Below wB.heap.size wB w')=>pA (ag f k) _ bc w' (hblk.below b) hbl h0);have HBmem:=aa (fun i (hi:i < (ag f k).length)=>sO (f:=f) (k:=k) hi);have Hk:=aa hk;have HWV:=aa hWV;clear hEe hI hD hA hIn hL hblk hP hT hM hs hAV hAl hWV;obtain⟨N,hNe⟩:∃N,f.2.2.2.1.length=N:=⟨_,rfl⟩;obtain⟨bl,hble⟩:∃bl,(ag f k).length=bl:=⟨_,rfl⟩;obtain⟨pn,hpn⟩:∃pn,phN (ag f k)=pn:=⟨_,rfl⟩;have Hble:=aa hble;have Hpn:=aa hpn;rw [hNe] at c3 c9 hN hk;rw [hble] at cR ck hbl h0 hpl HPh HE0 HRow HPc HBmem HBk;rw [hpn] at hpl HPh HPc;have hkN:(k:Int) < N:=by omega
 clear hNe hble hpn;go_enter Tryz.func71,Tryz.ntmps71
 go_wp2_with fail
 go_quiet (fail)
 go_wp2_with fail
 refine(CE.out nq).mono ?_;rintro e w1 ⟨g,c,rfl,h1,b1⟩;have B1:Below w.heap.size w w1:=⟨b1.os,b1.tape,b1.output,b1.size,b1.block⟩;have G1:Hid (GrW f V W wB.heap.size q w g c E (fS V f H k fun p=>decide (bl < p)) w1):=aa ⟨h1,(HD.out.below B1).same (fun k' _ p hp=>by
  unfold fS;by_cases e:k'=k
  ·subst e;rw [if_neg];simp only [decide_eq_true_eq];rw [Hble.out] at hp;omega
  ·rw [if_neg (fun q=>e q.1)]),Kf.br B1⟩
 have CP1:=aa (HPc.out w1 (HBel.out w1 G1.out.2.2));have hg1:=h1.lt;clear h1 b1 B1 c3 ck c9 cR CE;go_wp2_with fail
 refine CP1.out.mono ?_;rintro e w2 ⟨rfl,hw2⟩;rw [hw2];clear hw2 w2 CP1;have hbI:(1:Int)≤bl:=by omega
 go_wp2_with fail
 go_loopw [9] (fun iv wr=>∃M:Nat,pn≤M∧M≤bl∧iv= .int .i64 ((M:Int) - 1)∧Hid (GrW f V W wB.heap.size q w g c (dX V f k M E) (fS V f H k fun p=>decide (M < p)) wr)) (fun iv _=>(intOf iv+1).toNat)
 case atStart=>exact⟨bl,hpl,Nat.le_refl _,rfl,aa (by rw [HE0.out];exact G1.out)⟩
 case round=>
  clear G1;obtain⟨M,hM1,hM2,rfl,HG⟩:=hrel;by_cases hit:pn < M
  ·obtain⟨M',rfl⟩:∃M',M=M'+1:=⟨M - 1,by omega⟩;have e1:((M'+1:Nat):Int) - 1=(M':Int):=(by omega);rw [e1];clear e1;have K:=HG.out.2.2;have cRow:=HRow.out wr K (M'+1) hM2;have hB':=HBel.out wr K;have hi1:(pn:Int)≤(M':Int):=(by omega);have hi2:(M':Int) < bl:=(by omega);have hi3:(M':Int)+1 < (bl:Int)+1:=(by omega);obtain⟨g',o',ea,hins⟩:=dy HBk.out (i:=M') (by rw [Hble.out];omega);injection ea with ea;injection ea with ea1 ea2;subst ea1 ea2;have hga:=hins.1;obtain⟨xo,zo,xc,zc,hiv,e0,e1,e2,e3,e4,e5,e6,e7⟩:=hins.val;have HS1:=aa (HG.out.2.1.1 k Hk.out (M'+1) (by rw [Hble.out];exact hM2));have HS2:=aa HG.out.1;clear hit;go_wp2_with (first | (refine fE rfl (.tmp 47) (.tmp 48) 98 98 rfl Tryz.Dc Tryz.szU rfl rfl HS1.out HS2.out ?_;intro w2 HC;refine Hid.out ?_) | fail)
   have G2:Hid (GrW f V W wB.heap.size q w g c (dX V f k (M'+1) E) (fS V f H k fun p=>decide (M' < p)) w2):=aa (HG.out.put HLt.out HA.out Hk.out (by rw [Hble.out];exact hM2) HC.out.1 HC.out.2
    ((pC (by simp)).trans ((HNw.out (M'+1)).trans (by rw [Ct (by rw [Hpn.out];omega)])))
    (sL (p:=M'+1) (m:=fun p=>decide (M'+1 < p)) (m':=fun p=>decide (M' < p)) fun r hr=>by rw [decide_eq_decide];omega))
   have hB2:=HBel.out w2 G2.out.2.2;replace e0:=(hB2.cell (p:=⟨ga,oa+M' * 8,none⟩) hga).trans e0;replace e1:=(hB2.cell (p:=⟨ga,oa+M' * 8+1,none⟩) hga).trans e1;replace e2:=(hB2.cell (p:=⟨ga,oa+M' * 8+2,none⟩) hga).trans e2;replace e3:=(hB2.cell (p:=⟨ga,oa+M' * 8+3,none⟩) hga).trans e3;replace e4:=(hB2.cell (p:=⟨ga,oa+M' * 8+4,none⟩) hga).trans e4;replace e5:=(hB2.cell (p:=⟨ga,oa+M' * 8+5,none⟩) hga).trans e5;replace e6:=(hB2.cell (p:=⟨ga,oa+M' * 8+6,none⟩) hga).trans e6;replace e7:=(hB2.cell (p:=⟨ga,oa+M' * 8+7,none⟩) hga).trans e7;have CU:=aa (HUd.out w2 g c _ (au f k M') _ G2.out.2.2 G2.out.1 (HIp.out _ _) (HBmem.out M' (by omega)) hiv);have HSt:=aa (D7 (V:=V) (f:=f) (k:=k) (i:=M') E (by rw [Hble.out];omega) (HPh.out M' (by omega) (by omega)));clear hiv hins HC HG HS1 HS2 K cRow hB' hB2;refine aa ?_;go_wp2_with fail
   refine CU.out.mono ?_;rintro e w3 ⟨rfl,q1,q2⟩;have G3:Hid (GrW f V W wB.heap.size q w g c (dX V f k M' E) (fS V f H k fun p=>decide (M' < p)) w3):=aa (G2.out.now HLt.out (by rw [HSt.out];exact q1) q2);clear q1 q2 CU e0 e1 e2 e3 e4 e5 e6 e7 G2 HSt;go_wp2_with fail
   go_roundw
   case rel=>exact⟨M',by omega,by omega,by go_num,G3⟩
   case measure=>simp [intOf]
  ·obtain rfl:M=pn:=(by omega);clear hit hM1;have hML:(M:Int)≤bl:=(by omega);go_wp2_with fail
   go_loopw [59] (fun iv wr=>∃I:Nat,I≤M∧iv= .int .i64 I∧Hid (GrW f V W wB.heap.size q w g c (dX V f k M E) (fS V f H k fun p=>decide (M < p) || (decide (0 < p) && decide (p≤I))) wr)) (fun iv _=>M - (intOf iv).toNat)
   case atStart=>
    refine⟨0,Nat.zero_le _,rfl,aa ?_⟩;have em:(fun p=>decide (M < p) || (decide (0 < p) && decide (p≤0)))=fun p=>decide (M < p):=funext fun p=>by cases p <;> simp
    rw [em];exact HG.out
   case round=>
    clear HG;obtain⟨I,hI,rfl,HG⟩:=hrel;by_cases hit:I < M
    ·have hiI:(I:Int) < M:=(by omega);have hi3:(I:Int)+1 < (bl:Int)+1:=(by omega);have K:=HG.out.2.2;have cRow:=HRow.out wr K (I+1) (by omega);have HS1:=aa (HG.out.2.1.1 k Hk.out (I+1) (by rw [Hble.out];omega));have HS2:=aa HG.out.1;go_wp2_with (first | (refine fE rfl (.tmp 66) (.tmp 67) 98 98 rfl Tryz.Dc Tryz.szU rfl rfl HS1.out HS2.out ?_;intro w2 HC;refine Hid.out ?_) | fail)
     have G2:Hid (GrW f V W wB.heap.size q w g c (dX V f k M E) (fS V f H k fun p=>decide (M < p) || (decide (0 < p) && decide (p≤I+1))) w2):=aa (HG.out.put HLt.out HA.out Hk.out (by rw [Hble.out];omega) HC.out.1 HC.out.2
      ((pC (by simp)).trans ((HNw.out (I+1)).trans (by rw [FB (by rw [Hpn.out];omega),Hpn.out])))
      (sL (p:=I+1) (m:=fun p=>decide (M < p) || (decide (0 < p) && decide (p≤I))) (m':=fun p=>decide (M < p) || (decide (0 < p) && decide (p≤I+1))) fun r hr=>by
       have:decide (r≤I+1)=decide (r≤I):=(by rw [decide_eq_decide];omega);rw [this]))
     clear HC HG HS1 HS2 K cRow;refine aa ?_;go_wp2_with fail
     go_roundw
     case rel=>exact⟨I+1,by omega,by go_num,G2⟩
     case measure=>simp [intOf];omega
    ·obtain rfl:I=M:=(by omega);have G1:Hid (GrW f V W wB.heap.size q w g c (dX V f k I E) (fS V f H k fun p=>decide (0 < p)) wr):=aa (by
      have em:(fun p=>decide (I < p) || (decide (0 < p) && decide (p≤I)))=fun p=>decide (0 < p):=funext fun p=>by
       rw [Bool.eq_iff_iff];simp only [Bool.or_eq_true,Bool.and_eq_true,decide_eq_true_eq];omega
      rw [←em];exact HG.out)
     clear HG hit;go_wp2_with fail
     go_loopw [72] (fun iv wr=>∃J:Nat,J≤I∧iv= .int .i64 J∧Hid (GrW f V W wB.heap.size q w g c (me V f k J (dX V f k I E)) (fS V f H k fun p=>decide (0 < p)) wr)) (fun iv _=>I - (intOf iv).toNat)
     case atStart=>exact⟨0,Nat.zero_le _,rfl,aa (by rw [uA];exact G1.out)⟩
     case round=>
      clear G1;obtain⟨J,hJ,rfl,HG⟩:=hrel;by_cases hit:J < I
      ·have hiI:(J:Int) < I:=(by omega);have hB':=HBel.out wr HG.out.2.2;obtain⟨g',o',ea,hins⟩:=dy HBk.out (i:=J) (by rw [Hble.out];omega);injection ea with ea;injection ea with ea1 ea2;subst ea1 ea2;have hga:=hins.1;obtain⟨xo,zo,xc,zc,hiv,e0,e1,e2,e3,e4,e5,e6,e7⟩:=hins.val;replace e0:=(hB'.cell (p:=⟨ga,oa+J * 8,none⟩) hga).trans e0;replace e1:=(hB'.cell (p:=⟨ga,oa+J * 8+1,none⟩) hga).trans e1;replace e2:=(hB'.cell (p:=⟨ga,oa+J * 8+2,none⟩) hga).trans e2;replace e3:=(hB'.cell (p:=⟨ga,oa+J * 8+3,none⟩) hga).trans e3;replace e4:=(hB'.cell (p:=⟨ga,oa+J * 8+4,none⟩) hga).trans e4;replace e5:=(hB'.cell (p:=⟨ga,oa+J * 8+5,none⟩) hga).trans e5;replace e6:=(hB'.cell (p:=⟨ga,oa+J * 8+6,none⟩) hga).trans e6;replace e7:=(hB'.cell (p:=⟨ga,oa+J * 8+7,none⟩) hga).trans e7;have HUm:=aa (tC (V:=V) (f:=f) (k:=k) (m:=J) (dX V f k I E) (by rw [Hble.out];omega));have HMem:=aa (HBmem.out J (by omega));obtain⟨x,hxe⟩:∃x,au f k J=x:=⟨_,rfl⟩;rw [hxe] at hiv e0 e1 e2 e3 e4 e5 e6 e7 HUm HMem;clear hxe hins;have HIv:=aa hiv;obtain⟨xl,hxl1⟩:∃n,x.2.2.2.2.1.length=n:=⟨_,rfl⟩;obtain⟨zl,hzl1⟩:∃n,x.2.2.2.2.2.1.length=n:=⟨_,rfl⟩;rw [hxl1,hzl1] at HIv;rw [hxl1] at e4;rw [hzl1] at e5;have b3:=af wr (.cells (iC x xo zo xl zl xc zc) 41);have Y0:=aa (heap_alloc_new wr (.cells (iC x xo zo xl zl xc zc) 41));have G2:=aa (HG.out.below b3);clear b3 hiv hxl1 hzl1 hB' hit;go_upto_region 17 with fail
       show Code.wp _ _ _ _ (wr.alloc (.cells (iC x xo zo xl zl xc zc) 41));clear e0 e1 e2 e3 e4 e5 e6 e7;generalize wr.alloc (.cells (iC x xo zo xl zl xc zc) 41)=w3 at *;generalize wr.heap.size=q3 at *;obtain⟨y0,y1,y2,y3,y4,y5,y6,y7⟩:=jK Y0.out;have CU:=aa (HUn.out w3 g c _ x _ G2.out.2.2 G2.out.1 (Hj (HIp.out _ _)) HMem.out HIv.out);go_wp2_with fail
       refine CU.out.mono ?_;rintro e w4 ⟨rfl,q1,q2⟩;have G3:Hid (GrW f V W wB.heap.size q w g c (me V f k (J+1) (dX V f k I E)) (fS V f H k fun p=>decide (0 < p)) w4):=aa (G2.out.now HLt.out (by rw [HUm.out];exact q1) q2);clear q1 q2 CU y0 y1 y2 y3 y4 y5 y6 y7 Y0 G2 HG HUm;go_wp2_with fail
       go_roundw
       case rel=>exact⟨J+1,by omega,by go_num,G3⟩
       case measure=>simp [intOf];omega
      ·obtain rfl:J=I:=(by omega);have HN0:Hid (me V f k J (dX V f k J E)=fM V f (fun b=>H b 0) k 0):=aa (by rw [HNw.out,E8,HUp.out J (by rw [Hpn.out];exact Nat.le_refl _)]);have cRow:=HRow.out wr HG.out.2.2 0 (Nat.zero_le _);obtain⟨r,hr⟩:∃r:Bool,r=true↔∀n,n < 64 * W→H k 0 n=fM V f (fun b=>H b 0) k 0 n:=by
        classical exact⟨decide _,decide_eq_true_iff⟩
       have HS1:Hid (aN wr wB.heap.size (q.1 k 0) (q.2.1 k 0) W (H k 0)):=aa (by
        have:=HG.out.2.1.1 k Hk.out 0 (Nat.zero_le _);rwa [show fS V f H k (fun p=>decide (0 < p)) k 0=H k 0 by unfold fS;rw [if_neg (by simp)]] at this)
       have HS2:Hid (aN wr w.heap.size g c W (fM V f (fun b=>H b 0) k 0)):=aa (by rw [←HN0.out];exact HG.out.1);have CQ:=aa (wH HS1.out HS2.out r hr hW2);have HR:Hid (r=true↔fM V f (fun b=>H b 0) k 0=H k 0):=aa (by
        rw [hr];refine⟨fun h=>funext fun n=> ?_,fun h n _=>by rw [h]⟩;by_cases hn:n < 64 * W
        ·exact(h n hn).symm
        ·have hv:=HWV.out;rw [HIk.out n (by omega),HNw.out,HIp.out _ _ n (by omega)])
       clear hr hit;have hbl0:(0:Int) < (bl:Int)+1:=(by omega);go_wp2_with fail
       refine CQ.out.mono ?_;rintro e w2 ⟨rfl,nd,rfl⟩;have HS3:Hid (aN (wr.drewN nd) wB.heap.size (q.1 k 0) (q.2.1 k 0) W (H k 0)):=aa HS1.out;have HS4:Hid (aN (wr.drewN nd) w.heap.size g c W (fM V f (fun b=>H b 0) k 0)):=aa HS2.out;have G4:Hid (GrW f V W wB.heap.size q w g c (fM V f (fun b=>H b 0) k 0) (fS V f H k fun p=>decide (0 < p)) (wr.drewN nd)):=aa (by rw [←HN0.out];exact HG.out.now HLt.out (by rw [HN0.out];exact HS4.out) ((yT wr nd).more fun _ h=>h.elim));clear HS1 HS2 CQ HG;go_wp2_with (first | (refine fE rfl (.tmp 89) (.tmp 90) 98 98 rfl Tryz.Dc Tryz.szU rfl rfl HS3.out HS4.out ?_;intro w5 HC;refine Hid.out ?_) | fail)
       have G5:Hid (GrW f V W wB.heap.size q w g c (fM V f (fun b=>H b 0) k 0) (fS V f H k fun _=>true) w5):=aa (G4.out.put HLt.out HA.out Hk.out (Nat.zero_le _) HC.out.1 HC.out.2 (pC rfl)
        (sL (p:=0) (m:=fun p=>decide (0 < p)) (m':=fun _=>true) fun r hr=>by simp;omega))
       clear HC HS3 HS4 G4;refine aa ?_;go_wp2_with fail
       go_ret;refine⟨!r,rfl,fun h=>HR.out.1 (by simpa using h),fun h e=> ?_,G5.out.2.1,G5.out.2.2⟩;rw [HR.out.2 e] at h
       cases h
end Go.Proofs.YtaiaakklokahjaaGreatDoor
