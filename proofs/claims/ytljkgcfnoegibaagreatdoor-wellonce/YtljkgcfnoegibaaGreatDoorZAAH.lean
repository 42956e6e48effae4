/- Texts of one chain, joined. -/
import Derived.Test.YtljkgcfnoegibaaGreatDoorZAAE
import Derived.Test.YtljkgcfnoegibaaGreatDoorZAAF
set_option maxHeartbeats 8000000
set_option maxRecDepth 20000
namespace Go.Proofs.YtljkgcfnoegibaaGreatDoor
open Go Go.RowKit
open G (Tok Er Ins Fun)
def byd (most n:Int):Bool:=decide (n < 0) || decide (most < n)
theorem oG (most n:Int) (g:Nat) (w:World) (h:w.cell? ⟨g,0,none⟩=some (.int .i64 most)):Calls Tryz.prog 140 #[.int .i64 n,.pointer (some ⟨g,0,none⟩)] w fun e w'=>e= .returned (.bool (byd most n))∧w'=w:=by
 by_cases h0:n < 0
 ·have HB:Hid (true=byd most n):=ae (by unfold byd;simp [h0]);go_enter Tryz.func140,Tryz.ntmps140
  go_wp2_with fail
  go_ret;exact⟨L5.aw HB.out,rfl⟩
 ·by_cases h1:most < n
  ·have HB:Hid (true=byd most n):=ae (by unfold byd;simp [h1]);go_enter Tryz.func140,Tryz.ntmps140
   go_wp2_with fail
   go_ret;exact⟨L5.aw HB.out,rfl⟩
  ·have HB:Hid (false=byd most n):=ae (by unfold byd;simp [h0,h1]);go_enter Tryz.func140,Tryz.ntmps140
   go_wp2_with fail
   go_ret;exact⟨L5.aw HB.out,rfl⟩
theorem mG (most:Int) (w:World):Calls Tryz.prog 118 #[.int .i64 most] w fun e w'=>e= .returned (.func (Fn.func 140) #[] #[.pointer (some ⟨w.heap.size,0,none⟩)])∧w'=w.alloc (.cells #[.int .i64 most] 3):=by
 have hmf:∀(fn:Fn) (first cap:Array Value) (w:World),(Instr.makeFunc fn first cap).run Tryz.prog w= .ok (.func fn first cap) w:=fun _ _ _ _=>rfl;go_enter Tryz.func118,Tryz.ntmps118
 go_wp2_with fail
 go_ret;exact⟨rfl,rfl⟩
def first7B (most:Int):List Int→Int→Int
 |[],_=> -1
 |t :: r,k=>if byd most t then k else first7B most r (k+1)
theorem ue (most:Int) (xs:List Int) (k:Nat) (t:Int) (h:xs[k]? =some t):first7B most (xs.drop k) k=if byd most t then(k:Int)else first7B most (xs.drop (k+1)) ((k+1:Nat):Int):=by
 have:xs.drop k=t :: xs.drop (k+1):=by
  obtain⟨h1,h2⟩:=List.getElem?_eq_some_iff.1 h;rw [List.drop_eq_getElem_cons h1,h2]
 rw [this];rfl
theorem xA (most:Int) (l:List Int):∀k:Int,0≤k→(l.any (byd most)=true→0≤first7B most l k)∧(l.any (byd most)=false→first7B most l k= -1):=by
 induction l with
 |nil=>intro k _;simp [first7B]
 |cons t r ih=>
  intro k hk;rw [first7B,List.any_cons]
  cases hb:byd most t with
  |true=>simp;exact hk
  |false=>simpa using ih (k+1) (by omega)
theorem wu (most:Int) (xs:List Int) (ao:Option Addr) (c g:Nat) (w:World) (hs:Sl w ao xs) (hg:g < w.heap.size) (h:w.cell? ⟨g,0,none⟩=some (.int .i64 most)) (hm:xs.length≤maxLen):
  Calls Tryz.prog 112 #[.slice ao xs.length c,.func (Fn.func 140) #[] #[.pointer (some ⟨g,0,none⟩)]] w fun e w'=>e= .returned (.int .i64 (first7B most xs 0))∧Below w.heap.size w w':=by
 have H:=ae h;have X:=ae hs;unfold maxLen at hm;clear h hs;go_enter Tryz.func112,Tryz.ntmps112
 go_wp2_with fail
 go_loopw [8] (fun i wr=>∃k:Nat,i= .int .i64 k∧k≤xs.length∧Below w.heap.size w wr∧Hid (first7B most xs 0=first7B most (xs.drop k) k)) (fun i _=>xs.length - (intOf i).toNat)
 case atStart=>exact⟨0,rfl,Nat.zero_le _,Below.refl _ _,rfl⟩
 case round=>
  obtain⟨k,rfl,hk,HB,HF⟩:=hrel;have HB:=ae HB;by_cases hlt:k < xs.length
  ·obtain⟨t,ht⟩:∃t,xs[k]? =some t:=⟨xs[k],List.getElem?_eq_getElem hlt⟩;have HS:=ae (HF.out.trans (ue most xs k t ht));rcases X.out with he | ⟨b,o,rfl,hb,hc⟩
   ·subst he;simp at hlt
   have hcell:wr.cell? ⟨b,o+k,none⟩=some (.int .i64 t):=(HB.out.cell (p:=⟨b,o+k,none⟩) hb).trans (hc k t ht);have hlt':(k:Int) < xs.length:=(by omega);have hcg:=ae ((HB.out.cell (p:=⟨g,0,none⟩) hg).trans H.out);clear hc ht;go_wp2_with fail
   refine(oG most t g _ hcg.out).mono ?_;rintro e w1 ⟨rfl,rfl⟩
   cases hbt:byd most t with
   |true=>
    have HE:=ae (HS.out.trans (if_pos hbt));go_wp2_with fail
    go_ret;exact⟨by rw [HE.out];rfl,HB.out⟩
   |false=>
    have HE:=ae (HS.out.trans (if_neg (by simp [hbt])));go_wp2_with fail
    go_roundw
    case rel=>exact⟨k+1,by go_num,by omega,HB.out,HE.out⟩
    case measure=>simp [intOf];omega
  ·have hk2:k=xs.length:=(by omega);subst hk2;have HE:=ae (HF.out.trans (by rw [List.drop_length];rfl:_=(-1:Int)));go_wp2_with fail
   go_ret;exact⟨by rw [HE.out];rfl,HB.out⟩
theorem lZ (most:Int) (xs:List Int) (ao:Option Addr) (c g:Nat) (w:World) (hs:Sl w ao xs) (hg:g < w.heap.size) (h:w.cell? ⟨g,0,none⟩=some (.int .i64 most)) (hm:xs.length≤maxLen):
  Calls Tryz.prog 89 #[.slice ao xs.length c,.func (Fn.func 140) #[] #[.pointer (some ⟨g,0,none⟩)]] w fun e w'=>e= .returned (.bool (xs.any (byd most)))∧Below w.heap.size w w':=by
 obtain⟨f1,f2⟩:=xA most xs 0 (Int.le_refl 0);have H:=ae h;have X:=ae hs;have F1:=ae f1;have F2:=ae f2;clear h hs f1 f2;go_enter Tryz.func89,Tryz.ntmps89
 go_wp2_with fail
 refine(wu most xs ao c g _ X.out hg H.out hm).mono ?_;rintro e w1 ⟨rfl,b1⟩
 cases hb:xs.any (byd most)with
 |true=>
  have h1:=F1.out hb;replace hb:=ae hb;generalize first7B most xs 0=r at *;clear F1 F2;go_wp2_with fail
  go_ret;exact⟨L5.aw hb.out.symm,b1⟩
 |false=>
  have h1:=F2.out hb;rw [h1];replace hb:=ae hb;clear F1 F2 h1;go_wp2_with fail
  go_ret;exact⟨L5.aw hb.out.symm,b1⟩
def kh (k:Int):Bool:=decide (1≤k) && decide (k≤29)
theorem rj (k:Int) (w:World):Calls Tryz.prog 113 #[.int .i64 k] w fun e w'=>e= .returned (.bool (kh k))∧w'=w:=by
 by_cases h1:1≤k
 ·by_cases h2:k≤29
  ·have HB:Hid (true=kh k):=ae (by simp [kh,h1,h2]);go_enter Tryz.func113,Tryz.ntmps113
   go_wp2_with fail
   go_ret;exact⟨L5.aw HB.out,rfl⟩
  ·have HB:Hid (false=kh k):=ae (by simp [kh,h2]);go_enter Tryz.func113,Tryz.ntmps113
   go_wp2_with fail
   go_ret;exact⟨L5.aw HB.out,rfl⟩
 ·have HB:Hid (false=kh k):=ae (by simp [kh,h1]);go_enter Tryz.func113,Tryz.ntmps113
  go_wp2_with fail
  go_ret;exact⟨L5.aw HB.out,rfl⟩
theorem sT (w:World) {o:Obj}:Below w.heap.size w (w.drew.alloc o):=by
 have:=ah w.drew o;exact⟨this.1,this.2,this.3,this.4,this.5⟩
def iE (k id ty:Int):Bool:=if L5.bD k ty=0 then decide (id= -1)else !byd 1048576 id
theorem tS (k id n ty pl:Int) (ar tt:List Int) (nm:List UInt8) (ao to:Option Addr) (ca ct:Nat) (w:World) (ht:L5.Tab w):Calls Tryz.prog 115 #[.agg #[.int .i64 k,.int .i64 id,.int .i64 n,.int .i64 ty,.slice ao ar.length ca,.slice to tt.length ct,.string (bs nm),.int .i64 pl]] w fun e w'=>e= .returned (.bool (iE k id ty))∧Below w.heap.size w w':=by
 have b0:=ah w (.cells #[.int .i64 k,.int .i64 id,.int .i64 n,.int .i64 ty,.slice ao ar.length ca,.slice to tt.length ct,.string (bs nm),.int .i64 pl] 47);have H0:=ae (heap_alloc_new w (.cells #[.int .i64 k,.int .i64 id,.int .i64 n,.int .i64 ty,.slice ao ar.length ca,.slice to tt.length ct,.string (bs nm),.int .i64 pl] 47));have T0:=ae (ht.below b0);have B0:=ae b0;have hz0:(w.alloc (.cells #[.int .i64 k,.int .i64 id,.int .i64 n,.int .i64 ty,.slice ao ar.length ca,.slice to tt.length ct,.string (bs nm),.int .i64 pl] 47)).heap.size > w.heap.size:=by simp
 clear b0 ht;go_enter Tryz.func115,Tryz.ntmps115
 go_upto_region 1 with fail
 show Code.wp _ _ _ _ (w.alloc (.cells #[.int .i64 k,.int .i64 id,.int .i64 n,.int .i64 ty,.slice ao ar.length ca,.slice to tt.length ct,.string (bs nm),.int .i64 pl] 47));generalize w.alloc (.cells #[.int .i64 k,.int .i64 id,.int .i64 n,.int .i64 ty,.slice ao ar.length ca,.slice to tt.length ct,.string (bs nm),.int .i64 pl] 47)=W at *;obtain⟨c0,c1,c2,c3,c4,c5,c6,c7⟩:=ij H0.out;go_wp2_with fail
 refine(L5.lQ k ty _ _ _ _ _ _ W T0.out).mono ?_;rintro e w1 ⟨rfl,b1⟩;have B1:=ae b1;clear c0 c1 c2 c3 c4 c5 c6 c7;obtain⟨c0,c1,c2,c3,c4,c5,c6,c7⟩:=ij ((b1.block _ (by omega)).trans H0.out);have hcl:w.heap.size < w1.heap.size:=Nat.lt_of_lt_of_le hz0 b1.size;clear c0 c2 c3 c4 c5 c6 c7 b1;by_cases hm:L5.bD k ty=0
 ·have HB:Hid (iE k id ty=decide (id= -1)):=ae (if_pos hm);rw [hm];clear hm;by_cases hid:id= -1
  ·subst hid;go_wp2_with fail
   go_ret;exact⟨L5.aw (by rw [HB.out];rfl),af B0.out B1.out⟩
  ·have h2:(id == -1)=false:=(by simpa using hid);have HB2:Hid (false=iE k id ty):=ae (by rw [HB.out];simp [hid]);go_wp2_with fail
   go_ret;exact⟨L5.aw HB2.out,af B0.out B1.out⟩
 ·have HB:Hid (iE k id ty= !byd 1048576 id):=ae (if_neg hm);have h2:(L5.bD k ty == 0)=false:=by simpa using hm
  generalize L5.bD k ty=mk at *;have B2:=ae (sT w1 (o:= .cells #[.int .i64 1048576] 3));have G2:Hid ((w1.alloc (.cells #[.int .i64 1048576] 3)).cell? ⟨w1.heap.size,0,none⟩=some (.int .i64 1048576)):=ae (by simp [go_sem]);have d1:(w1.alloc (.cells #[.int .i64 1048576] 3)).cell? ⟨w.heap.size,1,none⟩=some (.int .i64 id):=((ah w1 _).cell (p:=⟨w.heap.size,1,none⟩) hcl).trans c1;go_wp2_with fail
  go_region_held3 (fun w'=>w'.cell? ⟨w.heap.size,1,none⟩=some (.int .i64 id))
   (first
    |(go_keep;done)
    |assumption)
   ((first
    |(go_at_call 118;refine(mG 1048576 _).mono ?_;rintro e w2 ⟨rfl,rfl⟩)
    |(go_at_call 140;refine(oG 1048576 id w1.heap.size _ ?_).mono ?_;exact G2.out;rintro e w3 ⟨rfl,rfl⟩)))
  all_goals
   go_wp2_with fail
   go_ret;exact⟨L5.aw HB.out.symm,af B0.out (af B1.out B2.out)⟩
theorem lT.below {w w':World} {x:Ins} {v:Value} (h:lT w x v) (b:Below w.heap.size w w'):lT w' x v:=by
 obtain⟨ao,to,ca,ct,e,h1,h2,h3⟩:=h;exact⟨ao,to,ca,ct,e,h1.below b,h2.below b,h3⟩
theorem vz {B:Nat} {a w:World} (h:Below B a w) (n:Nat):Below B a (w.drewN n):=⟨h.1,h.2,h.3,h.4,h.5⟩
def tkN (k:Int):Nat:=(L5.takes (L5.num k)).length
def eU (k:Int) (a b:Nat):Bool:=
 if k=20 then decide ((a:Int)=b) && decide ((0:Int) < a)
 else if k=21 then decide ((b:Int)=0)
 else if k=24 then decide ((a:Int)=1) && decide ((b:Int)=0)
 else if k=26 then decide ((a:Int)=0) && decide ((b:Int)=1)
 else if k=27 then decide ((a:Int)=1) && decide ((b:Int)=2)
 else if k=28 then decide ((a:Int)≤1) && decide ((b:Int)=0)
 else decide ((a:Int)=tkN k) && decide ((b:Int)=0)
def kf (k n:Int):Bool:=
 if k=1 then true
 else if k=11∨k=12∨k=15∨k=13∨k=14 then decide (0≤n) && decide (n≤15)
 else if k=21∨k=23∨k=24 then decide (0≤n) && decide (n≤1048576)
 else if k=29 then decide (0≤n) && decide (n≤255)
 else decide (0≤n) && decide (n≤0)
theorem yV (k:Int) (id n ty pl:Int) (ar tt:List Int) (nm:List UInt8) (ao to:Option Addr) (ca ct:Nat) (w:World) (hn:I64 n):Calls Tryz.prog 117 #[.agg #[.int .i64 k,.int .i64 id,.int .i64 n,.int .i64 ty,.slice ao ar.length ca,.slice to tt.length ct,.string (bs nm),.int .i64 pl]] w fun e w'=>e= .returned (.bool (kf k n))∧Below w.heap.size w w':=by
 have HB:=ae (kf.eq_1 k n).symm;obtain⟨h1,h2⟩:=hn;have b0:=ah w (.cells #[.int .i64 k,.int .i64 id,.int .i64 n,.int .i64 ty,.slice ao ar.length ca,.slice to tt.length ct,.string (bs nm),.int .i64 pl] 47);have H0:=ae (heap_alloc_new w (.cells #[.int .i64 k,.int .i64 id,.int .i64 n,.int .i64 ty,.slice ao ar.length ca,.slice to tt.length ct,.string (bs nm),.int .i64 pl] 47));have B0:=ae b0;have hz0:(w.alloc (.cells #[.int .i64 k,.int .i64 id,.int .i64 n,.int .i64 ty,.slice ao ar.length ca,.slice to tt.length ct,.string (bs nm),.int .i64 pl] 47)).heap.size > w.heap.size:=by simp
 clear b0;go_enter Tryz.func117,Tryz.ntmps117
 go_upto_region 1 with fail
 show Code.wp _ _ _ _ (w.alloc (.cells #[.int .i64 k,.int .i64 id,.int .i64 n,.int .i64 ty,.slice ao ar.length ca,.slice to tt.length ct,.string (bs nm),.int .i64 pl] 47));generalize w.alloc (.cells #[.int .i64 k,.int .i64 id,.int .i64 n,.int .i64 ty,.slice ao ar.length ca,.slice to tt.length ct,.string (bs nm),.int .i64 pl] 47)=W at *;obtain⟨c0,c1,c2,c3,c4,c5,c6,c7⟩:=ij H0.out;by_cases hk:k=1∨k=11∨k=12∨k=15∨k=13∨k=14∨k=21∨k=23∨k=24∨k=29
 ·rcases hk with rfl | rfl | rfl | rfl | rfl | rfl | rfl | rfl | rfl | rfl
  all_goals
   generalize hA:ar.length=A at *;generalize hT:tt.length=T at *;have HA:=ae hA;have HT:=ae hT;clear hA hT;go_wp2_with fail
   all_goals
    go_ret;exact⟨L5.aw (by first | exact HB.out | (rw [←HB.out,Bool.eq_iff_iff];simp;done) | (rw [←HB.out,Bool.eq_iff_iff];simp;omega) | (rw [HA.out,HT.out];exact HB.out) | (rw [HA.out,HT.out,←HB.out,Bool.eq_iff_iff];simp;done) | (rw [HA.out,HT.out,←HB.out,Bool.eq_iff_iff];simp;omega)),B0.out⟩
 ·replace HB:Hid ((decide (0≤n) && decide (n≤0))=kf k n):=ae (by unfold kf;rw [if_neg (by omega),if_neg (by omega),if_neg (by omega),if_neg (by omega)]);have n1:(k == 1)=false:=by simp;omega
  have n11:(k == 11)=false:=by simp;omega
  have n12:(k == 12)=false:=by simp;omega
  have n15:(k == 15)=false:=by simp;omega
  have n13:(k == 13)=false:=by simp;omega
  have n14:(k == 14)=false:=by simp;omega
  have n21:(k == 21)=false:=by simp;omega
  have n23:(k == 23)=false:=by simp;omega
  have n24:(k == 24)=false:=by simp;omega
  have n29:(k == 29)=false:=by simp;omega
  clear hk;generalize hA:ar.length=A at *;generalize hT:tt.length=T at *;have HA:=ae hA;have HT:=ae hT;clear hA hT;go_wp2_with fail
  all_goals
   go_ret;exact⟨L5.aw (by first | exact HB.out | (rw [←HB.out,Bool.eq_iff_iff];simp;done) | (rw [←HB.out,Bool.eq_iff_iff];simp;omega) | (rw [HA.out,HT.out];exact HB.out) | (rw [HA.out,HT.out,←HB.out,Bool.eq_iff_iff];simp;done) | (rw [HA.out,HT.out,←HB.out,Bool.eq_iff_iff];simp;omega)),B0.out⟩
theorem vB (k:Int) (id n ty pl:Int) (ar tt:List Int) (nm:List UInt8) (ao to:Option Addr) (ca ct:Nat) (w:World) (hL:ar.length≤maxLen∧tt.length≤maxLen) (ht:L5.Tab w):Calls Tryz.prog 116 #[.agg #[.int .i64 k,.int .i64 id,.int .i64 n,.int .i64 ty,.slice ao ar.length ca,.slice to tt.length ct,.string (bs nm),.int .i64 pl]] w fun e w'=>e= .returned (.bool (eU k ar.length tt.length))∧Below w.heap.size w w':=by
 have HB:=ae (eU.eq_1 k ar.length tt.length).symm;obtain⟨la,lt⟩:=hL;unfold maxLen at la lt;have b0:=ah w (.cells #[.int .i64 k,.int .i64 id,.int .i64 n,.int .i64 ty,.slice ao ar.length ca,.slice to tt.length ct,.string (bs nm),.int .i64 pl] 47);have H0:=ae (heap_alloc_new w (.cells #[.int .i64 k,.int .i64 id,.int .i64 n,.int .i64 ty,.slice ao ar.length ca,.slice to tt.length ct,.string (bs nm),.int .i64 pl] 47));have T0:=ae (ht.below b0);have B0:=ae b0;have hz0:(w.alloc (.cells #[.int .i64 k,.int .i64 id,.int .i64 n,.int .i64 ty,.slice ao ar.length ca,.slice to tt.length ct,.string (bs nm),.int .i64 pl] 47)).heap.size > w.heap.size:=by simp
 clear b0 ht;go_enter Tryz.func116,Tryz.ntmps116
 go_upto_region 1 with fail
 show Code.wp _ _ _ _ (w.alloc (.cells #[.int .i64 k,.int .i64 id,.int .i64 n,.int .i64 ty,.slice ao ar.length ca,.slice to tt.length ct,.string (bs nm),.int .i64 pl] 47));generalize w.alloc (.cells #[.int .i64 k,.int .i64 id,.int .i64 n,.int .i64 ty,.slice ao ar.length ca,.slice to tt.length ct,.string (bs nm),.int .i64 pl] 47)=W at *;obtain⟨c0,c1,c2,c3,c4,c5,c6,c7⟩:=ij H0.out;by_cases hk:k=20∨k=21∨k=24∨k=26∨k=27∨k=28
 ·rcases hk with rfl | rfl | rfl | rfl | rfl | rfl
  all_goals
   generalize hA:ar.length=A at *;generalize hT:tt.length=T at *;have HA:=ae hA;have HT:=ae hT;clear hA hT;go_wp2_with fail
   go_quiet (fail)
   go_wp2_with fail
   all_goals
    go_ret;exact⟨L5.aw (by first | exact HB.out | (rw [←HB.out,Bool.eq_iff_iff];simp;done) | (rw [←HB.out,Bool.eq_iff_iff];simp;omega) | (rw [HA.out,HT.out];exact HB.out) | (rw [HA.out,HT.out,←HB.out,Bool.eq_iff_iff];simp;done) | (rw [HA.out,HT.out,←HB.out,Bool.eq_iff_iff];simp;omega)),vz B0.out _⟩
 ·replace HB:Hid ((decide ((ar.length:Int)=tkN k) && decide ((tt.length:Int)=0))=eU k ar.length tt.length):=ae (by unfold eU;rw [if_neg (by omega),if_neg (by omega),if_neg (by omega),if_neg (by omega),if_neg (by omega),if_neg (by omega)]);have n20:(k == 20)=false:=by simp;omega
  have n21:(k == 21)=false:=by simp;omega
  have n24:(k == 24)=false:=by simp;omega
  have n26:(k == 26)=false:=by simp;omega
  have n27:(k == 27)=false:=by simp;omega
  have n28:(k == 28)=false:=by simp;omega
  clear hk;generalize hA:ar.length=A at *;generalize hT:tt.length=T at *;have HA:=ae hA;have HT:=ae hT;clear hA hT;go_wp2_with fail
  go_quiet (fail)
  go_wp2_with fail
  refine(L5.rZ k (W.drewN _) T0.out).mono ?_;rintro e w1 ⟨ao1,cap1,rfl,s1,b1⟩;have HTk:Hid ((L5.takes (L5.num k)).length=tkN k):=ae rfl;have htl:tkN k≤2:=by unfold tkN L5.takes;exact List.length_filter_le _ _
  have B1:=ae b1;rw [HTk.out];clear s1 b1;generalize tkN k=tk at *;go_wp2_with fail
  all_goals
   go_ret;exact⟨L5.aw (by first | exact HB.out | (rw [←HB.out,Bool.eq_iff_iff];simp;done) | (rw [←HB.out,Bool.eq_iff_iff];simp;omega) | (rw [HA.out,HT.out];exact HB.out) | (rw [HA.out,HT.out,←HB.out,Bool.eq_iff_iff];simp;done) | (rw [HA.out,HT.out,←HB.out,Bool.eq_iff_iff];simp;omega)),af (vz B0.out _) B1.out⟩
theorem wg (s:List UInt8):∃a b:Int,L3.kQ (bs s)= .tuple #[.agg #[.int .i64 a,.int .i64 b],.int .i64 (fy s)]:=by
 have h:∃a b c:Int,L3.kQ (bs s)= .tuple #[.agg #[.int .i64 a,.int .i64 b],.int .i64 c]:=by
  unfold L3.kQ;split
  ·exact⟨_,_,_,rfl⟩
  ·split
   ·exact⟨_,_,_,rfl⟩
   ·unfold L3.mJ;split
    ·exact⟨_,_,_,rfl⟩
    ·exact⟨_,_,_,rfl⟩
 obtain⟨a,b,c,h⟩:=h;have e:fy s=c:=by unfold fy;rw [h];rfl
 exact⟨a,b,by rw [h,e]⟩
def nC (k:Int) (nm:List UInt8):Int:=if k=10 then fy nm else if k=21 then(if L2.fk nm then 0 else 4)else(if nm= [] then 0 else 4)
theorem nx (nm:List UInt8):(bs nm).toList.isEmpty=decide (nm= []):=by
 rw [ByteArray.toList_eq,dz]
 cases nm <;> simp
theorem GL (id n ty pl:Int) (ar tt:List Int) (nm:List UInt8) (ao to:Option Addr) (ca ct:Nat) (w:World) (ht:Tb w):Calls Tryz.prog 119 #[.agg #[.int .i64 10,.int .i64 id,.int .i64 n,.int .i64 ty,.slice ao ar.length ca,.slice to tt.length ct,.string (bs nm),.int .i64 pl]] w fun e w'=>e= .returned (.int .i64 (nC 10 nm))∧Below w.heap.size w w':=by
 have b0:=ah w (.cells #[.int .i64 10,.int .i64 id,.int .i64 n,.int .i64 ty,.slice ao ar.length ca,.slice to tt.length ct,.string (bs nm),.int .i64 pl] 47);have H0:=ae (heap_alloc_new w (.cells #[.int .i64 10,.int .i64 id,.int .i64 n,.int .i64 ty,.slice ao ar.length ca,.slice to tt.length ct,.string (bs nm),.int .i64 pl] 47));have B0:=ae b0;have hz0:(w.alloc (.cells #[.int .i64 10,.int .i64 id,.int .i64 n,.int .i64 ty,.slice ao ar.length ca,.slice to tt.length ct,.string (bs nm),.int .i64 pl] 47)).heap.size > w.heap.size:=by simp
 have T0:=ae (ht.below b0);clear ht;clear b0;go_enter Tryz.func119,Tryz.ntmps119
 go_upto_region 1 with fail
 show Code.wp _ _ _ _ (w.alloc (.cells #[.int .i64 10,.int .i64 id,.int .i64 n,.int .i64 ty,.slice ao ar.length ca,.slice to tt.length ct,.string (bs nm),.int .i64 pl] 47));generalize w.alloc (.cells #[.int .i64 10,.int .i64 id,.int .i64 n,.int .i64 ty,.slice ao ar.length ca,.slice to tt.length ct,.string (bs nm),.int .i64 pl] 47)=W at *;obtain⟨c0,c1,c2,c3,c4,c5,c6,c7⟩:=ij H0.out;obtain⟨a,b,hS⟩:=wg nm;have HS:=ae hS;have HC:Hid (fy nm=nC 10 nm):=ae rfl;have hE:=nx nm;clear hS;go_wp2_with fail
 refine(L3.Br (bs nm) W T0.out.2.1).mono ?_;rintro e w1 ⟨rfl,b1⟩;rw [HS.out];have B1:=ae b1;clear b1;generalize fy nm=z at *;go_wp2_with fail
 go_ret;exact⟨L5.aI HC.out,B0.out.trans ((B1.out.trans ((ah w1 _).mono B1.out.size)).mono (by omega))⟩
theorem GK (id n ty pl:Int) (ar tt:List Int) (nm:List UInt8) (ao to:Option Addr) (ca ct:Nat) (w:World) (hl:nm.length≤maxLen):Calls Tryz.prog 119 #[.agg #[.int .i64 21,.int .i64 id,.int .i64 n,.int .i64 ty,.slice ao ar.length ca,.slice to tt.length ct,.string (bs nm),.int .i64 pl]] w fun e w'=>e= .returned (.int .i64 (nC 21 nm))∧Below w.heap.size w w':=by
 have hsz:(bs nm).size≤maxLen:=by rw [aY];exact hl
 have b0:=ah w (.cells #[.int .i64 21,.int .i64 id,.int .i64 n,.int .i64 ty,.slice ao ar.length ca,.slice to tt.length ct,.string (bs nm),.int .i64 pl] 47);have H0:=ae (heap_alloc_new w (.cells #[.int .i64 21,.int .i64 id,.int .i64 n,.int .i64 ty,.slice ao ar.length ca,.slice to tt.length ct,.string (bs nm),.int .i64 pl] 47));have B0:=ae b0;have hz0:(w.alloc (.cells #[.int .i64 21,.int .i64 id,.int .i64 n,.int .i64 ty,.slice ao ar.length ca,.slice to tt.length ct,.string (bs nm),.int .i64 pl] 47)).heap.size > w.heap.size:=by simp
 clear b0;go_enter Tryz.func119,Tryz.ntmps119
 go_upto_region 1 with fail
 show Code.wp _ _ _ _ (w.alloc (.cells #[.int .i64 21,.int .i64 id,.int .i64 n,.int .i64 ty,.slice ao ar.length ca,.slice to tt.length ct,.string (bs nm),.int .i64 pl] 47));generalize w.alloc (.cells #[.int .i64 21,.int .i64 id,.int .i64 n,.int .i64 ty,.slice ao ar.length ca,.slice to tt.length ct,.string (bs nm),.int .i64 pl] 47)=W at *;obtain⟨c0,c1,c2,c3,c4,c5,c6,c7⟩:=ij H0.out;have HC:Hid (∀r,L2.fk nm=r→(if r then(0:Int)else 4)=nC 21 nm):=ae fun r h=>by rw [←h];rfl
 have hE:=nx nm;go_wp2_with fail
 refine(L2.vj (bs nm) W hsz).mono ?_;rintro e w1 ⟨rfl,b1⟩;rw [dz];have B1:=ae b1;clear b1
 cases hb:L2.fk nm with
 |true=>
  have HC1:=ae (HC.out true hb);go_wp2_with fail
  go_ret;exact⟨L5.aI HC1.out,af B0.out B1.out⟩
 |false=>
  have HC1:=ae (HC.out false hb);go_wp2_with fail
  go_ret;exact⟨L5.aI HC1.out,af B0.out B1.out⟩
theorem yR (k:Int) (h10:k≠10) (h21:k≠21) (id n ty pl:Int) (ar tt:List Int) (nm:List UInt8) (ao to:Option Addr) (ca ct:Nat) (w:World):Calls Tryz.prog 119 #[.agg #[.int .i64 k,.int .i64 id,.int .i64 n,.int .i64 ty,.slice ao ar.length ca,.slice to tt.length ct,.string (bs nm),.int .i64 pl]] w fun e w'=>e= .returned (.int .i64 (nC k nm))∧Below w.heap.size w w':=by
 have HC:Hid ((if nm= [] then(0:Int)else 4)=nC k nm):=ae (by unfold nC;rw [if_neg h10,if_neg h21]);have e10:(k == 10)=false:=by simpa using h10
 have e21:(k == 21)=false:=by simpa using h21
 clear h10 h21;have b0:=ah w (.cells #[.int .i64 k,.int .i64 id,.int .i64 n,.int .i64 ty,.slice ao ar.length ca,.slice to tt.length ct,.string (bs nm),.int .i64 pl] 47);have H0:=ae (heap_alloc_new w (.cells #[.int .i64 k,.int .i64 id,.int .i64 n,.int .i64 ty,.slice ao ar.length ca,.slice to tt.length ct,.string (bs nm),.int .i64 pl] 47));have B0:=ae b0;have hz0:(w.alloc (.cells #[.int .i64 k,.int .i64 id,.int .i64 n,.int .i64 ty,.slice ao ar.length ca,.slice to tt.length ct,.string (bs nm),.int .i64 pl] 47)).heap.size > w.heap.size:=by simp
 clear b0;go_enter Tryz.func119,Tryz.ntmps119
 go_upto_region 1 with fail
 show Code.wp _ _ _ _ (w.alloc (.cells #[.int .i64 k,.int .i64 id,.int .i64 n,.int .i64 ty,.slice ao ar.length ca,.slice to tt.length ct,.string (bs nm),.int .i64 pl] 47));generalize w.alloc (.cells #[.int .i64 k,.int .i64 id,.int .i64 n,.int .i64 ty,.slice ao ar.length ca,.slice to tt.length ct,.string (bs nm),.int .i64 pl] 47)=W at *;obtain⟨c0,c1,c2,c3,c4,c5,c6,c7⟩:=ij H0.out;by_cases hn:nm= []
 ·have HC1:=ae ((if_pos hn).symm.trans HC.out);have hE:(bs nm).toList.isEmpty=true:=by rw [nx];simpa using hn
  clear hn HC;go_wp2_with fail
  go_ret;exact⟨L5.aI HC1.out,B0.out⟩
 ·have HC1:=ae ((if_neg hn).symm.trans HC.out);have hE:(bs nm).toList.isEmpty=false:=by rw [nx];simpa using hn
  clear hn HC;go_wp2_with fail
  go_ret;exact⟨L5.aI HC1.out,B0.out⟩
theorem C8 (k:Int) (id n ty pl:Int) (ar tt:List Int) (nm:List UInt8) (ao to:Option Addr) (ca ct:Nat) (w:World) (ht:Tb w) (hl:nm.length≤maxLen):Calls Tryz.prog 119 #[.agg #[.int .i64 k,.int .i64 id,.int .i64 n,.int .i64 ty,.slice ao ar.length ca,.slice to tt.length ct,.string (bs nm),.int .i64 pl]] w fun e w'=>e= .returned (.int .i64 (nC k nm))∧Below w.heap.size w w':=by
 by_cases h10:k=10
 ·subst h10;exact GL id n ty pl ar tt nm ao to ca ct w ht
 by_cases h21:k=21
 ·subst h21;exact GK id n ty pl ar tt nm ao to ca ct w hl
 exact yR k h10 h21 id n ty pl ar tt nm ao to ca ct w
def aJ (x:Ins):Int:=
 if(kh x.1 && L5.may x.1 x.2.2.2.1)=false then 2
 else if iE x.1 x.2.1 x.2.2.2.1=false then 8
 else if eU x.1 x.2.2.2.2.1.length x.2.2.2.2.2.1.length=false then 13
 else if kf x.1 x.2.2.1=false then 18
 else if x.2.2.2.2.1.any (byd 1048576)=true then 8
 else if x.2.2.2.2.2.1.any (byd 255)=true then 7
 else nC x.1 x.2.2.2.2.2.2.1
theorem pM {w w':World} {o:Obj} (h:Below (w.drew.alloc o).heap.size (w.drew.alloc o) w'):Below w.heap.size w w':=af (sT w (o:=o)) h
theorem Cf (k id n ty pl:Int) (ar tt:List Int) (nm:List UInt8) (ao to:Option Addr) (ca ct:Nat) (w:World) (hs1:Sl w ao ar) (hs2:Sl w to tt) (hL:ar.length≤maxLen∧tt.length≤maxLen) (hn:I64 n) (ht:Tb w) (hl:nm.length≤maxLen):
  Calls Tryz.prog 91 #[.agg #[.int .i64 k,.int .i64 id,.int .i64 n,.int .i64 ty,.slice ao ar.length ca,.slice to tt.length ct,.string (bs nm),.int .i64 pl]] w fun e w'=>e= .returned (.int .i64 (aJ (k,id,n,ty,ar,tt,nm,pl)))∧Below w.heap.size w w':=by
 have b0:=ah w (.cells #[.int .i64 k,.int .i64 id,.int .i64 n,.int .i64 ty,.slice ao ar.length ca,.slice to tt.length ct,.string (bs nm),.int .i64 pl] 47);have H0:=ae (heap_alloc_new w (.cells #[.int .i64 k,.int .i64 id,.int .i64 n,.int .i64 ty,.slice ao ar.length ca,.slice to tt.length ct,.string (bs nm),.int .i64 pl] 47));have A0:=ae (hs1.below b0);have U0:=ae (hs2.below b0);have T0:=ae (ht.below b0);have B0:=ae b0;have hz0:(w.alloc (.cells #[.int .i64 k,.int .i64 id,.int .i64 n,.int .i64 ty,.slice ao ar.length ca,.slice to tt.length ct,.string (bs nm),.int .i64 pl] 47)).heap.size > w.heap.size:=by simp
 have HL:=ae hL;have HN:=ae hn;have Hl:=ae hl;clear b0 hs1 hs2 ht hL hn hl;go_enter Tryz.func91,Tryz.ntmps91
 go_upto_region 1 with fail
 show Code.wp _ _ _ _ (w.alloc (.cells #[.int .i64 k,.int .i64 id,.int .i64 n,.int .i64 ty,.slice ao ar.length ca,.slice to tt.length ct,.string (bs nm),.int .i64 pl] 47));generalize w.alloc (.cells #[.int .i64 k,.int .i64 id,.int .i64 n,.int .i64 ty,.slice ao ar.length ca,.slice to tt.length ct,.string (bs nm),.int .i64 pl] 47)=W at *;obtain⟨c0,c1,c2,c3,c4,c5,c6,c7⟩:=ij H0.out;go_wp2_with fail
 refine(rj k W).mono ?_;rintro e w1 ⟨rfl,rfl⟩
 cases ho:kh k with
 |false=>
  have HC:Hid ((2:Int)=aJ (k,id,n,ty,ar,tt,nm,pl)):=ae (by unfold aJ;rw [if_pos (by dsimp only;rw [ho];rfl)]);replace ho:=ae ho;go_wp2_with fail
  go_ret;exact⟨L5.aI HC.out,af B0.out (Below.refl _ _)⟩
 |true=>
 replace ho:=ae ho;go_wp2_with fail
 refine(L5.Hy k ty _).mono ?_;rintro e w1 ⟨rfl,rfl⟩
 cases hm:L5.may k ty with
 |false=>
  have HC:Hid ((2:Int)=aJ (k,id,n,ty,ar,tt,nm,pl)):=ae (by unfold aJ;rw [if_pos (by dsimp only;rw [hm,Bool.and_false])]);replace hm:=ae hm;go_wp2_with fail
  go_ret;exact⟨L5.aI HC.out,af B0.out (Below.refl _ _)⟩
 |true=>
 have HF1:Hid (¬((kh k && L5.may k ty)=false)):=ae (by rw [ho.out,hm];simp);replace hm:=ae hm;go_wp2_with fail
 refine(tS k id n ty pl ar tt nm ao to ca ct _ T0.out.2.2).mono ?_;rintro e w2 ⟨rfl,b2⟩;have B2:=ae b2;clear b2
 cases hq:iE k id ty with
 |false=>
  have HC:Hid ((8:Int)=aJ (k,id,n,ty,ar,tt,nm,pl)):=ae (by unfold aJ;rw [if_neg HF1.out,if_pos hq]);replace hq:=ae hq;go_wp2_with fail
  go_ret;exact⟨L5.aI HC.out,af B0.out B2.out⟩
 |true=>
 have HF2:Hid (¬(iE k id ty=false)):=ae (by rw [hq];simp);replace hq:=ae hq;clear c0 c1 c2 c3 c4 c5 c6 c7;obtain⟨c0,c1,c2,c3,c4,c5,c6,c7⟩:=ij ((B2.out.block _ (by omega)).trans H0.out);go_wp2_with fail
 refine(vB k id n ty pl ar tt nm ao to ca ct _ HL.out (T0.out.2.2.below B2.out)).mono ?_;rintro e w3 ⟨rfl,b3⟩;have B3:=ae (af B2.out b3);clear b3
 cases hc:eU k ar.length tt.length with
 |false=>
  have HC:Hid ((13:Int)=aJ (k,id,n,ty,ar,tt,nm,pl)):=ae (by unfold aJ;rw [if_neg HF1.out,if_neg HF2.out,if_pos hc]);replace hc:=ae hc;go_wp2_with fail
  go_ret;exact⟨L5.aI HC.out,af B0.out B3.out⟩
 |true=>
 have HF3:Hid (¬(eU k ar.length tt.length=false)):=ae (by rw [hc];simp);replace hc:=ae hc;clear c0 c1 c2 c3 c4 c5 c6 c7;obtain⟨c0,c1,c2,c3,c4,c5,c6,c7⟩:=ij ((B3.out.block _ (by omega)).trans H0.out);go_wp2_with fail
 refine(yV k id n ty pl ar tt nm ao to ca ct _ HN.out).mono ?_;rintro e w4 ⟨rfl,b4⟩;have B4:=ae (af B3.out b4);clear b4
 cases hr:kf k n with
 |false=>
  have HC:Hid ((18:Int)=aJ (k,id,n,ty,ar,tt,nm,pl)):=ae (by unfold aJ;rw [if_neg HF1.out,if_neg HF2.out,if_neg HF3.out,if_pos hr]);replace hr:=ae hr;go_wp2_with fail
  go_ret;exact⟨L5.aI HC.out,af B0.out B4.out⟩
 |true=>
 have HF4:Hid (¬(kf k n=false)):=ae (by rw [hr];simp);replace hr:=ae hr;clear c0 c1 c2 c3 c4 c5 c6 c7;obtain⟨c0,c1,c2,c3,c4,c5,c6,c7⟩:=ij ((B4.out.block _ (by omega)).trans H0.out);have hcl4:w.heap.size < w4.heap.size:=Nat.lt_of_lt_of_le hz0 B4.out.size;have AW4:Hid (Sl (w4.alloc (.cells #[.int .i64 1048576] 3)) ao ar):=ae (A0.out.below (af B4.out (ah w4 _)));have GW4:Hid ((w4.alloc (.cells #[.int .i64 1048576] 3)).cell? ⟨w4.heap.size,0,none⟩=some (.int .i64 1048576)):=ae (by simp [go_sem]);have hgw4:Hid (w4.heap.size < (w4.alloc (.cells #[.int .i64 1048576] 3)).heap.size):=ae (by simp);have hcw4:Hid (w.heap.size < (w4.alloc (.cells #[.int .i64 1048576] 3)).heap.size):=ae (by simp;omega);have d4:(w4.alloc (.cells #[.int .i64 1048576] 3)).cell? ⟨w.heap.size,4,none⟩=some (.slice ao ar.length ca):=((ah w4 _).cell (p:=⟨w.heap.size,4,none⟩) hcl4).trans c4;go_wp2_with fail
 go_region_held3 (fun w'=>w'.cell? ⟨w.heap.size,4,none⟩=some (.slice ao ar.length ca))
  (first
   |(go_keep;done)
   |assumption)
  ((first
   |(go_at_call 118;refine(mG 1048576 _).mono ?_;rintro e wx ⟨rfl,rfl⟩)
   |(go_at_call 89;refine(lZ 1048576 ar ao ca w4.heap.size _ ?_ ?_ ?_ HL.out.1).mono ?_;exact AW4.out;exact hgw4.out;exact GW4.out;rintro e w6 ⟨rfl,bw6⟩;have d4x:w6.cell? ⟨w.heap.size,4,none⟩=some (.slice ao ar.length ca):=(bw6.cell (p:=⟨w.heap.size,4,none⟩) hcw4.out).trans d4;have Bw6:=ae (af B4.out (pM bw6));clear bw6)))
 all_goals
  cases hx:ar.any (byd 1048576)with
  |true=>
   have HC:Hid ((8:Int)=aJ (k,id,n,ty,ar,tt,nm,pl)):=ae (by unfold aJ;rw [if_neg HF1.out,if_neg HF2.out,if_neg HF3.out,if_neg HF4.out,if_pos hx]);replace hx:=ae hx;go_wp2_with fail
   go_ret;exact⟨L5.aI HC.out,af B0.out Bw6.out⟩
  |false=>
   have HF5:Hid (¬(ar.any (byd 1048576)=true)):=ae (by rw [hx];simp);replace hx:=ae hx;clear c0 c1 c2 c3 c4 c5 c6 c7;obtain⟨c0,c1,c2,c3,c4,c5,c6,c7⟩:=ij ((Bw6.out.block _ (by omega)).trans H0.out);have hcl5:w.heap.size < w6.heap.size:=Nat.lt_of_lt_of_le hz0 Bw6.out.size;have AW5:Hid (Sl (w6.alloc (.cells #[.int .i64 255] 3)) to tt):=ae (U0.out.below (af Bw6.out (ah w6 _)));have GW5:Hid ((w6.alloc (.cells #[.int .i64 255] 3)).cell? ⟨w6.heap.size,0,none⟩=some (.int .i64 255)):=ae (by simp [go_sem]);have hgw5:Hid (w6.heap.size < (w6.alloc (.cells #[.int .i64 255] 3)).heap.size):=ae (by simp);have hcw5:Hid (w.heap.size < (w6.alloc (.cells #[.int .i64 255] 3)).heap.size):=ae (by simp;omega);have d5:(w6.alloc (.cells #[.int .i64 255] 3)).cell? ⟨w.heap.size,5,none⟩=some (.slice to tt.length ct):=((ah w6 _).cell (p:=⟨w.heap.size,5,none⟩) hcl5).trans c5;go_wp2_with fail
   go_region_held3 (fun w'=>w'.cell? ⟨w.heap.size,5,none⟩=some (.slice to tt.length ct))
    (first
     |(go_keep;done)
     |assumption)
    ((first
     |(go_at_call 118;refine(mG 255 _).mono ?_;rintro e wx ⟨rfl,rfl⟩)
     |(go_at_call 89;refine(lZ 255 tt to ct w6.heap.size _ ?_ ?_ ?_ HL.out.2).mono ?_;exact AW5.out;exact hgw5.out;exact GW5.out;rintro e w8 ⟨rfl,bw8⟩;have d5x:w8.cell? ⟨w.heap.size,5,none⟩=some (.slice to tt.length ct):=(bw8.cell (p:=⟨w.heap.size,5,none⟩) hcw5.out).trans d5;have Bw8:=ae (af Bw6.out (pM bw8));clear bw8)))
   all_goals
    cases hy:tt.any (byd 255)with
    |true=>
     have HC:Hid ((7:Int)=aJ (k,id,n,ty,ar,tt,nm,pl)):=ae (by unfold aJ;rw [if_neg HF1.out,if_neg HF2.out,if_neg HF3.out,if_neg HF4.out,if_neg HF5.out,if_pos hy]);replace hy:=ae hy;go_wp2_with fail
     go_ret;exact⟨L5.aI HC.out,af B0.out Bw8.out⟩
    |false=>
     have HC:Hid (nC k nm=aJ (k,id,n,ty,ar,tt,nm,pl)):=ae (by unfold aJ;rw [if_neg HF1.out,if_neg HF2.out,if_neg HF3.out,if_neg HF4.out,if_neg HF5.out,if_neg (by rw [hy];simp)]);replace hy:=ae hy;clear c0 c1 c2 c3 c4 c5 c6 c7;obtain⟨c0,c1,c2,c3,c4,c5,c6,c7⟩:=ij ((Bw8.out.block _ (by omega)).trans H0.out);go_wp2_with fail
     refine(C8 k id n ty pl ar tt nm ao to ca ct _ (T0.out.below Bw8.out) Hl.out).mono ?_;rintro e w9 ⟨rfl,b9⟩;generalize nC k nm=z at *;go_wp2_with fail
     go_ret;exact⟨L5.aI HC.out,af B0.out (af Bw8.out b9)⟩
theorem Bx (x:Ins) (v:Value) (w:World) (h:lT w x v) (hn:I64 x.2.2.1) (ht:Tb w) (hl:x.2.2.2.2.2.2.1.length≤maxLen):Calls Tryz.prog 91 #[v] w fun e w'=>e= .returned (.int .i64 (aJ x))∧Below w.heap.size w w':=by
 obtain⟨k,id,n,ty,ar,tt,nm,pl⟩:=x;obtain⟨ao,to,ca,ct,rfl,h1,h2,h3,h4,h5,h6⟩:=h;exact Cf k id n ty pl ar tt nm ao to ca ct w h1 h2 ⟨Nat.le_trans h3 h4,Nat.le_trans h5 h6⟩ hn ht hl
def gF (t:Int):Bool:=decide (t=1) || decide (t=2)
theorem ml (t:Int) (w:World):Calls Tryz.prog 88 #[.int .i64 t] w fun e w'=>e= .returned (.bool (gF t))∧w'=w:=by
 by_cases h1:t=1
 ·have HB:Hid (true=gF t):=ae (by simp [gF,h1]);have e1:(t == 1)=true:=by simpa using h1
  clear h1;go_enter Tryz.func88,Tryz.ntmps88
  go_wp2_with fail
  go_ret;exact⟨L5.aw HB.out,rfl⟩
 ·have e1:(t == 1)=false:=by simpa using h1
  by_cases h2:t=2
  ·have HB:Hid (true=gF t):=ae (by simp [gF,h2]);have e2:(t == 2)=true:=(by simpa using h2);clear h1 h2;go_enter Tryz.func88,Tryz.ntmps88
   go_wp2_with fail
   go_ret;exact⟨L5.aw HB.out,rfl⟩
  ·have HB:Hid (false=gF t):=ae (by simp [gF,h1,h2]);have e2:(t == 2)=false:=(by simpa using h2);clear h1 h2;go_enter Tryz.func88,Tryz.ntmps88
   go_wp2_with fail
   go_ret;exact⟨L5.aw HB.out,rfl⟩
theorem A9 (t:Int) (w:World):Calls Tryz.prog 90 #[.int .i64 t] w fun e w'=>e= .returned (.bool (!gF t))∧w'=w:=by
 go_enter Tryz.func90,Tryz.ntmps90
 go_wp2_with fail
 refine(ml t w).mono ?_;rintro e w1 ⟨rfl,rfl⟩
 cases hb:gF t with
 |true=>
  replace hb:=ae hb;go_wp2_with fail
  go_ret;exact⟨L5.aw (by rw [hb.out];rfl),rfl⟩
 |false=>
  replace hb:=ae hb;go_wp2_with fail
  go_ret;exact⟨L5.aw (by rw [hb.out];rfl),rfl⟩
def firstP:List Int→Int→Int
 |[],_=> -1
 |t :: r,k=>if(!gF t)then k else firstP r (k+1)
theorem xI (xs:List Int) (k:Nat) (t:Int) (h:xs[k]? =some t):firstP (xs.drop k) k=if(!gF t)then(k:Int)else firstP (xs.drop (k+1)) ((k+1:Nat):Int):=by
 have:xs.drop k=t :: xs.drop (k+1):=by
  obtain⟨h1,h2⟩:=List.getElem?_eq_some_iff.1 h;rw [List.drop_eq_getElem_cons h1,h2]
 rw [this];rfl
theorem yQ (l:List Int):∀k:Int,0≤k→(l.any (fun t=> !gF t)=true→0≤firstP l k)∧(l.any (fun t=> !gF t)=false→firstP l k= -1):=by
 induction l with
 |nil=>intro k _;simp [firstP]
 |cons t r ih=>
  intro k hk;rw [firstP,List.any_cons]
  cases hb:gF t with
  |false=>simp;exact hk
  |true=>simpa using ih (k+1) (by omega)
theorem y9 (xs:List Int) (ao:Option Addr) (c:Nat) (w:World) (hs:Sl w ao xs) (hm:xs.length≤maxLen):
  Calls Tryz.prog 112 #[.slice ao xs.length c,.func (Fn.func 90) #[] #[]] w fun e w'=>e= .returned (.int .i64 (firstP xs 0))∧Below w.heap.size w w':=by
 have X:=ae hs;unfold maxLen at hm;clear hs;go_enter Tryz.func112,Tryz.ntmps112
 go_wp2_with fail
 go_loopw [8] (fun i wr=>∃k:Nat,i= .int .i64 k∧k≤xs.length∧Below w.heap.size w wr∧Hid (firstP xs 0=firstP (xs.drop k) k)) (fun i _=>xs.length - (intOf i).toNat)
 case atStart=>exact⟨0,rfl,Nat.zero_le _,Below.refl _ _,rfl⟩
 case round=>
  obtain⟨k,rfl,hk,HB,HF⟩:=hrel;have HB:=ae HB;by_cases hlt:k < xs.length
  ·obtain⟨t,ht⟩:∃t,xs[k]? =some t:=⟨xs[k],List.getElem?_eq_getElem hlt⟩;have HS:=ae (HF.out.trans (xI xs k t ht));rcases X.out with he | ⟨b,o,rfl,hb,hc⟩
   ·subst he;simp at hlt
   have hcell:wr.cell? ⟨b,o+k,none⟩=some (.int .i64 t):=(HB.out.cell (p:=⟨b,o+k,none⟩) hb).trans (hc k t ht);have hlt':(k:Int) < xs.length:=(by omega);clear hc ht;go_wp2_with fail
   refine(A9 t _).mono ?_;rintro e w1 ⟨rfl,rfl⟩
   cases hbt:gF t with
   |false=>
    have HE:=ae (HS.out.trans (if_pos (by simp [hbt])));replace hbt:=ae hbt;go_wp2_with fail
    go_ret;exact⟨by rw [HE.out];rfl,HB.out⟩
   |true=>
    have HE:=ae (HS.out.trans (if_neg (by simp [hbt])));replace hbt:=ae hbt;go_wp2_with fail
    go_roundw
    case rel=>exact⟨k+1,by go_num,by omega,HB.out,HE.out⟩
    case measure=>simp [intOf];omega
  ·have hk2:k=xs.length:=(by omega);subst hk2;have HE:=ae (HF.out.trans (by rw [List.drop_length];rfl:_=(-1:Int)));go_wp2_with fail
   go_ret;exact⟨by rw [HE.out];rfl,HB.out⟩
def km (ps:List Int):Bool:=ps.any fun t=> !gF t
theorem lX (xs:List Int) (ao:Option Addr) (c:Nat) (w:World) (hs:Sl w ao xs) (hm:xs.length≤maxLen):
  Calls Tryz.prog 89 #[.slice ao xs.length c,.func (Fn.func 90) #[] #[]] w fun e w'=>e= .returned (.bool (km xs))∧Below w.heap.size w w':=by
 obtain⟨f1,f2⟩:=yQ xs 0 (Int.le_refl 0);have X:=ae hs;have F1:=ae f1;have F2:=ae f2;clear hs f1 f2;go_enter Tryz.func89,Tryz.ntmps89
 go_wp2_with fail
 refine(y9 xs ao c _ X.out hm).mono ?_;rintro e w1 ⟨rfl,b1⟩
 cases hb:km xs with
 |true=>
  have h1:=F1.out hb;replace hb:=ae hb;generalize firstP xs 0=r at *;clear F1 F2;go_wp2_with fail
  go_ret;exact⟨L5.aw hb.out.symm,b1⟩
 |false=>
  have h1:=F2.out hb;rw [h1];replace hb:=ae hb;clear F1 F2 h1;go_wp2_with fail
  go_ret;exact⟨L5.aw hb.out.symm,b1⟩
def bZ (f:Fun):Int:=
 if 8 < f.2.1.length∨256 < f.2.2.2.1.length then 6
 else if L2.fk f.1=false then 4
 else if(f.2.2.1 < 0∨2 < f.2.2.1)∨km f.2.1=true then 9
 else 0
theorem Fm (nm:List UInt8) (ps:List Int) (rt pl:Int) (bl:List (List Ins)) (ao bo:Option Addr) (c cb:Nat) (w:World) (hs:Sl w ao ps) (hL:ps.length≤maxLen∧bl.length≤maxLen) (hl:nm.length≤maxLen):
  Calls Tryz.prog 62 #[.agg #[.string (bs nm),.slice ao ps.length c,.int .i64 rt,.slice bo bl.length cb,.int .i64 pl]] w fun e w'=>e= .returned (.int .i64 (bZ (nm,ps,rt,bl,pl)))∧Below w.heap.size w w':=by
 have b0:=ah w (.cells #[.string (bs nm),.slice ao ps.length c,.int .i64 rt,.slice bo bl.length cb,.int .i64 pl] 36);have H0:=ae (heap_alloc_new w (.cells #[.string (bs nm),.slice ao ps.length c,.int .i64 rt,.slice bo bl.length cb,.int .i64 pl] 36));have A0:=ae (hs.below b0);have B0:=ae b0;have hz0:(w.alloc (.cells #[.string (bs nm),.slice ao ps.length c,.int .i64 rt,.slice bo bl.length cb,.int .i64 pl] 36)).heap.size > w.heap.size:=by simp
 have HSZ:Hid ((bs nm).size≤maxLen):=ae (by rw [aY];exact hl);obtain⟨hLa,hLt⟩:=hL;have HL:=ae hLa;unfold maxLen at hLa hLt;clear b0 hs hl;go_enter Tryz.func62,Tryz.ntmps62
 go_upto_region 1 with fail
 show Code.wp _ _ _ _ (w.alloc (.cells #[.string (bs nm),.slice ao ps.length c,.int .i64 rt,.slice bo bl.length cb,.int .i64 pl] 36));generalize w.alloc (.cells #[.string (bs nm),.slice ao ps.length c,.int .i64 rt,.slice bo bl.length cb,.int .i64 pl] 36)=W at *;obtain⟨c0,c1,c2,c3,c4⟩:=jJ H0.out;by_cases h8:8 < ps.length
 ·have HC:Hid ((6:Int)=bZ (nm,ps,rt,bl,pl)):=ae (by unfold bZ;rw [if_pos (.inl h8)]);have h8':(8:Int) < ps.length:=by omega
  go_wp2_with fail
  go_ret;exact⟨L5.aI HC.out,B0.out⟩
 have h8':¬(8:Int) < ps.length:=by omega
 by_cases h256:256 < bl.length
 ·have HC:Hid ((6:Int)=bZ (nm,ps,rt,bl,pl)):=ae (by unfold bZ;rw [if_pos (.inr h256)]);have h256':(256:Int) < bl.length:=by omega
  go_wp2_with fail
  go_ret;exact⟨L5.aI HC.out,B0.out⟩
 have h256':¬(256:Int) < bl.length:=by omega
 have HF1:Hid (¬(8 < ps.length∨256 < bl.length)):=ae (by omega);go_wp2_with fail
 refine(L2.vj (bs nm) W HSZ.out).mono ?_;rintro e w1 ⟨rfl,b1⟩;rw [dz];have B1:=ae b1;clear b1
 cases hb:L2.fk nm with
 |false=>
  have HC:Hid ((4:Int)=bZ (nm,ps,rt,bl,pl)):=ae (by unfold bZ;rw [if_neg HF1.out,if_pos hb]);replace hb:=ae hb;go_wp2_with fail
  go_ret;exact⟨L5.aI HC.out,af B0.out B1.out⟩
 |true=>
 have HF2:Hid (¬(L2.fk nm=false)):=ae (by rw [hb];simp);replace hb:=ae hb;clear c0 c1 c2 c3 c4;obtain⟨c0,c1,c2,c3,c4⟩:=jJ ((B1.out.block _ (by omega)).trans H0.out);have HRT:Hid ((rt=0∨(rt≠0∧gF rt=true))∧¬(rt < 0∨2 < rt)∨(rt≠0∧gF rt=false)∧(rt < 0∨2 < rt)):=ae (by
  by_cases h0:rt=0
  ·exact .inl ⟨.inl h0,by omega⟩
  ·by_cases h1:rt=1∨rt=2
   ·refine .inl ⟨.inr ⟨h0,?_⟩,by omega⟩;rcases h1 with h1 | h1 <;> simp [gF,h1]
   ·refine .inr ⟨⟨h0,?_⟩,by omega⟩;have h2:rt≠1:=fun h=>h1 (.inl h);have h3:rt≠2:=fun h=>h1 (.inr h);simp [gF,h2,h3])
 rcases HRT.out with ⟨hr,hr2⟩ | ⟨⟨hr,hr1⟩,hr2⟩;rotate_left
 ·have HC:Hid ((9:Int)=bZ (nm,ps,rt,bl,pl)):=ae (by unfold bZ;rw [if_neg HF1.out,if_neg HF2.out,if_pos (.inl hr2)]);have hr3:(rt != 0)=true:=by simpa using hr
  replace hr1:=ae hr1;clear HRT hr hr2;go_wp2_with fail
  refine(ml rt _).mono ?_;rintro e w2 ⟨rfl,hw2⟩;rw [hw2,hr1.out];clear hw2;go_wp2_with fail
  go_ret;exact⟨L5.aI HC.out,af B0.out B1.out⟩
 have HRE:Hid (∀r,km ps=r→(if r then(9:Int)else 0)=bZ (nm,ps,rt,bl,pl)):=ae fun r h=>by
  unfold bZ;rw [if_neg HF1.out,if_neg HF2.out]
  cases r with
  |true=>exact(if_pos (Or.inr h)).symm
  |false=>exact(if_neg (fun h2=>by
    rcases h2 with h2 | h2
    ·exact hr2 h2
    ·rw [show km ps=false from h] at h2;cases h2)).symm
 replace hr2:=ae hr2;clear HRT;rcases hr with hr | ⟨hr,hr1⟩
 ·have hr3:(rt != 0)=false:=by simpa using hr
  replace hr:=ae hr;go_wp2_with fail
  refine(lX ps ao c _ (A0.out.below B1.out) HL.out).mono ?_;rintro e w3 ⟨rfl,b3⟩;have B3:=ae (af B1.out b3);clear b3
  cases hp:km ps with
  |true=>
   have HC:=ae (HRE.out true hp);replace hp:=ae hp;go_wp2_with fail
   go_ret;exact⟨L5.aI HC.out,af B0.out B3.out⟩
  |false=>
   have HC:=ae (HRE.out false hp);replace hp:=ae hp;go_wp2_with fail
   go_ret;exact⟨L5.aI HC.out,af B0.out B3.out⟩
 ·have hr3:(rt != 0)=true:=by simpa using hr
  replace hr1:=ae hr1;clear hr;go_wp2_with fail
  refine(ml rt _).mono ?_;rintro e w2 ⟨rfl,hw2⟩;rw [hw2,hr1.out];clear hw2;go_wp2_with fail
  refine(lX ps ao c _ (A0.out.below B1.out) HL.out).mono ?_;rintro e w3 ⟨rfl,b3⟩;have B3:=ae (af B1.out b3);clear b3
  cases hp:km ps with
  |true=>
   have HC:=ae (HRE.out true hp);replace hp:=ae hp;go_wp2_with fail
   go_ret;exact⟨L5.aI HC.out,af B0.out B3.out⟩
  |false=>
   have HC:=ae (HRE.out false hp);replace hp:=ae hp;go_wp2_with fail
   go_ret;exact⟨L5.aI HC.out,af B0.out B3.out⟩
def wI (x:Ins):Nat:=1+x.2.2.2.2.1.length / 4+x.2.2.2.2.2.1.length / 4+x.2.2.2.2.2.2.1.length / 30
def wB (b:List Ins):Nat:=(b.map wI).sum
def wBs (l:List (List Ins)):Nat:=(l.map wB).sum
def wF0 (f:Fun):Nat:=f.2.2.2.1.length+f.2.1.length+f.1.length / 30
def wF (f:Fun):Nat:=wF0 f+wBs f.2.2.2.1
def wFs (p:List Fun):Nat:=(p.map wF).sum
def total (p:List Fun):Nat:=p.length+wFs p
def ShI (x:Ins):Prop:=x.2.2.2.2.1.length≤140737488355328∧x.2.2.2.2.2.1.length≤140737488355328∧x.2.2.2.2.2.2.1.length≤140737488355328
def ShF (f:Fun):Prop:=f.1.length≤140737488355328∧f.2.1.length≤140737488355328∧f.2.2.2.1.length≤140737488355328∧∀b∈f.2.2.2.1,∀x∈b,ShI x
theorem pz {α:Type} (g:α→Nat) (l:List α) (j:Nat) (x:α) (h:l[j]? =some x):((l.take (j+1)).map g).sum=((l.take j).map g).sum+g x:=by
 rw [List.take_add_one,h];simp
theorem pj {α:Type} (g:α→Nat) (l:List α) (j:Nat):((l.take j).map g).sum≤(l.map g).sum:=by
 have:(l.map g).sum=((l.take j).map g).sum+((l.drop j).map g).sum:=by rw [←List.sum_append,←List.map_append,List.take_append_drop]
 omega
end Go.Proofs.YtljkgcfnoegibaaGreatDoor
