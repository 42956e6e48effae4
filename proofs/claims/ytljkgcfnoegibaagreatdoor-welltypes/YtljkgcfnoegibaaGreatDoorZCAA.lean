/- Texts of one chain, joined. -/
import Derived.Test.YtljkgcfnoegibaaGreatDoorZAAH
set_option maxHeartbeats 8000000
set_option maxRecDepth 20000
namespace Go.Proofs.YtljkgcfnoegibaaGreatDoor
open Go Go.RowKit
open G (Tok Er Ins Fun)
theorem tP (k:Int) (id n ty pl:Int) (ar tt:List Int) (nm:List UInt8) (ao to:Option Addr) (ca ct:Nat) (w:World) (hL:ar.length≤maxLen∧tt.length≤maxLen):Calls Tryz.prog 73 #[.agg #[.int .i64 k,.int .i64 id,.int .i64 n,.int .i64 ty,.slice ao ar.length ca,.slice to tt.length ct,.string (bs nm),.int .i64 pl]] w fun e w'=>e= .returned (.bool (eU k ar.length tt.length))∧Below w.heap.size w w':=by
 have HB:=ae (eU.eq_1 k ar.length tt.length).symm;obtain⟨la,lt⟩:=hL;unfold maxLen at la lt;have b0:=ah w (.cells #[.int .i64 k,.int .i64 id,.int .i64 n,.int .i64 ty,.slice ao ar.length ca,.slice to tt.length ct,.string (bs nm),.int .i64 pl] 47);have H0:=ae (heap_alloc_new w (.cells #[.int .i64 k,.int .i64 id,.int .i64 n,.int .i64 ty,.slice ao ar.length ca,.slice to tt.length ct,.string (bs nm),.int .i64 pl] 47));have B0:=ae b0;have hz0:(w.alloc (.cells #[.int .i64 k,.int .i64 id,.int .i64 n,.int .i64 ty,.slice ao ar.length ca,.slice to tt.length ct,.string (bs nm),.int .i64 pl] 47)).heap.size > w.heap.size:=by simp
 clear b0;go_enter Tryz.func73,Tryz.ntmps73
 go_upto_region 1 with fail
 show Code.wp _ _ _ _ (w.alloc (.cells #[.int .i64 k,.int .i64 id,.int .i64 n,.int .i64 ty,.slice ao ar.length ca,.slice to tt.length ct,.string (bs nm),.int .i64 pl] 47));generalize w.alloc (.cells #[.int .i64 k,.int .i64 id,.int .i64 n,.int .i64 ty,.slice ao ar.length ca,.slice to tt.length ct,.string (bs nm),.int .i64 pl] 47)=W at *;obtain⟨c0,c1,c2,c3,c4,c5,c6,c7⟩:=ij H0.out;by_cases hk:k=20∨k=21∨k=24∨k=26∨k=27∨k=28
 ·rcases hk with rfl | rfl | rfl | rfl | rfl | rfl
  all_goals
   generalize hA:ar.length=A at *;generalize hT:tt.length=T at *;have HA:=ae hA;have HT:=ae hT;clear hA hT;go_wp2_with fail
   all_goals
    go_ret;exact⟨L5.aw (by first | exact HB.out | (rw [←HB.out,Bool.eq_iff_iff];simp;done) | (rw [←HB.out,Bool.eq_iff_iff];simp;omega) | (rw [HA.out,HT.out];exact HB.out) | (rw [HA.out,HT.out,←HB.out,Bool.eq_iff_iff];simp;done) | (rw [HA.out,HT.out,←HB.out,Bool.eq_iff_iff];simp;omega)),B0.out⟩
 ·replace HB:Hid ((decide ((ar.length:Int)=tkN k) && decide ((tt.length:Int)=0))=eU k ar.length tt.length):=ae (by unfold eU;rw [if_neg (by omega),if_neg (by omega),if_neg (by omega),if_neg (by omega),if_neg (by omega),if_neg (by omega)]);have n20:(k == 20)=false:=by simp;omega
  have n21:(k == 21)=false:=by simp;omega
  have n24:(k == 24)=false:=by simp;omega
  have n26:(k == 26)=false:=by simp;omega
  have n27:(k == 27)=false:=by simp;omega
  have n28:(k == 28)=false:=by simp;omega
  clear hk;generalize hA:ar.length=A at *;generalize hT:tt.length=T at *;have HA:=ae hA;have HT:=ae hT;clear hA hT;go_wp2_with fail
  refine(L5.jC k W).mono ?_;rintro e w1 ⟨ao1,cap1,rfl,s1,b1⟩;have HTk:Hid ((L5.takes (L5.num k)).length=tkN k):=ae rfl;have htl:tkN k≤2:=by unfold tkN L5.takes;exact List.length_filter_le _ _
  have B1:=ae b1;rw [HTk.out];clear s1 b1;generalize tkN k=tk at *;go_wp2_with fail
  all_goals
   go_ret;exact⟨L5.aw (by first | exact HB.out | (rw [←HB.out,Bool.eq_iff_iff];simp;done) | (rw [←HB.out,Bool.eq_iff_iff];simp;omega) | (rw [HA.out,HT.out];exact HB.out) | (rw [HA.out,HT.out,←HB.out,Bool.eq_iff_iff];simp;done) | (rw [HA.out,HT.out,←HB.out,Bool.eq_iff_iff];simp;omega)),af B0.out B1.out⟩
theorem nB (p:Int):(!gF p)=true↔(p < 1∨2 < p):=by
 simp [gF];omega
theorem Bv (l:List Int) (j:Nat) (y:Int) (h:l[j]? =some y):km (l.take (j+1))=(km (l.take j) || !gF y):=by
 unfold km;rw [List.take_add_one,h];simp
theorem FB (l:List Int) (j:Nat) (y:Int) (h:l[j]? =some y) (hb:(!gF y)=true):km l=true:=by
 unfold km;rw [List.any_eq_true];exact⟨y,List.mem_of_getElem? h,hb⟩
def dY (i:Nat) (f:Fun):Int:=if 32≤i then 6 else bZ f
theorem Ce (i:Nat) (nm:List UInt8) (ps:List Int) (rt pl:Int) (bl:List (List Ins)) (ao bo:Option Addr) (c cb:Nat) (w:World) (hs:Sl w ao ps) (hL:ps.length≤maxLen∧bl.length≤maxLen) (hl:nm.length≤maxLen) (hi:i≤maxLen):
  Calls Tryz.prog 40 #[.agg #[.string (bs nm),.slice ao ps.length c,.int .i64 rt,.slice bo bl.length cb,.int .i64 pl],.int .i64 i] w fun e w'=>e= .returned (.int .i64 (dY i (nm,ps,rt,bl,pl)))∧Below w.heap.size w w':=by
 unfold maxLen at hi;have b0:=ah w (.cells #[.string (bs nm),.slice ao ps.length c,.int .i64 rt,.slice bo bl.length cb,.int .i64 pl] 36);have H0:=ae (heap_alloc_new w (.cells #[.string (bs nm),.slice ao ps.length c,.int .i64 rt,.slice bo bl.length cb,.int .i64 pl] 36));have A0:=ae (hs.below b0);have B0:=ae b0;have hz0:(w.alloc (.cells #[.string (bs nm),.slice ao ps.length c,.int .i64 rt,.slice bo bl.length cb,.int .i64 pl] 36)).heap.size > w.heap.size:=by simp
 have HSZ:Hid ((bs nm).size≤maxLen):=ae (by rw [aY];exact hl);obtain⟨hLa,hLt⟩:=hL;have HL:=ae hLa;unfold maxLen at hLa hLt;clear b0 hs hl;go_enter Tryz.func40,Tryz.ntmps40
 go_upto_region 1 with fail
 show Code.wp _ _ _ _ (w.alloc (.cells #[.string (bs nm),.slice ao ps.length c,.int .i64 rt,.slice bo bl.length cb,.int .i64 pl] 36));generalize w.alloc (.cells #[.string (bs nm),.slice ao ps.length c,.int .i64 rt,.slice bo bl.length cb,.int .i64 pl] 36)=W at *;obtain⟨c0,c1,c2,c3,c4⟩:=jJ H0.out;by_cases h32:32≤i
 ·have HC:Hid ((6:Int)=dY i (nm,ps,rt,bl,pl)):=ae (if_pos h32).symm;have h32':(32:Int)≤i:=by omega
  go_wp2_with fail
  go_ret;exact⟨L5.aI HC.out,B0.out⟩
 have HG:Hid (bZ (nm,ps,rt,bl,pl)=dY i (nm,ps,rt,bl,pl)):=ae (if_neg h32).symm;have h32':¬(32:Int)≤i:=by omega
 by_cases h8:8 < ps.length
 ·have HC:Hid ((6:Int)=dY i (nm,ps,rt,bl,pl)):=ae (by rw [←HG.out];unfold bZ;rw [if_pos (.inl h8)]);have h8':(8:Int) < ps.length:=by omega
  go_wp2_with fail
  go_ret;exact⟨L5.aI HC.out,B0.out⟩
 have h8':¬(8:Int) < ps.length:=by omega
 by_cases h256:256 < bl.length
 ·have HC:Hid ((6:Int)=dY i (nm,ps,rt,bl,pl)):=ae (by rw [←HG.out];unfold bZ;rw [if_pos (.inr h256)]);have h256':(256:Int) < bl.length:=by omega
  go_wp2_with fail
  go_ret;exact⟨L5.aI HC.out,B0.out⟩
 have h256':¬(256:Int) < bl.length:=by omega
 have HF1:Hid (¬(8 < ps.length∨256 < bl.length)):=ae (by omega);go_wp2_with fail
 refine(L2.lD (bs nm) W HSZ.out).mono ?_;rintro e w1 ⟨rfl,hw1⟩;rw [hw1,dz];clear hw1
 cases hb:L2.fk nm with
 |false=>
  have HC:Hid ((4:Int)=dY i (nm,ps,rt,bl,pl)):=ae (by rw [←HG.out];unfold bZ;rw [if_neg HF1.out,if_pos hb]);replace hb:=ae hb;go_wp2_with fail
  go_ret;exact⟨L5.aI HC.out,B0.out⟩
 |true=>
 have HF2:Hid (¬(L2.fk nm=false)):=ae (by rw [hb];simp);replace hb:=ae hb;by_cases hr0:rt < 0
 ·have HC:Hid ((9:Int)=dY i (nm,ps,rt,bl,pl)):=ae (by rw [←HG.out];unfold bZ;rw [if_neg HF1.out,if_neg HF2.out,if_pos (.inl (.inl hr0))]);go_wp2_with fail
  go_ret;exact⟨L5.aI HC.out,B0.out⟩
 by_cases hr2:2 < rt
 ·have HC:Hid ((9:Int)=dY i (nm,ps,rt,bl,pl)):=ae (by rw [←HG.out];unfold bZ;rw [if_neg HF1.out,if_neg HF2.out,if_pos (.inl (.inr hr2))]);go_wp2_with fail
  go_ret;exact⟨L5.aI HC.out,B0.out⟩
 have HF3:Hid (¬(rt < 0∨2 < rt)):=ae (by omega);go_wp2_with fail
 clear c0 c1 c2 c3 c4;go_loopw [5] (fun i wr=>∃j:Nat,j≤ps.length∧i= .int .i64 j∧Hid (km (ps.take j)=false)∧Hid (Below W.heap.size W wr)) (fun i _=>ps.length - (intOf i).toNat)
 case atStart=>exact⟨0,Nat.zero_le _,rfl,ae rfl,ae (Below.refl _ _)⟩
 case round=>
  obtain⟨j,hj,rfl,HA,HW⟩:=hrel;obtain⟨c0,c1,c2,c3,c4⟩:=jJ ((HW.out.block _ (by omega)).trans H0.out);by_cases hlt:j < ps.length
  ·obtain⟨y,hy⟩:∃y,ps[j]? =some y:=⟨_,List.getElem?_eq_getElem hlt⟩;rcases A0.out with he | ⟨g,o,rfl,hg,hcc⟩
   ·subst he;simp at hlt
   have hcell:=(HW.out.cell (p:=⟨g,o+j,none⟩) hg).trans (hcc j y hy);have hlt':(j:Int) < ps.length:=(by omega);have HT:=ae (Bv ps j y hy);have HH:=ae (FB ps j y hy);clear hcc hy;by_cases hy0:y < 1
   ·have HC:Hid ((9:Int)=dY i (nm,ps,rt,bl,pl)):=ae (by rw [←HG.out];unfold bZ;rw [if_neg HF1.out,if_neg HF2.out,if_pos (.inr (HH.out ((nB y).2 (.inl hy0))))]);clear HH HT;go_wp2_with fail
    go_ret;exact⟨L5.aI HC.out,af B0.out HW.out⟩
   ·by_cases hy1:2 < y
    ·have HC:Hid ((9:Int)=dY i (nm,ps,rt,bl,pl)):=ae (by rw [←HG.out];unfold bZ;rw [if_neg HF1.out,if_neg HF2.out,if_pos (.inr (HH.out ((nB y).2 (.inr hy1))))]);clear HH HT;go_wp2_with fail
     go_ret;exact⟨L5.aI HC.out,af B0.out HW.out⟩
    ·have HT1:Hid (km (ps.take (j+1))=false):=ae (by
      rw [HT.out,HA.out,Bool.false_or]
      cases hq:(!gF y)with
      |false=>rfl
      |true=>have:=(nB y).1 hq;omega)
     clear HH HT;go_wp2_with fail
     go_roundw
     case rel=>exact⟨j+1,by omega,by go_num,HT1,HW⟩
     case measure=>simp [intOf];omega
  ·obtain rfl:j=ps.length:=(by omega);have HC:Hid ((0:Int)=dY i (nm,ps,rt,bl,pl)):=ae (by
    rw [←HG.out];unfold bZ;rw [if_neg HF1.out,if_neg HF2.out,if_neg];intro h;rcases h with h | h
    ·exact HF3.out h
    ·have h2:=HA.out;rw [List.take_length] at h2;rw [show km ps=false from h2] at h
     cases h)
   go_wp2_with fail
   go_ret;exact⟨L5.aI HC.out,af B0.out HW.out⟩
def dQ (k:Int):Int:=if k=1 then 9223372036854775807 else if k=11∨k=12∨k=15∨k=13∨k=14 then 15 else if k=21∨k=23∨k=24 then 1048576 else if k=29 then 255 else -1
theorem LH (w:World):Calls Tryz.prog 74 #[.int .i64 1] w fun e w'=>e= .returned (.int .i64 (dQ 1))∧w'=w:=by
 go_enter Tryz.func74,Tryz.ntmps74
 go_wp2_with fail
 go_ret;exact⟨rfl,rfl⟩
theorem Kd (w:World):Calls Tryz.prog 74 #[.int .i64 11] w fun e w'=>e= .returned (.int .i64 (dQ 11))∧w'=w:=by
 go_enter Tryz.func74,Tryz.ntmps74
 go_wp2_with fail
 go_ret;exact⟨rfl,rfl⟩
theorem JQ (w:World):Calls Tryz.prog 74 #[.int .i64 12] w fun e w'=>e= .returned (.int .i64 (dQ 12))∧w'=w:=by
 go_enter Tryz.func74,Tryz.ntmps74
 go_wp2_with fail
 go_ret;exact⟨rfl,rfl⟩
theorem Kg (w:World):Calls Tryz.prog 74 #[.int .i64 15] w fun e w'=>e= .returned (.int .i64 (dQ 15))∧w'=w:=by
 go_enter Tryz.func74,Tryz.ntmps74
 go_wp2_with fail
 go_ret;exact⟨rfl,rfl⟩
theorem I2 (w:World):Calls Tryz.prog 74 #[.int .i64 13] w fun e w'=>e= .returned (.int .i64 (dQ 13))∧w'=w:=by
 go_enter Tryz.func74,Tryz.ntmps74
 go_wp2_with fail
 go_ret;exact⟨rfl,rfl⟩
theorem Kp (w:World):Calls Tryz.prog 74 #[.int .i64 14] w fun e w'=>e= .returned (.int .i64 (dQ 14))∧w'=w:=by
 go_enter Tryz.func74,Tryz.ntmps74
 go_wp2_with fail
 go_ret;exact⟨rfl,rfl⟩
theorem Kj (w:World):Calls Tryz.prog 74 #[.int .i64 23] w fun e w'=>e= .returned (.int .i64 (dQ 23))∧w'=w:=by
 go_enter Tryz.func74,Tryz.ntmps74
 go_wp2_with fail
 go_ret;exact⟨rfl,rfl⟩
theorem I9 (w:World):Calls Tryz.prog 74 #[.int .i64 21] w fun e w'=>e= .returned (.int .i64 (dQ 21))∧w'=w:=by
 go_enter Tryz.func74,Tryz.ntmps74
 go_wp2_with fail
 go_ret;exact⟨rfl,rfl⟩
theorem JL (w:World):Calls Tryz.prog 74 #[.int .i64 24] w fun e w'=>e= .returned (.int .i64 (dQ 24))∧w'=w:=by
 go_enter Tryz.func74,Tryz.ntmps74
 go_wp2_with fail
 go_ret;exact⟨rfl,rfl⟩
theorem IQ (w:World):Calls Tryz.prog 74 #[.int .i64 29] w fun e w'=>e= .returned (.int .i64 (dQ 29))∧w'=w:=by
 go_enter Tryz.func74,Tryz.ntmps74
 go_wp2_with fail
 go_ret;exact⟨rfl,rfl⟩
theorem Cc (k:Int) (hk:k≠1∧k≠11∧k≠12∧k≠15∧k≠13∧k≠14∧k≠23∧k≠21∧k≠24∧k≠29) (w:World):Calls Tryz.prog 74 #[.int .i64 k] w fun e w'=>e= .returned (.int .i64 (dQ k))∧w'=w:=by
 have HB:Hid ((-1:Int)=dQ k):=ae (by unfold dQ;rw [if_neg (by omega),if_neg (by omega),if_neg (by omega),if_neg (by omega)]);obtain⟨n1,n11,n12,n15,n13,n14,n23,n21,n24,n29⟩:=hk;replace n1:(k == 1)=false:=by simpa using n1
 replace n11:(k == 11)=false:=by simpa using n11
 replace n12:(k == 12)=false:=by simpa using n12
 replace n15:(k == 15)=false:=by simpa using n15
 replace n13:(k == 13)=false:=by simpa using n13
 replace n14:(k == 14)=false:=by simpa using n14
 replace n23:(k == 23)=false:=by simpa using n23
 replace n21:(k == 21)=false:=by simpa using n21
 replace n24:(k == 24)=false:=by simpa using n24
 replace n29:(k == 29)=false:=by simpa using n29
 go_enter Tryz.func74,Tryz.ntmps74
 go_wp2_with fail
 go_ret;exact⟨L5.aI HB.out,rfl⟩
theorem Eh (k:Int) (w:World):Calls Tryz.prog 74 #[.int .i64 k] w fun e w'=>e= .returned (.int .i64 (dQ k))∧w'=w:=by
 by_cases h1:k=1
 ·subst h1;exact LH w
 by_cases h11:k=11
 ·subst h11;exact Kd w
 by_cases h12:k=12
 ·subst h12;exact JQ w
 by_cases h15:k=15
 ·subst h15;exact Kg w
 by_cases h13:k=13
 ·subst h13;exact I2 w
 by_cases h14:k=14
 ·subst h14;exact Kp w
 by_cases h23:k=23
 ·subst h23;exact Kj w
 by_cases h21:k=21
 ·subst h21;exact I9 w
 by_cases h24:k=24
 ·subst h24;exact JL w
 by_cases h29:k=29
 ·subst h29;exact IQ w
 exact Cc k ⟨h1,h11,h12,h15,h13,h14,h23,h21,h24,h29⟩ w
theorem Cr {k n:Int} (hn:I64 n):(kf k n=true∧((dQ k < 0∧n=0)∨(0≤dQ k∧n≤dQ k∧0≤n)∨(0≤dQ k∧n≤dQ k∧n < 0∧k=1)))∨
  (kf k n=false∧((dQ k < 0∧n≠0)∨(0≤dQ k∧dQ k < n)∨(0≤dQ k∧n≤dQ k∧n < 0∧k≠1))):=by
 obtain⟨h1,h2⟩:=hn;unfold kf dQ;split
 ·rename_i hk;subst hk;simp;omega
 ·split
  ·simp;omega
  ·split
   ·simp;omega
   ·split
    ·simp;omega
    ·simp;omega
theorem vJ (most:Int) (l:List Int) (j:Nat) (y:Int) (h:l[j]? =some y):(l.take (j+1)).any (byd most)=((l.take j).any (byd most) || byd most y):=by
 rw [List.take_add_one,h];simp
theorem Aw (most:Int) (l:List Int) (j:Nat) (y:Int) (h:l[j]? =some y) (hb:byd most y=true):l.any (byd most)=true:=by
 rw [List.any_eq_true];exact⟨y,List.mem_of_getElem? h,hb⟩
theorem yJ (k id n ty pl:Int) (ar tt:List Int) (nm:List UInt8) (ao to:Option Addr) (ca ct:Nat) (w:World) (hs1:Sl w ao ar) (hs2:Sl w to tt) (hL:ar.length≤maxLen∧tt.length≤maxLen) (hn:I64 n) (hl:nm.length≤maxLen):
  Calls Tryz.prog 41 #[.agg #[.int .i64 k,.int .i64 id,.int .i64 n,.int .i64 ty,.slice ao ar.length ca,.slice to tt.length ct,.string (bs nm),.int .i64 pl]] w fun e w'=>e= .returned (.int .i64 (aJ (k,id,n,ty,ar,tt,nm,pl)))∧Below w.heap.size w w':=by
 have b0:=ah w (.cells #[.int .i64 k,.int .i64 id,.int .i64 n,.int .i64 ty,.slice ao ar.length ca,.slice to tt.length ct,.string (bs nm),.int .i64 pl] 47);have H0:=ae (heap_alloc_new w (.cells #[.int .i64 k,.int .i64 id,.int .i64 n,.int .i64 ty,.slice ao ar.length ca,.slice to tt.length ct,.string (bs nm),.int .i64 pl] 47));have A0:=ae (hs1.below b0);have U0:=ae (hs2.below b0);have B0:=ae b0;have hz0:(w.alloc (.cells #[.int .i64 k,.int .i64 id,.int .i64 n,.int .i64 ty,.slice ao ar.length ca,.slice to tt.length ct,.string (bs nm),.int .i64 pl] 47)).heap.size > w.heap.size:=by simp
 have HL:=ae hL;obtain⟨hLa,hLt⟩:=hL;unfold maxLen at hLa hLt;have HN:=ae hn;have HSZ:Hid ((bs nm).size≤maxLen):=ae (by rw [aY];exact hl);have HRC:=ae (Cr (k:=k) hn);clear b0 hs1 hs2 hn hl;go_enter Tryz.func41,Tryz.ntmps41
 go_upto_region 1 with fail
 show Code.wp _ _ _ _ (w.alloc (.cells #[.int .i64 k,.int .i64 id,.int .i64 n,.int .i64 ty,.slice ao ar.length ca,.slice to tt.length ct,.string (bs nm),.int .i64 pl] 47));generalize w.alloc (.cells #[.int .i64 k,.int .i64 id,.int .i64 n,.int .i64 ty,.slice ao ar.length ca,.slice to tt.length ct,.string (bs nm),.int .i64 pl] 47)=W at *;obtain⟨c0,c1,c2,c3,c4,c5,c6,c7⟩:=ij H0.out;by_cases ho1:k < 1
 ·have HC:Hid ((2:Int)=aJ (k,id,n,ty,ar,tt,nm,pl)):=ae (by unfold aJ;rw [if_pos (by dsimp only;unfold kh;rw [show decide (1≤k)=false by simp;omega];rfl)]);go_wp2_with fail
  go_ret;exact⟨L5.aI HC.out,af B0.out (Below.refl _ _)⟩
 by_cases ho2:29 < k
 ·have HC:Hid ((2:Int)=aJ (k,id,n,ty,ar,tt,nm,pl)):=ae (by unfold aJ;rw [if_pos (by dsimp only;unfold kh;rw [show decide (k≤29)=false by simp;omega];simp)]);go_wp2_with fail
  go_ret;exact⟨L5.aI HC.out,af B0.out (Below.refl _ _)⟩
 have HO:Hid (kh k=true):=ae (by unfold kh;simp;omega);go_wp2_with fail
 refine(L5.jT k ty _).mono ?_;rintro e w1 ⟨rfl,hw1⟩;rw [hw1];clear hw1
 cases hm:L5.may k ty with
 |false=>
  have HC:Hid ((2:Int)=aJ (k,id,n,ty,ar,tt,nm,pl)):=ae (by unfold aJ;rw [if_pos (by dsimp only;rw [hm,Bool.and_false])]);replace hm:=ae hm;go_wp2_with fail
  go_ret;exact⟨L5.aI HC.out,af B0.out (Below.refl _ _)⟩
 |true=>
 have HF1:Hid (¬((kh k && L5.may k ty)=false)):=ae (by rw [HO.out,hm];simp);replace hm:=ae hm;go_wp2_with fail
 refine(L5.dV k ty _ _ _ _ _ _ W).mono ?_;rintro e w2 ⟨rfl,b2⟩;have B2:=ae b2;clear b2;clear c0 c1 c2 c3 c4 c5 c6 c7;obtain⟨c0,c1,c2,c3,c4,c5,c6,c7⟩:=ij ((B2.out.block _ (by omega)).trans H0.out);have HNU:Hid ((L5.bD k ty=0∧id= -1∨L5.bD k ty≠0∧¬id < 0∧¬1048576 < id)∧iE k id ty=true∨((L5.bD k ty=0∧id≠ -1)∨(L5.bD k ty≠0∧id < 0)∨(L5.bD k ty≠0∧¬id < 0∧1048576 < id))∧iE k id ty=false):=ae (by
  unfold iE byd;by_cases h:L5.bD k ty=0
  ·rw [if_pos h];by_cases h2:id= -1 <;> simp [h,h2]
  ·rw [if_neg h];by_cases h2:id < 0 <;> by_cases h3:1048576 < id <;> simp [h,h2,h3])
 generalize L5.bD k ty=mk at *;rcases HNU.out with ⟨hq1,hq⟩ | ⟨hq1,hq⟩;rotate_left
 ·have HC:Hid ((8:Int)=aJ (k,id,n,ty,ar,tt,nm,pl)):=ae (by unfold aJ;rw [if_neg HF1.out,if_pos hq]);replace hq:=ae hq;clear HNU HRC;rcases hq1 with ⟨hq2,hq3⟩ | ⟨hq2,hq3⟩ | ⟨hq2,hq3,hq4⟩
  ·subst hq2;have hq5:(id == -1)=false:=(by simpa using hq3);have hq6:(id != -1)=true:=(by rw [bne,hq5];rfl);go_wp2_with fail
   go_ret;exact⟨L5.aI HC.out,af B0.out B2.out⟩
  ·have hq5:(mk != 0)=true:=(by simpa using hq2);go_wp2_with fail
   go_ret;exact⟨L5.aI HC.out,af B0.out B2.out⟩
  ·have hq5:(mk != 0)=true:=(by simpa using hq2);go_wp2_with fail
   go_ret;exact⟨L5.aI HC.out,af B0.out B2.out⟩
 have HF2:Hid (¬(iE k id ty=false)):=ae (by rw [hq];simp);replace hq:=ae hq;clear HNU;rcases hq1 with ⟨hq2,hq3⟩ | ⟨hq2,hq3,hq4⟩
 all_goals
  first
  |subst hq2
   have hq5:(id == -1)=true:=(by rw [hq3];rfl);have hq6:(id != -1)=false:=(by rw [hq3];rfl);replace hq3:=ae hq3
  |have hq5:(mk != 0)=true:=by simpa using hq2
  go_wp2_with fail
  refine(tP k id n ty pl ar tt nm ao to ca ct _ HL.out).mono ?_;rintro e w3 ⟨rfl,b3⟩;have B3:=ae (af B2.out b3);clear b3
  cases hc:eU k ar.length tt.length with
  |false=>
   have HC:Hid ((13:Int)=aJ (k,id,n,ty,ar,tt,nm,pl)):=ae (by unfold aJ;rw [if_neg HF1.out,if_neg HF2.out,if_pos hc]);replace hc:=ae hc;go_wp2_with fail
   go_ret;exact⟨L5.aI HC.out,af B0.out B3.out⟩
  |true=>
  have HF3:Hid (¬(eU k ar.length tt.length=false)):=ae (by rw [hc];simp);replace hc:=ae hc;clear c0 c1 c2 c3 c4 c5 c6 c7;obtain⟨c0,c1,c2,c3,c4,c5,c6,c7⟩:=ij ((B3.out.block _ (by omega)).trans H0.out);go_wp2_with fail
  refine(Eh k _).mono ?_;rintro e w4 ⟨rfl,hw4⟩;rw [hw4];clear hw4;have B4:=ae B3.out;generalize dQ k=top at *;rcases HRC.out with ⟨hr,hr1⟩ | ⟨hr,hr1⟩;rotate_left
  ·have HC:Hid ((18:Int)=aJ (k,id,n,ty,ar,tt,nm,pl)):=ae (by unfold aJ;rw [if_neg HF1.out,if_neg HF2.out,if_neg HF3.out,if_pos hr]);replace hr:=ae hr;clear HRC;rcases hr1 with ⟨h1,h2⟩ | ⟨h1,h2⟩ | ⟨h1,h2,h3,h4⟩
   ·have h5:(n != 0)=true:=(by simpa using h2);go_wp2_with fail
    go_ret;exact⟨L5.aI HC.out,af B0.out B4.out⟩
   ·have h5:¬top < 0:=(by omega);go_wp2_with fail
    go_ret;exact⟨L5.aI HC.out,af B0.out B4.out⟩
   ·have h5:¬top < 0:=(by omega);have h6:¬top < n:=(by omega);have h7:(k != 1)=true:=(by simpa using h4);go_wp2_with fail
    go_ret;exact⟨L5.aI HC.out,af B0.out B4.out⟩
  have HF4:Hid (¬(kf k n=false)):=ae (by rw [hr];simp);replace hr:=ae hr;clear HRC;rcases hr1 with ⟨h1,h2⟩ | ⟨h1,h2,h3⟩ | ⟨h1,h2,h3,h4⟩
  all_goals
   first
   |have h5:(n != 0)=false:=by rw [h2];rfl
    have h6:¬0≤top:=(by omega);replace h2:=ae h2;clear c0 c1 c3 c4 c5 c6 c7;obtain⟨c0,c1,c2,c3,c4,c5,c6,c7⟩:=ij ((B4.out.block _ (by omega)).trans H0.out)
   |have h5:¬top < 0:=by omega
    have h6:¬top < n:=(by omega);have h7:(k != 1)=false:=(by rw [h4];rfl);replace h4:=ae h4
   |have h5:¬top < 0:=by omega
    have h6:¬top < n:=(by omega);have h7:¬n < 0:=by omega
   go_wp2_with fail
   clear c0 c1 c2 c3 c4 c5 c6 c7;go_loopw [5] (fun i wr=>∃j:Nat,j≤ar.length∧i= .int .i64 j∧Hid ((ar.take j).any (byd 1048576)=false)∧Hid (Below W.heap.size W wr)) (fun i _=>ar.length - (intOf i).toNat)
   case atStart=>exact⟨0,Nat.zero_le _,rfl,ae rfl,B4⟩
   case round=>
    obtain⟨j,hj,rfl,HA5,HWa⟩:=hrel;obtain⟨c0,c1,c2,c3,c4,c5,c6,c7⟩:=ij ((HWa.out.block _ (by omega)).trans H0.out);by_cases hlt:j < ar.length
    ·obtain⟨y,hy⟩:∃y,ar[j]? =some y:=⟨_,List.getElem?_eq_getElem hlt⟩;rcases A0.out with he | ⟨g,o,rfl,hg,hcc⟩
     ·subst he;simp at hlt
     have hcell:=(HWa.out.cell (p:=⟨g,o+j,none⟩) hg).trans (hcc j y hy);have hlt':(j:Int) < ar.length:=(by omega);have HT:=ae (vJ 1048576 ar j y hy);have HH:=ae (Aw 1048576 ar j y hy);clear hcc hy;by_cases hy0:y < 0
     ·have HC:Hid ((8:Int)=aJ (k,id,n,ty,ar,tt,nm,pl)):=ae (by unfold aJ;rw [if_neg HF1.out,if_neg HF2.out,if_neg HF3.out,if_neg HF4.out,if_pos (HH.out (by simp [byd,hy0]))]);clear HH HT;go_wp2_with fail
      go_ret;exact⟨L5.aI HC.out,af B0.out HWa.out⟩
     ·by_cases hy1:1048576 < y
      ·have HC:Hid ((8:Int)=aJ (k,id,n,ty,ar,tt,nm,pl)):=ae (by unfold aJ;rw [if_neg HF1.out,if_neg HF2.out,if_neg HF3.out,if_neg HF4.out,if_pos (HH.out (by simp [byd,hy1]))]);clear HH HT;go_wp2_with fail
       go_ret;exact⟨L5.aI HC.out,af B0.out HWa.out⟩
      ·have HT1:=ae (HT.out.trans (by rw [HA5.out];simp [byd,hy0,hy1]:_=false));clear HH HT;go_wp2_with fail
       go_roundw
       case rel=>exact⟨j+1,by omega,by go_num,HT1,HWa⟩
       case measure=>simp [intOf];omega
    ·obtain rfl:j=ar.length:=(by omega);have HF5:Hid (¬(ar.any (byd 1048576)=true)):=ae (by have:=HA5.out;rw [List.take_length] at this;rw [this];simp);go_wp2_with fail
     clear c0 c1 c2 c3 c4 c5 c6 c7;go_loopw [6] (fun i wr=>∃j:Nat,j≤tt.length∧i= .int .i64 j∧Hid ((tt.take j).any (byd 255)=false)∧Hid (Below W.heap.size W wr)) (fun i _=>tt.length - (intOf i).toNat)
     case atStart=>exact⟨0,Nat.zero_le _,rfl,ae rfl,HWa⟩
     case round=>
      obtain⟨j,hj,rfl,HA6,HWt⟩:=hrel;obtain⟨c0,c1,c2,c3,c4,c5,c6,c7⟩:=ij ((HWt.out.block _ (by omega)).trans H0.out);by_cases hlt:j < tt.length
      ·obtain⟨y,hy⟩:∃y,tt[j]? =some y:=⟨_,List.getElem?_eq_getElem hlt⟩;rcases U0.out with he | ⟨g,o,rfl,hg,hcc⟩
       ·subst he;simp at hlt
       have hcell:=(HWt.out.cell (p:=⟨g,o+j,none⟩) hg).trans (hcc j y hy);have hlt':(j:Int) < tt.length:=(by omega);have HT:=ae (vJ 255 tt j y hy);have HH:=ae (Aw 255 tt j y hy);clear hcc hy;by_cases hy0:y < 0
       ·have HC:Hid ((7:Int)=aJ (k,id,n,ty,ar,tt,nm,pl)):=ae (by unfold aJ;rw [if_neg HF1.out,if_neg HF2.out,if_neg HF3.out,if_neg HF4.out,if_neg HF5.out,if_pos (HH.out (by simp [byd,hy0]))]);clear HH HT;go_wp2_with fail
        go_ret;exact⟨L5.aI HC.out,af B0.out HWt.out⟩
       ·by_cases hy1:255 < y
        ·have HC:Hid ((7:Int)=aJ (k,id,n,ty,ar,tt,nm,pl)):=ae (by unfold aJ;rw [if_neg HF1.out,if_neg HF2.out,if_neg HF3.out,if_neg HF4.out,if_neg HF5.out,if_pos (HH.out (by simp [byd,hy1]))]);clear HH HT;go_wp2_with fail
         go_ret;exact⟨L5.aI HC.out,af B0.out HWt.out⟩
        ·have HT1:=ae (HT.out.trans (by rw [HA6.out];simp [byd,hy0,hy1]:_=false));clear HH HT;go_wp2_with fail
         go_roundw
         case rel=>exact⟨j+1,by omega,by go_num,HT1,HWt⟩
         case measure=>simp [intOf];omega
      ·obtain rfl:j=tt.length:=(by omega);have HF6:Hid (¬(tt.any (byd 255)=true)):=ae (by have:=HA6.out;rw [List.take_length] at this;rw [this];simp);clear HA6 HA5;have HC0:Hid (nC k nm=aJ (k,id,n,ty,ar,tt,nm,pl)):=ae (by unfold aJ;rw [if_neg HF1.out,if_neg HF2.out,if_neg HF3.out,if_neg HF4.out,if_neg HF5.out,if_neg HF6.out]);by_cases h10:k=10
       ·subst h10;obtain⟨a,b,hS⟩:=wg nm;have HS:=ae hS;have HC:Hid (fy nm=aJ (10,id,n,ty,ar,tt,nm,pl)):=ae HC0.out;clear hS HC0;go_wp2_with fail
        refine(L3.jY (bs nm) _).mono ?_;rintro e w9 ⟨rfl,b9⟩;rw [HS.out];have B9:=ae (af HWt.out b9);clear b9;generalize fy nm=z at *;go_wp2_with fail
        go_ret;exact⟨L5.aI HC.out,af B0.out (af B9.out (ah w9 _))⟩
       ·have e10:(k == 10)=false:=(by simpa using h10);by_cases h21:k=21
        ·subst h21;have HC:Hid (∀r,L2.fk nm=r→(if r then(0:Int)else 4)=aJ (21,id,n,ty,ar,tt,nm,pl)):=ae fun r h=>by rw [←HC0.out,←h];rfl
         clear HC0 h10;go_wp2_with fail
         refine(L2.lD (bs nm) _ HSZ.out).mono ?_;rintro e w9 ⟨rfl,hw9⟩;rw [hw9,dz];clear hw9
         cases hb:L2.fk nm with
         |true=>
          have HC1:=ae (HC.out true hb);go_wp2_with fail
          go_ret;exact⟨L5.aI HC1.out,af B0.out HWt.out⟩
         |false=>
          have HC1:=ae (HC.out false hb);go_wp2_with fail
          go_ret;exact⟨L5.aI HC1.out,af B0.out HWt.out⟩
        ·have e21:(k == 21)=false:=(by simpa using h21);have n21:(k != 21)=true:=(by rw [bne,e21];rfl);have HCn:Hid ((if nm= [] then(0:Int)else 4)=aJ (k,id,n,ty,ar,tt,nm,pl)):=ae (by rw [←HC0.out];unfold nC;rw [if_neg h10,if_neg h21]);clear HC0 h10 h21;by_cases hnm:nm= []
         ·have HC1:=ae ((if_pos hnm).symm.trans HCn.out);have hE:(bs nm).toList.isEmpty=true:=(by rw [nx];simpa using hnm);clear hnm HCn;go_wp2_with fail
          go_ret;exact⟨L5.aI HC1.out,af B0.out HWt.out⟩
         ·have HC1:=ae ((if_neg hnm).symm.trans HCn.out);have hE:(bs nm).toList.isEmpty=false:=(by rw [nx];simpa using hnm);clear hnm HCn;go_wp2_with fail
          go_ret;exact⟨L5.aI HC1.out,af B0.out HWt.out⟩
theorem yY (x:Ins) (v:Value) (w:World) (h:lT w x v) (hn:I64 x.2.2.1) (hl:x.2.2.2.2.2.2.1.length≤maxLen):Calls Tryz.prog 41 #[v] w fun e w'=>e= .returned (.int .i64 (aJ x))∧Below w.heap.size w w':=by
 obtain⟨k,id,n,ty,ar,tt,nm,pl⟩:=x;obtain⟨ao,to,ca,ct,rfl,h1,h2,h3,h4,h5,h6⟩:=h;exact yJ k id n ty pl ar tt nm ao to ca ct w h1 h2 ⟨Nat.le_trans h3 h4,Nat.le_trans h5 h6⟩ hn hl
open Go Go.RowKit Go.ChangeShapes Go.WideShapes
theorem oc2:Tryz.prog.cellsOf 2=1:=by kernel_rfl
theorem oc3:Tryz.prog.cellsOf 3=1:=by kernel_rfl
theorem oc9:Tryz.prog.cellsOf 9=1:=by kernel_rfl
theorem LY:Tryz.prog.cellsOf 22=1:=by kernel_rfl
theorem LW:Tryz.prog.cellsOf 24=1:=by kernel_rfl
theorem KJ:Tryz.prog.cellsOf 33=1:=by kernel_rfl
theorem Mv:Tryz.prog.cellsOf 34=1:=by kernel_rfl
theorem Ls:Tryz.prog.cellsOf 36=5:=by kernel_rfl
theorem Mg:Tryz.prog.cellsOf 45=1:=by kernel_rfl
theorem LD:Tryz.prog.cellsOf 47=8:=by kernel_rfl
theorem ob3:Tryz.prog.bytesOf 3=8:=by kernel_rfl
theorem Mp:Tryz.prog.bytesOf 36=80:=by kernel_rfl
theorem LO:Tryz.prog.bytesOf 45=24:=by kernel_rfl
theorem Mi:Tryz.prog.bytesOf 47=104:=by kernel_rfl
section
variable {H:Type}
theorem kW {e:TypeId} {d:DataW H}:∀ {l:List (DataW H)},d∈l→∀n∈d.weights Tryz.prog e,n∈DataW.weightsAll Tryz.prog e l
 |x :: l,hd,n,hn=>by
  simp only [DataW.weightsAll,List.mem_append];rcases List.mem_cons.1 hd with rfl | hd
  ·exact .inl hn
  ·exact .inr (kW hd n hn)
theorem Sz.elem {t e:TypeId} {elems spare:List (DataW H)} (hu:Tryz.prog.underlying t=some (.slice e)) (h:Sz t (.slice elems spare)) {d:DataW H} (hd:d∈elems):Sz e d:=by
 intro n hn;refine h n ?_;simp only [DataW.weights,hu,List.mem_cons,List.mem_append];exact .inr (.inl (kW hd n hn))
end
theorem tG {n b m:Nat} (hb:1≤b) (h:(n+m) * b≤reachBytes):Few n:=by
 have h1:(n+m) * 1≤(n+m) * b:=Nat.mul_le_mul_left _ hb;have h2:reachBytes=140737488351232:=rfl;unfold Few;omega
section
variable {H:Type} {enc:TypeId × Value→H} {W:World}
theorem zP {n:Int} (h:(Lit.int .i64 n).wf=true):I64 n:=by
 simp [Lit.wf,IntKind.min,IntKind.max,IntKind.bits,IntKind.signed] at h;unfold I64;omega
theorem lN {fuel:Nat} {v:Value} {x:DataW H × List MemPlace} (h:DataW.trod enc Tryz.prog W 0 (fun _=>true) true fuel 3 [v]=some x):∃n,v= .int .i64 n∧I64 n:=by
 obtain⟨n,e,_,hw⟩:=DataW.trod_int Tryz.underlying3 h;simp only [List.cons.injEq,and_true] at e;exact⟨n,e,zP hw⟩
theorem FP {fuel:Nat} {v:Value} {x:DataW H × List MemPlace} (h:DataW.trod enc Tryz.prog W 0 (fun _=>true) true fuel 2 [v]=some x):∃n,v= .int .i64 n∧I64 n:=by
 obtain⟨n,e,_,hw⟩:=DataW.trod_int Tryz.underlying2 h;simp only [List.cons.injEq,and_true] at e;exact⟨n,e,zP hw⟩
theorem AP {fuel:Nat} {v:Value} {x:DataW H × List MemPlace} (h:DataW.trod enc Tryz.prog W 0 (fun _=>true) true fuel 9 [v]=some x) (hz:Sz 9 x.1):∃s:List UInt8,v= .string (bs s)∧Few s.length:=by
 obtain⟨s,e,rfl,_⟩:=DataW.trod_string Tryz.underlying9 h;simp only [List.cons.injEq,and_true] at e;refine⟨s.data.toList,by rw [e,D7],?_⟩;have h1:=hz s.data.toList.length (by simp [DataW.weights]);have h2:reachBytes=140737488351232:=rfl;unfold Few;omega
theorem lF {W:World} {a:Addr} {v:Value} (h:W.cell? (a.add 0)=some v):∃b o,a=⟨b,o,none⟩∧b < W.heap.size:=by
 obtain⟨b,o,s⟩:=a;have hs:s=none:=by simpa [Addr.add] using World.cell?_spot h
 subst hs;have hb:=World.block_lt_of_cell? W _ h;exact⟨b,o,rfl,by simpa [Addr.add] using hb⟩
theorem qH {fuel:Nat} {v:Value} {x:DataW H × List MemPlace} (h:DataW.trod enc Tryz.prog W 0 (fun _=>true) true fuel 33 [v]=some x) (hz:Sz 33 x.1):∃l:List Int,bX W l v∧(∀n∈l,I64 n)∧Few l.length:=by
 rcases open_ints Tryz.underlying33 Tryz.underlying3 oc3 h with ⟨e,_⟩ | ⟨a,len,cap,zs,e,_,hl,hm,hzl,rfl,hc,hw⟩
 ·simp only [List.cons.injEq,and_true] at e;exact⟨[],⟨none,0,e,.inl rfl,Nat.le_refl _,Nat.zero_le _⟩,fun _ h=>(by cases h),by unfold Few;simp⟩
 ·simp only [List.cons.injEq,and_true] at e;rw [if_pos rfl] at hzl;have hlen:(zs.take len).length=len:=by simp;omega
  have hsl:=Sz.len Tryz.underlying33 hz;refine⟨zs.take len,⟨some a,cap,by rw [hlen];exact e,?_,by omega,hm⟩,fun n hn=>zP (hw n (List.mem_of_mem_take hn)),?_⟩
  ·by_cases h0:len=0
   ·exact .inl (by rw [h0];rfl)
   ·obtain⟨b,o,rfl,hb⟩:=lF (hc 0 (by omega));refine .inr ⟨b,o,rfl,hb,fun i n hi=> ?_⟩;obtain⟨h1,h2⟩:=List.getElem?_eq_some_iff.1 hi;have:=hc i (by omega);rw [add_plain] at this;rw [this,List.getD_eq_getElem?_getD,List.getElem?_eq_getElem (by omega)];rw [List.getElem_take] at h2;rw [←h2];rfl
  ·rw [ob3] at hsl;simp only [lits,List.length_map] at hsl;exact tG (b:=8) (by omega) hsl
theorem iN {xs:List (DataW H × List MemPlace)} {n i:Nat} (h:xs.length=n) (hi:i < n):∃y,xs[i]? =some y:=⟨xs[i]'(by omega),List.getElem?_eq_getElem (by omega)⟩
theorem Hs {cs:List Value} (h:cs.length=8):∃a b c d e f g i,cs= [a,b,c,d,e,f,g,i]:=by
 match cs,h with
 |[a,b,c,d,e,f,g,i],_=>exact⟨a,b,c,d,e,f,g,i,rfl⟩
theorem Jq {cs:List Value} (h:cs.length=5):∃a b c d e,cs= [a,b,c,d,e]:=by
 match cs,h with
 |[a,b,c,d,e],_=>exact⟨a,b,c,d,e,rfl⟩
theorem Iu {fuel:Nat} {cs:List Value} {x:DataW H × List MemPlace} (h:DataW.trod enc Tryz.prog W 0 (fun _=>true) true fuel 47 cs=some x) (hz:Sz 47 x.1):
  ∃(y:Ins) (va vt:Value),cs=lR y va vt∧bX W y.2.2.2.2.1 va∧bX W y.2.2.2.2.2.1 vt∧GxI y:=by
 obtain⟨xs,n,_,rfl,hl,hlen,hf⟩:=DataW.trod_struct Tryz.underlying47 h;obtain⟨v0,v1,v2,v3,v4,v5,v6,v7,rfl⟩:=Hs (hl.trans LD);have fld:∀(i:Nat) (ti:TypeId) (y:DataW H × List MemPlace),((#[_,_,_,_,_,_,_,_]:Array Field).toList.map (·.type))[i]? =some ti→xs[i]? =some y→Sz ti y.1:=fun i ti y ht hy=>Sz.field Tryz.underlying47 hz ht (by rw [List.getElem?_map,hy];rfl);obtain⟨y0,g0⟩:=iN hlen (i:=0) (by decide);obtain⟨y1,g1⟩:=iN hlen (i:=1) (by decide);obtain⟨y2,g2⟩:=iN hlen (i:=2) (by decide);obtain⟨y3,g3⟩:=iN hlen (i:=3) (by decide);obtain⟨y4,g4⟩:=iN hlen (i:=4) (by decide);obtain⟨y5,g5⟩:=iN hlen (i:=5) (by decide);obtain⟨y6,g6⟩:=iN hlen (i:=6) (by decide);obtain⟨y7,g7⟩:=iN hlen (i:=7) (by decide);have f0:DataW.trod enc Tryz.prog W 0 (fun _=>true) true n 3 ([v0,v1,v2,v3,v4,v5,v6,v7].take (Tryz.prog.cellsOf 3))=some y0:=(hf 0 _ rfl).trans g0;have f1:DataW.trod enc Tryz.prog W 0 (fun _=>true) true n 3 ([v1,v2,v3,v4,v5,v6,v7].take (Tryz.prog.cellsOf 3))=some y1:=(hf 1 _ rfl).trans g1;have f2:DataW.trod enc Tryz.prog W 0 (fun _=>true) true n 2 ([v2,v3,v4,v5,v6,v7].take (Tryz.prog.cellsOf 2))=some y2:=(hf 2 _ rfl).trans g2;have f3:DataW.trod enc Tryz.prog W 0 (fun _=>true) true n 3 ([v3,v4,v5,v6,v7].take (Tryz.prog.cellsOf 3))=some y3:=(hf 3 _ rfl).trans g3;have f4:DataW.trod enc Tryz.prog W 0 (fun _=>true) true n 33 ([v4,v5,v6,v7].take (Tryz.prog.cellsOf 33))=some y4:=(hf 4 _ rfl).trans g4;have f5:DataW.trod enc Tryz.prog W 0 (fun _=>true) true n 33 ([v5,v6,v7].take (Tryz.prog.cellsOf 33))=some y5:=(hf 5 _ rfl).trans g5;have f6:DataW.trod enc Tryz.prog W 0 (fun _=>true) true n 9 ([v6,v7].take (Tryz.prog.cellsOf 9))=some y6:=(hf 6 _ rfl).trans g6;have f7:DataW.trod enc Tryz.prog W 0 (fun _=>true) true n 3 ([v7].take (Tryz.prog.cellsOf 3))=some y7:=(hf 7 _ rfl).trans g7;rw [oc3] at f0 f1 f3 f7;rw [oc2] at f2;rw [KJ] at f4 f5;rw [oc9] at f6;obtain⟨k,rfl,_⟩:=lN f0;obtain⟨id,rfl,hid⟩:=lN f1;obtain⟨nn,rfl,hn⟩:=FP f2;obtain⟨ty,rfl,_⟩:=lN f3;obtain⟨ar,ha,hai,hal⟩:=qH f4 (Sz.field Tryz.underlying47 hz (i:=4) rfl (by rw [List.getElem?_map,g4];rfl));obtain⟨tt,ht,hti,htl⟩:=qH f5 (Sz.field Tryz.underlying47 hz (i:=5) rfl (by rw [List.getElem?_map,g5];rfl));obtain⟨nm,rfl,hnm⟩:=AP f6 (Sz.field Tryz.underlying47 hz (i:=6) rfl (by rw [List.getElem?_map,g6];rfl));obtain⟨pl,rfl,_⟩:=lN f7;exact⟨(k,id,nn,ty,ar,tt,nm,pl),v4,v5,rfl,ha,ht,hid,hn,hai,hti,hal,htl,hnm⟩
theorem KX (b o i j:Nat):((⟨b,o,none⟩:Addr).add i).add j=⟨b,o+i+j,none⟩:=by rw [Deep.add_add,add_plain,Nat.add_assoc]
theorem Gs {fuel:Nat} {v:Value} {x:DataW H × List MemPlace} (h:DataW.trod enc Tryz.prog W 0 (fun _=>true) true fuel 45 [v]=some x) (hz:Sz 45 x.1):∃l:List Ins,j7 W l v∧(∀y∈l,GxI y)∧Few l.length:=by
 rcases Deep.open_slice Tryz.underlying45 h with ⟨e,_⟩ | ⟨a,len,cap,m,n,D,Pl,e,_,hl,hm,hmm,rfl,hx⟩
 ·simp only [List.cons.injEq,and_true] at e;exact⟨[],⟨none,0,e,Nat.le_refl _,Nat.zero_le _,.inl rfl⟩,fun _ h=>(by cases h),by unfold Few;simp⟩
 ·simp only [List.cons.injEq,and_true] at e;rw [if_pos rfl] at hmm;subst hmm;have hsl:=Sz.len Tryz.underlying45 hz;rw [Mi] at hsl;simp only [List.length_map,List.length_range] at hsl;have each:∀i,i < len→∃q:Ins,(∃va vt,(∃cs,W.cells? 0 (a.add (i * 8)) 8=some cs∧cs=lR q va vt)∧bX W q.2.2.2.2.1 va∧bX W q.2.2.2.2.2.1 vt)∧GxI q:=by
   intro i hi;obtain⟨cs,h1,h2⟩:=hx i (by omega);rw [LD] at h1;obtain⟨y,va,vt,ec,k1,k2,k3⟩:=Iu h2 (Sz.elem Tryz.underlying45 hz (List.mem_map.2 ⟨i,by simpa using hi,rfl⟩));exact⟨y,⟨va,vt,⟨cs,h1,ec⟩,k1,k2⟩,k3⟩
  obtain⟨q,hq⟩:=Deep.choose_lt each;refine⟨(List.range len).map q,⟨some a,m,by rw [e];simp,by simpa using hl,hm,?_⟩,fun y hy=> ?_,by simpa using tG (b:=104) (by omega) hsl⟩
  ·by_cases h0:len=0
   ·exact .inl (by rw [h0];rfl)
   ·obtain⟨⟨va,vt,⟨cs,h1,h2⟩,_⟩,_⟩:=hq 0 (by omega);obtain⟨_,hcl,hcc⟩:=World.cells?_some h1;have hc0:=(hcc 0 (by omega)).trans (List.getElem?_eq_getElem (by omega));rw [Deep.add_add,Nat.zero_mul] at hc0;obtain⟨b,o,rfl,hb⟩:=lF hc0;refine .inr ⟨b,o,rfl,fun i y hi=> ?_⟩;have hi':i < len:=by
     have:=(List.getElem?_eq_some_iff.1 hi).1;simpa using this
    have hy:q i=y:=by
     rw [List.getElem?_map,List.getElem?_range hi'] at hi;exact Option.some.inj hi
    subst hy;obtain⟨⟨va,vt,⟨cs,h1,h2⟩,k1,k2⟩,_⟩:=hq i hi';obtain⟨_,hcl,hcc⟩:=World.cells?_some h1;refine⟨hb,va,vt,fun j t hj=> ?_,k1,k2⟩;have hj8:j < 8:=(List.getElem?_eq_some_iff.1 hj).1;have:=hcc j hj8;rw [KX] at this;rw [this,h2];exact hj
  ·obtain⟨i,hi,rfl⟩:=List.mem_map.1 hy;exact(hq i (by simpa using hi)).2
theorem FK {fuel:Nat} {v:Value} {x:DataW H × List MemPlace} (h:DataW.trod enc Tryz.prog W 0 (fun _=>true) true fuel 34 [v]=some x) (hz:Sz 34 x.1):∃l:List (List Ins),dy W l v∧(∀b∈l,∀y∈b,GxI y)∧Few l.length:=by
 rcases Deep.open_slice1 Tryz.underlying34 Mg h with ⟨e,_⟩ | ⟨a,len,cap,m,n,V,D,Pl,e,_,hl,hm,hmm,rfl,hx⟩
 ·simp only [List.cons.injEq,and_true] at e;exact⟨[],⟨none,0,e,Nat.le_refl _,Nat.zero_le _,.inl rfl⟩,fun _ h=>(by cases h),by unfold Few;simp⟩
 ·simp only [List.cons.injEq,and_true] at e;rw [if_pos rfl] at hmm;subst hmm;have hsl:=Sz.len Tryz.underlying34 hz;rw [LO] at hsl;simp only [List.length_map,List.length_range] at hsl;have each:∀i,i < len→∃q:List Ins,(W.cell? (a.add i)=some (V i)∧j7 W q (V i))∧∀y∈q,GxI y:=by
   intro i hi;obtain⟨h1,h2⟩:=hx i (by omega);obtain⟨q,k1,k2,_⟩:=Gs h2 (Sz.elem Tryz.underlying34 hz (List.mem_map.2 ⟨i,by simpa using hi,rfl⟩));exact⟨q,⟨h1,k1⟩,k2⟩
  obtain⟨q,hq⟩:=Deep.choose_lt each;refine⟨(List.range len).map q,⟨some a,m,by rw [e];simp,by simpa using hl,hm,?_⟩,fun y hy=> ?_,by simpa using tG (b:=24) (by omega) hsl⟩
  ·by_cases h0:len=0
   ·exact .inl (by rw [h0];rfl)
   ·obtain⟨b,o,rfl,hb⟩:=lF (hq 0 (by omega)).1.1;refine .inr ⟨b,o,rfl,hb,fun i y hi=> ?_⟩;have hi':i < len:=by
     have:=(List.getElem?_eq_some_iff.1 hi).1;simpa using this
    have hy:q i=y:=by
     rw [List.getElem?_map,List.getElem?_range hi'] at hi;exact Option.some.inj hi
    subst hy;obtain⟨k1,k2⟩:=(hq i hi').1;rw [add_plain] at k1;exact⟨V i,k1,k2⟩
  ·obtain⟨i,hi,rfl⟩:=List.mem_map.1 hy;exact(hq i (by simpa using hi)).2
theorem GS {fuel:Nat} {cs:List Value} {x:DataW H × List MemPlace} (h:DataW.trod enc Tryz.prog W 0 (fun _=>true) true fuel 36 cs=some x) (hz:Sz 36 x.1):
  ∃(y:Fun) (vp vb:Value),cs=JN y vp vb∧bX W y.2.1 vp∧dy W y.2.2.2.1 vb∧GxF y:=by
 obtain⟨xs,n,_,rfl,hl,hlen,hf⟩:=DataW.trod_struct Tryz.underlying36 h;obtain⟨v0,v1,v2,v3,v4,rfl⟩:=Jq (hl.trans Ls);obtain⟨y0,g0⟩:=iN hlen (i:=0) (by decide);obtain⟨y1,g1⟩:=iN hlen (i:=1) (by decide);obtain⟨y2,g2⟩:=iN hlen (i:=2) (by decide);obtain⟨y3,g3⟩:=iN hlen (i:=3) (by decide);obtain⟨y4,g4⟩:=iN hlen (i:=4) (by decide);have f0:DataW.trod enc Tryz.prog W 0 (fun _=>true) true n 9 ([v0,v1,v2,v3,v4].take (Tryz.prog.cellsOf 9))=some y0:=(hf 0 _ rfl).trans g0;have f1:DataW.trod enc Tryz.prog W 0 (fun _=>true) true n 33 ([v1,v2,v3,v4].take (Tryz.prog.cellsOf 33))=some y1:=(hf 1 _ rfl).trans g1;have f2:DataW.trod enc Tryz.prog W 0 (fun _=>true) true n 3 ([v2,v3,v4].take (Tryz.prog.cellsOf 3))=some y2:=(hf 2 _ rfl).trans g2;have f3:DataW.trod enc Tryz.prog W 0 (fun _=>true) true n 34 ([v3,v4].take (Tryz.prog.cellsOf 34))=some y3:=(hf 3 _ rfl).trans g3;have f4:DataW.trod enc Tryz.prog W 0 (fun _=>true) true n 3 ([v4].take (Tryz.prog.cellsOf 3))=some y4:=(hf 4 _ rfl).trans g4;rw [oc9] at f0;rw [KJ] at f1;rw [oc3] at f2 f4;rw [Mv] at f3;obtain⟨nm,rfl,hnm⟩:=AP f0 (Sz.field Tryz.underlying36 hz (i:=0) rfl (by rw [List.getElem?_map,g0];rfl));obtain⟨ps,hp,_,hpl⟩:=qH f1 (Sz.field Tryz.underlying36 hz (i:=1) rfl (by rw [List.getElem?_map,g1];rfl));obtain⟨rt,rfl,_⟩:=lN f2;obtain⟨bl,hb,hbg,hbl⟩:=FK f3 (Sz.field Tryz.underlying36 hz (i:=3) rfl (by rw [List.getElem?_map,g3];rfl));obtain⟨pl,rfl,_⟩:=lN f4;exact⟨(nm,ps,rt,bl,pl),v1,v3,rfl,hp,hb,hnm,hpl,hbl,hbg⟩
theorem D0 {fuel:Nat} {v:Value} {x:DataW H × List MemPlace} (h:DataW.trod enc Tryz.prog W 0 (fun _=>true) true fuel 22 [v]=some x) (hz:Sz 22 x.1):∃l:List Fun,bK W l v∧(∀y∈l,GxF y)∧Few l.length:=by
 rcases Deep.open_slice Tryz.underlying22 h with ⟨e,_⟩ | ⟨a,len,cap,m,n,D,Pl,e,_,hl,hm,hmm,rfl,hx⟩
 ·simp only [List.cons.injEq,and_true] at e;exact⟨[],⟨none,0,e,Nat.le_refl _,Nat.zero_le _,.inl rfl⟩,fun _ h=>(by cases h),by unfold Few;simp⟩
 ·simp only [List.cons.injEq,and_true] at e;rw [if_pos rfl] at hmm;subst hmm;have hsl:=Sz.len Tryz.underlying22 hz;rw [Mp] at hsl;simp only [List.length_map,List.length_range] at hsl;have each:∀i,i < len→∃q:Fun,(∃va vt,(∃cs,W.cells? 0 (a.add (i * 5)) 5=some cs∧cs=JN q va vt)∧bX W q.2.1 va∧dy W q.2.2.2.1 vt)∧GxF q:=by
   intro i hi;obtain⟨cs,h1,h2⟩:=hx i (by omega);rw [Ls] at h1;obtain⟨y,va,vt,ec,k1,k2,k3⟩:=GS h2 (Sz.elem Tryz.underlying22 hz (List.mem_map.2 ⟨i,by simpa using hi,rfl⟩));exact⟨y,⟨va,vt,⟨cs,h1,ec⟩,k1,k2⟩,k3⟩
  obtain⟨q,hq⟩:=Deep.choose_lt each;refine⟨(List.range len).map q,⟨some a,m,by rw [e];simp,by simpa using hl,hm,?_⟩,fun y hy=> ?_,by simpa using tG (b:=80) (by omega) hsl⟩
  ·by_cases h0:len=0
   ·exact .inl (by rw [h0];rfl)
   ·obtain⟨⟨va,vt,⟨cs,h1,h2⟩,_⟩,_⟩:=hq 0 (by omega);obtain⟨_,hcl,hcc⟩:=World.cells?_some h1;have hc0:=(hcc 0 (by omega)).trans (List.getElem?_eq_getElem (by omega));rw [Deep.add_add,Nat.zero_mul] at hc0;obtain⟨b,o,rfl,hb⟩:=lF hc0;refine .inr ⟨b,o,rfl,fun i y hi=> ?_⟩;have hi':i < len:=by
     have:=(List.getElem?_eq_some_iff.1 hi).1;simpa using this
    have hy:q i=y:=by
     rw [List.getElem?_map,List.getElem?_range hi'] at hi;exact Option.some.inj hi
    subst hy;obtain⟨⟨va,vt,⟨cs,h1,h2⟩,k1,k2⟩,_⟩:=hq i hi';obtain⟨_,hcl,hcc⟩:=World.cells?_some h1;refine⟨hb,va,vt,fun j t hj=> ?_,k1,k2⟩;have hj8:j < 5:=(List.getElem?_eq_some_iff.1 hj).1;have:=hcc j hj8;rw [KX] at this;rw [this,h2];exact hj
  ·obtain⟨i,hi,rfl⟩:=List.mem_map.1 hy;exact(hq i (by simpa using hi)).2
theorem wP {r:Reach} {b0:Nat} {v:Value} {d:DataW H} {ps:List MemPlace} (hv:Value.okWide Tryz.prog W r b0 24 v) (h:DataW.Trod enc Tryz.prog W 0 (fun _=>true) true 24 v d ps) (hz:Sz 24 d):
  ∃(l:List Fun) (po:Option Addr) (c:Nat),v= .agg #[.slice po l.length c]∧bK W l (.slice po l.length c)∧(∀y∈l,GxF y)∧Few l.length:=by
 obtain⟨cs,rfl,hsz⟩:=okWide_struct Tryz.underlying24 hv;obtain⟨fuel,hf⟩:=h;obtain⟨xs,n,_,hx,hl,hlen,each⟩:=DataW.trod_struct Tryz.underlying24 hf;have e1:cs.size=1:=hsz.trans LW;obtain⟨u,rfl⟩:∃u,cs= #[u]:=by
  obtain⟨l⟩:=cs;match l,e1 with
  |[u],_=>exact⟨u,rfl⟩
 obtain⟨y0,g0⟩:=iN hlen (i:=0) (by decide);have f0:DataW.trod enc Tryz.prog W 0 (fun _=>true) true n 22 ([u].take (Tryz.prog.cellsOf 22))=some y0:=(each 0 _ rfl).trans g0;rw [LY] at f0;have hd:d= .agg (xs.map (·.1)):=congrArg Prod.fst hx;rw [hd] at hz;obtain⟨l,k1,k2,k3⟩:=D0 f0 (Sz.field Tryz.underlying24 hz (i:=0) rfl (by rw [List.getElem?_map,g0];rfl));have k1':=k1;obtain⟨po,c,rfl,_⟩:=k1;exact⟨l,po,c,rfl,k1',k2,k3⟩
end
end Go.Proofs.YtljkgcfnoegibaaGreatDoor
