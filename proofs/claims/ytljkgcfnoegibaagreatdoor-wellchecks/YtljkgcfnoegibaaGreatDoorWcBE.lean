/- Texts of one chain, joined. -/
import Derived.Test.YtljkgcfnoegibaaGreatDoorWcAE
import Derived.Test.YtljkgcfnoegibaaGreatDoorWcAG
set_option maxHeartbeats 8000000
set_option maxRecDepth 20000
namespace Go.Proofs.YtljkgcfnoegibaaGreatDoor
open Go Go.RowKit
open G (Tok Er Ins Fun)
def mostN (k:Int):Int:=if k=1 then 9223372036854775807 else if k=11∨k=12∨k=15∨k=13∨k=14 then 15 else if k=21∨k=23∨k=24 then 1048576 else if k=29 then 255 else -1
theorem most1 (w:World):Calls Tryz.prog 74 #[.int .i64 1] w fun e w'=>e= .returned (.int .i64 (mostN 1))∧w'=w:=by
 go_enter Tryz.func74,Tryz.ntmps74
 go_wp2_with fail
 go_ret
 exact⟨rfl,rfl⟩
theorem most11 (w:World):Calls Tryz.prog 74 #[.int .i64 11] w fun e w'=>e= .returned (.int .i64 (mostN 11))∧w'=w:=by
 go_enter Tryz.func74,Tryz.ntmps74
 go_wp2_with fail
 go_ret
 exact⟨rfl,rfl⟩
theorem most12 (w:World):Calls Tryz.prog 74 #[.int .i64 12] w fun e w'=>e= .returned (.int .i64 (mostN 12))∧w'=w:=by
 go_enter Tryz.func74,Tryz.ntmps74
 go_wp2_with fail
 go_ret
 exact⟨rfl,rfl⟩
theorem most15 (w:World):Calls Tryz.prog 74 #[.int .i64 15] w fun e w'=>e= .returned (.int .i64 (mostN 15))∧w'=w:=by
 go_enter Tryz.func74,Tryz.ntmps74
 go_wp2_with fail
 go_ret
 exact⟨rfl,rfl⟩
theorem most13 (w:World):Calls Tryz.prog 74 #[.int .i64 13] w fun e w'=>e= .returned (.int .i64 (mostN 13))∧w'=w:=by
 go_enter Tryz.func74,Tryz.ntmps74
 go_wp2_with fail
 go_ret
 exact⟨rfl,rfl⟩
theorem most14 (w:World):Calls Tryz.prog 74 #[.int .i64 14] w fun e w'=>e= .returned (.int .i64 (mostN 14))∧w'=w:=by
 go_enter Tryz.func74,Tryz.ntmps74
 go_wp2_with fail
 go_ret
 exact⟨rfl,rfl⟩
theorem most23 (w:World):Calls Tryz.prog 74 #[.int .i64 23] w fun e w'=>e= .returned (.int .i64 (mostN 23))∧w'=w:=by
 go_enter Tryz.func74,Tryz.ntmps74
 go_wp2_with fail
 go_ret
 exact⟨rfl,rfl⟩
theorem most21 (w:World):Calls Tryz.prog 74 #[.int .i64 21] w fun e w'=>e= .returned (.int .i64 (mostN 21))∧w'=w:=by
 go_enter Tryz.func74,Tryz.ntmps74
 go_wp2_with fail
 go_ret
 exact⟨rfl,rfl⟩
theorem most24 (w:World):Calls Tryz.prog 74 #[.int .i64 24] w fun e w'=>e= .returned (.int .i64 (mostN 24))∧w'=w:=by
 go_enter Tryz.func74,Tryz.ntmps74
 go_wp2_with fail
 go_ret
 exact⟨rfl,rfl⟩
theorem most29 (w:World):Calls Tryz.prog 74 #[.int .i64 29] w fun e w'=>e= .returned (.int .i64 (mostN 29))∧w'=w:=by
 go_enter Tryz.func74,Tryz.ntmps74
 go_wp2_with fail
 go_ret
 exact⟨rfl,rfl⟩
theorem most_else (k:Int) (hk:k≠1∧k≠11∧k≠12∧k≠15∧k≠13∧k≠14∧k≠23∧k≠21∧k≠24∧k≠29) (w:World):Calls Tryz.prog 74 #[.int .i64 k] w fun e w'=>e= .returned (.int .i64 (mostN k))∧w'=w:=by
 have HB:Hid ((-1:Int)=mostN k):=hide (by unfold mostN;rw [if_neg (by omega),if_neg (by omega),if_neg (by omega),if_neg (by omega)])
 obtain⟨n1,n11,n12,n15,n13,n14,n23,n21,n24,n29⟩:=hk
 replace n1:(k == 1)=false:=by simpa using n1
 replace n11:(k == 11)=false:=by simpa using n11
 replace n12:(k == 12)=false:=by simpa using n12
 replace n15:(k == 15)=false:=by simpa using n15
 replace n13:(k == 13)=false:=by simpa using n13
 replace n14:(k == 14)=false:=by simpa using n14
 replace n23:(k == 23)=false:=by simpa using n23
 replace n21:(k == 21)=false:=by simpa using n21
 replace n24:(k == 24)=false:=by simpa using n24
 replace n29:(k == 29)=false:=by simpa using n29
 go_enter Tryz.func74,Tryz.ntmps74
 go_wp2_with fail
 go_ret
 exact⟨L5.ret_int HB.out,rfl⟩
theorem most_any (k:Int) (w:World):Calls Tryz.prog 74 #[.int .i64 k] w fun e w'=>e= .returned (.int .i64 (mostN k))∧w'=w:=by
 by_cases h1:k=1
 ·subst h1;exact most1 w
 by_cases h11:k=11
 ·subst h11;exact most11 w
 by_cases h12:k=12
 ·subst h12;exact most12 w
 by_cases h15:k=15
 ·subst h15;exact most15 w
 by_cases h13:k=13
 ·subst h13;exact most13 w
 by_cases h14:k=14
 ·subst h14;exact most14 w
 by_cases h23:k=23
 ·subst h23;exact most23 w
 by_cases h21:k=21
 ·subst h21;exact most21 w
 by_cases h24:k=24
 ·subst h24;exact most24 w
 by_cases h29:k=29
 ·subst h29;exact most29 w
 exact most_else k ⟨h1,h11,h12,h15,h13,h14,h23,h21,h24,h29⟩ w
theorem rng_cases {k n:Int} (hn:I64 n):(rngOk k n=true∧((mostN k < 0∧n=0)∨(0≤mostN k∧n≤mostN k∧0≤n)∨(0≤mostN k∧n≤mostN k∧n < 0∧k=1)))∨
  (rngOk k n=false∧((mostN k < 0∧n≠0)∨(0≤mostN k∧mostN k < n)∨(0≤mostN k∧n≤mostN k∧n < 0∧k≠1))):=by
 obtain⟨h1,h2⟩:=hn
 unfold rngOk mostN
 split
 ·rename_i hk;subst hk;simp;omega
 ·split
  ·simp;omega
  ·split
   ·simp;omega
   ·split
    ·simp;omega
    ·simp;omega
theorem any_take (most:Int) (l:List Int) (j:Nat) (y:Int) (h:l[j]? =some y):(l.take (j+1)).any (byd most)=((l.take j).any (byd most) || byd most y):=by
 rw [List.take_add_one,h];simp
theorem any_hit (most:Int) (l:List Int) (j:Nat) (y:Int) (h:l[j]? =some y) (hb:byd most y=true):l.any (byd most)=true:=by
 rw [List.any_eq_true];exact⟨y,List.mem_of_getElem? h,hb⟩
theorem rcheck_try (k id n ty pl:Int) (ar tt:List Int) (nm:List UInt8) (ao to:Option Addr) (ca ct:Nat) (w:World) (hs1:Sl w ao ar) (hs2:Sl w to tt) (hL:ar.length≤maxLen∧tt.length≤maxLen) (hn:I64 n) (hl:nm.length≤maxLen):
  Calls Tryz.prog 41 #[.agg #[.int .i64 k,.int .i64 id,.int .i64 n,.int .i64 ty,.slice ao ar.length ca,.slice to tt.length ct,.string (bs nm),.int .i64 pl]] w fun e w'=>e= .returned (.int .i64 (checkC (k,id,n,ty,ar,tt,nm,pl)))∧Below w.heap.size w w':=by
 have b0:=below_box w (.cells #[.int .i64 k,.int .i64 id,.int .i64 n,.int .i64 ty,.slice ao ar.length ca,.slice to tt.length ct,.string (bs nm),.int .i64 pl] 47)
 have H0:=hide (heap_alloc_new w (.cells #[.int .i64 k,.int .i64 id,.int .i64 n,.int .i64 ty,.slice ao ar.length ca,.slice to tt.length ct,.string (bs nm),.int .i64 pl] 47))
 have A0:=hide (hs1.below b0)
 have U0:=hide (hs2.below b0)
 have B0:=hide b0
 have hz0:(w.alloc (.cells #[.int .i64 k,.int .i64 id,.int .i64 n,.int .i64 ty,.slice ao ar.length ca,.slice to tt.length ct,.string (bs nm),.int .i64 pl] 47)).heap.size > w.heap.size:=by simp
 have HL:=hide hL
 obtain⟨hLa,hLt⟩:=hL
 unfold maxLen at hLa hLt
 have HN:=hide hn
 have HSZ:Hid ((bs nm).size≤maxLen):=hide (by rw [bs_size];exact hl)
 have HRC:=hide (rng_cases (k:=k) hn)
 clear b0 hs1 hs2 hn hl
 go_enter Tryz.func41,Tryz.ntmps41
 go_upto_region 1 with fail
 show Code.wp _ _ _ _ (w.alloc (.cells #[.int .i64 k,.int .i64 id,.int .i64 n,.int .i64 ty,.slice ao ar.length ca,.slice to tt.length ct,.string (bs nm),.int .i64 pl] 47))
 generalize w.alloc (.cells #[.int .i64 k,.int .i64 id,.int .i64 n,.int .i64 ty,.slice ao ar.length ca,.slice to tt.length ct,.string (bs nm),.int .i64 pl] 47)=W at *
 obtain⟨c0,c1,c2,c3,c4,c5,c6,c7⟩:=box8 H0.out
 by_cases ho1:k < 1
 ·have HC:Hid ((2:Int)=checkC (k,id,n,ty,ar,tt,nm,pl)):=hide (by unfold checkC;rw [if_pos (by dsimp only;unfold opOk;rw [show decide (1≤k)=false by simp;omega];rfl)])
  go_wp2_with fail
  go_ret
  exact⟨L5.ret_int HC.out,below_step B0.out (Below.refl _ _)⟩
 by_cases ho2:29 < k
 ·have HC:Hid ((2:Int)=checkC (k,id,n,ty,ar,tt,nm,pl)):=hide (by unfold checkC;rw [if_pos (by dsimp only;unfold opOk;rw [show decide (k≤29)=false by simp;omega];simp)])
  go_wp2_with fail
  go_ret
  exact⟨L5.ret_int HC.out,below_step B0.out (Below.refl _ _)⟩
 have HO:Hid (opOk k=true):=hide (by unfold opOk;simp;omega)
 go_wp2_with fail
 refine(L5.refMay_any k ty _).mono ?_;rintro e w1 ⟨rfl,hw1⟩
 rw [hw1]
 clear hw1
 cases hm:L5.may k ty with
 |false=>
  have HC:Hid ((2:Int)=checkC (k,id,n,ty,ar,tt,nm,pl)):=hide (by unfold checkC;rw [if_pos (by dsimp only;rw [hm,Bool.and_false])])
  replace hm:=hide hm
  go_wp2_with fail
  go_ret
  exact⟨L5.ret_int HC.out,below_step B0.out (Below.refl _ _)⟩
 |true=>
 have HF1:Hid (¬((opOk k && L5.may k ty)=false)):=hide (by rw [HO.out,hm];simp)
 replace hm:=hide hm
 go_wp2_with fail
 refine(L5.refMakes_any k ty _ _ _ _ _ _ W).mono ?_;rintro e w2 ⟨rfl,b2⟩
 have B2:=hide b2
 clear b2
 clear c0 c1 c2 c3 c4 c5 c6 c7
 obtain⟨c0,c1,c2,c3,c4,c5,c6,c7⟩:=box8 ((B2.out.block _ (by omega)).trans H0.out)
 have HNU:Hid ((L5.imakes k ty=0∧id= -1∨L5.imakes k ty≠0∧¬id < 0∧¬1048576 < id)∧numOk k id ty=true∨((L5.imakes k ty=0∧id≠ -1)∨(L5.imakes k ty≠0∧id < 0)∨(L5.imakes k ty≠0∧¬id < 0∧1048576 < id))∧numOk k id ty=false):=hide (by
  unfold numOk byd
  by_cases h:L5.imakes k ty=0
  ·rw [if_pos h];by_cases h2:id= -1 <;> simp [h,h2]
  ·rw [if_neg h];by_cases h2:id < 0 <;> by_cases h3:1048576 < id <;> simp [h,h2,h3])
 generalize L5.imakes k ty=mk at *
 rcases HNU.out with ⟨hq1,hq⟩ | ⟨hq1,hq⟩
 rotate_left
 ·have HC:Hid ((8:Int)=checkC (k,id,n,ty,ar,tt,nm,pl)):=hide (by unfold checkC;rw [if_neg HF1.out,if_pos hq])
  replace hq:=hide hq
  clear HNU HRC
  rcases hq1 with ⟨hq2,hq3⟩ | ⟨hq2,hq3⟩ | ⟨hq2,hq3,hq4⟩
  ·subst hq2
   have hq5:(id == -1)=false:=by simpa using hq3
   have hq6:(id != -1)=true:=by rw [bne,hq5];rfl
   go_wp2_with fail
   go_ret
   exact⟨L5.ret_int HC.out,below_step B0.out B2.out⟩
  ·have hq5:(mk != 0)=true:=by simpa using hq2
   go_wp2_with fail
   go_ret
   exact⟨L5.ret_int HC.out,below_step B0.out B2.out⟩
  ·have hq5:(mk != 0)=true:=by simpa using hq2
   go_wp2_with fail
   go_ret
   exact⟨L5.ret_int HC.out,below_step B0.out B2.out⟩
 have HF2:Hid (¬(numOk k id ty=false)):=hide (by rw [hq];simp)
 replace hq:=hide hq
 clear HNU
 rcases hq1 with ⟨hq2,hq3⟩ | ⟨hq2,hq3,hq4⟩
 all_goals
  first
  |subst hq2
   have hq5:(id == -1)=true:=by rw [hq3];rfl
   have hq6:(id != -1)=false:=by rw [hq3];rfl
   replace hq3:=hide hq3
  |have hq5:(mk != 0)=true:=by simpa using hq2
  go_wp2_with fail
  refine(rcounted_any k id n ty pl ar tt nm ao to ca ct _ HL.out).mono ?_;rintro e w3 ⟨rfl,b3⟩
  have B3:=hide (below_step B2.out b3)
  clear b3
  cases hc:cntOk k ar.length tt.length with
  |false=>
   have HC:Hid ((13:Int)=checkC (k,id,n,ty,ar,tt,nm,pl)):=hide (by unfold checkC;rw [if_neg HF1.out,if_neg HF2.out,if_pos hc])
   replace hc:=hide hc
   go_wp2_with fail
   go_ret
   exact⟨L5.ret_int HC.out,below_step B0.out B3.out⟩
  |true=>
  have HF3:Hid (¬(cntOk k ar.length tt.length=false)):=hide (by rw [hc];simp)
  replace hc:=hide hc
  clear c0 c1 c2 c3 c4 c5 c6 c7
  obtain⟨c0,c1,c2,c3,c4,c5,c6,c7⟩:=box8 ((B3.out.block _ (by omega)).trans H0.out)
  go_wp2_with fail
  refine(most_any k _).mono ?_;rintro e w4 ⟨rfl,hw4⟩
  rw [hw4]
  clear hw4
  have B4:=hide B3.out
  generalize mostN k=top at *
  rcases HRC.out with ⟨hr,hr1⟩ | ⟨hr,hr1⟩
  rotate_left
  ·have HC:Hid ((18:Int)=checkC (k,id,n,ty,ar,tt,nm,pl)):=hide (by unfold checkC;rw [if_neg HF1.out,if_neg HF2.out,if_neg HF3.out,if_pos hr])
   replace hr:=hide hr
   clear HRC
   rcases hr1 with ⟨h1,h2⟩ | ⟨h1,h2⟩ | ⟨h1,h2,h3,h4⟩
   ·have h5:(n != 0)=true:=by simpa using h2
    go_wp2_with fail
    go_ret
    exact⟨L5.ret_int HC.out,below_step B0.out B4.out⟩
   ·have h5:¬top < 0:=by omega
    go_wp2_with fail
    go_ret
    exact⟨L5.ret_int HC.out,below_step B0.out B4.out⟩
   ·have h5:¬top < 0:=by omega
    have h6:¬top < n:=by omega
    have h7:(k != 1)=true:=by simpa using h4
    go_wp2_with fail
    go_ret
    exact⟨L5.ret_int HC.out,below_step B0.out B4.out⟩
  have HF4:Hid (¬(rngOk k n=false)):=hide (by rw [hr];simp)
  replace hr:=hide hr
  clear HRC
  rcases hr1 with ⟨h1,h2⟩ | ⟨h1,h2,h3⟩ | ⟨h1,h2,h3,h4⟩
  all_goals
   first
   |have h5:(n != 0)=false:=by rw [h2];rfl
    have h6:¬0≤top:=by omega
    replace h2:=hide h2
    clear c0 c1 c3 c4 c5 c6 c7
    obtain⟨c0,c1,c2,c3,c4,c5,c6,c7⟩:=box8 ((B4.out.block _ (by omega)).trans H0.out)
   |have h5:¬top < 0:=by omega
    have h6:¬top < n:=by omega
    have h7:(k != 1)=false:=by rw [h4];rfl
    replace h4:=hide h4
   |have h5:¬top < 0:=by omega
    have h6:¬top < n:=by omega
    have h7:¬n < 0:=by omega
   go_wp2_with fail
   clear c0 c1 c2 c3 c4 c5 c6 c7
   go_loopw [5] (fun i wr=>∃j:Nat,j≤ar.length∧i= .int .i64 j∧Hid ((ar.take j).any (byd 1048576)=false)∧Hid (Below W.heap.size W wr)) (fun i _=>ar.length - (intOf i).toNat)
   case atStart=>exact⟨0,Nat.zero_le _,rfl,hide rfl,B4⟩
   case round=>
    obtain⟨j,hj,rfl,HA5,HWa⟩:=hrel
    obtain⟨c0,c1,c2,c3,c4,c5,c6,c7⟩:=box8 ((HWa.out.block _ (by omega)).trans H0.out)
    by_cases hlt:j < ar.length
    ·obtain⟨y,hy⟩:∃y,ar[j]? =some y:=⟨_,List.getElem?_eq_getElem hlt⟩
     rcases A0.out with he | ⟨g,o,rfl,hg,hcc⟩
     ·subst he;simp at hlt
     have hcell:=(HWa.out.cell (p:=⟨g,o+j,none⟩) hg).trans (hcc j y hy)
     have hlt':(j:Int) < ar.length:=by omega
     have HT:=hide (any_take 1048576 ar j y hy)
     have HH:=hide (any_hit 1048576 ar j y hy)
     clear hcc hy
     by_cases hy0:y < 0
     ·have HC:Hid ((8:Int)=checkC (k,id,n,ty,ar,tt,nm,pl)):=hide (by unfold checkC;rw [if_neg HF1.out,if_neg HF2.out,if_neg HF3.out,if_neg HF4.out,if_pos (HH.out (by simp [byd,hy0]))])
      clear HH HT
      go_wp2_with fail
      go_ret
      exact⟨L5.ret_int HC.out,below_step B0.out HWa.out⟩
     ·by_cases hy1:1048576 < y
      ·have HC:Hid ((8:Int)=checkC (k,id,n,ty,ar,tt,nm,pl)):=hide (by unfold checkC;rw [if_neg HF1.out,if_neg HF2.out,if_neg HF3.out,if_neg HF4.out,if_pos (HH.out (by simp [byd,hy1]))])
       clear HH HT
       go_wp2_with fail
       go_ret
       exact⟨L5.ret_int HC.out,below_step B0.out HWa.out⟩
      ·have HT1:=hide (HT.out.trans (by rw [HA5.out];simp [byd,hy0,hy1]:_=false))
       clear HH HT
       go_wp2_with fail
       go_roundw
       case rel=>exact⟨j+1,by omega,by go_num,HT1,HWa⟩
       case measure=>simp [intOf];omega
    ·obtain rfl:j=ar.length:=by omega
     have HF5:Hid (¬(ar.any (byd 1048576)=true)):=hide (by have:=HA5.out;rw [List.take_length] at this;rw [this];simp)
     go_wp2_with fail
     clear c0 c1 c2 c3 c4 c5 c6 c7
     go_loopw [6] (fun i wr=>∃j:Nat,j≤tt.length∧i= .int .i64 j∧Hid ((tt.take j).any (byd 255)=false)∧Hid (Below W.heap.size W wr)) (fun i _=>tt.length - (intOf i).toNat)
     case atStart=>exact⟨0,Nat.zero_le _,rfl,hide rfl,HWa⟩
     case round=>
      obtain⟨j,hj,rfl,HA6,HWt⟩:=hrel
      obtain⟨c0,c1,c2,c3,c4,c5,c6,c7⟩:=box8 ((HWt.out.block _ (by omega)).trans H0.out)
      by_cases hlt:j < tt.length
      ·obtain⟨y,hy⟩:∃y,tt[j]? =some y:=⟨_,List.getElem?_eq_getElem hlt⟩
       rcases U0.out with he | ⟨g,o,rfl,hg,hcc⟩
       ·subst he;simp at hlt
       have hcell:=(HWt.out.cell (p:=⟨g,o+j,none⟩) hg).trans (hcc j y hy)
       have hlt':(j:Int) < tt.length:=by omega
       have HT:=hide (any_take 255 tt j y hy)
       have HH:=hide (any_hit 255 tt j y hy)
       clear hcc hy
       by_cases hy0:y < 0
       ·have HC:Hid ((7:Int)=checkC (k,id,n,ty,ar,tt,nm,pl)):=hide (by unfold checkC;rw [if_neg HF1.out,if_neg HF2.out,if_neg HF3.out,if_neg HF4.out,if_neg HF5.out,if_pos (HH.out (by simp [byd,hy0]))])
        clear HH HT
        go_wp2_with fail
        go_ret
        exact⟨L5.ret_int HC.out,below_step B0.out HWt.out⟩
       ·by_cases hy1:255 < y
        ·have HC:Hid ((7:Int)=checkC (k,id,n,ty,ar,tt,nm,pl)):=hide (by unfold checkC;rw [if_neg HF1.out,if_neg HF2.out,if_neg HF3.out,if_neg HF4.out,if_neg HF5.out,if_pos (HH.out (by simp [byd,hy1]))])
         clear HH HT
         go_wp2_with fail
         go_ret
         exact⟨L5.ret_int HC.out,below_step B0.out HWt.out⟩
        ·have HT1:=hide (HT.out.trans (by rw [HA6.out];simp [byd,hy0,hy1]:_=false))
         clear HH HT
         go_wp2_with fail
         go_roundw
         case rel=>exact⟨j+1,by omega,by go_num,HT1,HWt⟩
         case measure=>simp [intOf];omega
      ·obtain rfl:j=tt.length:=by omega
       have HF6:Hid (¬(tt.any (byd 255)=true)):=hide (by have:=HA6.out;rw [List.take_length] at this;rw [this];simp)
       clear HA6 HA5
       have HC0:Hid (namC k nm=checkC (k,id,n,ty,ar,tt,nm,pl)):=hide (by unfold checkC;rw [if_neg HF1.out,if_neg HF2.out,if_neg HF3.out,if_neg HF4.out,if_neg HF5.out,if_neg HF6.out])
       by_cases h10:k=10
       ·subst h10
        obtain⟨a,b,hS⟩:=shp_form nm
        have HS:=hide hS
        have HC:Hid (shpF nm=checkC (10,id,n,ty,ar,tt,nm,pl)):=hide HC0.out
        clear hS HC0
        go_wp2_with fail
        refine(L3.refParse_all (bs nm) _).mono ?_;rintro e w9 ⟨rfl,b9⟩
        rw [HS.out]
        have B9:=hide (below_step HWt.out b9)
        clear b9
        generalize shpF nm=z at *
        go_wp2_with fail
        go_ret
        exact⟨L5.ret_int HC.out,below_step B0.out (below_step B9.out (below_box w9 _))⟩
       ·have e10:(k == 10)=false:=by simpa using h10
        by_cases h21:k=21
        ·subst h21
         have HC:Hid (∀r,L2.nameB nm=r→(if r then(0:Int)else 4)=checkC (21,id,n,ty,ar,tt,nm,pl)):=hide fun r h=>by rw [←HC0.out,←h];rfl
         clear HC0 h10
         go_wp2_with fail
         refine(L2.rname_any (bs nm) _ HSZ.out).mono ?_;rintro e w9 ⟨rfl,hw9⟩
         rw [hw9,bs_data]
         clear hw9
         cases hb:L2.nameB nm with
         |true=>
          have HC1:=hide (HC.out true hb)
          go_wp2_with fail
          go_ret
          exact⟨L5.ret_int HC1.out,below_step B0.out HWt.out⟩
         |false=>
          have HC1:=hide (HC.out false hb)
          go_wp2_with fail
          go_ret
          exact⟨L5.ret_int HC1.out,below_step B0.out HWt.out⟩
        ·have e21:(k == 21)=false:=by simpa using h21
         have n21:(k != 21)=true:=by rw [bne,e21];rfl
         have HCn:Hid ((if nm= [] then(0:Int)else 4)=checkC (k,id,n,ty,ar,tt,nm,pl)):=hide (by rw [←HC0.out];unfold namC;rw [if_neg h10,if_neg h21])
         clear HC0 h10 h21
         by_cases hnm:nm= []
         ·have HC1:=hide ((if_pos hnm).symm.trans HCn.out)
          have hE:(bs nm).toList.isEmpty=true:=by rw [nm_iff];simpa using hnm
          clear hnm HCn
          go_wp2_with fail
          go_ret
          exact⟨L5.ret_int HC1.out,below_step B0.out HWt.out⟩
         ·have HC1:=hide ((if_neg hnm).symm.trans HCn.out)
          have hE:(bs nm).toList.isEmpty=false:=by rw [nm_iff];simpa using hnm
          clear hnm HCn
          go_wp2_with fail
          go_ret
          exact⟨L5.ret_int HC1.out,below_step B0.out HWt.out⟩
theorem rcheck_any (x:Ins) (v:Value) (w:World) (h:InsV w x v) (hn:I64 x.2.2.1) (hl:x.2.2.2.2.2.2.1.length≤maxLen):Calls Tryz.prog 41 #[v] w fun e w'=>e= .returned (.int .i64 (checkC x))∧Below w.heap.size w w':=by
 obtain⟨k,id,n,ty,ar,tt,nm,pl⟩:=x
 obtain⟨ao,to,ca,ct,rfl,h1,h2,h3,h4,h5,h6⟩:=h
 exact rcheck_try k id n ty pl ar tt nm ao to ca ct w h1 h2 ⟨Nat.le_trans h3 h4,Nat.le_trans h5 h6⟩ hn hl
def finW (i:Nat) (x:Nat × Int) (r:List Fun):Int × Int:=if x.2≠0 then(x.2,(i:Int))else wholeF (i+1) x.1 r
theorem whole_fin {i m:Nat} {f:Fun} (r:List Fun) (hi:i≠32) (hh:headC f=0):wholeF i m (f :: r)=finW i (runB m f.2.2.2.1) r:=by
 rw [wholeF,if_neg hi,if_neg (by simp [hh])];rfl
theorem fin_bad {i m:Nat} {z:Int} (r:List Fun) (h:z≠0):finW i (m,z) r=(z,(i:Int)):=by unfold finW;rw [if_pos h]
theorem fin_good (i m:Nat) (r:List Fun):finW i (m,0) r=wholeF (i+1) m r:=by unfold finW;simp
theorem rhead_any (i:Nat) (f:Fun) (v:Value) (w:World) (h:FunV w f v) (hO:OkF f) (hi:i≤32):Calls Tryz.prog 40 #[v,.int .i64 i] w fun e w'=>e= .returned (.int .i64 (rheadC i f))∧Below w.heap.size w w':=by
 obtain⟨nm,ps,rt,bl,pl⟩:=f
 obtain⟨vp,vb,rfl,⟨ao,c,rfl,h1,h2,h3⟩,⟨bo,cb,rfl,h4,h5,_⟩⟩:=h
 exact rhead_try i nm ps rt pl bl ao bo c cb w h1 ⟨Nat.le_trans h2 h3,Nat.le_trans h4 h5⟩ hO.1 (by unfold maxLen;omega)
theorem rwhole_try (p:List Fun) (ao:Option Addr) (c:Nat) (w:World) (hp:ProgR w p (.slice ao p.length c)) (hO:∀f∈p,OkF f):
  Calls Tryz.prog 24 #[.agg #[.slice ao p.length c]] w fun e w'=>e= .returned (.agg #[.int .i64 (wholeF 0 0 p).1,.int .i64 (wholeF 0 0 p).2])∧Below w.heap.size w w':=by
 obtain⟨b0,h0,h1,hz0⟩:=two7_boxes w (.slice ao p.length c)
 have H0:=hide h0
 have H1:=hide h1
 have HP:=hide (hp.below b0)
 have B0:=hide b0
 have HO:=hide hO
 have hpc:p.length≤c∧c≤maxLen:=by
  obtain⟨ao',c',e,h1,h2,_⟩:=hp
  injection e with e1 e2 e3
  subst e3
  exact⟨h1,h2⟩
 unfold maxLen at hpc
 clear b0 h0 h1 hp hO
 go_enter Tryz.func24,Tryz.ntmps24
 go_upto_region 1 with fail
 show Code.wp _ _ _ _ ((w.alloc (.cells #[.slice ao p.length c] 24)).alloc (.cells #[.int .i64 0,.int .i64 0] 29))
 generalize (w.alloc (.cells #[.slice ao p.length c] 24)).alloc (.cells #[.int .i64 0,.int .i64 0] 29)=W at *
 go_wp2_with fail
 go_loopw [3,4] (fun mm i wr=>∃(m K:Nat),m≤4096∧mm= .int .i64 m∧K≤p.length∧K≤32∧i= .int .i64 K∧Hid (wholeF 0 0 p=wholeF K m (p.drop K))∧Hid (Below W.heap.size W wr)) (fun _ i _=>p.length - (intOf i).toNat)
 case atStart=>exact⟨0,0,by omega,rfl,Nat.zero_le _,by omega,rfl,hide rfl,hide (Below.refl _ _)⟩
 case round=>
  obtain⟨m,K,hm,rfl,hK,hK32,rfl,HR,HW⟩:=hrel
  have c0:=cell9 ((HW.out.block _ (Nat.lt_trans (Nat.lt_succ_self _) hz0)).trans H0.out)
  by_cases hkt:K < p.length
  ·obtain⟨f,hfK⟩:∃f,p[K]? =some f:=⟨p[K],List.getElem?_eq_some_iff.2 ⟨hkt,rfl⟩⟩
   obtain⟨ao',c',eq',hh1,hh2,hh3⟩:=HP.out
   injection eq' with e1 e2 e3
   subst e1 e3
   rcases hh3 with hh3 | ⟨gb,ob,rfl,hin⟩
   ·subst hh3;simp at hkt
   obtain⟨aoy,boy,cy,cby,hv,q0,q1,q2,q3,q4⟩:=((hin K f hfK).below HW.out).val
   have HV:=hide hv
   have HOf:=hide (HO.out f (List.mem_of_getElem? hfK))
   have hkI:(K:Int) < p.length:=by omega
   have HR2:=hide (HR.out.trans (by rw [wdrop_at hfK]))
   obtain⟨nm,ps,rt,bl,pl⟩:=f
   dsimp only at HV q0 q1 q2 q3 q4
   clear hin hfK hv HR
   have B7:=hide (below_box wr (.cells #[.string (bs nm),.slice aoy ps.length cy,.int .i64 rt,.slice boy bl.length cby,.int .i64 pl] 36))
   have H7:=hide (heap_alloc_new wr (.cells #[.string (bs nm),.slice aoy ps.length cy,.int .i64 rt,.slice boy bl.length cby,.int .i64 pl] 36))
   have hl7:=hide (Array.getElem?_eq_some_iff.1 H7.out).1
   go_wp2_with fail
   refine(rhead_any K (nm,ps,rt,bl,pl) _ _ (HV.out.below B7.out) HOf.out hK32).mono ?_;rintro e w8 ⟨rfl,b8⟩
   have HW8:=hide (below_step HW.out (below_step B7.out b8))
   have hwl:wr.heap.size < w8.heap.size:=Nat.lt_of_lt_of_le hl7.out b8.size
   have H8:=hide ((b8.block _ hl7.out).trans H7.out)
   have HV8:=hide (HV.out.below (below_step B7.out b8))
   clear b8 q0 q1 q2 q3 q4
   by_cases hh:rheadC K (nm,ps,rt,bl,pl)=0
   ·have h32:K≠32:=fun e=>by subst e;unfold rheadC at hh;rw [if_pos (Nat.le_refl _)] at hh;cases hh
    have HH:Hid (headC (nm,ps,rt,bl,pl)=0):=hide (by unfold rheadC at hh;rwa [if_neg (by omega)] at hh)
    have HRF:Hid (wholeF 0 0 p=finW K (runB m (bl.drop 0)) (p.drop (K+1))):=hide (HR2.out.trans (whole_fin _ h32 HH.out))
    have HBL:Hid (BlksR w8 bl (.slice boy bl.length cby)):=hide (by
     obtain⟨vp,vb,e,_,h2⟩:=HV8.out
     injection e with e
     have e2:=congrArg (fun a=>a[3]?) e
     simp at e2
     rw [e2];exact h2)
    have O2:=hide HOf.out.2
    dsimp only at O2
    rw [hh]
    clear hh HR2
    go_wp2_with fail
    obtain⟨w0,hw0⟩:∃w0,w0=w8:=⟨_,rfl⟩
    rw [←hw0] at HW8 H8 HBL hwl ⊢
    clear hw0 HV8
    go_loopw [3,7] (fun mm i wr'=>∃(m A:Nat),m≤4096∧mm= .int .i64 m∧A≤bl.length∧i= .int .i64 A∧Hid (wholeF 0 0 p=finW K (runB m (bl.drop A)) (p.drop (K+1)))∧Hid (Below w0.heap.size w0 wr')) (fun _ i _=>bl.length - (intOf i).toNat)
    case atStart=>exact⟨m,0,hm,rfl,Nat.zero_le _,rfl,HRF,hide (Below.refl _ _)⟩
    case round=>
     obtain⟨m1,A,hm1,rfl,hA,rfl,HRA,HWA⟩:=hrel
     obtain⟨s0,s1,s2,s3,s4⟩:=box5 ((HWA.out.block _ hwl).trans H8.out)
     clear s0 s1 s2 s4
     obtain⟨ao2,c2',eq2,hh1,hh2,hh3⟩:=HBL.out
     injection eq2 with e1 e2 e3
     subst e1 e3
     unfold maxLen at hh2
     by_cases hat:A < bl.length
     ·obtain⟨b,hbA⟩:∃b,bl[A]? =some b:=⟨bl[A],List.getElem?_eq_some_iff.2 ⟨hat,rfl⟩⟩
      rcases hh3 with hh3 | ⟨gc,oc,rfl,hgc,hbl⟩
      ·subst hh3;simp at hat
      obtain⟨vk,kd,kk⟩:=hbl A b hbA
      have KD:=hide kd
      obtain⟨aok,capk,rfl,lk1,lk2,kins⟩:=kk
      have HOb:=hide (O2.out b (List.mem_of_getElem? hbA))
      have KI:=hide kins
      have haI:(A:Int) < bl.length:=by omega
      have HR3:Hid (wholeF 0 0 p=finW K (midB m1 (b.drop 0) (bl.drop (A+1))) (p.drop (K+1))):=hide (by rw [HRA.out,wdrop_at hbA];rfl)
      unfold maxLen at lk2
      clear kins kd hbl hbA HRA
      go_wp2_with fail
      clear s3
      go_loopw [3,8] (fun mm i wr''=>∃(m J:Nat),m≤4096∧mm= .int .i64 m∧J≤b.length∧i= .int .i64 J∧Hid (wholeF 0 0 p=finW K (midB m (b.drop J) (bl.drop (A+1))) (p.drop (K+1)))∧Hid (Below w0.heap.size w0 wr'')) (fun _ i _=>b.length - (intOf i).toNat)
      case atStart=>exact⟨m1,0,hm1,rfl,Nat.zero_le _,rfl,HR3,HWA⟩
      case round=>
       obtain⟨m2,J,hm2,rfl,hJ,rfl,HRJ,HWJ⟩:=hrel
       obtain⟨s0,s1,s2,s3,s4⟩:=box5 ((HWJ.out.block _ hwl).trans H8.out)
       clear s0 s1 s2 s4
       have kd':=(HWJ.out.cell (p:=⟨gc,oc+A,none⟩) hgc).trans KD.out
       by_cases hjt:J < b.length
       ·obtain⟨y,hyJ⟩:∃y,b[J]? =some y:=⟨b[J],List.getElem?_eq_some_iff.2 ⟨hjt,rfl⟩⟩
        rcases KI.out with hh | ⟨gi,oi,rfl,hin⟩
        ·subst hh;simp at hjt
        obtain⟨aoz,toz,caz,ctz,hv,r0,r1,r2,r3,r4,r5,r6,r7⟩:=((hin J y hyJ).below HWJ.out).val
        have HVy:=hide hv
        have HOy:=hide (HOb.out y (List.mem_of_getElem? hyJ))
        have hjI:(J:Int) < b.length:=by omega
        have HR4:=hide (HRJ.out.trans (by rw [wdrop_at hyJ]))
        obtain⟨op,id,nn,ty,ar,tt,na,pp⟩:=y
        dsimp only at HVy r0 r1 r2 r3 r4 r5 r6 r7
        clear hin hyJ hv HRJ
        by_cases h4:m2=4096
        ·subst h4
         have HE:=hide (HR4.out.trans (by rw [midB_full];exact fin_bad _ (by decide):_=((6:Int),(K:Int))))
         obtain⟨d0,d1,z0,z1⟩:=err7_box (((below_step HW8.out HWJ.out).block _ hz0).trans H1.out)
         go_wp2_with fail
         exact bodyPost_ret (v:= .agg #[.int .i64 6,.int .i64 (K:Int)]) (by simp [results,Tryz.results24,go_sem,d0,d1]) rfl ⟨by rw [HE.out],err7_below B0.out (below_step HW8.out HWJ.out)⟩
        ·have h4':¬(4096:Int) < (m2:Int)+1:=by omega
         go_wp2_with fail
         refine(rcheck_any (op,id,nn,ty,ar,tt,na,pp) _ _ HVy.out HOy.out.1 HOy.out.2).mono ?_;rintro e w9 ⟨rfl,b9⟩
         have HW9:=hide (below_step HWJ.out b9)
         clear r0 r1 r2 r3 r4 r5 r6 r7 b9 s3 kd'
         by_cases hcx:checkC (op,id,nn,ty,ar,tt,na,pp)=0
         ·have HE:=hide (HR4.out.trans (by rw [midB_good _ _ h4 hcx]))
          rw [hcx]
          go_wp2_with fail
          go_roundw
          case rel=>exact⟨m2+1,J+1,by omega,by go_num,by omega,by go_num,HE,HW9⟩
          case measure=>simp [intOf];omega
         ·have HE:=hide (HR4.out.trans (by rw [midB_bad _ _ h4 hcx];exact fin_bad _ hcx:_=(checkC (op,id,nn,ty,ar,tt,na,pp),(K:Int))))
          have hcx':(checkC (op,id,nn,ty,ar,tt,na,pp) != 0)=true:=by simpa using hcx
          generalize checkC (op,id,nn,ty,ar,tt,na,pp)=z at *
          obtain⟨d0,d1,z0,z1⟩:=err7_box (((below_step HW8.out HW9.out).block _ hz0).trans H1.out)
          go_wp2_with fail
          exact bodyPost_ret (v:= .agg #[.int .i64 z,.int .i64 (K:Int)]) (by simp [results,Tryz.results24,go_sem,d0,d1]) rfl ⟨by rw [HE.out],err7_below B0.out (below_step HW8.out HW9.out)⟩
       ·obtain rfl:J=b.length:=by omega
        have HE:=hide (HRJ.out.trans (by rw [List.drop_length,midB_nil]:_=finW K (runB m2 (bl.drop (A+1))) (p.drop (K+1))))
        go_wp2_with fail
        go_roundw
        case rel=>exact⟨m2,A+1,hm2,rfl,by omega,by go_num,HE,HWJ⟩
        case measure=>simp [intOf];omega
     ·obtain rfl:A=bl.length:=by omega
      have HE:=hide (HRA.out.trans (by rw [List.drop_length];exact fin_good _ _ _:_=wholeF (K+1) m1 (p.drop (K+1))))
      have HWF:=hide (below_step HW8.out HWA.out)
      go_wp2_with fail
      go_roundw
      case rel=>exact⟨m1,K+1,hm1,rfl,by omega,by omega,by go_num,HE,HWF⟩
      case measure=>simp [intOf];omega
   ·have HE:Hid (wholeF 0 0 p=(rheadC K (nm,ps,rt,bl,pl),(K:Int))):=hide (by
     rw [HR2.out]
     by_cases h32:K=32
     ·subst h32;rw [whole_many];rfl
     ·have e:rheadC K (nm,ps,rt,bl,pl)=headC (nm,ps,rt,bl,pl):=if_neg (by omega)
      rw [e];exact whole_head _ _ h32 (by rw [←e];exact hh))
    have hh2:(rheadC K (nm,ps,rt,bl,pl) != 0)=true:=by simpa using hh
    generalize rheadC K (nm,ps,rt,bl,pl)=z at *
    clear hh
    obtain⟨d0,d1,z0,z1⟩:=err7_box ((HW8.out.block _ hz0).trans H1.out)
    go_wp2_with fail
    exact bodyPost_ret (v:= .agg #[.int .i64 z,.int .i64 (K:Int)]) (by simp [results,Tryz.results24,go_sem,d0,d1]) rfl ⟨by rw [HE.out],err7_below B0.out HW8.out⟩
  ·obtain rfl:K=p.length:=by omega
   have HE:Hid (wholeF 0 0 p=(0,0)):=hide (HR.out.trans (by rw [List.drop_length];rfl))
   obtain⟨d0,d1,z0,z1⟩:=err7_box ((HW.out.block _ hz0).trans H1.out)
   go_wp2_with fail
   exact bodyPost_ret (v:= .agg #[.int .i64 0,.int .i64 0]) (by simp [results,Tryz.results24,go_sem,d0,d1]) rfl ⟨by rw [HE.out],err7_below B0.out HW.out⟩
end Go.Proofs.YtljkgcfnoegibaaGreatDoor
