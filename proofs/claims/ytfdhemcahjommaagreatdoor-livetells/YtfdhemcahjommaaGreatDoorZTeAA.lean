/- Texts of one chain, joined. -/
import Derived.Test.YtfdhemcahjommaaGreatDoorZAAZ
set_option maxHeartbeats 4000000
set_option maxRecDepth 20000
namespace Go.Proofs.YtfdhemcahjommaaGreatDoor
open Go Go.RowKit
open G (Tok Er Ins Fun)
theorem Bh {b:List Ins} {i:Nat} {id:Int} (h:i < b.length):j4 id (b.drop i)=if tkX id (b.getD i o8)then 1 else if dm id (b.getD i o8)then 2 else j4 id (b.drop (i+1)):=by
 have e:b.drop i=b.getD i o8 :: b.drop (i+1):=by
  rw [List.drop_eq_getElem_cons h];congr 1
  rw [List.getD_eq_getElem?_getD,List.getElem?_eq_getElem h];rfl
 rw [e,j4]
theorem oX (b:List Ins) (i:Nat) (id:Int) (ao:Option Addr) (c:Nat) (w:World) (hb:gR w b (.slice ao b.length c)) (hl:b.length≤1000000) (hi:i≤b.length) (hx:∀x∈b,x.2.2.2.2.1.length≤maxLen):
  Calls Tryz.prog 31 #[.slice ao b.length c,.int .i64 i,.int .i64 id] w fun e w'=>e= .returned (.int .i64 (j4 id (b.drop i):Nat))∧Below w.heap.size w w':=by
 have HB:=ae hb;have HX:=ae hx;obtain⟨n,hn⟩:∃n,b.length=n:=⟨_,rfl⟩;have Hn:=ae hn;rw [hn] at hl hi ⊢;clear hb hx hn;obtain⟨r,hr⟩:∃r,j4 id (b.drop i)=r:=⟨_,rfl⟩;rw [hr];have HR:=ae hr;clear hr;go_enter Tryz.func31,Tryz.ntmps31
 go_wp2_with fail
 go_loopw [7] (fun iv wr=>∃J:Nat,J≤n∧iv= .int .i64 J∧Hid (j4 id (b.drop J)=r)∧Hid (Below w.heap.size w wr)) (fun iv _=>n - (intOf iv).toNat)
 case atStart=>exact⟨i,hi,rfl,HR,ae (Below.refl _ _)⟩
 case round=>
  obtain⟨J,hJ,rfl,HJ,HW⟩:=hrel;by_cases hjn:J < n
  ·have hjI:(J:Int) < n:=(by omega);have hjl:J < b.length:=(by rw [Hn.out];exact hjn);have HSt:=ae (Bh (id:=id) hjl);have hmem:b.getD J o8∈b:=(by rw [List.getD_eq_getElem?_getD,List.getElem?_eq_getElem hjl];exact List.getElem_mem hjl);have hxl:=HX.out _ hmem;obtain⟨g,o,rfl,hins⟩:=mW HB.out hjl;obtain⟨x,hxe⟩:∃x,b.getD J o8=x:=⟨_,rfl⟩;rw [hxe] at hins hxl HSt;clear hmem hxe;obtain⟨xo,zo,xc,zc,hiv,e0,e1,e2,e3,e4,e5,e6,e7⟩:=(hins.below HW.out).val;have HA:Hid (Sl wr xo x.2.2.2.2.1):=ae (mR hiv).1;clear hins hiv;obtain⟨xl,hxl1⟩:∃n,x.2.2.2.2.1.length=n:=⟨_,rfl⟩;obtain⟨zl,hzl1⟩:∃n,x.2.2.2.2.2.1.length=n:=⟨_,rfl⟩;rw [hxl1] at e4;rw [hzl1] at e5;have b3:=ag wr (.cells (iC x xo zo xl zl xc zc) 48);have Y0:=ae (heap_alloc_new wr (.cells (iC x xo zo xl zl xc zc) 48));have HW3:=ae (af HW.out b3);have HC:=ae (cE x.2.2.2.2.1 id xo xc (wr.alloc (.cells (iC x xo zo xl zl xc zc) 48)) (HA.out.below b3) hxl);rw [hxl1] at HC;clear b3 hxl1 hzl1 HA;go_upto_region 5 with fail
   show Code.wp _ _ _ _ (wr.alloc (.cells (iC x xo zo xl zl xc zc) 48));clear e0 e1 e2 e3 e4 e5 e6 e7;generalize wr.alloc (.cells (iC x xo zo xl zl xc zc) 48)=w3 at *;generalize wr.heap.size=q3 at *;obtain⟨y0,y1,y2,y3,y4,y5,y6,y7⟩:=iq Y0.out;have HT:Hid (tkX id x=(decide (x.1≠20) && aA x.2.2.2.2.1 id)):=ae rfl;have HH:Hid (dm id x=(decide (x.2.1=id) && decide (mkX x≠0))):=ae rfl;have HMk:Hid (mkX x=L5.cd x.1 x.2.2.2.1):=ae rfl;have HM:=ae (L5.cO x.1 x.2.2.2.1 (.int .i64 x.2.1) (.int .i64 x.2.2.1) (.slice xo xl xc) (.slice zo zl zc) (.string (bs x.2.2.2.2.2.2.1)) (.int .i64 x.2.2.2.2.2.2.2) w3);rw [←HMk.out] at HM;obtain⟨hv,hhv⟩:∃hv,aA x.2.2.2.2.1 id=hv:=⟨_,rfl⟩;rw [hhv] at HC HT;clear hhv;by_cases htk:x.1≠20∧hv=true
   ·obtain⟨h20,rfl⟩:=htk;have k1:(x.1 != 20)=true:=(by simpa using h20);have k2:(x.1 == 20)=false:=(by simpa using h20);have HE:Hid (r=1):=ae (by rw [←HJ.out,HSt.out,HT.out];simp [h20]);clear h20;go_wp2_with fail
    refine HC.out.mono ?_;rintro e w4 ⟨rfl,rfl⟩;go_wp2_with fail
    go_ret;exact⟨L5.aR (by rw [HE.out];rfl),HW3.out⟩
   ·have HJ2:Hid ((if dm id x then 2 else j4 id (b.drop (J+1)))=r):=ae (by
     rw [←HJ.out,HSt.out,if_neg (show ¬tkX id x=true from fun q=>htk (by rw [HT.out] at q;simpa using q))])
    by_cases h20:x.1=20
    case' pos=>
     have k1:(x.1 != 20)=false:=(by rw [bne_eq_false_iff_eq];exact h20);have k2:(x.1 == 20)=true:=by simpa using h20
    case' neg=>
     have k1:(x.1 != 20)=true:=(by simpa using h20);have k2:(x.1 == 20)=false:=(by simpa using h20);obtain rfl:hv=false:=by
      cases hv with
      |false=>rfl
      |true=>exact absurd ⟨h20,rfl⟩ htk
    all_goals
     clear h20 htk;by_cases hid:x.2.1=id
     ·have k3:(x.2.1 == id)=true:=beq_iff_eq.2 hid;by_cases hm:mkX x=0
      ·have k4:(mkX x != 0)=false:=(by rw [bne_eq_false_iff_eq];exact hm);have HE:Hid (j4 id (b.drop (J+1))=r):=ae (by rw [←HJ2.out,HH.out];simp [hm]);clear hid hm;go_wp2_with (first | (go_at_call 13;refine HC.out.mono ?_;rintro e w4 ⟨rfl,rfl⟩) | (go_at_call 21;refine HM.out.mono ?_;rintro e w5 ⟨rfl,b5⟩;have HW5:=ae (af HW3.out b5);clear b5))
       go_roundw
       case rel=>exact⟨J+1,by omega,by go_num,HE,HW5⟩
       case measure=>simp [intOf];omega
      ·have k4:(mkX x != 0)=true:=bne_iff_ne.2 hm;have HE:Hid (r=2):=ae (by rw [←HJ2.out,HH.out];simp [hm,hid]);clear hid hm;go_wp2_with (first | (go_at_call 13;refine HC.out.mono ?_;rintro e w4 ⟨rfl,rfl⟩) | (go_at_call 21;refine HM.out.mono ?_;rintro e w5 ⟨rfl,b5⟩;have HW5:=ae (af HW3.out b5);clear b5))
       go_ret;exact⟨L5.aR (by rw [HE.out];rfl),HW5.out⟩
     ·have k3:(x.2.1 == id)=false:=beq_eq_false_iff_ne.2 hid;have HE:Hid (j4 id (b.drop (J+1))=r):=ae (by rw [←HJ2.out,HH.out];simp [hid]);clear hid;go_wp2_with (go_at_call 13;refine HC.out.mono ?_;rintro e w4 ⟨rfl,rfl⟩)
      go_roundw
      case rel=>exact⟨J+1,by omega,by go_num,HE,HW3⟩
      case measure=>simp [intOf];omega
  ·obtain rfl:J=n:=(by omega);have HE:Hid (r=0):=ae (by rw [←HJ.out,List.drop_eq_nil_of_le (by rw [Hn.out];exact Nat.le_refl _)];rfl);go_wp2_with fail
   go_ret;exact⟨L5.aR (by rw [HE.out];rfl),HW.out⟩
theorem Jw {b:List Ins} {i:Nat} (h:i < b.length):gI b i∈b:=List.mem_of_getElem? (yV h)
theorem Fb {b:List Ins} {I:Nat} (h:∀j,j < I→j < b.length∧(gI b j).1=20):I≤phN b:=by
 unfold phN;induction b generalizing I with
 |nil=>
  cases I with
  |zero=>exact Nat.zero_le _
  |succ I=>exact absurd (h 0 (Nat.zero_lt_succ _)).1 (Nat.not_lt_zero _)
 |cons x b ih=>
  cases I with
  |zero=>exact Nat.zero_le _
  |succ I=>
   have h0:x.1=20:=(h 0 (Nat.zero_lt_succ _)).2;rw [List.takeWhile_cons,if_pos (by simpa using h0),List.length_cons];refine Nat.succ_le_succ (ih fun j hj=> ?_);have:=h (j+1) (by omega);exact⟨by simpa using this.1,this.2⟩
theorem zb {fr id:Int} {b:List Ins}:ju fr id b=true↔∃i,i < phN b∧pT fr id (gI b i)=true:=by
 unfold ju phN;constructor
 ·intro h;obtain⟨x,hx,hp⟩:=List.any_eq_true.1 h;obtain⟨i,hi⟩:=List.mem_iff_getElem?.1 hx;have hl:=(List.getElem?_eq_some_iff.1 hi).1;refine⟨i,hl,?_⟩;have:gI b i=x:=by
   unfold gI;obtain⟨t,ht⟩:=List.takeWhile_prefix (l:=b) (fun x=>decide (x.1=20));rw [List.getD_eq_getElem?_getD,←ht,List.getElem?_append_left hl,hi];rfl
  rw [this];exact hp
 ·rintro ⟨i,hi,hp⟩;refine List.any_eq_true.2 ⟨gI b i,?_,hp⟩;obtain⟨t,ht⟩:=List.takeWhile_prefix (l:=b) (fun x=>decide (x.1=20));rw [List.mem_iff_getElem?];refine⟨i,?_⟩;have h1:b[i]? =some (gI b i):=yV (by have:=(List.takeWhile_sublist (l:=b) (fun x=>decide (x.1=20))).length_le;omega);rw [←h1];exact(List.getElem?_append_left (l₂:=t) hi).symm.trans (by rw [ht])
theorem Cm {fr id:Int} {x:Ins} (hl:x.2.2.2.2.1.length=x.2.2.2.2.2.1.length):pT fr id x=true↔∃m,m < x.2.2.2.2.2.1.length∧x.2.2.2.2.2.1.getD m 0=fr∧x.2.2.2.2.1.getD m 0=id:=by
 constructor
 ·intro h;obtain⟨n,_,h2,h3,h4⟩:=yD h;exact⟨n,h2,h3,h4⟩
 ·rintro ⟨m,h1,h2,h3⟩;unfold pT;refine List.any_eq_true.2 ⟨(fr,id),?_,by simp⟩;rw [List.mem_iff_getElem?];refine⟨m,List.getElem?_zip_eq_some.2 ⟨?_,?_⟩⟩
  ·rw [List.getElem?_eq_getElem h1,←h2,List.getD_eq_getElem?_getD,List.getElem?_eq_getElem h1];rfl
  ·rw [List.getElem?_eq_getElem (by omega),←h3,List.getD_eq_getElem?_getD,List.getElem?_eq_getElem (by omega)];rfl
theorem xj (b:List Ins) (ao:Option Addr) (c:Nat) (w:World) (hb:gR w b (.slice ao b.length c)) (hl:b.length≤1000000):
  Calls Tryz.prog 33 #[.slice ao b.length c] w fun e w'=>e= .returned (.int .i64 (phN b:Nat))∧Below w.heap.size w w':=by
 have HB:=ae hb;obtain⟨n,hn⟩:∃n,b.length=n:=⟨_,rfl⟩;have Hn:=ae hn;rw [hn] at hl ⊢;clear hb hn;obtain⟨r,hr⟩:∃r,phN b=r:=⟨_,rfl⟩;rw [hr];have HR:=ae hr;clear hr;go_enter Tryz.func33,Tryz.ntmps33
 go_wp2_with fail
 go_loopw [3] (fun iv wr=>∃J:Nat,J≤n∧iv= .int .i64 J∧Hid (∀j,j < J→j < b.length∧(gI b j).1=20)∧Hid (Below w.heap.size w wr)) (fun iv _=>n - (intOf iv).toNat)
 case atStart=>exact⟨0,Nat.zero_le _,rfl,ae (fun j h=>absurd h (Nat.not_lt_zero _)),ae (Below.refl _ _)⟩
 case round=>
  obtain⟨J,hJ,rfl,HJ,HW⟩:=hrel;by_cases hjn:J < n
  ·have hjI:(J:Int) < n:=(by omega);have hjl:J < b.length:=(by rw [Hn.out];exact hjn);obtain⟨g,o,rfl,hins⟩:=mW HB.out hjl;obtain⟨xo,zo,xc,zc,_,e0,_⟩:=(hins.below HW.out).val;obtain⟨op,hop⟩:∃op,(gI b J).1=op:=⟨_,rfl⟩;rw [hop] at e0;clear hins;by_cases h20:op=20
   ·have k1:(op == 20)=true:=(by simpa using h20);have HE:Hid (∀j,j < J+1→j < b.length∧(gI b j).1=20):=ae (fun j hj=>by
     by_cases e:j=J
     ·rw [e];exact⟨hjl,hop.trans h20⟩
     ·exact HJ.out j (by omega))
    clear h20 hop hjl;go_wp2_with fail
    go_roundw
    case rel=>exact⟨J+1,by omega,by go_num,HE,HW⟩
    case measure=>simp [intOf];omega
   ·have k1:(op == 20)=false:=beq_eq_false_iff_ne.2 h20;have HE:Hid (r=J):=ae (by rw [←HR.out,oh HJ.out (.inr (by rw [hop];exact h20))]);clear h20 hop hjl;go_wp2_with fail
    go_ret;exact⟨L5.aR (by rw [HE.out]),HW.out⟩
  ·obtain rfl:J=n:=(by omega);have HE:Hid (r=J):=ae (by rw [←HR.out,oh HJ.out (.inl Hn.out.symm)]);go_wp2_with fail
   go_ret;exact⟨L5.aR (by rw [HE.out]),HW.out⟩
theorem EE (b:List Ins) (fr id:Int) (ao:Option Addr) (c:Nat) (w:World) (hb:gR w b (.slice ao b.length c)) (hl:b.length≤1000000) (hx:∀x∈b,x.1=20→x.2.2.2.2.1.length=x.2.2.2.2.2.1.length∧x.2.2.2.2.2.1.length≤1000000):
  Calls Tryz.prog 32 #[.slice ao b.length c,.int .i64 fr,.int .i64 id] w fun e w'=>e= .returned (.bool (ju fr id b))∧Below w.heap.size w w':=by
 have HB:=ae hb;have HX:=ae hx;obtain⟨n,hn⟩:∃n,b.length=n:=⟨_,rfl⟩;have Hn:=ae hn;rw [hn] at hl ⊢;clear hb hn hx;obtain⟨r,hr⟩:∃r,ju fr id b=r:=⟨_,rfl⟩;rw [hr];have HR:=ae hr;have HNo:Hid (∀J:Nat,(∀j,j < J→j < b.length∧(gI b j).1=20∧pT fr id (gI b j)=false)→(J=b.length∨(gI b J).1≠20)→r=false):=ae (fun J h1 h2=>by
  rw [←hr,←Bool.not_eq_true,zb];rintro ⟨i,hi,hp⟩;rw [oh (fun j hj=>⟨(h1 j hj).1,(h1 j hj).2.1⟩) h2] at hi;rw [(h1 i hi).2.2] at hp
  cases hp)
 have HYes:Hid (∀J:Nat,(∀j,j < J→j < b.length∧(gI b j).1=20)→J < b.length→(gI b J).1=20→pT fr id (gI b J)=true→r=true):=ae (fun J h1 h2 h3 h4=>by
  rw [←hr,zb];refine⟨J,Fb (I:=J+1) fun j hj=> ?_,h4⟩;by_cases e:j=J
  ·rw [e];exact⟨h2,h3⟩
  ·exact h1 j (by omega))
 clear hr HR;go_enter Tryz.func32,Tryz.ntmps32
 go_wp2_with fail
 go_loopw [7] (fun iv wr=>∃J:Nat,J≤n∧iv= .int .i64 J∧Hid (∀j,j < J→j < b.length∧(gI b j).1=20∧pT fr id (gI b j)=false)∧Hid (Below w.heap.size w wr)) (fun iv _=>n - (intOf iv).toNat)
 case atStart=>exact⟨0,Nat.zero_le _,rfl,ae (fun j h=>absurd h (Nat.not_lt_zero _)),ae (Below.refl _ _)⟩
 case round=>
  obtain⟨J,hJ,rfl,HJ,HW⟩:=hrel;by_cases hjn:J < n
  ·have hjI:(J:Int) < n:=(by omega);have hjl:J < b.length:=(by rw [Hn.out];exact hjn);have Hjl:=ae hjl;obtain⟨g,o,rfl,hins⟩:=mW HB.out hjl;have HIn:=ae hins;obtain⟨xo,zo,xc,zc,_,e0,_,_,_,_,e5,_,_⟩:=(hins.below HW.out).val;obtain⟨op,hop⟩:∃op,(gI b J).1=op:=⟨_,rfl⟩;rw [hop] at e0;clear hins;by_cases h20:op=20
   ·have k1:(op == 20)=true:=(by simpa using h20);obtain⟨hxl,hx6⟩:=HX.out _ (Jw hjl) (hop.trans h20);obtain⟨tl,htl⟩:∃n,(gI b J).2.2.2.2.2.1.length=n:=⟨_,rfl⟩;have Htl:=ae htl;have Hxl:=ae hxl;have H20:=ae (hop.trans h20);rw [htl] at hx6;have HPi:=ae (Cm (fr:=fr) (id:=id) hxl);clear h20 hop hjl hxl htl e5;go_wp2_with fail
    go_loopw [8] (fun mv wr=>∃M:Nat,M≤tl∧mv= .int .i64 M∧Hid (∀m,m < M→¬((gI b J).2.2.2.2.2.1.getD m 0=fr∧(gI b J).2.2.2.2.1.getD m 0=id))∧Hid (Below w.heap.size w wr)) (fun mv _=>tl - (intOf mv).toNat)
    case atStart=>exact⟨0,Nat.zero_le _,rfl,ae (fun j h=>absurd h (Nat.not_lt_zero _)),HW⟩
    case round=>
     clear HW e0;obtain⟨M,hM,rfl,HMm,HW⟩:=hrel;obtain⟨xo,zo,xc,zc,hiv,e0,_,_,_,e4,e5,_,_⟩:=(HIn.out.below HW.out).val;obtain⟨hsA,hsT⟩:=mR hiv;have hA:=ae hsA;have hT:=ae hsT;rw [Hxl.out,Htl.out] at e4;rw [Htl.out] at e5;clear hiv hsA hsT;by_cases hmt:M < tl
     ·have hmI:(M:Int) < tl:=(by omega);obtain⟨tv,htv⟩:∃v,(gI b J).2.2.2.2.2.1.getD M 0=v:=⟨_,rfl⟩;obtain⟨av,hav⟩:∃v,(gI b J).2.2.2.2.1.getD M 0=v:=⟨_,rfl⟩;obtain⟨g1,o1,rfl,c1⟩:=cX hT.out (i:=M) (by rw [Htl.out];exact hmt);obtain⟨g2,o2,rfl,c2⟩:=cX hA.out (i:=M) (by rw [Hxl.out,Htl.out];exact hmt);rw [htv] at c1;rw [hav] at c2;by_cases h1:tv=fr
      ·have k2:(tv == fr)=true:=(by simpa using h1);by_cases h2:av=id
       ·have k3:(av == id)=true:=(by simpa using h2);have HE:Hid (r=true):=ae (HYes.out J (fun j hj=>⟨(HJ.out j hj).1,(HJ.out j hj).2.1⟩) Hjl.out H20.out (HPi.out.2 ⟨M,by rw [Htl.out];exact hmt,htv.trans h1,hav.trans h2⟩));clear h1 h2 htv hav;go_wp2_with fail
        go_ret;exact⟨L5.ax HE.out.symm,HW.out⟩
       ·have k3:(av == id)=false:=beq_eq_false_iff_ne.2 h2;have HE:Hid (∀m,m < M+1→¬((gI b J).2.2.2.2.2.1.getD m 0=fr∧(gI b J).2.2.2.2.1.getD m 0=id)):=ae (fun m hm=>by
         by_cases e:m=M
         ·rw [e,hav];exact fun q=>h2 q.2
         ·exact HMm.out m (by omega))
        clear h1 h2 htv hav;go_wp2_with fail
        go_roundw
        case rel=>exact⟨M+1,by omega,by go_num,HE,HW⟩
        case measure=>simp [intOf];omega
      ·have k2:(tv == fr)=false:=beq_eq_false_iff_ne.2 h1;have HE:Hid (∀m,m < M+1→¬((gI b J).2.2.2.2.2.1.getD m 0=fr∧(gI b J).2.2.2.2.1.getD m 0=id)):=ae (fun m hm=>by
        by_cases e:m=M
        ·rw [e,htv];exact fun q=>h1 q.1
        ·exact HMm.out m (by omega))
       clear h1 htv hav;go_wp2_with fail
       go_roundw
       case rel=>exact⟨M+1,by omega,by go_num,HE,HW⟩
       case measure=>simp [intOf];omega
     ·obtain rfl:M=tl:=(by omega);have HE:Hid (∀j,j < J+1→j < b.length∧(gI b j).1=20∧pT fr id (gI b j)=false):=ae (fun j hj=>by
       by_cases e:j=J
       ·rw [e];refine⟨Hjl.out,H20.out,?_⟩;rw [←Bool.not_eq_true,HPi.out];rintro ⟨m,hm,q⟩;exact HMm.out m (by rw [←Htl.out];exact hm) q
       ·exact HJ.out j (by omega))
      go_wp2_with fail
      go_roundw
      case rel=>exact⟨J+1,by omega,by go_num,HE,HW⟩
      case measure=>simp [intOf];omega
   ·have k1:(op == 20)=false:=beq_eq_false_iff_ne.2 h20;have HE:Hid (r=false):=ae (HNo.out J HJ.out (.inr (by rw [hop];exact h20)));clear h20 hop hjl e5;go_wp2_with fail
    go_ret;exact⟨L5.ax HE.out.symm,HW.out⟩
  ·obtain rfl:J=n:=(by omega);have HE:Hid (r=false):=ae (HNo.out J HJ.out (.inl Hn.out.symm));go_wp2_with fail
   go_ret;exact⟨L5.ax HE.out.symm,HW.out⟩
open Mix (Up)
theorem BfI.Li {f:Fun} {k:Nat} {id:Int} {op:List Int} (hT:Tos f) (h:BfI f k id op) {o b:Int} (ho:o∈op) (hb:b∈aF f o.toNat) (he:ju o id (ah f b.toNat)=true):eS f k id=true:=
 h.2.2.2 o ho ((lV hT (h.lt ho).1).2 ⟨b,hb,.inl (by rw [(h.lt ho).2];exact he)⟩)
theorem GS {B:Nat} {w:World} {l:List Int} {lo:Option Addr} {n lc:Nat} (h:jT B w l (.slice lo n lc)):Sl w lo l:=by
 obtain⟨ao,c,e,hs,_⟩:=eO h;injection e with e1;subst e1;exact hs
theorem Bj {B:Nat} {w w':World} {l:List Int} {u v:Value} (h:jT B w l u) (g:w.grownBy w' v.ownBlock) (a:jq u v):jT B w' l u:=by
 refine World.ownsRow.kept h g ?_;rcases a with a | a
 ·exact .inl a
 ·exact .inr a
def KC (fv ov:Value) (g oo I B:Nat) (o:Int) (l:List Int) (t:Tmp):Up:=match t with
 |21=>Up.eq fv
 |22=>Up.eq ov
 |23=>Up.eq (.int .i64 I)
 |24=>Up.eq (.pointer (some ⟨g,oo+I,none⟩))
 |25=>Up.eq (.int .i64 o)
 |26 | 9=>Up.Km B l
 |_=>Up.any
def J7 (bv kv ov:Value) (q0 gb ob bN g2 o2 I:Nat) (o id:Int) (ev:Bool) (t:Tmp):Up:=match t with
 |37=>Up.eq (.pointer (some ⟨q0,3,none⟩))
 |38=>Up.eq bv
 |39=>Up.eq (.int .i64 bN)
 |40=>Up.eq (.pointer (some ⟨gb,ob+bN,none⟩))
 |41=>Up.eq kv
 |42=>Up.eq ov
 |43=>Up.eq (.int .i64 I)
 |44=>Up.eq (.pointer (some ⟨g2,o2+I,none⟩))
 |45=>Up.eq (.int .i64 o)
 |46=>Up.eq (.int .i64 id)
 |47=>Up.eq (.bool ev)
 |_=>Up.any
theorem nT (f:Fun) (k:Nat) (id:Int) (v:Value) (w:World) (hv:bG w f v) (hF:LvF f) (hk:k < f.2.2.2.1.length):
  Calls Tryz.prog 14 #[v,.int .i64 k,.int .i64 id] w fun e w'=>e= .returned (.bool (eS f k id))∧Below w.heap.size w w':=by
 obtain⟨lp,cp,lb,cb,rfl,_,_⟩:=cG hv;have HV:=ae hv;obtain⟨hFul,hTos,hMod,hArg⟩:=hF;have HT:=ae hTos;have HFul:=ae hFul;have HMd:=ae hMod;have HAr:=ae hArg;have HRw:Hid (∀k,k < f.2.2.2.1.length→∃g o ao c,lb=some ⟨g,o,none⟩∧g < w.heap.size∧w.cell? ⟨g,o+k,none⟩=some (.slice ao (ah f k).length c)∧gR w (ah f k) (.slice ao (ah f k).length c)):=ae (fun k hk=>df (dF hv) hk);have HO:=ae (BfI.one (f:=f) id hk);have hnb:=hMod.1;obtain⟨r,hr⟩:∃r,eS f k id=r:=⟨_,rfl⟩;rw [hr];have HR:=ae hr;clear hFul hTos hMod hArg hv hr;obtain⟨nb,hnbe⟩:∃n,f.2.2.2.1.length=n:=⟨_,rfl⟩;obtain⟨lps,hlps⟩:∃n,f.2.1.length=n:=⟨_,rfl⟩;obtain⟨nm,hnm⟩:∃n,bs f.1=n:=⟨_,rfl⟩;obtain⟨rt,hrt⟩:∃n,f.2.2.1=n:=⟨_,rfl⟩;obtain⟨pl,hpe⟩:∃n,f.2.2.2.2=n:=⟨_,rfl⟩;rw [hnbe] at hnb hk HRw;rw [hnbe,hlps,hnm,hrt,hpe] at HV ⊢;replace hnbe:=ae hnbe;clear hlps hnm hrt hpe;have b1:=ag w (.cells #[.string nm,.slice lp lps cp,.int .i64 rt,.slice lb nb cb,.int .i64 pl] 28);have HX0:=ae (heap_alloc_new w (.cells #[.string nm,.slice lp lps cp,.int .i64 rt,.slice lb nb cb,.int .i64 pl] 28));have B1:=ae b1;have hs1:(w.alloc (.cells #[.string nm,.slice lp lps cp,.int .i64 rt,.slice lb nb cb,.int .i64 pl] 28)).heap.size=w.heap.size+1:=by simp
 clear b1;go_enter Tryz.func14,Tryz.ntmps14
 go_upto_region 1 with fail
 show Code.wp _ _ _ _ (w.alloc (.cells #[.string nm,.slice lp lps cp,.int .i64 rt,.slice lb nb cb,.int .i64 pl] 28));generalize w.alloc (.cells #[.string nm,.slice lp lps cp,.int .i64 rt,.slice lb nb cb,.int .i64 pl] 28)=W at *;replace hs1:=ae hs1;obtain⟨q0,hq0⟩:∃q,w.heap.size=q:=⟨_,rfl⟩;rw [hq0] at HX0 hs1 ⊢;have hq0l:=(Array.getElem?_eq_some_iff.1 HX0.out).1;replace hq0:=ae hq0;have HG0:=ae (Grw.lit W (k:Int));go_wp2_with fail
 go_loopw [7,8] (fun ov iv wr=>∃(op:List Int) (I:Nat),I≤op.length∧iv= .int .i64 I∧Hid (BfI f k id op)∧Hid (∀j,j < I→Cls f id op (op.getD j 0))∧Hid (Grw W op ov wr)) (fun _ iv _=>nb - (intOf iv).toNat)
 case atStart=>exact⟨[(k:Int)],0,Nat.zero_le _,rfl,HO,ae (fun j h=>absurd h (Nat.not_lt_zero _)),HG0⟩
 case round=>
  clear HG0 HO;obtain⟨op,I,hI,rfl,HB,HC,HG⟩:=hrel;obtain⟨ao,c,rfl,hsl,hml⟩:=HG.out.slice;have hfit:op.length≤nb:=by rw [←hnbe.out];exact cf _ _ HB.out.1 HB.out.2.1
  obtain⟨opl,hopl⟩:∃n,op.length=n:=⟨_,rfl⟩;rw [hopl] at hI hml hfit HG ⊢;by_cases hit:I < opl
  ·have hiI:(I:Int) < opl:=(by omega);obtain⟨g,oo,rfl,cI⟩:=cX hsl (i:=I) (by omega);have hgl:=(World.block_lt_of_cell? wr _ cI);obtain⟨o,ho⟩:∃o,op.getD I 0=o:=⟨_,rfl⟩;have hom:o∈op:=(by rw [←ho,List.getD_eq_getElem?_getD,List.getElem?_eq_getElem (by omega)];exact List.getElem_mem (by omega));obtain⟨ol,oe⟩:=HB.out.lt hom;rw [ho] at cI;have Ho:=ae ho;have Hom:=ae hom;have Hopl:=ae hopl;obtain⟨RB,hRB⟩:∃n,wr.heap.size=n:=⟨_,rfl⟩;obtain⟨l,hle⟩:∃l,aF f o.toNat=l:=⟨_,rfl⟩;have HLe:=ae hle;have HWr:=ae HG.out.2;have CN:∀w',Below wr.heap.size wr w'→Calls Tryz.prog 18 #[(.agg #[.string nm,.slice lp lps cp,.int .i64 rt,.slice lb nb cb,.int .i64 pl]),.int .i64 o] w' fun e w''=>∃v,e= .returned v∧Below w'.heap.size w' w''∧jT wr.heap.size w'' l v:=fun w' b=>by
    have h:=mg f o.toNat (.agg #[.string nm,.slice lp lps cp,.int .i64 rt,.slice lb nb cb,.int .i64 pl]) w' (HV.out.below (af B1.out (af HWr.out b))) HFul.out ol;rw [oe,hle] at h;exact h.mono fun e w'' ⟨v,he,ho,hb⟩=>⟨v,he,hb,aO ho b.size⟩
   have co:=fun(w':World) (b:Below wr.heap.size wr w')=>(b.cell (p:=⟨g,oo+I,none⟩) hgl).trans cI;have xs:=fun(w':World) (b:Below wr.heap.size wr w')=>(bW (((af HWr.out b).block _ hq0l).trans HX0.out)).1;replace ol:=ae ol;clear cI ho hom hopl hle hsl oe;replace CN:=ae CN;replace co:=ae co;replace xs:=ae xs;go_wp2_with fail
   replace CN:=CN.out;replace co:=co.out;replace xs:=xs.out;refine Mix.dI (KC (.agg #[.string nm,.slice lp lps cp,.int .i64 rt,.slice lb nb cb,.int .i64 pl]) (.slice (some ⟨g,oo,none⟩) opl c) g oo I wr.heap.size o l) (by kernel_rfl) (by kernel_rfl) ?_;refine Mix.aj rfl (al (.agg #[.string nm,.slice lp lps cp,.int .i64 rt,.slice lb nb cb,.int .i64 pl]) rfl) ?_ ?_
   ·intro w b k;obtain⟨x0,x1,x2,x3,x4⟩:=xs w b;clear k;simp [go_sem,x0,x1,x2,x3,x4];exact⟨Below.refl _ _,fun d hd=>by cases hd;rfl⟩
   rintro v ⟨_,_,h⟩;obtain rfl:v=(.agg #[.string nm,.slice lp lps cp,.int .i64 rt,.slice lb nb cb,.int .i64 pl]):=h _ rfl;clear h;simp only [Act.put,sU1,sU2,sU3];refine Mix.aj rfl (al (.slice (some ⟨g,oo,none⟩) opl c) rfl) ?_ ?_
   ·intro w b k;clear k;simp [go_sem];exact⟨Below.refl _ _,fun d hd=>by cases hd;rfl⟩
   rintro v ⟨_,_,h⟩;obtain rfl:v=(.slice (some ⟨g,oo,none⟩) opl c):=h _ rfl;clear h;simp only [Act.put,sU1,sU2,sU3];refine Mix.aj rfl (al (.int .i64 I) rfl) ?_ ?_
   ·intro w b k;clear k;simp [go_sem];exact⟨Below.refl _ _,fun d hd=>by cases hd;rfl⟩
   rintro v ⟨_,_,h⟩;obtain rfl:v=(.int .i64 I):=h _ rfl;clear h;simp only [Act.put,sU1,sU2,sU3];refine Mix.aj rfl (al (.pointer (some ⟨g,oo+I,none⟩)) rfl) ?_ ?_
   ·intro w b k;clear k;simp [go_sem,hiI];exact⟨Below.refl _ _,fun d hd=>by cases hd;rfl⟩
   rintro v ⟨_,_,h⟩;obtain rfl:v=(.pointer (some ⟨g,oo+I,none⟩)):=h _ rfl;clear h;simp only [Act.put,sU1,sU2,sU3];refine Mix.aj rfl (al (.int .i64 o) rfl) ?_ ?_
   ·intro w b k;have cx:=co w b;clear k;simp [go_sem,cx];exact⟨Below.refl _ _,fun d hd=>by cases hd;rfl⟩
   rintro v ⟨_,_,h⟩;obtain rfl:v=(.int .i64 o):=h _ rfl;clear h;simp only [Act.put,sU1,sU2,sU3];refine Mix.aj rfl (ep (CN wr (Below.refl _ _))) ?_ ?_
   ·intro w b k;clear k;simp [go_sem];exact Calls.mono (CN w b) fun e w' ⟨v,he,hb,hf⟩=>⟨v,he,hb,fun d hd=>by cases hd;exact hf⟩
   rintro p26 -;simp only [Act.put,sU1,sU2,sU3];refine Mix.aj rfl (ep (CN wr (Below.refl _ _))) ?_ ?_
   ·intro w b k;have f:jT wr.heap.size w l p26:=k 26 (by decide +kernel) (by simp [Mix.add]) p26 rfl;clear k;simp [go_sem];exact⟨Below.refl _ _,fun d hd=>by cases hd;exact f⟩
   rintro p9 -;simp only [Act.put,sU1,sU2,sU3];refine Mix.fQ ?_;intro w4 b4 hk4;have f9:jT wr.heap.size w4 l p9:=hk4 9 (by simp [Mix.add]) p9 rfl;obtain⟨lo,lc,rfl,hls,_,_⟩:=eO f9;have HG4:=ae (HG.out.below b4);have HAp:Hid (jq (.slice lo l.length lc) (.slice (some ⟨g,oo,none⟩) opl c)):=ae (by
    cases hbl:(Value.slice lo l.length lc).ownBlock with
    |none=>exact .inl hbl
    |some z=>
     refine .inr fun e=> ?_;have h1:=(World.ownsRow.lt f9 z hbl).1;have h2:=(World.ownsRow.lt HG.out.1 z (by rw [←e];exact hbl)).2;omega)
   have HRj:Hid (jT RB w4 l (.slice lo l.length lc)):=ae (by rw [←hRB];exact f9);clear hk4 f9 hls b4 CN co xs HG HWr;obtain⟨ll,hll⟩:∃n,l.length=n:=⟨_,rfl⟩;have hllb:l.length≤nb:=(by rw [←HLe.out,←hnbe.out];exact cf _ _ (by unfold aF;exact kX _) (HT.out _));rw [hll] at HAp HRj hllb ⊢;replace hll:=ae hll;go_wp2_with fail
   go_loopw [7,10] (fun ov mv wr=>∃(op2:List Int) (M:Nat),M≤ll∧mv= .int .i64 M∧Hid (BfI f k id op2)∧Hid (∃ex,op2=op ++ ex)∧Hid (∀j,j < I→Cls f id op2 (op.getD j 0))∧Hid (∀m,m < M→uq f id op2 o (l.getD m 0))∧Hid (Grw W op2 ov wr)∧Hid (jT RB wr l (.slice lo ll lc))∧Hid (jq (.slice lo ll lc) ov)) (fun _ mv _=>ll - (intOf mv).toNat)
   case atStart=>exact⟨op,0,Nat.zero_le _,rfl,HB,ae ⟨[],by simp⟩,HC,ae (fun j h=>absurd h (Nat.not_lt_zero _)),HG4,HRj,HAp⟩
   case round=>
    clear HB HC HG4 HRj HAp;obtain⟨op2,M,hM,rfl,HB,HEx,HC,HCm,HG,HRj,HAp⟩:=hrel;obtain⟨ao2,c2,rfl,hsl2,hml2⟩:=HG.out.slice;have hfit2:op2.length≤nb:=(by rw [←hnbe.out];exact cf _ _ HB.out.1 HB.out.2.1);have hpre:∀j,j < opl→op2.getD j 0=op.getD j 0:=fun j hj=>by
     obtain⟨ex,he⟩:=HEx.out;rw [he,List.getD_eq_getElem?_getD,List.getElem?_append_left (by rw [Hopl.out];exact hj),List.getD_eq_getElem?_getD]
    have hlen2:opl≤op2.length:=by
     obtain⟨ex,he⟩:=HEx.out;rw [he,List.length_append,Hopl.out];exact Nat.le_add_right _ _
    have hom2:o∈op2:=by
     obtain⟨ex,he⟩:=HEx.out;rw [he];exact List.mem_append_left _ Hom.out
    by_cases hmt:M < ll
    ·have hmI:(M:Int) < ll:=(by omega);obtain⟨g1,o1,rfl,c1⟩:=cX (GS HRj.out) (i:=M) (by rw [hll.out];exact hmt);have hbm:l.getD M 0∈aF f o.toNat:=by
      rw [HLe.out,List.getD_eq_getElem?_getD,List.getElem?_eq_getElem (by rw [hll.out];exact hmt)];exact List.getElem_mem _
     obtain⟨b,hbe⟩:∃b,l.getD M 0=b:=⟨_,rfl⟩;rw [hbe] at c1 hbm;have hbt:=HT.out _ _ hbm;rw [hnbe.out] at hbt;obtain⟨bN,rfl⟩:∃n:Nat,b=(n:Int):=⟨b.toNat,by omega⟩;have hbI:(bN:Int) < nb:=hbt.2;have HBm:=ae hbm;have HBe:=ae hbe;obtain⟨gb,ob,ab,bc,rfl,hgb,cb1,hblk⟩:=HRw.out bN (by omega);have HBw:=ae (af B1.out HG.out.2);have hBmem:=fq (f:=f) (k:=bN) (by rw [hnbe.out];omega);have hbl2:=HMd.out.2 _ hBmem;have CE:∀w',Below wr.heap.size wr w'→Calls Tryz.prog 32 #[.slice ab (ah f bN).length bc,.int .i64 o,.int .i64 id] w' fun e w''=>e= .returned (.bool (ju o id (ah f bN)))∧Below w'.heap.size w' w'':=fun w' b=>EE (ah f bN) o id ab bc w' (hblk.below (af HBw.out b)) hbl2 (fun x hx h20=>(HAr.out _ hBmem x hx).2 h20);have CBh:∀w',Below wr.heap.size wr w'→Calls Tryz.prog 31 #[.slice ab (ah f bN).length bc,.int .i64 0,.int .i64 id] w' fun e w''=>e= .returned (.int .i64 (eA f bN 0 id:Nat))∧Below w'.heap.size w' w'':=fun w' b=>oX (ah f bN) 0 id ab bc w' (hblk.below (af HBw.out b)) hbl2 (Nat.zero_le _) (fun x hx=>(HAr.out _ hBmem x hx).1);have cblk:=fun(w':World) (b:Below wr.heap.size wr w')=>((af HBw.out b).cell (p:=⟨gb,ob+bN,none⟩) hgb).trans cb1;obtain⟨bl,hbl⟩:∃n,(ah f bN).length=n:=⟨_,rfl⟩;rw [hbl] at CE CBh cblk;obtain⟨ev,hev⟩:∃e,ju o id (ah f bN)=e:=⟨_,rfl⟩;obtain⟨bv,hbv⟩:∃n,eA f bN 0 id=n:=⟨_,rfl⟩;rw [hev] at CE;rw [hbv] at CBh;have Hev:=ae hev;have Hbv:=ae hbv;obtain⟨g2,o2,rfl,cI2⟩:=cX hsl2 (i:=I) (by omega);rw [hpre I hit,Ho.out] at cI2;have hgl2:=(World.block_lt_of_cell? wr _ cI2);have co2:=fun(w':World) (b:Below wr.heap.size wr w')=>(b.cell (p:=⟨g2,o2+I,none⟩) hgl2).trans cI2;have xs:=fun(w':World) (b:Below wr.heap.size wr w')=>(bW (((af HG.out.2 b).block _ hq0l).trans HX0.out)).1;have HHs:=ae (fun w' (b:Below wr.heap.size wr w')=>cE op2 (bN:Int) (some ⟨g2,o2,none⟩) c2 w' (hsl2.below b) hml2);obtain⟨opl2,hopl2⟩:∃n,op2.length=n:=⟨_,rfl⟩;have hfit3:op2.length≤nb:=hfit2;rw [hopl2] at HHs hlen2 hfit2 HG HAp ⊢;have Hopl2:=ae hopl2;have hiI2:(I:Int) < opl2:=(by omega);clear hblk cb1 hBmem hbl2 hbl hev hbv cI2 hsl2 hopl2 hbm hbe hpre;replace CE:=ae CE;replace CBh:=ae CBh;replace cblk:=ae cblk;replace co2:=ae co2;replace xs:=ae xs;have Hom2:=ae hom2;clear hom2;go_wp2_with fail
     clear c1;replace CE:=CE.out;replace cblk:=cblk.out;replace co2:=co2.out;replace xs:=xs.out;refine Mix.dI (J7 (.slice (some ⟨gb,ob,none⟩) nb cb) (.slice ab bl bc) (.slice (some ⟨g2,o2,none⟩) opl2 c2) q0 gb ob bN g2 o2 I o id ev) (by kernel_rfl) (by kernel_rfl) ?_;refine Mix.aj rfl (al (.pointer (some ⟨q0,3,none⟩)) rfl) ?_ ?_
     ·intro w b k;clear k;simp [go_sem];exact⟨Below.refl _ _,fun d hd=>by cases hd;rfl⟩
     rintro v ⟨_,_,h⟩;obtain rfl:v=(.pointer (some ⟨q0,3,none⟩)):=h _ rfl;clear h;simp only [Act.put,sU1,sU2,sU3];refine Mix.aj rfl (al (.slice (some ⟨gb,ob,none⟩) nb cb) rfl) ?_ ?_
     ·intro w b k;obtain⟨x0,x1,x2,x3,x4⟩:=xs w b;clear k;simp [go_sem,x3];exact⟨Below.refl _ _,fun d hd=>by cases hd;rfl⟩
     rintro v ⟨_,_,h⟩;obtain rfl:v=(.slice (some ⟨gb,ob,none⟩) nb cb):=h _ rfl;clear h;simp only [Act.put,sU1,sU2,sU3];refine Mix.aj rfl (al (.int .i64 bN) rfl) ?_ ?_
     ·intro w b k;clear k;simp [go_sem];exact⟨Below.refl _ _,fun d hd=>by cases hd;rfl⟩
     rintro v ⟨_,_,h⟩;obtain rfl:v=(.int .i64 bN):=h _ rfl;clear h;simp only [Act.put,sU1,sU2,sU3];refine Mix.aj rfl (al (.pointer (some ⟨gb,ob+bN,none⟩)) rfl) ?_ ?_
     ·intro w b k;clear k;simp [go_sem,hbI];exact⟨Below.refl _ _,fun d hd=>by cases hd;rfl⟩
     rintro v ⟨_,_,h⟩;obtain rfl:v=(.pointer (some ⟨gb,ob+bN,none⟩)):=h _ rfl;clear h;simp only [Act.put,sU1,sU2,sU3];refine Mix.aj rfl (al (.slice ab bl bc) rfl) ?_ ?_
     ·intro w b k;have cx:=cblk w b;clear k;simp [go_sem,cx];exact⟨Below.refl _ _,fun d hd=>by cases hd;rfl⟩
     rintro v ⟨_,_,h⟩;obtain rfl:v=(.slice ab bl bc):=h _ rfl;clear h;simp only [Act.put,sU1,sU2,sU3];refine Mix.aj rfl (al (.slice (some ⟨g2,o2,none⟩) opl2 c2) rfl) ?_ ?_
     ·intro w b k;clear k;simp [go_sem];exact⟨Below.refl _ _,fun d hd=>by cases hd;rfl⟩
     rintro v ⟨_,_,h⟩;obtain rfl:v=(.slice (some ⟨g2,o2,none⟩) opl2 c2):=h _ rfl;clear h;simp only [Act.put,sU1,sU2,sU3];refine Mix.aj rfl (al (.int .i64 I) rfl) ?_ ?_
     ·intro w b k;clear k;simp [go_sem];exact⟨Below.refl _ _,fun d hd=>by cases hd;rfl⟩
     rintro v ⟨_,_,h⟩;obtain rfl:v=(.int .i64 I):=h _ rfl;clear h;simp only [Act.put,sU1,sU2,sU3];refine Mix.aj rfl (al (.pointer (some ⟨g2,o2+I,none⟩)) rfl) ?_ ?_
     ·intro w b k;clear k;simp [go_sem,hiI2];exact⟨Below.refl _ _,fun d hd=>by cases hd;rfl⟩
     rintro v ⟨_,_,h⟩;obtain rfl:v=(.pointer (some ⟨g2,o2+I,none⟩)):=h _ rfl;clear h;simp only [Act.put,sU1,sU2,sU3];refine Mix.aj rfl (al (.int .i64 o) rfl) ?_ ?_
     ·intro w b k;have cx:=co2 w b;clear k;simp [go_sem,cx];exact⟨Below.refl _ _,fun d hd=>by cases hd;rfl⟩
     rintro v ⟨_,_,h⟩;obtain rfl:v=(.int .i64 o):=h _ rfl;clear h;simp only [Act.put,sU1,sU2,sU3];refine Mix.aj rfl (al (.int .i64 id) rfl) ?_ ?_
     ·intro w b k;clear k;simp [go_sem];exact⟨Below.refl _ _,fun d hd=>by cases hd;rfl⟩
     rintro v ⟨_,_,h⟩;obtain rfl:v=(.int .i64 id):=h _ rfl;clear h;simp only [Act.put,sU1,sU2,sU3];refine Mix.aj rfl (al (.bool ev) rfl) ?_ ?_
     ·intro w b k;clear k;simp [go_sem];exact Calls.mono (CE w b) fun e w' ⟨he,hb⟩=>⟨_,he,hb,fun d hd=>by cases hd;rfl⟩
     rintro v ⟨_,_,h⟩;obtain rfl:v=(.bool ev):=h _ rfl;clear h;simp only [Act.put,sU1,sU2,sU3];refine Mix.fQ ?_;intro w5 b5 hk5;obtain⟨x0,x1,x2,x3,x4⟩:=xs w5 b5;have cB:=cblk w5 b5;have CB5:=ae (CBh.out w5 b5);have HH5:=ae (fun w' (b:Below w5.heap.size w5 w')=>HHs.out w' (af b5 b));have HG5:=ae (HG.out.below b5);have HR5:Hid (jT RB w5 l (.slice (some ⟨g1,o1,none⟩) ll lc)):=ae (aB b5 _ _ _ _ _ _ HRj.out);clear hk5 b5 CE cblk co2 xs CBh HHs HG HRj HBw
     cases ev with
     |true=>
      have HE:Hid (r=true):=ae (by rw [←HR.out];exact HB.out.Li HT.out Hom2.out HBm.out (by rw [Int.toNat_natCast];exact Hev.out));have HEb:=ae (af B1.out HG5.out.2);go_wp2_with fail
      go_ret;exact⟨L5.ax HE.out.symm,HEb.out⟩
     |false=>
      go_wp2_with fail
      refine CB5.out.mono ?_;rintro e w6 ⟨rfl,b6⟩;have HG6:=ae (HG5.out.below b6);have HR6:Hid (jT RB w6 l (.slice (some ⟨g1,o1,none⟩) ll lc)):=ae (aB b6 _ _ _ _ _ _ HR5.out);have HH6:=ae (fun w' (b:Below w6.heap.size w6 w')=>HH5.out w' (af b6 b));clear x0 x1 x2 x3 x4 cB b6 CB5 HG5 HR5 HH5;by_cases h1:bv=1
      ·have k1:((bv:Int) == 1)=true:=(by simpa using (show(bv:Int)=1 by omega));have HE:Hid (r=true):=ae (by rw [←HR.out];exact HB.out.first HT.out Hom2.out HBm.out (by rw [Int.toNat_natCast,Hbv.out];exact h1));have HEb:=ae (af B1.out HG6.out.2);clear h1;go_wp2_with fail
       go_ret;exact⟨L5.ax HE.out.symm,HEb.out⟩
      ·have k1:((bv:Int) == 1)=false:=beq_eq_false_iff_ne.2 (by omega);by_cases h0:bv=0
       ·have k0:((bv:Int) == 0)=true:=by simpa using (show(bv:Int)=0 by omega)
        cases hh:aA op2 (bN:Int)with
        |true=>
         have HCn:Hid (∀m,m < M+1→uq f id op2 o (l.getD m 0)):=ae (fun m hm=>by
          by_cases e:m=M
          ·rw [e,HBe.out];exact⟨by rw [Int.toNat_natCast];exact Hev.out,by rw [Int.toNat_natCast,Hbv.out];exact h1,fun _=>aZ.1 hh⟩
          ·exact HCm.out m (by omega))
         have HH:=ae (by have:=HH6.out w6 (Below.refl _ _);rw [hh] at this;exact this);clear h1 h0 hh HH6;go_wp2_with fail
         refine HH.out.mono ?_;rintro e w7 ⟨rfl,rfl⟩;go_wp2_with fail
         go_roundw
         case rel=>exact⟨op2,M+1,by omega,by go_num,HB,HEx,HC,HCn,HG6,HR6,HAp⟩
         case measure=>simp [intOf];omega
        |false=>
         have hnm:(bN:Int) ∉ op2:=fun q=>by rw [aZ.2 q] at hh;cases hh
         have HBn:=ae (HB.out.add HT.out Hom2.out HBm.out (by rw [Int.toNat_natCast,Hbv.out];exact h0) hnm);have HExn:Hid (∃ex,op2 ++ [(bN:Int)]=op ++ ex):=ae (by
          obtain⟨ex,he⟩:=HEx.out;exact⟨ex ++ [(bN:Int)],by rw [he,List.append_assoc]⟩)
         have HCc:Hid (∀j,j < I→Cls f id (op2 ++ [(bN:Int)]) (op.getD j 0)):=ae (fun j hj b hb=>(HC.out j hj b hb).more fun m hm=>List.mem_append_left _ hm);have HCn:Hid (∀m,m < M+1→uq f id (op2 ++ [(bN:Int)]) o (l.getD m 0)):=ae (fun m hm=>by
          by_cases e:m=M
          ·rw [e,HBe.out];exact⟨by rw [Int.toNat_natCast];exact Hev.out,by rw [Int.toNat_natCast,Hbv.out];exact h1,fun _=>by simp⟩
          ·exact(HCm.out m (by omega)).more fun m hm=>List.mem_append_left _ hm)
         have HH:=ae (by have:=HH6.out w6 (Below.refl _ _);rw [hh] at this;exact this);have hws:=HG6.out.2.size;clear h1 h0 hh hnm HH6;obtain⟨i3,hi3,hz3,hz4,hz5⟩:=info_parts Tryz.dj;go_wp2_with fail
         refine HH.out.mono ?_;rintro e w7 ⟨rfl,rfl⟩;go_wp2_with (at_builtin;refine wpList_append_own_at _ rfl (.tmp 65) (.tmp 67) 25 rfl W.heap.size 3 i3 _ 1 8 Tryz.underlying25 hi3 hz3 hz4 hz5 rfl (by decide) _ _ _ rfl ((HG6.out.1).alloc _) ⟨w7.heap.size,0,none⟩ 1 1 [.int .i64 bN] rfl rfl one_cell one_one (by unfold maxLen;omega) (by omega) (by simp;omega) ?_;intro v2 w8 own2 grow2 _ at2)
         have HGn:=ae (HG6.out.step own2 grow2);have HRn:=ae (Bj (World.ownsRow.alloc HR6.out (.cells #[.int .i64 bN] 3)) grow2 HAp.out);have HAn:=ae (HAp.out.grow HR6.out at2);clear own2 grow2 at2;go_wp2_with fail
         go_roundw
         case rel=>exact⟨op2 ++ [(bN:Int)],M+1,by omega,by go_num,HBn,HExn,HCc,HCn,HGn,HRn,HAn⟩
         case measure=>simp [intOf];omega
       ·have k0:((bv:Int) == 0)=false:=beq_eq_false_iff_ne.2 (by omega);have HCn:Hid (∀m,m < M+1→uq f id op2 o (l.getD m 0)):=ae (fun m hm=>by
         by_cases e:m=M
         ·rw [e,HBe.out];exact⟨by rw [Int.toNat_natCast];exact Hev.out,by rw [Int.toNat_natCast,Hbv.out];exact h1,fun q=>by rw [Int.toNat_natCast,Hbv.out] at q;exact absurd q h0⟩
         ·exact HCm.out m (by omega))
        clear h1 h0 HH6;go_wp2_with fail
        go_roundw
        case rel=>exact⟨op2,M+1,by omega,by go_num,HB,HEx,HC,HCn,HG6,HR6,HAp⟩
        case measure=>simp [intOf];omega
    ·obtain rfl:M=ll:=(by omega);have HCl:Hid (∀j,j < I+1→Cls f id op2 (op2.getD j 0)):=ae (fun j hj=>by
      rw [hpre j (by omega)];by_cases e:j=I
      ·rw [e,Ho.out];intro b hb;rw [HLe.out] at hb;obtain⟨m,hm⟩:=List.mem_iff_getElem?.1 hb;have hml:=(List.getElem?_eq_some_iff.1 hm).1;have:=HCm.out m (by rw [←hll.out];exact hml);rw [List.getD_eq_getElem?_getD,hm] at this;exact this
      ·exact HC.out j (by omega))
     have hlen3:I+1≤op2.length:=(by omega);clear hpre hsl2 hom2;go_wp2_with fail
     go_roundw
     case rel=>exact⟨op2,I+1,hlen3,by go_num,HB,HCl,HG⟩
     case measure=>simp [intOf];omega
  ·obtain rfl:I=opl:=(by omega);have HE:Hid (r=false):=ae (by rw [←HR.out];exact HB.out.none (by rw [hopl];exact HC.out));have HEb:=ae (af B1.out HG.out.2);clear hsl;go_wp2_with fail
   go_ret;exact⟨L5.ax HE.out.symm,HEb.out⟩
theorem xX {x:Int}:∀ {l:List Int} {I:Nat},(∀j,j < I→j < l.length∧l.getD j 0 < x)→I=l.length∨¬l.getD I 0 < x→pQ x l=I
 |[],0,_,_=>rfl
 |[],I+1,h,_=>absurd (h 0 (Nat.zero_lt_succ _)).1 (Nat.not_lt_zero _)
 |a :: l,0,_,he=>by
  rw [mS];rcases he with he | he
  ·cases he
  ·rw [if_neg (by simpa using he)]
 |a :: l,I+1,h,he=>by
  rw [mS,if_pos (by simpa using (h 0 (Nat.zero_lt_succ _)).2)];rw [xX (l:=l) (I:=I) (fun j hj=>by
   have:=h (j+1) (by omega);exact⟨by simpa using this.1,by simpa using this.2⟩) (by
   rcases he with he | he
   ·exact .inl (by simpa using he)
   ·exact .inr (by simpa using he))]
theorem zK (n:Nat):fX (n+1)=fX n ++ [(n:Int)]:=by unfold fX;rw [List.range_succ,List.map_append];rfl
theorem Jd {f:Fun} {K J:Nat} (hK:K < f.2.2.2.1.length) (hJ:J≤(ah f K).length):(eV (im (fX f.2.1.length) (f.2.2.2.1.take K)) ((ah f K).take J)).length≤wid f:=by
 have h1:=rY ((ah f K).take J) (im (fX f.2.1.length) (f.2.2.2.1.take K));have h2:=rC (f.2.2.2.1.take K) (fX f.2.1.length);have e:f.2.2.2.1[K]? =some (ah f K):=by unfold ah;rw [List.getElem?_eq_getElem hK,List.getD_eq_getElem?_getD,List.getElem?_eq_getElem hK];rfl
 have h3:(f.2.2.2.1.map List.length).sum=((f.2.2.2.1.take (K+1)).map List.length).sum+((f.2.2.2.1.drop (K+1)).map List.length).sum:=by
  rw [←List.sum_append,←List.map_append,List.take_append_drop]
 rw [aV e,List.map_append,List.sum_append] at h3;simp only [List.map_cons,List.map_nil,List.sum_cons,List.sum_nil] at h3;rw [List.length_take] at h1;rw [pD] at h2;unfold wid;omega
theorem iK {w:World} {ops:Array Oper} {rest:List Oper} {o:Oper} {a:Act} {Q:Exit→Act→World→Prop} (hgd:o.guard=none) (s x:Operand)
  (ho:o.op= .call {callee:= .builtin .append,args:= #[s,x],argTypes:= #[25,25]}) (base:Nat) (v vx:Value) (n:Nat) (xs:List Value) (l:List Int)
  (hs:a.eval s=v) (hown:w.ownsRow base 3 1 v n xs) (hx:a.eval x=vx) (hl:Src w l vx) (h63:n+l.length≤4000000) (hbase:base≤w.heap.size)
  (h:∀v' w',w'.ownsRow base 3 1 v' (n+l.length) (xs ++ ints l)→w.grownBy w' v.ownBlock→wpList Tryz.prog ops Q rest (a.put o.dst v') w'):wpList Tryz.prog ops Q (o :: rest) a w:=by
 obtain⟨i0,hi0,hz0,hz1,hz2⟩:=info_parts Tryz.dj;rcases hl with ⟨rfl,rfl⟩ | ⟨g,of,c,rfl,_,hc⟩
 ·refine wpList_append_own_none hgd s x 25 ho base 3 i0 1 Tryz.underlying25 hi0 v n xs hs hown hx ?_;refine h v w ?_ (World.grownBy.refl _ _);simpa [ints] using hown
 ·refine wpList_append_own w hgd s x 25 ho base 3 i0 _ 1 8 Tryz.underlying25 hi0 hz0 hz1 hz2 rfl (by decide) v n xs hs hown ⟨g,of,none⟩ l.length c (ints l) hx (by simp [ints]) (fun j u hj=>by rw [Addr.add_lit];exact hc j u hj) (jh l) (by unfold maxLen;omega) (by omega) hbase ?_;intro v' w' k1 k2 _;exact h v' w' k1 k2
theorem IB {w:World} {g J cap:Nat} {L:List Int} (hg:g < w.heap.size) (hc:∀j u,(ints L)[j]? =some u→w.cell? ⟨g,j,none⟩=some u) (hJ:J≤L.length):Src w (L.take J) (.slice (some ⟨g,0,none⟩) J cap):=by
 refine .inr ⟨g,0,cap,by rw [List.length_take,Nat.min_eq_left hJ],hg,fun j u hj=> ?_⟩;rw [Nat.zero_add];refine hc j u ?_;unfold ints at hj ⊢;rw [List.getElem?_map] at hj ⊢;rw [List.getElem?_take] at hj;split at hj
 ·exact hj
 ·cases hj
theorem JO {w:World} {g J cap n c of:Nat} {L:List Int} (hg:g < w.heap.size) (hc:∀j u,(ints L)[j]? =some u→w.cell? ⟨g,j,none⟩=some u) (hcap:L.length≤cap) (hn:n=L.length - J) (had:J < cap→of=J):Src w (L.drop J) (.slice (some ⟨g,of,none⟩) n c):=by
 refine .inr ⟨g,of,c,by rw [List.length_drop,hn],hg,fun j u hj=> ?_⟩;unfold ints at hj hc;rw [List.getElem?_map,List.getElem?_drop] at hj;have hl:J+j < L.length:=by
  by_cases q:J+j < L.length
  ·exact q
  ·rw [List.getElem?_eq_none (by omega)] at hj;cases hj
 rw [had (by omega)];exact hc (J+j) u (by rw [List.getElem?_map];exact hj)
end Go.Proofs.YtfdhemcahjommaaGreatDoor
