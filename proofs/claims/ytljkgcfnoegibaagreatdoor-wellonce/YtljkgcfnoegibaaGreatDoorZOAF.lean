/- Texts of one chain, joined. -/
import Derived.Test.YtljkgcfnoegibaaGreatDoorZOAE
import Derived.Test.YtljkgcfnoegibaaGreatDoorZABD
import Derived.Test.YtljkgcfnoegibaaGreatDoorZBAA
set_option maxHeartbeats 4000000
set_option maxRecDepth 20000
namespace Go.Proofs.YtljkgcfnoegibaaGreatDoor
open Go Go.RowKit
open G (Tok Er Ins Fun)
theorem He {w:World} {p:List Fun} {po:Option Addr} {n pc i:Nat} (h:bK w p (.slice po n pc)) (hi:i < p.length):∃g o bo cb,po=some ⟨g,o,none⟩∧w.cell? ⟨g,o+i * 5+3,none⟩=some (.slice bo (aF p i).2.2.2.1.length cb)∧dy w (aF p i).2.2.2.1 (.slice bo (aF p i).2.2.2.1.length cb)∧(aF p i).2.2.2.1.length≤maxLen:=by
 obtain⟨g,o,rfl,hfr⟩:=eh h hi;obtain⟨_,bo,_,cb,hv,_,_,_,d3,_⟩:=hfr.val;have hb:=fN hv;refine⟨g,o,bo,cb,rfl,d3,hb,?_⟩;obtain⟨_,_,e,h1,h2,_⟩:=hb;exact Nat.le_trans h1 h2
theorem Hh {w:World} {l:List Ins} {v:Value} (h:j7 w l v):l.length≤maxLen:=by
 obtain⟨_,_,e,h1,h2,_⟩:=h;exact Nat.le_trans h1 h2
theorem zY (p:List Fun) (po:Option Addr) (pc:Nat) (w:World) (hp:bK w p (.slice po p.length pc)):
  Calls Tryz.prog 21 #[.agg #[.slice po p.length pc]] w fun e w'=>(∃b,e= .returned (.bool b)∧(b=false→∀i,i < p.length→NL (aF p i)))∧Below w.heap.size w w':=by
 have hpl:p.length≤maxLen:=by obtain⟨_,_,_,h1,h2,_⟩:=hp;exact Nat.le_trans h1 h2
 unfold maxLen at hpl;obtain⟨pn,hpn⟩:∃n,n=p.length:=⟨_,rfl⟩;have HA:Hid (∀w',Below w.heap.size w w'→∀i,i < pn→∃g o bo cb,po=some ⟨g,o,none⟩∧w'.cell? ⟨g,o+i * 5+3,none⟩=some (.slice bo (aF p i).2.2.2.1.length cb)∧dy w' (aF p i).2.2.2.1 (.slice bo (aF p i).2.2.2.1.length cb)∧(aF p i).2.2.2.1.length≤maxLen):=ae (fun w' b i hi=>He (hp.below b) (by omega));rw [←hpn] at hpl ⊢;clear hp hpn;have B0:=ae (ah w (.cells #[.slice po pn pc] 24));have H1:=ae (heap_alloc_new w (.cells #[.slice po pn pc] 24));go_enter Tryz.func21,Tryz.ntmps21
 go_upto_region 1 with fail
 show Code.wp _ _ _ _ (w.alloc (.cells #[.slice po pn pc] 24));generalize w.alloc (.cells #[.slice po pn pc] 24)=W at *;have HC:Hid (∀w',Below W.heap.size W w'→w'.cell? ⟨w.heap.size,0,none⟩=some (.slice po pn pc)):=ae (fun w' b=>(b.cell (p:=⟨w.heap.size,0,none⟩) (aV H1.out).2).trans (aV H1.out).1);clear H1;generalize hq:w.heap.size=q at *;replace B0:Hid (Below w.heap.size w W):=ae (by rw [hq];exact B0.out);replace HA:=ae (by have h:=HA.out;rw [←hq] at h;exact h);go_wp2_with fail
 go_loopw [3] (fun iv wr=>∃i:Nat,i≤pn∧iv= .int .i64 i∧Hid (∀j,j < i→NL (aF p j))∧Hid (Below W.heap.size W wr)) (fun iv _=>pn - (intOf iv).toNat)
 case atStart=>exact⟨0,Nat.zero_le _,rfl,ae (fun j h=>absurd h (Nat.not_lt_zero _)),ae (Below.refl _ _)⟩
 case round=>
  obtain⟨i,hi,rfl,HF,HW⟩:=hrel;have c0:=HC.out wr HW.out;by_cases hit:i < pn
  ·have hiI:(i:Int) < pn:=(by omega);have HAi:=ae (fun w' (b:Below W.heap.size W w')=>HA.out w' (af B0.out b) i hit);obtain⟨bn,hbn⟩:∃n,n=(aF p i).2.2.2.1.length:=⟨_,rfl⟩;rw [←hbn] at HAi;replace hbn:=ae hbn;go_wp2_with fail
   clear c0;go_loopw [4] (fun kv wr=>∃k:Nat,k≤bn∧kv= .int .i64 k∧Hid (∀j,j < k→∀n,n < (aG (aF p i) j).length→du (au (aF p i) j n)=false)∧Hid (Below W.heap.size W wr)) (fun kv _=>bn - (intOf kv).toNat)
   case atStart=>exact⟨0,Nat.zero_le _,rfl,ae (fun j h=>absurd h (Nat.not_lt_zero _)),HW⟩
   case round=>
    clear HW;obtain⟨k,hk,rfl,HFk,HW⟩:=hrel;have hbl:=(HAi.out _ HW.out).choose_spec.choose_spec.choose_spec.choose_spec.2.2.2;unfold maxLen at hbl;by_cases hkt:k < bn
    ·have hkI:(k:Int) < bn:=(by omega);have HAk:Hid (∀w',Below W.heap.size W w'→∃g o bg bo cb ao c,po=some ⟨g,o,none⟩∧w'.cell? ⟨g,o+i * 5+3,none⟩=some (.slice (some ⟨bg,bo,none⟩) bn cb)∧w'.cell? ⟨bg,bo+k,none⟩=some (.slice ao (aG (aF p i) k).length c)∧j7 w' (aG (aF p i) k) (.slice ao (aG (aF p i) k).length c)):=ae (fun w' b=>by
      obtain⟨g,o,bo,cb,h1,h2,h3,_⟩:=HAi.out w' b;obtain⟨bg,bo',ao,c,rfl,_,h5,h6⟩:=eD h3 (k:=k) (by rw [←hbn.out];exact hkt);exact⟨g,o,bg,bo',cb,ao,c,h1,h2,h5,h6⟩)
     obtain⟨xn,hxn⟩:∃n,n=(aG (aF p i) k).length:=⟨_,rfl⟩;have hxl:xn≤maxLen:=(by rw [hxn];obtain⟨_,_,_,_,_,_,_,_,_,_,h⟩:=HAk.out _ HW.out;exact Hh h);unfold maxLen at hxl;have HAn:Hid (∀w',Below W.heap.size W w'→∃g o bg bo cb ao c,po=some ⟨g,o,none⟩∧w'.cell? ⟨g,o+i * 5+3,none⟩=some (.slice (some ⟨bg,bo,none⟩) bn cb)∧w'.cell? ⟨bg,bo+k,none⟩=some (.slice ao xn c)∧∀n,n < xn→∃xg xo,ao=some ⟨xg,xo,none⟩∧my w' (au (aF p i) k n) xg (xo+n * 8)):=ae (fun w' b=>by
      obtain⟨g,o,bg,bo,cb,ao,c,h1,h2,h3,h4⟩:=HAk.out w' b;rw [←hxn] at h3;exact⟨g,o,bg,bo,cb,ao,c,h1,h2,h3,fun n hn=>eR h4 (by rw [←hxn];exact hn)⟩)
     replace hxn:=ae hxn;clear HAk;have c0:=HC.out _ HW.out;obtain⟨g,o,bg,bo,cb,ao,c,rfl,d3,d5,_⟩:=HAn.out _ HW.out;go_wp2_with fail
     clear c0 d3 d5;go_loopw [5] (fun nv wr=>∃n:Nat,n≤xn∧nv= .int .i64 n∧Hid (∀j,j < n→du (au (aF p i) k j)=false)∧Hid (Below W.heap.size W wr)) (fun nv _=>xn - (intOf nv).toNat)
     case atStart=>exact⟨0,Nat.zero_le _,rfl,ae (fun j h=>absurd h (Nat.not_lt_zero _)),HW⟩
     case round=>
      clear HW;obtain⟨n,hn,rfl,HFn,HW⟩:=hrel;have c0:=HC.out _ HW.out;obtain⟨g2,o2,bg2,bo2,cb2,ao2,c2,e2,d3,d5,d6⟩:=HAn.out _ HW.out
      cases e2;by_cases hnt:n < xn
      ·have hnI:(n:Int) < xn:=(by omega);obtain⟨xg,xo,rfl,hx⟩:=d6 n hnt;have HX:Hid (du (au (aF p i) k n)=(decide ((au (aF p i) k n).1=23) || decide ((au (aF p i) k n).1=24) || decide ((au (aF p i) k n).1=25) || (decide ((au (aF p i) k n).1=21) && decide ((au (aF p i) k n).2.2.1≠0)))):=ae rfl;have HN2:Hid (du (au (aF p i) k n)=false→∀j,j < n+1→du (au (aF p i) k j)=false):=ae (fun h j hj=>by
        by_cases e:j=n
        ·rw [e];exact h
        ·exact HFn.out j (by omega))
       clear d6;generalize au (aF p i) k n=x at *;obtain⟨xa,xt,ca,ct,_,y0,y1,y2,y3,y4,y5,y6,y7⟩:=hx.val;clear hx;have BX:Hid (∀o,Below w.heap.size w (World.alloc _ o)):=ae (fun o=>af (af B0.out HW.out) (ah _ o));have BY:Hid (∀o,Below W.heap.size W (World.alloc _ o)):=ae (fun o=>af HW.out (ah _ o));by_cases h23:x.1=23
       ·have k23:(x.1 == 23)=true:=(by simpa using h23);go_wp2_with fail
        go_ret;exact⟨⟨true,rfl,fun e=>by cases e⟩,BX.out _⟩
       have k23:(x.1 == 23)=false:=(by simpa using h23);by_cases h24:x.1=24
       ·have k24:(x.1 == 24)=true:=(by simpa using h24);go_wp2_with fail
        go_ret;exact⟨⟨true,rfl,fun e=>by cases e⟩,BX.out _⟩
       have k24:(x.1 == 24)=false:=(by simpa using h24);by_cases h25:x.1=25
       ·have k25:(x.1 == 25)=true:=(by simpa using h25);go_wp2_with fail
        go_ret;exact⟨⟨true,rfl,fun e=>by cases e⟩,BX.out _⟩
       have k25:(x.1 == 25)=false:=(by simpa using h25);by_cases h21:x.1=21
       ·have k21:(x.1 == 21)=true:=(by simpa using h21);by_cases h0:x.2.2.1=0
        ·have k0:(x.2.2.1 == 0)=true:=(by simpa using h0);have k1:(x.2.2.1 != 0)=false:=(by simpa using h0);have HNn:=ae (HN2.out (by rw [HX.out];simp [h21,h0]));clear h23 h24 h25 h21 h0;go_wp2_with fail
         go_roundw
         case rel=>exact⟨n+1,by omega,by go_num,HNn,ae (BY.out _)⟩
         case measure=>simp [intOf];omega
        ·have k0:(x.2.2.1 == 0)=false:=(by simpa using h0);have k1:(x.2.2.1 != 0)=true:=(by simpa using h0);go_wp2_with fail
         go_ret;exact⟨⟨true,rfl,fun e=>by cases e⟩,BX.out _⟩
       ·have k21:(x.1 == 21)=false:=(by simpa using h21);have HNn:=ae (HN2.out (by rw [HX.out];simp [h21,h23,h24,h25]));clear h23 h24 h25 h21;go_wp2_with fail
        go_roundw
        case rel=>exact⟨n+1,by omega,by go_num,HNn,ae (BY.out _)⟩
        case measure=>simp [intOf];omega
      ·obtain rfl:n=xn:=(by omega);have HK2:Hid (∀j,j < k+1→∀m,m < (aG (aF p i) j).length→du (au (aF p i) j m)=false):=ae (fun j hj m hm=>by
        by_cases e:j=k
        ·subst e;exact HFn.out m (by rw [hxn.out];exact hm)
        ·exact HFk.out j (by omega) m hm)
       clear d6;go_wp2_with fail
       go_roundw
       case rel=>exact⟨k+1,by omega,by go_num,HK2,HW⟩
       case measure=>simp [intOf];omega
    ·obtain rfl:k=bn:=(by omega);have HF2:Hid (∀j,j < i+1→NL (aF p j)):=ae (fun j hj=>by
      by_cases e:j=i
      ·subst e;exact fun k' hk'=>HFk.out k' (by rw [hbn.out];exact hk')
      ·exact HF.out j (by omega))
     have c0:=HC.out _ HW.out;obtain⟨g,o,bo,cb,rfl,d3,_,_⟩:=HAi.out _ HW.out;go_wp2_with fail
     go_roundw
     case rel=>exact⟨i+1,by omega,by go_num,HF2,HW⟩
     case measure=>simp [intOf];omega
  ·obtain rfl:i=pn:=(by omega);go_wp2_with fail
   go_ret;exact⟨⟨false,rfl,fun _=>HF.out⟩,af B0.out HW.out⟩
open Mix (Up)
theorem GF.gx {E:Int} {f:Fun} (h:GF E f):GxF f:=by
 obtain⟨h1,h2,h3,h4,_⟩:=h;refine⟨by unfold Few;omega,by unfold Few;omega,by unfold Few;omega,fun b hb x hx=> ?_⟩;obtain⟨k1,k2,k3,k4,k5,k6,k7,_⟩:=h4 b hb x hx;exact⟨k1,k2,k3,k4,by unfold Few;omega,by unfold Few;omega,by unfold Few;omega⟩
theorem Gg (a b:Int) (w:World):Sem.run Tryz.prog (binOp BinOp.neq 29 (.agg #[.int .i64 a,.int .i64 b]) (.agg #[.int .i64 a,.int .i64 b])) w= .ok (.bool false) w:=by
 have h:=Ev a b w;simp only [binOp,Op.equal];simp [show Op.maxDepth=10000 from rfl,h]
def Jx (pv sv mv:Value) (B:Nat) (t:Tmp):Up:=match t with
 |25=>Up.eq pv
 |26=>Up.eq sv
 |27=>Up.eq pv
 |28=>Up.eq mv
 |5=>Up.J2 B
 |6=>Up.J2 B
 |_=>Up.any
theorem Mo (s:ByteArray) (w:World) (hT:Tb w):
  Calls Tryz.prog 6 #[.string s] w fun e w'=>e= .returned (.bool true)∧Below w.heap.size w w':=by
 have CWk:=ae (fun w' (b:Below w.heap.size w w')=>kM w' (hT.below b));have HT:=ae hT;clear hT;by_cases hs:s.size≤1500
 ·have hs1:¬(1500:Int) < (s.size:Int):=by omega
  have hs2:decide ((1500:Int) < (s.size:Int))=false:=by simpa using hs1
  go_enter Tryz.func6,Tryz.ntmps6
  go_wp2_with fail
  refine(KP s (by omega) w).mono ?_;rintro e w1 ⟨⟨ao,n,c,ec,ep,rfl,hok⟩,b1⟩;obtain⟨b2,d1,d2⟩:=kK w1 (.cells #[.slice ao n c] 24) (.cells #[.int .i64 ec,.int .i64 ep] 29);have HOK:Hid (ec=0→∃xs,bK ((w1.alloc (.cells #[.slice ao n c] 24)).alloc (.cells #[.int .i64 ec,.int .i64 ep] 29)) xs (.slice ao n c)∧(∀f∈xs,GF s.size f)∧xs.length≤32):=ae (fun e=>by
   obtain⟨xs,h1,h2,h3⟩:=hok e;exact⟨xs,(oP h1).below b2,h2,h3⟩)
  have B2:=ae (af b1 b2);have D1:=ae d1;have D2:=ae d2;clear b1 b2 d1 d2 hok;go_upto_region 4 with fail
  show Code.wp _ _ _ _ ((w1.alloc (.cells #[.slice ao n c] 24)).alloc (.cells #[.int .i64 ec,.int .i64 ep] 29));generalize (w1.alloc (.cells #[.slice ao n c] 24)).alloc (.cells #[.int .i64 ec,.int .i64 ep] 29)=W2 at *;generalize w1.heap.size=q1 at *;obtain⟨⟨e0,_⟩,_,_⟩:=aP D2.out;have c0:=(aV D1.out).1;by_cases hec:ec=0
  ·subst hec;obtain⟨xs,hp,hgf,hxl⟩:=HOK.out rfl;obtain rfl:n=xs.length:=(by obtain⟨_,_,e,_⟩:=hp;cases e;rfl);have gp:∀y∈xs,GxF y:=fun y hy=>(hgf y hy).gx;have hT2:=HT.out.below B2.out;have CL:=ae (kS xs ao c W2 hp (by omega) (fun f hf=>(gp f hf).Ke));have CSo:=ae (fun(h:iV xs=true) w' (b:Below W2.heap.size W2 w')=>eM xs ao c w' (hp.below b) (bH h gp).1.1 (bH h gp).1.2.1 (bH h gp).1.2.2.1 (hT2.below b) (hT2.below b).2.2 (jI (hT2.below b).2.2) (bH h gp).1.2.2.2);have CMa:=ae (fun(h:iV xs=true) w' (b:Below W2.heap.size W2 w')=>mB xs ao c w' (hp.below b) (bH h gp).1.1 (bH h gp).1.2.1 (bH h gp).1.2.2.1 (hT2.below b) (hT2.below b).2.2 (jI (hT2.below b).2.2) (bH h gp).1.2.2.2);have CLt:=ae (fun w' (b:Below W2.heap.size W2 w')=>zY xs ao c w' (hp.below b));have HA1:=ae (yU (p:=xs));have HA2:=ae (zF (p:=xs));have HA3:=ae (fun b=>Cg (E:=(s.size:Int)) (by omega) hgf b);clear hp hgf gp hT2 HOK;generalize xs.length=pn at *;obtain⟨⟨s1,s2⟩,hs'⟩:∃s,bj xs true=s:=⟨_,rfl⟩;obtain⟨⟨m1,m2⟩,hm'⟩:∃s,bj xs false=s:=⟨_,rfl⟩;rw [hs'] at CSo HA1 HA2;rw [hm'] at CMa HA1 HA2;have HA4:Hid (0≤s2∧s2≤(s.size:Int)):=ae (by have:=HA3.out true;rw [hs'] at this;exact this);have HA5:Hid (0≤m2∧m2≤(s.size:Int)):=ae (by have:=HA3.out false;rw [hm'] at this;exact this);clear hs' hm' HA3;go_wp2_with fail
   refine CL.out.mono ?_;rintro e w3 ⟨rfl,b3⟩;have B3:=ae b3;clear b3 CL c0 e0
   cases hL:iV xs with
   |false=>
    rw [if_neg (by simp)];clear CSo CMa hL;go_wp2_with fail
    refine(CWk.out w3 (af B2.out B3.out)).mono ?_;rintro e w4 ⟨rfl,b4⟩;have HE:=ae (af (af B2.out B3.out) b4);clear b4;go_wp2_with fail
    go_ret;exact⟨rfl,HE.out⟩
   |true=>
    rw [if_pos rfl];replace CSo:=ae (CSo.out hL);replace CMa:=ae (CMa.out hL);clear hL;have cs:=fun(w':World) (b:Below w3.heap.size w3 w')=>(aV (((af B3.out b).block _ (Array.getElem?_eq_some_iff.1 D1.out).1).trans D1.out)).1;go_wp2_with fail
    refine Mix.wp_region_tail (Jx (.agg #[.slice ao pn c]) (.agg #[.int .i64 s1,.int .i64 s2]) (.agg #[.int .i64 m1,.int .i64 m2]) w3.heap.size) 6 1 _ rfl rfl (by kernel_rfl) (by kernel_rfl) (by kernel_rfl) (by kernel_rfl) ?_;refine Mix.aj rfl (aq (.agg #[.slice ao pn c]) rfl) ?_ ?_
    ·intro w b k;have c0:=cs w b;clear k;simp [go_sem,c0];exact⟨Below.refl _ _,fun d hd=>by cases hd;rfl⟩
    rintro v ⟨_,_,h⟩;obtain rfl:v=(.agg #[.slice ao pn c]):=h _ rfl;clear h;simp only [Act.put,sU1,sU2,sU3];refine Mix.aj rfl (aq (.agg #[.int .i64 s1,.int .i64 s2]) rfl) ?_ ?_
    ·intro w b k;clear k;simp [go_sem];exact Calls.mono (CSo.out w (af B3.out b)) fun e w' ⟨he,hb⟩=>⟨_,he,hb,fun d hd=>by cases hd;rfl⟩
    rintro v ⟨_,_,h⟩;obtain rfl:v=(.agg #[.int .i64 s1,.int .i64 s2]):=h _ rfl;clear h;simp only [Act.put,sU1,sU2,sU3];refine Mix.aj rfl (aq (.agg #[.slice ao pn c]) rfl) ?_ ?_
    ·intro w b k;have c0:=cs w b;clear k;simp [go_sem,c0];exact⟨Below.refl _ _,fun d hd=>by cases hd;rfl⟩
    rintro v ⟨_,_,h⟩;obtain rfl:v=(.agg #[.slice ao pn c]):=h _ rfl;clear h;simp only [Act.put,sU1,sU2,sU3];refine Mix.aj rfl (aq (.agg #[.int .i64 m1,.int .i64 m2]) rfl) ?_ ?_
    ·intro w b k;clear k;simp [go_sem];exact Calls.mono (CMa.out w (af B3.out b)) fun e w' ⟨he,hb⟩=>⟨_,he,hb,fun d hd=>by cases hd;rfl⟩
    rintro v ⟨_,_,h⟩;obtain rfl:v=(.agg #[.int .i64 m1,.int .i64 m2]):=h _ rfl;clear h;simp only [Act.put,sU1,sU2,sU3];refine Mix.aj rfl ⟨.pointer (some ⟨w3.heap.size,0,none⟩),_,ah w3 (.cells #[.int .i64 0,.int .i64 0] 29),fun d hd=>by cases hd;exact⟨_,rfl,Nat.le_refl _,heap_alloc_new _ _⟩⟩ ?_ ?_
    ·intro w b k;clear k;simp [go_sem];exact⟨ah _ _,fun d hd=>by cases hd;exact⟨_,rfl,b.size,heap_alloc_new _ _⟩⟩
    rintro p5 -;simp only [Act.put,sU1,sU2,sU3];refine Mix.aj rfl ⟨.pointer (some ⟨w3.heap.size,0,none⟩),_,ah w3 (.cells #[.int .i64 0,.int .i64 0] 29),fun d hd=>by cases hd;exact⟨_,rfl,Nat.le_refl _,heap_alloc_new _ _⟩⟩ ?_ ?_
    ·intro w b k;clear k;simp [go_sem];exact⟨ah _ _,fun d hd=>by cases hd;exact⟨_,rfl,b.size,heap_alloc_new _ _⟩⟩
    rintro p6 -;simp only [Act.put,sU1,sU2,sU3];refine Mix.ed ?_;intro w4 b4 hk;obtain⟨q5,rfl,hB5,hq5⟩:yH w3.heap.size w4 p5:=hk 5 (by simp [Mix.add]) p5 rfl;obtain⟨q6,rfl,hB6,hq6⟩:yH w3.heap.size w4 p6:=hk 6 (by simp [Mix.add]) p6 rfl;clear hk;refine⟨rfl,fun K hK=> ?_⟩;obtain⟨⟨z0,z1⟩,⟨f0,f1⟩,_⟩:=aP hq5;unfold Oper.wp;simp [go_sem,z0,z1,f0,f1];refine hK _ _ ?_;have H5:((w4.setCell ⟨q5,0,none⟩ (.int .i64 s1)).setCell ⟨q5,1,none⟩ (.int .i64 s2)).heap[q5]? =some (.cells #[.int .i64 s1,.int .i64 s2] 29 (0,0)):=by
     rw [heap_setCell_same _ q5 1 _ 29 _ ((heap_setCell_same w4 q5 0 _ 29 _ hq5).trans rfl)];rfl
    have H6:∃x y:Int,((w4.setCell ⟨q5,0,none⟩ (.int .i64 s1)).setCell ⟨q5,1,none⟩ (.int .i64 s2)).heap[q6]? =some (.cells #[.int .i64 x,.int .i64 y] 29 (0,0)):=by
     by_cases e:q6=q5
     ·subst e;exact⟨s1,s2,H5⟩
     ·exact⟨0,0,(Below.heap_setCell _ ⟨q5,1,none⟩ _ q6 e).trans ((Below.heap_setCell _ ⟨q5,0,none⟩ _ q6 e).trans hq6)⟩
    have B5:=(b4.setCell (p:=⟨q5,0,none⟩) hB5 (.int .i64 s1)).setCell (p:=⟨q5,1,none⟩) hB5 (.int .i64 s2);clear hK z0 z1 f0 f1 hq5 hq6 b4;generalize (w4.setCell ⟨q5,0,none⟩ (.int .i64 s1)).setCell ⟨q5,1,none⟩ (.int .i64 s2)=w5 at *;obtain⟨x6,y6,h6⟩:=H6;refine Mix.n8 (i:=7) (by kernel_rfl) rfl rfl ?_;intro K hK;obtain⟨⟨z0,z1⟩,⟨f0,f1⟩,_⟩:=aP h6;unfold Oper.wp;simp [go_sem,z0,z1,f0,f1];refine hK _ _ ?_;have K6:Hid (((w5.setCell ⟨q6,0,none⟩ (.int .i64 m1)).setCell ⟨q6,1,none⟩ (.int .i64 m2)).heap[q6]? =some (.cells #[.int .i64 m1,.int .i64 m2] 29 (0,0))):=ae (by
     rw [heap_setCell_same _ q6 1 _ 29 _ ((heap_setCell_same w5 q6 0 _ 29 _ h6).trans rfl)];rfl)
    have K5:Hid (∃a1 a2:Int,((w5.setCell ⟨q6,0,none⟩ (.int .i64 m1)).setCell ⟨q6,1,none⟩ (.int .i64 m2)).heap[q5]? =some (.cells #[.int .i64 a1,.int .i64 a2] 29 (0,0))∧((a1=s1∧a2=s2)∨(a1=m1∧a2=m2))):=ae (by
     by_cases e:q5=q6
     ·subst e;exact⟨m1,m2,K6.out,.inr ⟨rfl,rfl⟩⟩
     ·exact⟨s1,s2,(Below.heap_setCell _ ⟨q6,1,none⟩ _ q5 e).trans ((Below.heap_setCell _ ⟨q6,0,none⟩ _ q5 e).trans H5),.inl ⟨rfl,rfl⟩⟩)
    have B6:=ae ((B5.setCell (p:=⟨q6,0,none⟩) hB6 (.int .i64 m1)).setCell (p:=⟨q6,1,none⟩) hB6 (.int .i64 m2));clear hK z0 z1 f0 f1 H5 h6 B5;generalize (w5.setCell ⟨q6,0,none⟩ (.int .i64 m1)).setCell ⟨q6,1,none⟩ (.int .i64 m2)=w6 at *;refine Mix.sC (by kernel_rfl) ?_;obtain⟨a1,a2,k5,ha⟩:=K5.out;have R1:Hid (a1=0→m1=0):=ae (by
     rcases ha with ⟨rfl,rfl⟩ | ⟨rfl,rfl⟩
     ·exact HA1.out
     ·exact fun e=>e)
    have R2:Hid ((∀i,i < pn→NL (aF xs i))→a1=m1∧a2=m2):=ae (by
     rcases ha with ⟨rfl,rfl⟩ | ⟨rfl,rfl⟩
     ·intro h;have:=HA2.out h;injection this with e1 e2;exact⟨e1,e2⟩
     ·exact fun _=>⟨rfl,rfl⟩)
    have R3:Hid (0≤a2∧a2≤(s.size:Int)):=ae (by
     rcases ha with ⟨rfl,rfl⟩ | ⟨rfl,rfl⟩
     ·exact HA4.out
     ·exact HA5.out)
    have K5:=ae k5;have C6:=ae (cs w6 B6.out);have B36:=ae (af B3.out B6.out);have B26:=ae (af B2.out B36.out);clear ha k5 HA1 HA2 HA4 HA5 cs CSo CMa B3 B6 B2 D1 D2;obtain⟨⟨u0,u1⟩,_,_⟩:=aP K5.out;obtain⟨⟨t0,t1⟩,_,_⟩:=aP K6.out;have c0:=C6.out;by_cases ha:a1=0
    case' pos=>
     have hm:=R1.out ha;have g1:(a1 == 0)=true:=(by simpa using ha);have g2:(m1 != 0)=false:=(by simpa using hm);have g3:(m1 == 0)=true:=(by simpa using hm);clear ha hm;go_wp2_with fail
     clear g2 g3
    case' neg=>
     have g1:(a1 == 0)=false:=(by simpa using ha);clear ha;go_wp2_with fail
    all_goals
     clear u0 u1 t0 t1 c0;refine(CLt.out w6 B36.out).mono ?_;rintro e w7 ⟨⟨lb,rfl,hlb⟩,b7⟩;obtain⟨⟨u0,u1⟩,_,_⟩:=aP ((b7.block _ (Array.getElem?_eq_some_iff.1 K5.out).1).trans K5.out);obtain⟨⟨t0,t1⟩,_,_⟩:=aP ((b7.block _ (Array.getElem?_eq_some_iff.1 K6.out).1).trans K6.out);have B7:=ae (af B26.out b7);have g4:=R3.out.1;have g5:=R3.out.2;have g6:decide (0≤a2)=true:=(by simpa using g4);have g7:decide (a2≤(s.size:Int))=true:=(by simpa using g5);clear b7;by_cases hl:lb=true
     case' pos=>subst hl
     case' neg=>
      obtain rfl:lb=false:=(by simpa using hl);have e1:∀w,Sem.run Tryz.prog (binOp BinOp.neq 29 (.agg #[.int .i64 a1,.int .i64 a2]) (.agg #[.int .i64 m1,.int .i64 m2])) w= .ok (.bool false) w:=by
       obtain⟨h1,h2⟩:=R2.out (hlb rfl);rw [h1,h2];exact Gg _ _
     all_goals
      clear hlb;go_wp2_with fail
      refine(CWk.out w7 B7.out).mono ?_;rintro e w8 ⟨rfl,b8⟩;have HE:=ae (af B7.out b8);clear b8;go_wp2_with fail
      go_ret;exact⟨rfl,HE.out⟩
  ·have k1:(ec == 0)=false:=(by simpa using hec);have k2:(ec != 0)=true:=(by simpa using hec);clear HOK;go_wp2_with fail
   refine(CWk.out W2 B2.out).mono ?_;rintro e w4 ⟨rfl,b4⟩;have HE:=ae (af B2.out b4);clear b4;go_wp2_with fail
   go_ret;exact⟨rfl,HE.out⟩
 ·have hs1:(1500:Int) < (s.size:Int):=by omega
  have hs2:decide ((1500:Int) < (s.size:Int))=true:=by simpa using hs1
  go_enter Tryz.func6,Tryz.ntmps6
  go_wp2_with fail
  refine(CWk.out w (Below.refl _ _)).mono ?_;rintro e w4 ⟨rfl,b4⟩;have HE:=ae b4;clear b4;go_wp2_with fail
  go_ret;exact⟨rfl,HE.out⟩
end Go.Proofs.YtljkgcfnoegibaaGreatDoor
